/- Part 33 of the walk. -/
import Derived.Test.YtfhbkoflaekhpabGreatDoorZ31
import Derived.Test.YtfhbkoflaekhpabGreatDoorZ32
set_option maxRecDepth 100000
set_option maxHeartbeats 4000000
open Go.Proofs.Tryz
set_option linter.unusedVariables false
namespace Go.Proofs.YtfhbkoflaekhpabGreatDoor
section
def Nod.ub(p:Nod):Bool × Nat:=(p.up,p.bad)
theorem KQ(p:Nod)(b:Bal):(p.promise b).1.ub=p.ub:=by
 unfold Nod.promise;split
 ·rfl
 ·split
  ·rfl
  ·split<;>rfl
theorem SR(p:Nod)(v:Vt):(p.vote v).1.ub=p.ub:=by
 unfold Nod.vote;split
 ·rfl
 ·split
  ·rfl
  ·split<;>rfl
theorem Oz(p:Nod)(j:Nat)(v:Vt):(p.count j v).ub=p.ub:=by
 unfold Nod.count;split
 ·rfl
 ·split<;>rfl
theorem MI(p:Nod)(to:Nat)(e:Int):(p.refuse to e).ub=p.ub:=by unfold Nod.refuse;split<;>rfl
theorem Km(p:Nod)(l:List Cmd):(p.enqueue l).ub=p.ub:=by unfold Nod.enqueue;split<;>rfl
theorem aG(p:Nod)(l:Let):(p.take l).ub=p.ub:=by
 unfold Nod.take;split
 ·split
  ·exact MI _ _ _
  ·exact KQ p l.bal
 ·simp only;split<;>rfl
 ·rfl
 ·split
  ·exact MI _ _ _
  ·exact SR p l.vote
 ·exact Oz p _ _
 ·split<;>rfl
 ·simp only;split<;>exact Km p l.what
 ·rfl
theorem ZY(p:Nod)(i:Nat)(q:Pend):(p.runP i q).ub=p.ub:=by
 cases q with
 | began b vs=>unfold Nod.runP;simp only;split<;>rfl
 | prop v=>exact Oz p i v
 | _=>rfl
theorem VA(i:Nat)(l:List Pend)(p:Nod)(ls:List Let):(doneP i l p ls).1.ub=p.ub:=by
 induction l generalizing p ls with
 | nil=>rfl
 | cons q l ih=>exact(ih _ _).trans (ZY p i q)
theorem UJ(p:Nod)(c:Cmd):(p.unwant c).ub=p.ub:=by unfold Nod.unwant;split<;>rfl
theorem cU(i:Nat)(l:List Cmd)(p:Nod)(ts:List Tol):(doP i l p ts).1.ub=p.ub:=by
 induction l generalizing p ts with
 | nil=>rfl
 | cons c l ih =>
  rw[doP];split
  ·rfl
  ·exact(ih _ _).trans (UJ _ _)
theorem Y2(p:Nod)(i:Nat):(p.askd i).1.ub=p.ub:=by
 unfold Nod.askd;split
 ·rfl
 ·split
  ·exact Km _ _
  ·rfl
theorem Rx(p:Nod):p.propose.ub=p.ub:=by
 unfold Nod.propose;split
 ·rfl
 ·split
  ·rfl
  ·split
   ·rfl
   ·exact SR p _
theorem XN(p:Nod)(i:Nat)(ls:List Let):(p.syncd i ls).1.ub=p.ub:=by
 unfold Nod.syncd;split
 ·rfl
 ·rw[VA];unfold Nod.syn;split<;>rfl
theorem UE(p:Nod)(i:Nat)(ls:List Let):(p.taught i ls).1.ub=p.ub:=by unfold Nod.taught;split<;>rfl
theorem Xi(p:Nod)(i:Nat)(ls:List Let)(ts:List Tol):(p.piece i ls ts).1.ub=p.ub:=by
 unfold Nod.piece;simp only;rw[UE,XN,Rx,Y2,cU]
theorem Zn(p:Nod)(i:Nat):(p.lead i).ub=p.ub:=by
 unfold Nod.lead;simp only;split
 ·rfl
 ·exact KQ p _
theorem RY(M:Meet)(l:Let)(j:Nat):((M.come l).node j).ub=(M.node j).ub:=by
 unfold Meet.come;split
 ·show(upN M.node l.dst _ j).ub=_;unfold upN;split
  ·rename_i h;rw[h];exact aG _ _
  ·rfl
 ·rfl
theorem Vw(l:List Let)(M:Meet)(j:Nat):((l.foldl (fun M l=>M.come l) M).node j).ub=(M.node j).ub:=by
 induction l generalizing M with
 | nil=>rfl
 | cons x l ih=>exact(ih _).trans (RY M x j)
theorem Zs(M:Meet)(k:Int)(a:Nat)(j:Nat):((M.move k a).node j).ub=(M.node j).ub:=by
 unfold Meet.move;split
 ·rfl
 ·simp only;split
  ·rw[RY];split<;>rfl
  ·split<;>rfl
theorem H8(M:Meet)(i:Nat)(p:Nod)(ls:List Let)(ts:List Tol)(j:Nat):(M.set i p ls ts).node j=if j=i then p else M.node j:=rfl
theorem bX(M:Meet){x:Lac}(h1:x.k≠1)(h8:x.k≠8)(h9:x.k≠9)(j:Nat):((M.act x).node j).ub=(M.node j).ub:=by
 unfold Meet.act;simp only;rw[if_neg h1];by_cases h2:x.k=2
 ·rw[if_pos h2,H8];split
  ·rename_i e
   rw[e];split
   ·exact Zn _ _
   ·rfl
  ·rfl
 ·rw[if_neg h2];by_cases h3:x.k=3
  ·rw[if_pos h3,H8];split
   ·rename_i e
    rw[e];split
    ·exact Xi _ _ _ _
    ·rfl
   ·rfl
  ·rw[if_neg h3];by_cases h4:x.k=4∨x.k=5∨x.k=6
   ·rw[if_pos h4];exact Zs _ _ _ _
   ·rw[if_neg h4];by_cases h7:x.k=7
    ·rw[if_pos h7];exact Vw _ _ _
    ·rw[if_neg h7,if_neg h8,if_neg h9]
theorem eo(M:Meet){x:Lac}(h1:x.k=1)(j:Nat):((M.act x).node j).ub=if j=x.n.toNat∧(M.node j).up=true∧opE x.d ((M.node j).done:Int)≠0 then((M.node j).up,(M.node j).bad+1)else(M.node j).ub:=by
 unfold Meet.act;simp only;rw[if_pos h1,H8];by_cases hj:j=x.n.toNat
 ·subst hj;rw[if_pos rfl];unfold Nod.subm Nod.sub0;by_cases hu:(M.node x.n.toNat).up=false
  ·rw[if_pos hu,if_neg (by rw[hu];simp)]
  ·rw[if_neg hu];have hu':(M.node x.n.toNat).up=true:=by simpa using hu
   by_cases he:opE x.d ((M.node x.n.toNat).done:Int)≠0
   ·rw[if_pos he,if_pos ⟨rfl,hu',he⟩];rfl
   ·rw[if_neg he,if_neg (c:=_∧_) (fun e=>he e.2.2)];split
    ·rfl
    ·show(Nod.want _ _).ub=_;unfold Nod.want;split<;>rfl
 ·rw[if_neg hj,if_neg (fun e=>hj e.1)]
theorem Ma(M:Meet)(L:List Lac)(x:Lac):M.acts (L++[x])=(M.acts L).act x:=by unfold Meet.acts;rw[List.foldl_append];rfl
theorem Tb{M:Meet}{L:List Lac}{i:Nat}{x:Lac}(h:L[i]?=some x):M.acts (L.take (i+1))=(M.acts (L.take i)).act x:=by rw[List.take_add_one,h];exact Ma M (L.take i) x
theorem UW(L:List Lac)(h:∀ x∈L,LacOk x)(hl:L.length≤100000):MOk L.length (BR.acts L):=by
 suffices ∀ i,i≤L.length→MOk i (BR.acts (L.take i))by have h1:=this L.length (Nat.le_refl _);rwa [List.take_length]at h1
 intro i;induction i with
 | zero=>intro _;exact MOk.zero
 | succ i ih =>
  intro hi;have hx:L[i]?=some L[i]:=List.getElem?_eq_getElem (by omega);rw[Tb hx];exact(ih (by omega)).act (by omega) (h _ (List.getElem_mem _))
theorem YR(g:Gr)(cr:Bool):LacOk (OB g cr):=by
 have h1:=Bj g.a 5 (by omega);have h2:=Bj g.c 20 (by omega);have h3:=Bj g.c 90 (by omega);have hl:(pkB g).length≤63:=by
  have:(pkP g).length=63:=KL (Xj g);unfold pkB;split
  ·rw[List.length_take];omega
  ·omega
 rw[← JN];unfold OB acN
 repeat' split
 all_goals simp[Zl,Fi,GZ,Ha];try omega
theorem X3{P:Lac→Prop}(h7:P (acN 7 0)){cr:Bool}(hg:∀ g,P (OB g cr))(s:Nat)(l:List Gr):∀ x∈NJ cr s l,P x:=by
 induction l generalizing s with
 | nil=>intro x hx;cases hx
 | cons g l ih =>
  intro x hx;rcases List.mem_cons.1 hx with rfl|hx
  ·unfold X2;split
   ·exact h7
   ·exact hg g
  ·exact ih _ x hx
theorem ec(l:List Gr)(m:Nat)(cr:Bool):∀ x∈scr l m cr,LacOk x:=X3 (by rw[← JN];decide) (fun g=>YR g cr) _ _
theorem X4(cr:Bool)(s:Nat)(l:List Gr):(NJ cr s l).length=l.length:=by
 induction l generalizing s with
 | nil=>rfl
 | cons g l ih=>rw[NJ,List.length_cons,ih,List.length_cons]
theorem am(l:List Gr)(m:Nat)(cr:Bool):(scr l m cr).length≤m:=by unfold scr;rw[X4,List.length_take];omega
def Nod.tp(p:Nod):Prop:=AX p.d p.sy
theorem SX{d:List Int}{s:Int}{may:Prop}[Decidable may] {b:List Int} (h:CD d s may b=0):AX (EX d s may b) (FN d s may b):=by
 obtain⟨h1,h2,_⟩:=IM h;unfold EX FN;rw[if_pos h,if_pos h];unfold AX at *;rw[List.length_append,Ba];omega
theorem KP{p:Nod}(h:p.tp)(b:Bal):(p.promise b).1.tp:=by
 unfold Nod.promise;split
 ·exact h
 ·split
  ·exact h
  ·split
   ·exact h
   ·rename_i hw;exact SX (Decidable.not_not.1 hw)
theorem SQ{p:Nod}(h:p.tp)(v:Vt):(p.vote v).1.tp:=by
 unfold Nod.vote;split
 ·exact h
 ·split
  ·exact h
  ·split
   ·exact h
   ·rename_i hw;exact SX (Decidable.not_not.1 hw)
theorem MH{p:Nod}(h:p.tp)(to:Nat)(e:Int):(p.refuse to e).tp:=by unfold Nod.refuse;split<;>exact h
theorem Vx{p:Nod}(h:p.tp)(j:Nat)(v:Vt):(p.count j v).tp:=by
 unfold Nod.count;split
 ·exact h
 ·split<;>exact h
theorem Qu{p:Nod}(h:p.tp)(l:List Cmd):(p.enqueue l).tp:=by unfold Nod.enqueue;split<;>exact h
theorem O0{p:Nod}(h:p.tp){k:Int}(hk:0≤k):(p.crash k).tp∧(p.crash k).up=false∧(p.crash k).done=0∧(p.crash k).agreed=[]:=by
 have he:Ge p.d p.sy k=0:=by unfold Ge;rw[if_neg (fun e=>e h),if_neg (by omega)]
 unfold Nod.crash;rw[if_neg (fun e=>e he)];refine⟨?_,rfl,rfl,rfl⟩;show AX (Jx p.d p.sy k) (Jy p.d p.sy k);unfold Jx Jy;rw[if_pos he,if_pos he];unfold Nod.tp AX at h;have hc:0≤Fr p.d p.sy k∧Fr p.d p.sy k≤(p.d.length:Int):=by unfold Fr;split<;>omega
 unfold AX;rw[List.length_take];omega
theorem Lg{p:Nod}(h:p.tp):p.start.tp∧p.start.up=true∧p.start.done=0∧p.start.agreed=[]:=by
 have he:CK p.d p.sy=0:=if_pos h;have hl:=Wn p.d p.d.length;unfold Nod.start;rw[if_neg (fun e=>e he)];split
 ·refine⟨?_,rfl,rfl,rfl⟩;show AX (I7 p.d p.sy) (KY p.d p.sy);unfold I7 KY;have h':AX p.d p.sy:=h;rw[if_pos h',if_pos h'];unfold Nod.tp AX at h;unfold AX;rw[List.length_take];unfold DM;split<;>omega
 ·exact⟨h,rfl,rfl,rfl⟩
theorem ey(A:Alw)(i:Nat):NInv A i (fun _=>True) (fun _=>True) Nod.tp where
 take:=fun _ p l h _ _ _=>by
  unfold Nod.take;split
  ·split
   ·exact MH h _ _
   ·exact KP h l.bal
  ·simp only;split<;>exact h
  ·exact h
  ·split
   ·exact MH h _ _
   ·exact SQ h l.vote
  ·exact Vx h _ _
  ·split<;>exact h
  ·simp only;split<;>exact Qu h l.what
  ·exact h
 one:=fun p c h _ _ _=>by unfold Nod.unwant;split<;>exact h
 ask:=fun p h _=>⟨by
  unfold Nod.askd;split
  ·exact h
  ·split
   ·unfold Nod.enqueue;split<;>exact h
   ·exact h,fun _ _=>trivial⟩
 prop:=fun p h _=>by
  unfold Nod.propose;split
  ·exact h
  ·split
   ·exact h
   ·split
    ·exact h
    ·exact SQ h _
 syn:=fun p h _=>by
  unfold Nod.syn;split
  ·show AX (GU p.d p.sy) (Ic p.d p.sy);unfold GU Ic;have h':AX p.d p.sy:=h;rw[if_pos h',if_pos h'];unfold Nod.tp AX at h;unfold AX;omega
  ·exact h
 run:=fun p q l h _ _ _=>⟨by
  have hk:=Ga p i q;show AX (p.runP i q).d (p.runP i q).sy;rw[hk.2.2.1,hk.2.2.2];exact h,fun _ _=>trivial⟩
 teach:=fun p h _ _=>⟨h,fun _ _=>trivial⟩
 lead:=fun _ p h _=>by
  unfold Nod.lead;simp only;split
  ·exact h
  ·exact KP h _
 sub:=fun p d ts h _ _=>by
  unfold Nod.subm Nod.sub0;split
  ·exact h
  ·split
   ·exact h
   ·split
    ·exact h
    ·show(Nod.want _ _).tp;unfold Nod.want;split<;>exact h
 crash:=fun _ p k h hk _=>(O0 h hk).1
 start:=fun _ p h _=>(Lg h).1
def eN:Alw:=⟨true,true,true,true⟩
theorem Yy(x:Lac):eN.Ok x:=⟨fun _=>rfl,fun _=>rfl,fun _=>rfl,fun _=>rfl⟩
theorem Yv(L:List Lac)(h:∀ x∈L,LacOk x)(hl:L.length≤100000){i:Nat}(hi:i<5):((BR.acts L).node i).tp :=
 (GInv.acts (R:=fun _=>True) (D:=fun _ _=>True) (Q:=fun _=>True) (P:=fun _=>Nod.tp) (fun i _=>ey eN i) (fun i _=>TInv.all i _ _) L MOk.zero (by omega) ⟨fun _ _=>(by show AX [] 0;decide),fun _ _=>trivial⟩ trivial fun x hx=>⟨h x hx,Yy x,fun _=>trivial⟩).1.node i hi
theorem Ta(M:Meet){i:Nat}(hi:i<5)(ht:(M.node i).tp)(j:Nat):((M.act (acN 9 (i:Int))).node j).up=if j=i then true else(M.node j).up:=by
 show(upN M.node (i:Int).toNat _ j).up=_;unfold upN;rw[Int.toNat_natCast];split
 ·split
  ·assumption
  ·exact(Lg ht).2.1
 ·rfl
theorem bY(M:Meet){x:Lac}(h8:x.k≠8){j:Nat}(hu:(M.node j).up=true):((M.act x).node j).up=true:=by
 by_cases h1:x.k=1
 ·have:=congrArg Prod.fst (eo M h1 j);split at this
  ·exact this.trans hu
  ·exact this.trans hu
 ·by_cases h9:x.k=9
  ·unfold Meet.act;simp only;rw[if_neg h1,if_neg (by omega),if_neg (by omega),if_neg (by omega),if_neg (by omega),if_neg (by omega),if_pos h9,H8];split
   ·rename_i e;rw[← e,if_pos hu];exact hu
   ·exact hu
  ·exact(congrArg Prod.fst (bX M h1 h8 h9 j)).trans hu
theorem Yw(L:List Lac)(h8:∀ x∈L,x.k≠8)(M:Meet){j:Nat}(hu:(M.node j).up=true):((M.acts L).node j).up=true:=by
 induction L generalizing M with
 | nil=>exact hu
 | cons x L ih=>exact ih (fun y hy=>h8 y (List.mem_cons_of_mem _ hy)) _ (bY M (h8 x List.mem_cons_self) hu)
theorem UV(M:Meet)(L K:List Lac):M.acts (L++K)=(M.acts L).acts K:=List.foldl_append
theorem PR{k n:Int}(h:(k=2∨k=3∨k=9)∧0≤n∧n≤4):LacOk (acN k n):=by
 rw[← JN];rcases h with⟨rfl|rfl|rfl,h1,h2⟩<;>simp[Zl,acN,Fi,GZ,Ha]<;>omega
theorem K7{P:Lac→Prop}{k:Int}(h:∀ n:Nat,n<5→P (acN k (n:Int))){j:Nat}(hj:j≤5):∀ x∈Eh k j,P x:=by
 intro x hx;obtain⟨n,hn,rfl⟩:=List.mem_map.1 hx;exact h n (by have:=List.mem_range.1 hn;omega)
theorem Ko{P:Lac→Prop}(h3:∀ n:Nat,n<5→P (acN 3 (n:Int)))(h7:P (acN 7 0))(m:Nat):∀ x∈Ch m,P x:=by
 induction m with
 | zero=>intro x hx;cases hx
 | succ m ih =>
  intro x hx;rcases List.mem_append.1 hx with h|h
  ·exact ih x h
  ·rcases List.mem_append.1 h with h|h
   ·exact K7 h3 (Nat.le_refl _) x h
   ·rw[List.mem_singleton.1 h];exact h7
theorem Pu{P:Lac→Prop}(h9:∀ n:Nat,n<5→P (acN 9 (n:Int)))(h3:∀ n:Nat,n<5→P (acN 3 (n:Int)))(h7:P (acN 7 0))(m:Nat):∀ x∈Gk m,P x:=by
 intro x hx;rcases List.mem_append.1 hx with h|h
 ·exact K7 h9 (Nat.le_refl _) x h
 ·exact Ko h3 h7 m x h
theorem ZV(m:Nat):∀ x∈Gk m,LacOk x:=Pu (fun n hn=>PR ⟨.inr (.inr rfl),by omega,by omega⟩) (fun n hn=>PR ⟨.inr (.inl rfl),by omega,by omega⟩) (by rw[← JN];decide) m
theorem dX(L:List Lac)(h:∀ x∈L,LacOk x)(m:Nat)(hl:L.length+6*m+5≤100000){j:Nat}(hj:j<5):((BR.acts (L++Gk m)).node j).up=true:=by
 unfold Gk;rw[← List.append_assoc,UV];refine Yw _ (Ko (fun _ _=>by show(3:Int)≠8;decide) (by decide) m) _ ?_;have hs:∀ k,k≤5→j<k→((BR.acts (L++Eh 9 k)).node j).up=true:=by
  intro k;induction k with
  | zero=>intro _ h;omega
  | succ k ih =>
   intro hk hjk;have hok:∀ x∈L++Eh 9 k,LacOk x:=fun x hx=>(List.mem_append.1 hx).elim (h x) fun e=>K7 (fun n hn=>PR ⟨.inr (.inr rfl),by omega,by omega⟩) (by omega) x e;have ht:=Yv (L++Eh 9 k) hok (by rw[List.length_append,Wt];omega) (i:=k) (by omega);rw[I1,← List.append_assoc,Ma,Ta _ (by omega) ht];split
   ·rfl
   ·exact ih (by omega) (by omega)
 exact hs 5 (Nat.le_refl _) hj
section
variable{S:Cmd→Prop}
def VsS(S:Cmd→Prop)(l:List Vt):Prop:=∀ v∈l,S v.w
def RsS(S:Cmd→Prop)(rs:List Rk):Prop:=∀ v,Rk.vt v∈rs→S v.w
def PnS(S:Cmd→Prop):Pend→Prop
 | .began _ vs=>VsS S vs
 | .prom _ _ vs=>VsS S vs
 | .voted _ v=>S v.w
 | .prop v=>S v.w
 | _=>True
structure NdS(S:Cmd→Prop)(p:Nod):Prop where
 up:p.up=true→∃ dr rs,TpU p dr rs∧RsS S rs
 dn:p.up=false→∃ dr,TpD p dr∧RsS S dr
 ag:∀ c∈p.agreed,S c
 wa:∀ c∈p.wants,S c
 qu:∀ c∈p.rnd.queue,S c
 he:∀ j,j<5→VsS S (p.rnd.heard j).vs
 pe:∀ q∈p.pend,PnS S q
structure LtS(S:Cmd→Prop)(l:Let):Prop where
 vs:VsS S l.votes
 wh:∀ c∈l.what,S c
 vt:l.kind=3∨l.kind=4→S l.vote.w
theorem NdS.tape{p:Nod}(h:NdS S p){q:Nod}(hu:q.up=p.up)(hd:q.d=p.d)(hs:q.sy=p.sy)(hv:q.vo=p.vo)(ag:∀ c∈q.agreed,S c)(wa:∀ c∈q.wants,S c)(qu:∀ c∈q.rnd.queue,S c)(he:∀ j,j<5→VsS S (q.rnd.heard j).vs)(pe:∀ x∈q.pend,PnS S x):NdS S q :=
 ⟨fun e=>by
  obtain⟨dr,rs,k,g⟩:=h.up (hu▸e);exact⟨dr,rs,⟨k.ok,k.pre,hd.trans k.d,hs.trans k.sy,hv.trans k.vo,by rw[hd];exact k.len⟩,g⟩,fun e=>by
  obtain⟨dr,k,g⟩:=h.dn (hu▸e);exact⟨dr,⟨k.ok,by rw[hd];exact k.rcv,by rw[hd];exact k.tk,by rw[hs,hd];exact k.sy,by rw[hd];exact k.len⟩,g⟩,ag,wa,qu,he,pe⟩
theorem NdS.wait{p:Nod}(h:NdS S p){x:Pend}(hx:PnS S x):NdS S (p.wait x) :=
 h.tape rfl rfl rfl rfl h.ag h.wa h.qu h.he fun y hy=>(List.mem_append.1 hy).elim (h.pe y) fun e=>by rw[List.mem_singleton.1 e];exact hx
theorem NdS.refuse{p:Nod}(h:NdS S p)(to:Nat)(e:Int):NdS S (p.refuse to e):=by
 unfold Nod.refuse;split
 ·exact h.wait trivial
 ·exact h
theorem NdS.wrote{p q:Nod}(h:NdS S p){dr rs':List Rk}(ht:TpU q dr rs')(hr:RsS S rs')(hu:p.up=true){d:List Int}{a:Acc}(hq:q=p.tv d p.sy a)(ag:∀ c∈q.agreed,S c):NdS S q:=by
 subst hq;exact⟨fun _=>⟨dr,rs',ht,hr⟩,fun e=>(by rw[show(p.tv d p.sy a).up=p.up from rfl,hu]at e;cases e),h.ag,h.wa,h.qu,h.he,h.pe⟩
theorem bV{r:Rnd}(h:∀ j,j<5→VsS S (r.heard j).vs){a:Acc}(ha:a∈r.accs):VsS S a.vs:=by
 unfold Rnd.accs at ha;simp only[List.mem_cons,List.not_mem_nil,or_false]at ha;rcases ha with rfl|rfl|rfl|rfl|rfl
 ·exact h 0 (by omega)
 ·exact h 1 (by omega)
 ·exact h 2 (by omega)
 ·exact h 3 (by omega)
 ·exact h 4 (by omega)
theorem VS{r:Rnd}(h:∀ j,j<5→VsS S (r.heard j).vs){s:Int}{v:Vt}(hv:v∈Am (r.accs.map (·.vs)).flatten s):S v.w:=by
 obtain⟨l,h1,h2⟩:=List.mem_flatten.1 (Cu.1 hv).1;obtain⟨a,h3,rfl⟩:=List.mem_map.1 h1;exact bV h h3 v h2
theorem cM{r:Rnd}(h:∀ j,j<5→VsS S (r.heard j).vs){s:Int}(he:CR r.accs s=0):S (Ck r.accs s):=by
 have hC:Ck r.accs s=((Hf (Fd r.accs s) r.accs.length).map (·.w)).getD ⟨0,0,0,0,0⟩:=if_pos he;unfold CR at he;split at he
 ·cases he
 ·split at he
  ·cases he
  ·split at he
   ·rename_i hO
    obtain⟨v,hv⟩:=Option.isSome_iff_exists.1 hO;rw[hC,hv];exact VS h (List.mem_of_find?_eq_some hv)
   ·cases he
theorem du{r:Rnd}(h:∀ j,j<5→VsS S (r.heard j).vs)(k:Nat){l:List Cmd}(hl:∀ c∈l,S c):∀ c∈K9 k r l,S c:=by
 induction k generalizing l with
 | zero=>exact hl
 | succ k ih =>
  rw[K9];split
  ·rename_i he;exact ih fun c hc=>(List.mem_append.1 hc).elim (hl c) fun e=>by rw[List.mem_singleton.1 e];exact cM h he
  ·exact hl
theorem NdS.learnC{p:Nod}(h:NdS S p):NdS S p.learnC:=h.tape rfl rfl rfl rfl (du h.he 41 h.ag) h.wa h.qu h.he h.pe
theorem YZ(a:Acc)(l:List Vt)(ha:VsS S a.vs)(hl:VsS S l):VsS S (Gu a l).vs:=by
 induction l generalizing a with
 | nil=>exact ha
 | cons u l ih =>
  rw[Gu];refine ih _ ?_ fun v hv=>hl v (List.mem_cons_of_mem _ hv);by_cases he:AT a u=0
  ·rw[if_pos he];intro v hv;have hv:v∈Dd a u:=hv;rw[(Ls he).2]at hv
   rcases(D7 (BJ he).1.2.2).1 hv with rfl|⟨hv,_⟩
   ·exact hl v List.mem_cons_self
   ·exact ha v hv
  ·rw[if_neg he];exact ha
theorem Wf{r:Rnd}(h:∀ j,j<5→VsS S (r.heard j).vs)(j:Nat)(hj:j<5){vs:List Vt}(hv:VsS S vs):∀ k,k<5→VsS S ((r.hear j vs).heard k).vs:=fun k hk=>by
 show VsS S (upN r.heard j _ k).vs;unfold upN;split
 ·exact YZ ⟨r.bal,vs⟩ _ hv (h j hj)
 ·exact h k hk
theorem NdS.count{p:Nod}(h:NdS S p){j:Nat}(hj:j<5){v:Vt}(hv:S v.w):NdS S (p.count j v):=by
 unfold Nod.count;split
 ·exact h
 ·split
  ·exact h
  ·rename_i he
   have he:=Decidable.not_not.1 he;refine NdS.learnC (h.tape rfl rfl rfl rfl h.ag h.wa h.qu (fun k hk=>?_) h.pe);show VsS S (upN p.rnd.heard j _ k).vs;unfold upN;split
   ·intro u hu;have hu:u∈Dd (p.rnd.heard j) v:=hu;rw[(Ls he).2]at hu
    rcases(D7 (BJ he).1.2.2).1 hu with rfl|⟨hu,_⟩
    ·exact hv
    ·exact h.he j hj u hu
   ·exact h.he k hk
theorem da(q l:List Cmd)(hq:∀ c∈q,S c)(hl:∀ c∈l,S c):∀ c∈LG q l,S c:=by
 induction l generalizing q with
 | nil=>exact hq
 | cons d l ih =>
  rw[LG];refine ih _ ?_ fun c hc=>hl c (List.mem_cons_of_mem _ hc);split
  ·exact fun c hc=>(List.mem_append.1 hc).elim (hq c) fun e=>by rw[List.mem_singleton.1 e];exact hl d List.mem_cons_self
  ·exact hq
theorem NdS.enqueue{p:Nod}(h:NdS S p){l:List Cmd}(hl:∀ c∈l,S c):NdS S (p.enqueue l):=by
 unfold Nod.enqueue;split
 ·exact h.tape rfl rfl rfl rfl h.ag h.wa (da _ _ h.qu hl) h.he h.pe
 ·exact h
theorem NdS.learn{p:Nod}(h:NdS S p)(slot:Nat){l:List Cmd}(hl:∀ c∈l,S c):NdS S (p.learn slot l) :=
 h.tape rfl rfl rfl rfl (fun c hc=>(List.mem_append.1 hc).elim (h.ag c) fun g=>hl c (List.mem_of_mem_drop g)) h.wa h.qu h.he h.pe
theorem TpU.vsS{p:Nod}{dr rs:List Rk}(h:TpU p dr rs)(hr:RsS S rs):VsS S p.vo.vs:=fun v hv=>hr v (Pv h.ok v (by rw[← h.vo];exact hv))
theorem NdS.take{p:Nod}(h:NdS S p)(hu:p.up=true){l:Let}(hl:LtS S l)(hs:l.src<5):NdS S (p.take l):=by
 obtain⟨dr,rs,k,hr⟩:=h.up hu;unfold Nod.take;split
 ·rcases k.promise l.bal with⟨e,he⟩|⟨e,he,hvs,rs',hp,ht,hm,hpb,hpv,d,a,hq⟩
  ·rw[if_pos e];exact h.refuse _ _
  ·rw[if_neg (fun g=>g e)];exact(h.wrote ht (fun v hv=>hr v ((hm v).1 hv)) hu hq (by rw[hq];exact h.ag)).wait (by show VsS S _;rw[hvs];exact k.vsS hr)
 ·have hL:=h.learn 0 hl.wh;generalize p.learn 0 l.what=K at hL ⊢;simp only;split
  ·exact hL
  ·exact NdS.learnC (hL.tape rfl rfl rfl rfl hL.ag hL.wa hL.qu (Wf hL.he _ hs hl.vs) hL.pe)
 ·exact h.tape rfl rfl rfl rfl h.ag h.wa h.qu h.he h.pe
 ·rename_i hk
  rcases k.vote l.vote with⟨e,he⟩|⟨e,he,rs',hp,ht,hm,hpb,d,a,hq⟩
  ·rw[if_pos e];exact h.refuse _ _
  ·rw[if_neg (fun g=>g e)];exact(h.wrote ht (fun v hv=>((hm v).1 hv).elim (fun e=>by rw[e];exact hl.vt (.inl hk)) (hr v)) hu hq (by rw[hq];exact h.ag)).wait (hl.vt (.inl hk))
 ·rename_i hk;exact h.count hs (hl.vt (.inr hk))
 ·split
  ·exact h.wait trivial
  ·exact h.learn _ hl.wh
 ·simp only;split
  ·exact(h.enqueue hl.wh).wait trivial
  ·exact h.enqueue hl.wh
 ·exact h
theorem Zx{p:Nod}(h:NdS S p){s:Nat}{c:Cmd}(hc:p.nextC s=some c):S c:=by
 unfold Nod.nextC at hc;split at hc
 ·cases hc
 ·rename_i hpe
  have hpe:=Decidable.not_not.1 hpe;split at hc
  ·rename_i hF
   have hC:Gx (p.rnd.accs.map (·.vs)) (s:Int)=((KM (p.rnd.accs.map (·.vs)) (s:Int)).map (·.w)).getD ⟨0,0,0,0,0⟩:=if_pos hpe;have hF2:F7 (p.rnd.accs.map (·.vs)) (s:Int)=(KM (p.rnd.accs.map (·.vs)) (s:Int)).isSome:=if_pos hpe;rw[hF]at hF2
   obtain⟨x,hx⟩:=Option.isSome_iff_exists.1 hF2.symm;rw[hx]at hC
   rw[← Option.some.inj hc,hC];refine VS h.he (s:=(s:Int)) ?_;have:∀ (l:List Vt) (o:Option Vt) (x:Vt),BP l o=some x→x∈l∨o=some x:=by
    intro l;induction l with
    | nil=>intro o x e;exact .inr e
    | cons v l ih =>
     intro o x e;cases o with
     | none =>
      rw[BP]at e
      rcases ih _ _ e with g|g
      ·exact .inl (List.mem_cons_of_mem _ g)
      ·left;cases g;exact List.mem_cons_self
     | some u =>
      rw[BP]at e
      split at e
      ·rcases ih _ _ e with g|g
       ·exact .inl (List.mem_cons_of_mem _ g)
       ·left;cases g;exact List.mem_cons_self
      ·rcases ih _ _ e with g|g
       ·exact .inl (List.mem_cons_of_mem _ g)
       ·exact .inr g
   exact(this _ _ _ hx).resolve_right fun e=>by cases e
  ·exact h.qu c (List.mem_of_find?_eq_some hc)
theorem NdS.propose{p:Nod}(h:NdS S p)(hu:p.up=true):NdS S p.propose:=by
 obtain⟨dr,rs,k,hr⟩:=h.up hu;unfold Nod.propose;split
 ·exact h
 ·cases hn:p.nextC p.agreed.length with
  | none=>exact h
  | some c =>
   have hc:=Zx h hn;simp only;rcases k.vote ⟨(p.agreed.length:Int),p.rnd.bal,c⟩with⟨e,he⟩|⟨e,he,rs',hp,ht,hm,hpb,d,a,hq⟩
   ·rw[if_pos e];exact h
   ·rw[if_neg (fun g=>g e)];have g:=h.wrote ht (fun v hv=>((hm v).1 hv).elim (fun e=>by rw[e];exact hc) (hr v)) hu hq (by rw[hq];exact h.ag);exact NdS.wait (p:={ (p.vote ⟨(p.agreed.length:Int),p.rnd.bal,c⟩).1 with rnd:={ p.rnd with next:=p.agreed.length+1 } }) (g.tape rfl rfl rfl rfl g.ag g.wa h.qu h.he g.pe) hc
theorem NdS.run{i:Nat}(hi:i<5){p:Nod}(h:NdS S p){q:Pend}{l:List Pend}(hp:p.pend=q::l):NdS S { p.runP i q with pend:=l }∧∀ m∈p.sentP i q,LtS S m:=by
 have hpq:=h.pe q (by rw[hp];exact List.mem_cons_self);have hk:∀ {p':Nod},NdS S p'→p'.pend=p.pend→NdS S { p' with pend:=l }:=fun{p'} g e=>g.tape rfl rfl rfl rfl g.ag g.wa g.qu g.he fun x hx=>g.pe x (by rw[e,hp];exact List.mem_cons_of_mem _ hx);have none:∀ c∈([]:List Cmd),S c:=fun c hc=>by cases hc
 have noneV:VsS S []:=fun c hc=>by cases hc
 cases q with
 | began b vs =>
  unfold Nod.runP Nod.sentP;simp only;split
  ·exact⟨hk h rfl,fun m hm=>(by cases hm)⟩
  ·refine⟨hk (p':={ p with rnd:=p.rnd.hear i vs }) (h.tape rfl rfl rfl rfl h.ag h.wa h.qu (Wf h.he i hi hpq) h.pe) rfl,fun m hm=>?_⟩;obtain⟨to,_,rfl⟩:=Dz hm;exact⟨noneV,none,fun e=>e.elim (fun g=>by cases g) fun g=>(by cases g)⟩
 | prom to b vs=>exact⟨hk h rfl,fun m hm=>by rw[List.mem_singleton.1 hm];exact⟨hpq,h.ag,fun e=>e.elim (fun g=>by cases g) fun g=>(by cases g)⟩⟩
 | voted to v=>exact⟨hk h rfl,fun m hm=>by rw[List.mem_singleton.1 hm];exact⟨noneV,none,fun _=>hpq⟩⟩
 | refuse to b=>exact⟨hk h rfl,fun m hm=>by rw[List.mem_singleton.1 hm];exact⟨noneV,none,fun e=>e.elim (fun g=>by cases g) fun g=>(by cases g)⟩⟩
 | prop v =>
  refine⟨hk (h.count hi hpq) (Ga p i (.prop v)).1,fun m hm=>?_⟩;obtain⟨to,_,rfl⟩:=Dz hm;exact⟨noneV,none,fun _=>hpq⟩
 | askNews to=>exact⟨hk h rfl,fun m hm=>by rw[List.mem_singleton.1 hm];exact⟨noneV,none,fun e=>e.elim (fun g=>by cases g) fun g=>(by cases g)⟩⟩
 | start =>
  refine⟨hk h rfl,fun m hm=>?_⟩;obtain⟨to,_,rfl⟩:=Dz hm;exact⟨noneV,none,fun e=>e.elim (fun g=>by cases g) fun g=>(by cases g)⟩
 | tell to slot=>exact⟨hk h rfl,fun m hm=>by rw[List.mem_singleton.1 hm];exact⟨noneV,fun c hc=>h.ag c (List.mem_of_mem_drop hc),fun e=>e.elim (fun g=>by cases g) fun g=>(by cases g)⟩⟩
theorem NdS.lead{i:Nat}{p:Nod}(h:NdS S p)(hu:p.up=true):NdS S (p.lead i):=by
 obtain⟨dr,rs,k,hr⟩:=h.up hu;unfold Nod.lead;simp only;generalize (⟨max p.rounds p.vo.p.r+1,(i:Int)⟩:Bal)=b;rcases k.promise b with⟨e,he⟩|⟨e,he,hvs,rs',hp,ht,hm,hpb,hpv,d,a,hq⟩
 ·rw[if_pos e];exact h
 ·rw[if_neg (fun g=>g e)];have g:=h.wrote ht (fun v hv=>hr v ((hm v).1 hv)) hu hq (by rw[hq];exact h.ag);exact NdS.wait (p:={ (p.promise b).1 with rnd:=⟨b,fun _=>false,fun _=>Eb,fun _=>p.agreed.length,0,[]⟩ }) (x:=.began b (p.promise b).2.1) (g.tape rfl rfl rfl rfl g.ag g.wa (fun c hc=>by cases hc) (fun j _ v hv=>by cases hv) g.pe) (by show VsS S _;rw[hvs];exact k.vsS hr)
theorem cC(b:Bal)(f:Cmd→Option Bal)(l:List Cmd)(hl:∀ c∈l,S c):∀ c∈(CN b f l).1,S c:=by
 induction l generalizing f with
 | nil=>intro c hc;cases hc
 | cons d l ih =>
  have ih:=fun f=>ih f fun c hc=>hl c (List.mem_cons_of_mem _ hc);rw[CN];split
  ·exact fun c hc=>(List.mem_cons.1 hc).elim (fun e=>by rw[e];exact hl d List.mem_cons_self) (ih _ c)
  ·exact ih f
structure MtS(S:Cmd→Prop)(M:Meet):Prop where
 nd:∀ i,i<5→NdS S (M.node i)
 lt:∀ l∈M.lets,LtS S l
theorem MtS.set{M:Meet}(h:MtS S M){i:Nat}{p:Nod}(hp:NdS S p){ls:List Let}(hl:∀ l∈ls,l∈M.lets∨LtS S l)(ts:List Tol):MtS S (M.set i p ls ts) :=
 ⟨fun j hj=>by
  show NdS S (upN M.node i p j);unfold upN;split
  ·exact hp
  ·exact h.nd j hj,fun l hm=>(hl l hm).elim (h.lt l) id⟩
theorem MtS.step{D:Wh}(hD:∀ i d,D.d i d→∀ now:Nat,opE d (now:Int)=0→S (Ew d (now:Int))){n:Nat}{M N:Meet}(s:Stp D n M N)(h:MtS S M):MtS S N:=by
 have same:∀ l∈M.lets,l∈M.lets∨LtS S l:=fun l hl=>.inl hl;have app:∀ {ms:List Let},(∀ m∈ms,LtS S m)→∀ l∈M.lets++ms,l∈M.lets∨LtS S l:=fun g l hl=>(List.mem_append.1 hl).imp id (g l);cases s with
 | take _ l hl hd hu _=>exact h.set ((h.nd _ hd.2).take hu (h.lt l hl) hd.1) same _
 | lets _ ls hl _=>exact⟨h.nd,fun l g=>h.lt l (hl l g)⟩
 | one _ i c hi hu hc he =>
  refine h.set ?_ same _;have k:=h.nd i hi;unfold Nod.unwant;split
  ·exact k.tape rfl rfl rfl rfl k.ag (fun c hc=>k.wa c (List.mem_of_mem_erase hc)) k.qu k.he k.pe
  ·exact k.tape rfl rfl rfl rfl k.ag k.wa k.qu k.he k.pe
 | ask _ i hi hu =>
  have k:=h.nd i hi;have ha:=cC (M.node i).vo.p (M.node i).asked ((M.node i).wants.take 40) fun c hc=>k.wa c (List.mem_of_mem_take hc);have k2:NdS S { M.node i with asked:=(CN (M.node i).vo.p (M.node i).asked ((M.node i).wants.take 40)).2 }:=k.tape rfl rfl rfl rfl k.ag k.wa k.qu k.he k.pe;refine h.set ?_ (app ?_) _
  ·unfold Nod.askd;split
   ·exact k2
   ·split
    ·exact k2.enqueue ha
    ·exact k2
  ·intro m hm;unfold Nod.askd at hm;split at hm
   ·cases hm
   ·split at hm
    ·cases hm
    ·rw[List.mem_singleton.1 hm];exact⟨fun v hv=>(by cases hv),ha,fun e=>e.elim (fun g=>by cases g) fun g=>(by cases g)⟩
 | prop _ i hi hu=>exact h.set ((h.nd i hi).propose hu) same _
 | syn _ i hi hu hlt hT =>
  have k:=h.nd i hi;obtain⟨dr,rs,g,hr⟩:=k.up hu;exact h.set (p:={ M.node i with sy:=((M.node i).d.length:Int) }) ⟨fun _=>⟨rs,rs,g.syn,hr⟩,fun e=>(by rw[show _=(M.node i).up from rfl,hu]at e;cases e),k.ag,k.wa,k.qu,k.he,k.pe⟩ same _
 | run _ i hi hu q l hp hs =>
  have g:=(h.nd i hi).run hi hp;exact h.set g.1 (app g.2) _
 | teach _ i hi hu hL =>
  have k:=h.nd i hi;refine h.set (p:=GW (M.node i) i 5) (k.tape rfl rfl rfl rfl k.ag k.wa k.qu k.he k.pe) (app ?_) _;have:∀ n,∀ m∈Dt (M.node i) i n,LtS S m:=by
   intro n;induction n with
   | zero=>intro m hm;cases hm
   | succ n ih =>
    intro m hm;rw[Dt]at hm
    rcases List.mem_append.1 hm with hm|hm
    ·exact ih m hm
    ·split at hm
     ·rw[List.mem_singleton.1 hm];exact⟨fun v hv=>(by cases hv),fun c hc=>k.ag c (List.mem_of_mem_drop hc),fun e=>e.elim (fun g=>by cases g) fun g=>(by cases g)⟩
     ·cases hm
  exact this 5
 | lead _ i hi hu _=>exact h.set ((h.nd i hi).lead hu) same _
 | sub _ i d hi hu hd =>
  have k:=h.nd i hi;refine h.set ?_ same _;unfold Nod.subm Nod.sub0;split
  ·exact k
  ·split
   ·exact k.tape rfl rfl rfl rfl k.ag k.wa k.qu k.he k.pe
   ·rename_i he
    split
    ·exact k
    ·show NdS S (Nod.want _ _);unfold Nod.want;split
     ·exact k
     ·exact k.tape rfl rfl rfl rfl k.ag (fun c hc=>(List.mem_append.1 hc).elim (k.wa c) fun e=>by rw[List.mem_singleton.1 e];exact hD i d hd _ (Decidable.not_not.1 he)) k.qu k.he k.pe
 | crash _ i c hi hu hc _ =>
  have k:=h.nd i hi;obtain⟨dr,rs,g,hr⟩:=k.up hu;obtain⟨dr',_,hy,hD⟩:=g.crash hc;have hce:Ge (M.node i).d (M.node i).sy c=0:=by unfold Ge;rw[if_neg (fun e=>e g.tap),if_neg (by omega)]
  have hct:=O0 (p:=M.node i) g.tap hc;refine h.set ⟨fun e=>(by rw[hct.2.1]at e;cases e),fun _=>⟨dr',hD,fun v hv=>hr v (hy.subset hv)⟩,?_,?_,?_,?_,?_⟩ same _<;>(unfold Nod.crash;rw[if_neg (fun e=>e hce)])
  ·exact fun c hc=>by cases hc
  ·exact fun c hc=>by cases hc
  ·exact fun c hc=>by cases hc
  ·exact fun j _ v hv=>by cases hv
  ·exact fun c hc=>by cases hc
 | start _ i hi hu _ =>
  obtain⟨dr,g,hr⟩:=(h.nd i hi).dn hu;have hT:AX (M.node i).d (M.node i).sy:=⟨g.len,by rw[g.sy];omega,by rw[g.sy];omega⟩;have hst:=Lg (p:=M.node i) hT;have hr2:(M.node i).start.rnd=dU∧(M.node i).start.pend=[.start]∧(M.node i).start.wants=[]:=by
   unfold Nod.start;rw[if_neg (fun e=>e (if_pos hT))];split<;>exact⟨rfl,rfl,rfl⟩
  refine h.set ⟨fun _=>⟨dr,dr,g.start,hr⟩,fun e=>(by rw[hst.2.1]at e;cases e),?_,?_,?_,?_,?_⟩ same _
  ·rw[hst.2.2.2];exact fun c hc=>by cases hc
  ·rw[hr2.2.2];exact fun c hc=>by cases hc
  ·rw[hr2.1];exact fun c hc=>by cases hc
  ·rw[hr2.1];exact fun j _ v hv=>by cases hv
  ·rw[hr2.2.1];exact fun q hq=>by rw[List.mem_singleton.1 hq];trivial
theorem MtS.zero:MtS S BR:=⟨fun i _=>⟨fun _=>⟨[],[],TpU.zero,fun v hv=>(by cases hv)⟩,fun e=>(by cases e),fun c hc=>(by cases hc),fun c hc=>(by cases hc),fun c hc=>(by cases hc),fun j _ v hv=>(by cases hv),fun c hc=>(by cases hc)⟩,fun l hl=>(by cases hl)⟩
theorem bZ(L:List Lac)(hL:∀ x∈L,LacOk x)(hl:L.length≤100000)(hS:∀ x∈L,x.k=1→∀ now:Nat,opE x.d (now:Int)=0→S (Ew x.d (now:Int))):MtS S (BR.acts L):=by
 have s:Sts ⟨fun _ d=>∃ x∈L,x.k=1∧x.d=d,True,True,True,True,True⟩ L.length BR (BR.acts L):=UX L MOk.zero (by omega) fun x hx=>⟨hL x hx,fun e=>⟨x,hx,e,rfl⟩,fun _=>trivial,fun _=>trivial,fun _=>⟨trivial,trivial⟩,fun _=>trivial⟩;exact s.inv (fun _ M N h g=>g.step (fun i d hd now he=>by obtain⟨x,h1,h2,rfl⟩:=hd;exact hS x h1 h2 now he) h) MtS.zero
end
theorem Tc{tc tr tu k c s n v now:Int}(h0:0≤now)(h:D2 tc tr tu k c s n v now=0):D2 tc tr tu k c s n v 0=0:=by
 unfold D2 at h ⊢;split at h
 ·cases h
 ·rename_i a1
  rw[if_neg a1];split at h
  ·rename_i a2;exact absurd h a2
  ·rename_i a2
   rw[if_neg a2];split at h
   ·cases h
   ·rename_i a3
    rw[if_neg a3];split at h
    ·cases h
    ·rename_i a4
     rw[if_neg (by omega)]
theorem WW{l:List Int}{now:Int}(h0:0≤now)(h:opE l 0≠0):opE l now≠0:=by
 intro e;apply h;unfold opE at e ⊢;split at e
 ·rename_i a1;exact absurd e a1
 ·rename_i a1
  rw[if_neg a1];split at e
  ·cases e
  ·rename_i a2
   rw[if_neg a2];exact Tc h0 e
end
section
open Go.RowKit
theorem ZC{v:S3}{l:List Int}{now:Int}{w:World}(h:Sl w v.v l)(hT:Tabs w){c:Cmd}(hc:Ew l now=c){E:Int}(hE:opE l now=E) :
  Calls prog 8 #[v.v,iv now] w fun e w'=>e=.returned (.tuple #[.agg #[iv c.k,iv c.c,iv c.s,iv c.n,iv c.v],iv E])∧Bw w w':=by
 subst hc hE;have:=M0 v.v l now w h hT.t hT.q hT.n;rw[WU]at this
 exact this
theorem ZB{l:List Int}{now:Int}(h0:0≤now)(h:opE l now=0):opE l 0=0∧Ew l 0=Ew l now:=by
 have h2:opE l 0=0:=Decidable.byContradiction fun e=>WW h0 e h;exact⟨h2,by unfold Ew;rw[if_pos h,if_pos h2]⟩
theorem WE{M:Meet}{c:Cmd}(h:c∈((lgN M 5).map M.log).getD []):∃ j,j<5∧c∈(M.node j).agreed:=by
 cases hh:lgN M 5 with
 | none=>rw[hh]at h;cases h
 | some j =>
  rw[hh]at h
  exact⟨j,QN hh,List.mem_of_mem_take h⟩
theorem Ij{l:S3}{G:List Gr}{w:World}(h:RdV w l 5 (grL G))(hG:∀ g∈G,GrOk g)(hT:SZ w) :
  Calls prog 3 #[l.v] w fun e w'=>e=.returned (.bool true)∧Bw w w':=by
 obtain⟨L,hL⟩:∃ L,scr G 100 true=L:=⟨_,rfl⟩;have hok:=ec G 100 true;have hln:=am G 100 true;rw[hL]at hok hln
 have hrl:(Gk 60).length=365:=Xw 60;have hokr:∀ x∈L++Gk 60,LacOk x:=fun x hx=>(List.mem_append.1 hx).elim (hok x) (ZV 60 x);have hlr:(L++Gk 60).length≤465:=by rw[List.length_append];omega
 have hup:=dX L hok 60 (by omega) (j:=0) (by decide);have hS:=bZ (S:=fun c=>∃ x∈L,x.k=1∧opE x.d 0=0∧Ew x.d 0=c) (L++Gk 60) hokr (by omega) fun x hx h1 now he=>by
  rcases List.mem_append.1 hx with hx|hx
  ·have:=ZB (Int.natCast_nonneg now) he;exact⟨x,hx,h1,this⟩
  ·exact absurd h1 (Pu (P:=fun x=>x.k≠1) (fun _ _=>by show(9:Int)≠1;decide) (fun _ _=>by show(3:Int)≠1;decide) (by decide) 60 x hx)
 have hmo:=UW _ hokr (by omega);obtain⟨M,hM⟩:∃ M,BR.acts (L++Gk 60)=M:=⟨_,rfl⟩;rw[hM]at hup hS hmo
 obtain⟨lg,hlg⟩:∃ lg,((lgN M 5).map M.log).getD []=lg:=⟨_,rfl⟩;have hsub:∀ c∈lg,∃ (kx:Nat) (x:Lac),L[kx]?=some x∧x.k=1∧opE x.d 0=0∧Ew x.d 0=c:=fun c hc=>by
  obtain⟨j,hj,hm⟩:=WE (M:=M) (by rw[hlg];exact hc);obtain⟨x,hx,h1⟩:=(hS.nd j hj).ag c hm;obtain⟨kx,hk⟩:=List.mem_iff_getElem?.1 hx;exact⟨kx,x,hk,h1⟩
 refine tIn [] func3 trivial ?_;refine tR 7 [] fun σ1 _ _=>?_;refine tC 1 (fun F C=>Us (most:=100) (cr:=true) (h.below (CgQ.below C)) hG (by decide) (tbA hT.1 C)) fun Nz=>?_;rintro _ _ ⟨s,P,rfl,hP,hN,b2⟩;refine⟨_,Fa.ac s P::_,rfl,b2,fun F=>⟨hN.ac Nz,F⟩,?_⟩;rw[hL]at hP
 have hPl:P.length=L.length:=by rw[← hP,List.length_map]
 refine tF fun F _=>?_;have hsn:=(AcR.of F.1 hP).n;refine tR 5 [] fun σ3 _ _=>?_;refine tC 1 (fun F C=>Uo (many:=60) (AcR.of F.1 rfl).r (AcR.of F.1 rfl).d (by omega)) fun Nz=>?_;rintro _ _ ⟨z,rfl,hz,b4⟩;refine⟨_,Fa.ac z (P++rnP (Gk 60))::_,rfl,b4,fun F=>⟨⟨hz.fz Nz,Dat.app F.1.2 (ZT _ _ (dV _))⟩,F⟩,?_⟩;have hPr:(P++rnP (Gk 60)).map (·.1)=L++Gk 60:=by rw[List.map_append,hP,ZU]
 refine tC 2 (fun F C=>dQ (AcR.of F.1 hPr) hokr (by omega) (tb5 hT C) hM hup) fun Nz=>?_;rintro _ _ ⟨ly,tv,ys,rfl,hW,hO,b6⟩;refine⟨_,[Fa.ot ly tv ys M,Fa.ac s P],rfl,b6,fun F=>⟨S4 hW hO Nz,F.2.1,trivial⟩,?_⟩;refine tR 10 [1,0,0,0,0] fun σ7 _ _=>?_;refine tF fun F _=>?_;obtain⟨gy,hgy⟩:∃ gy,lgY ys (lgN M 5)=gy:=⟨_,rfl⟩;refine tC 1 (fun F C=>QP (S6 F.1) hup) fun Nz=>?_;rintro _ _ ⟨rfl,b8⟩;refine⟨_,_,rfl,b8,id,?_⟩;rw[hgy];refine tCv [Fa.zv gy 5 (cmL lg),Fa.ac s P] (fun F=>⟨(by rw[← hgy,← hlg];exact WD F.1 (Nat.le_refl 5)),F.2.1,trivial⟩) ?_;refine tF fun F _=>?_;have hgn:=cO F.1.rd;refine tR 8 [] fun σ9 _ _=>?_;have hll:lg.length≤40:=by
  rw[← hlg];cases hh:lgN M 5 with
  | none=>exact Nat.zero_le _
  | some j=>show(M.log j).length≤40;have:=(hmo.node j (QN hh)).ag;unfold Meet.log;rw[List.length_take];omega
 refine G3 77 [(3,S3.v s),(4,pt (σ7 0) 0),(5,.bool true),(6,S3.v gy),(7,iv 0)] [true] [⟨(σ7 0),.cells #[iv (M.lets.length:Int),.bool true,.bool (M.node 1).up,.bool (M.node 2).up,.bool (M.node 3).up,.bool (M.node 4).up,S3.v ly,iv ((M.node 0).bad:Int),iv ((M.node 1).bad:Int),iv ((M.node 2).bad:Int),iv ((M.node 3).bad:Int),iv ((M.node 4).bad:Int),S3.v tv] 30,.l,false⟩] [Fa.zv gy 5 (cmL lg),Fa.ac s P] (fun kk ee LL ΦΦ=>∃ (i:Nat),kk=lg.length-i∧ee=[(3,S3.v s),(4,pt (σ7 0) 0),(5,.bool true),(6,S3.v gy),(7,iv (i:Int))]∧LL=[⟨(σ7 0),.cells (Rh M ly tv) 30,.l,false⟩]∧ΦΦ=[Fa.zv gy 5 (cmL lg),Fa.ac s P]∧i≤lg.length) (lg.length) ⟨0,rfl,rfl,rfl,rfl,by omega⟩ (fun F=>⟨F.1,F.2.1,trivial⟩) ?_;rintro k _ _ _ ⟨i,rfl,rfl,rfl,rfl,hi⟩ _ _ _ J hJ;refine tR 8 [] fun σ10 _ _=>?_;by_cases h1:i<lg.length
 ·refine tI ((decide ((i:Int)<(gy.n:Int)))) true (decide_eq_true (by omega)) ?_;obtain⟨d,hd⟩:∃ d,lg[i]?=some d:=⟨_,List.getElem?_eq_getElem (by omega)⟩;obtain⟨kx,x,hkx,hx1,hx2,hx3⟩:=hsub d (List.mem_of_getElem? hd);have hkl:=(List.getElem?_eq_some_iff.1 hkx).1;refine tF fun F _=>?_;obtain⟨bx,ox,hxa⟩:=F.1.rd.rc.addr (k:=i) (by omega);refine tR 7 [] fun σ11 _ _=>?_;refine tV 2 (pt bx (ox+5*i)) (fun F C=>(KU hxa i (by omega))) ?_;refine tV 3 (.agg #[iv d.k,iv d.c,iv d.s,iv d.n,iv d.v]) (fun F C=>(Ry d fun q_ u hu=>F.1.rd.rc.cellAt hxa hd hu)) ?_;refine tR 1 [] fun σ13 _ _=>?_;refine tV 5 (.bool (decide (d=LB))) (fun F C=>(dJ (x:=(.tmp 31)) (y:=(.tmp 32)) d LB)) ?_;refine tR 8 [] fun σ14 _ _=>?_;refine G3 77 [(3,S3.v s),(4,pt (σ7 0) 0),(5,.bool true),(6,S3.v gy),(7,iv (i:Int)),(8,.bool (decide (d=LB))),(9,iv 0)] [true] [⟨(σ7 0),.cells (Rh M ly tv) 30,.l,false⟩] [Fa.zv gy 5 (cmL lg),Fa.ac s P] (fun kk ee LL ΦΦ=>∃ (k:Nat) (fd:Bool),kk=L.length-k∧ee=[(3,S3.v s),(4,pt (σ7 0) 0),(5,.bool true),(6,S3.v gy),(7,iv (i:Int)),(8,.bool fd),(9,iv (k:Int))]∧LL=[⟨(σ7 0),.cells (Rh M ly tv) 30,.l,false⟩]∧ΦΦ=[Fa.zv gy 5 (cmL lg),Fa.ac s P]∧k≤L.length∧(fd=true∨k≤kx)) (L.length) ⟨0,decide (d=LB),rfl,rfl,rfl,rfl,by omega,.inr (by omega)⟩ (fun F=>⟨F.1,F.2.1,trivial⟩) ?_;rintro k _ _ _ ⟨k,fd,rfl,rfl,rfl,rfl,hk,hfd⟩ _ _ _ JK hJK;refine tR 6 [] fun σ15 _ _=>?_;by_cases h2:k<L.length∧fd=false
  ·obtain⟨h2,hf⟩:=h2;subst hf;refine tV 3 (.bool true) (fun F C=>(rLt (t:=3) (m:=(k:Int)) (n:=(s.n:Int)) (x:=(.tmp 34)) (y:=(.tmp 36)) (decide_eq_true (by omega)))) ?_;have hfk:k≤kx:=hfd.resolve_left (by decide);obtain⟨⟨a,yd⟩,ha⟩:∃ a,P[k]?=some a:=⟨_,List.getElem?_eq_getElem (by omega)⟩;have haL:L[k]?=some a:=by rw[← hP,List.getElem?_map,ha];rfl
   refine tF fun F _=>?_;obtain⟨b,off,hya,_,hin⟩:=bj F.2.1 ha;refine tR 14 [] fun σ16 _ _=>?_;refine tV 2 (pt b (off+5*k)) (fun F C=>(S9 (c:=s.c) hya k hin)) ?_;refine tR 1 [] fun σ17 _ _=>?_;refine tF fun F _=>?_;refine tV 4 (iv a.k) (fun F C=>(CV underlying3 rfl (acK F.2.1 hya ha))) ?_;refine tV 5 (.bool (a.k != 1)) (fun F C=>(Gj (t:=3) (m:=a.k) (n:=1) (x:=(.tmp 48)) (y:=(.const (iv 1))) rfl)) ?_;refine tR 1 [] fun σ19 _ _=>?_;by_cases h3:a.k≠1
   ·refine tI ((a.k != 1)) true (by simpa using h3) ?_;refine tR 3 [] fun σ20 _ _=>?_;refine tV 1 (iv ((k:Int)+1)) (fun F C=>(AL (x:=(.tmp 42)) (y:=(.const (iv 1))) (k:Int) 1 underlying3 (by omega))) ?_;refine tR 2 [] fun σ21 _ _=>?_;exact tB hJK (L.length-(k+1)) (by omega) [true] ⟨k+1,false,rfl,rfl,rfl,rfl,by omega,.inr (by have:k≠kx:=fun e=>h3 (by subst e;rw[haL]at hkx;cases hkx;exact hx1);omega)⟩ (fun F=>⟨F.1,F.2.1,trivial⟩)
   ·refine tI ((a.k != 1)) false (by simpa using h3) ?_;refine tR 5 [] fun σ22 _ _=>?_;refine tV 2 (pt b (off+5*k)) (fun F C=>(S9 (c:=s.c) hya k hin)) ?_;refine tR 1 [] fun σ23 _ _=>?_;refine tF fun F _=>?_;refine tV 4 (S3.v yd) (fun F C=>(CV underlying38 rfl (acS F.2.1 hya ha 4 _ rfl))) ?_;obtain⟨c,hc⟩:∃ c,Ew a.d 0=c:=⟨_,rfl⟩;obtain⟨E,hE⟩:∃ E,opE a.d 0=E:=⟨_,rfl⟩;have hkk:k=kx→E=0∧c=d:=fun e=>by subst e;rw[haL]at hkx;cases hkx;exact⟨hE.symm.trans hx2,hc.symm.trans hx3⟩
    refine tC 5 (fun F C=>ZC (F.2.1.2 _ (List.mem_of_getElem? ha)).s (tbA hT.1 C) hc hE) fun Nz=>?_;rintro _ _ ⟨rfl,b25⟩;refine⟨_,_,rfl,b25,id,?_⟩;refine tR 7 [1,0,1,0] fun σ26 _ _=>?_;refine tR 2 [11,0] fun σ27 _ _=>?_;by_cases h4:E=0
    ·refine tT 1 (.bool true) (fun _=>(Ez (t:=41) (m:=E) (n:=0) (x:=(.tmp 59)) (y:=(.const (iv 0))) (by simpa using h4))) ?_;refine tR 4 [4,6,1,8,10] fun σ28 _ _=>?_;refine tF fun F _=>?_;refine tT 6 (pt bx (ox+5*i)) (fun _=>(KU hxa i (by omega))) ?_;refine tV 7 (.agg #[iv d.k,iv d.c,iv d.s,iv d.n,iv d.v]) (fun F C=>(Ry d fun q_ u hu=>F.1.rd.rc.cellAt hxa hd hu)) ?_;refine tT 8 (.bool (decide (c=d))) (fun _=>(dJ (x:=(.tmp 62)) (y:=(.tmp 66)) c d)) ?_;refine tR 6 [18,20] fun σ31 _ _=>?_;refine tV 1 (iv ((k:Int)+1)) (fun F C=>(AL (x:=(.tmp 42)) (y:=(.const (iv 1))) (k:Int) 1 underlying3 (by omega))) ?_;refine tR 2 [] fun σ32 _ _=>?_;exact tB hJK (L.length-(k+1)) (by omega) [true,false] ⟨k+1,decide (c=d),rfl,rfl,rfl,rfl,by omega,(by by_cases e:k=kx;exact .inl (decide_eq_true (hkk e).2);exact .inr (by omega))⟩ (fun F=>⟨F.1,F.2.1,trivial⟩)
    ·refine tT 1 (.bool false) (fun _=>(Ez (t:=41) (m:=E) (n:=0) (x:=(.tmp 59)) (y:=(.const (iv 0))) (by simpa using h4))) ?_;refine tR 13 [4,6,8,10,12,14,16,18,20] fun σ33 _ _=>?_;refine tV 1 (iv ((k:Int)+1)) (fun F C=>(AL (x:=(.tmp 42)) (y:=(.const (iv 1))) (k:Int) 1 underlying3 (by omega))) ?_;refine tR 2 [] fun σ34 _ _=>?_;exact tB hJK (L.length-(k+1)) (by omega) [true,false] ⟨k+1,false,rfl,rfl,rfl,rfl,by omega,.inr (by have:k≠kx:=fun e=>h4 (hkk e).1;omega)⟩ (fun F=>⟨F.1,F.2.1,trivial⟩)
  ·have hfd2:fd=true:=by
    rcases hfd with g|g
    ·exact g
    ·cases hh:fd with
     | true=>rfl
     | false=>exact absurd ⟨by omega,hh⟩ h2
   subst hfd2;by_cases h5:k<L.length
   ·refine tV 3 (.bool true) (fun F C=>(rLt (t:=3) (m:=(k:Int)) (n:=(s.n:Int)) (x:=(.tmp 34)) (y:=(.tmp 36)) (decide_eq_true (by omega)))) ?_;refine tR 17 [] fun σ35 _ _=>?_;refine tV 1 (iv ((i:Int)+1)) (fun F C=>(AL (x:=(.tmp 26)) (y:=(.const (iv 1))) (i:Int) 1 underlying3 (by omega))) ?_;refine tR 2 [] fun σ36 _ _=>?_;exact tB hJ (lg.length-(i+1)) (by omega) [true] ⟨i+1,rfl,rfl,rfl,rfl,by omega⟩ (fun F=>⟨F.1,F.2.1,trivial⟩)
   ·refine tV 3 (.bool false) (fun F C=>(rLt (t:=3) (m:=(k:Int)) (n:=(s.n:Int)) (x:=(.tmp 34)) (y:=(.tmp 36)) (decide_eq_false (by omega)))) ?_;refine tR 17 [] fun σ37 _ _=>?_;refine tV 1 (iv ((i:Int)+1)) (fun F C=>(AL (x:=(.tmp 26)) (y:=(.const (iv 1))) (i:Int) 1 underlying3 (by omega))) ?_;refine tR 2 [] fun σ38 _ _=>?_;exact tB hJ (lg.length-(i+1)) (by omega) [true] ⟨i+1,rfl,rfl,rfl,rfl,by omega⟩ (fun F=>⟨F.1,F.2.1,trivial⟩)
 ·refine tI ((decide ((i:Int)<(gy.n:Int)))) false (decide_eq_false (by omega)) ?_;refine tR 11 [0] fun σ39 _ _=>?_;exact tE (.bool true) fun _ B=>⟨rfl,B⟩
end
end Go.Proofs.YtfhbkoflaekhpabGreatDoor
