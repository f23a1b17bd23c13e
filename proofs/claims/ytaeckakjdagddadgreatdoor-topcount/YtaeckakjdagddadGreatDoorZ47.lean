/- Part 47 of the walk. -/
import Derived.Test.YtaeckakjdagddadGreatDoorZ44
import Derived.Test.YtaeckakjdagddadGreatDoorZ46
set_option maxRecDepth 100000
set_option maxHeartbeats 4000000
open Go.Proofs.Tryz
set_option linter.unusedVariables false
namespace Go.Proofs.YtaeckakjdagddadGreatDoor
section
def Nod.ub(p:Nod):Bool × Nat:=(p.up,p.bad)
theorem KG(p:Nod)(b:Bal):(p.promise b).1.ub=p.ub:=by
 unfold Nod.promise;split
 ·rfl
 ·split
  ·rfl
  ·split<;>rfl
theorem SK(p:Nod)(v:Vt):(p.vote v).1.ub=p.ub:=by
 unfold Nod.vote;split
 ·rfl
 ·split
  ·rfl
  ·split<;>rfl
theorem Ou(p:Nod)(j:Nat)(v:Vt):(p.count j v).ub=p.ub:=by
 unfold Nod.count;split
 ·rfl
 ·split<;>rfl
theorem My(p:Nod)(to:Nat)(e:Int):(p.refuse to e).ub=p.ub:=by unfold Nod.refuse;split<;>rfl
theorem Kd(p:Nod)(l:List Cmd):(p.enqueue l).ub=p.ub:=by unfold Nod.enqueue;split<;>rfl
theorem ZT(p:Nod)(l:Let):(p.take l).ub=p.ub:=by
 unfold Nod.take;split
 ·split
  ·exact My _ _ _
  ·exact KG p l.bal
 ·simp only;split<;>rfl
 ·rfl
 ·split
  ·exact My _ _ _
  ·exact SK p l.vote
 ·exact Ou p _ _
 ·split<;>rfl
 ·simp only;split<;>exact Kd p l.what
 ·rfl
theorem ZE(p:Nod)(i:Nat)(q:Pend):(p.runP i q).ub=p.ub:=by
 cases q with
 | began b vs=>unfold Nod.runP;simp only;split<;>rfl
 | prop v=>exact Ou p i v
 | _=>rfl
theorem V7(i:Nat)(l:List Pend)(p:Nod)(ls:List Let):(doneP i l p ls).1.ub=p.ub:=by
 induction l generalizing p ls with
 | nil=>rfl
 | cons q l ih=>exact(ih _ _).trans (ZE p i q)
theorem UG(p:Nod)(c:Cmd):(p.unwant c).ub=p.ub:=by unfold Nod.unwant;split<;>rfl
theorem ce(i:Nat)(l:List Cmd)(p:Nod)(ts:List Tol):(doP i l p ts).1.ub=p.ub:=by
 induction l generalizing p ts with
 | nil=>rfl
 | cons c l ih =>
  rw[doP];split
  ·rfl
  ·exact(ih _ _).trans (UG _ _)
theorem Yl(p:Nod)(i:Nat):(p.askd i).1.ub=p.ub:=by
 unfold Nod.askd;split
 ·rfl
 ·split
  ·exact Kd _ _
  ·rfl
theorem Rn(p:Nod):p.propose.ub=p.ub:=by
 unfold Nod.propose;split
 ·rfl
 ·split
  ·rfl
  ·split
   ·rfl
   ·exact SK p _
theorem XA(p:Nod)(i:Nat)(ls:List Let):(p.syncd i ls).1.ub=p.ub:=by
 unfold Nod.syncd;split
 ·rfl
 ·rw[V7];unfold Nod.syn;split<;>rfl
theorem UB(p:Nod)(i:Nat)(ls:List Let):(p.taught i ls).1.ub=p.ub:=by unfold Nod.taught;split<;>rfl
theorem WT(p:Nod)(i:Nat)(ls:List Let)(ts:List Tol):(p.piece i ls ts).1.ub=p.ub:=by
 unfold Nod.piece;simp only;rw[UB,XA,Rn,Yl,ce]
theorem YU(p:Nod)(i:Nat):(p.lead i).ub=p.ub:=by
 unfold Nod.lead;simp only;split
 ·rfl
 ·exact KG p _
theorem RS(M:Meet)(l:Let)(j:Nat):((M.come l).node j).ub=(M.node j).ub:=by
 unfold Meet.come;split
 ·show(upN M.node l.dst _ j).ub=_;unfold upN;split
  ·rename_i h;rw[h];exact ZT _ _
  ·rfl
 ·rfl
theorem Vr(l:List Let)(M:Meet)(j:Nat):((l.foldl (fun M l=>M.come l) M).node j).ub=(M.node j).ub:=by
 induction l generalizing M with
 | nil=>rfl
 | cons x l ih=>exact(ih _).trans (RS M x j)
theorem YZ(M:Meet)(k:Int)(a:Nat)(j:Nat):((M.move k a).node j).ub=(M.node j).ub:=by
 unfold Meet.move;split
 ·rfl
 ·simp only;split
  ·rw[RS];split<;>rfl
  ·split<;>rfl
theorem Hp(M:Meet)(i:Nat)(p:Nod)(ls:List Let)(ts:List Tol)(j:Nat):(M.set i p ls ts).node j=if j=i then p else M.node j:=rfl
theorem bv(M:Meet){x:Lac}(h1:x.k≠1)(h8:x.k≠8)(h9:x.k≠9)(j:Nat):((M.act x).node j).ub=(M.node j).ub:=by
 unfold Meet.act;simp only;rw[if_neg h1];by_cases h2:x.k=2
 ·rw[if_pos h2,Hp];split
  ·rename_i e
   rw[e];split
   ·exact YU _ _
   ·rfl
  ·rfl
 ·rw[if_neg h2];by_cases h3:x.k=3
  ·rw[if_pos h3,Hp];split
   ·rename_i e
    rw[e];split
    ·exact WT _ _ _ _
    ·rfl
   ·rfl
  ·rw[if_neg h3];by_cases h4:x.k=4∨x.k=5∨x.k=6
   ·rw[if_pos h4];exact YZ _ _ _ _
   ·rw[if_neg h4];by_cases h7:x.k=7
    ·rw[if_pos h7];exact Vr _ _ _
    ·rw[if_neg h7,if_neg h8,if_neg h9]
theorem dF(M:Meet){x:Lac}(h1:x.k=1)(j:Nat):((M.act x).node j).ub=if j=x.n.toNat∧(M.node j).up=true∧opE x.d ((M.node j).done:Int)≠0 then((M.node j).up,(M.node j).bad+1)else(M.node j).ub:=by
 unfold Meet.act;simp only;rw[if_pos h1,Hp];by_cases hj:j=x.n.toNat
 ·subst hj;rw[if_pos rfl];unfold Nod.subm Nod.sub0;by_cases hu:(M.node x.n.toNat).up=false
  ·rw[if_pos hu,if_neg (by rw[hu];simp)]
  ·rw[if_neg hu];have hu':(M.node x.n.toNat).up=true:=by simpa using hu
   by_cases he:opE x.d ((M.node x.n.toNat).done:Int)≠0
   ·rw[if_pos he,if_pos ⟨rfl,hu',he⟩];rfl
   ·rw[if_neg he,if_neg (c:=_∧_) (fun e=>he e.2.2)];split
    ·rfl
    ·show(Nod.want _ _).ub=_;unfold Nod.want;split<;>rfl
 ·rw[if_neg hj,if_neg (fun e=>hj e.1)]
theorem Ib(M:Meet)(L:List Lac)(x:Lac):M.acts (L++[x])=(M.acts L).act x:=by unfold Meet.acts;rw[List.foldl_append];rfl
theorem SW{M:Meet}{L:List Lac}{i:Nat}{x:Lac}(h:L[i]?=some x):M.acts (L.take (i+1))=(M.acts (L.take i)).act x:=by rw[List.take_add_one,h];exact Ib M (L.take i) x
theorem NT(L:List Lac)(h:∀ x∈L,LacOk x)(hl:L.length≤100000):MOk L.length (Br.acts L):=by
 suffices ∀ i,i≤L.length→MOk i (Br.acts (L.take i))by have h1:=this L.length (Nat.le_refl _);rwa [List.take_length]at h1
 intro i;induction i with
 | zero=>intro _;exact MOk.zero
 | succ i ih =>
  intro hi;have hx:L[i]?=some L[i]:=List.getElem?_eq_getElem (by omega);rw[SW hx];exact(ih (by omega)).act (by omega) (h _ (List.getElem_mem _))
theorem YA(g:Gr)(cr:Bool):LacOk (O7 g cr):=by
 have h1:=AR g.a 5 (by omega);have h2:=AR g.c 20 (by omega);have h3:=AR g.c 90 (by omega);have hl:(pkB g).length≤63:=by
  have:(pkP g).length=63:=KC (WU g);unfold pkB;split
  ·rw[List.length_take];omega
  ·omega
 rw[← GW];unfold O7 acN
 repeat' split
 all_goals simp[YS,F5,GC,GD];try omega
theorem Xo{P:Lac→Prop}(h7:P (acN 7 0)){cr:Bool}(hg:∀ g,P (O7 g cr))(s:Nat)(l:List Gr):∀ x∈Ny cr s l,P x:=by
 induction l generalizing s with
 | nil=>intro x hx;cases hx
 | cons g l ih =>
  intro x hx;rcases List.mem_cons.1 hx with rfl|hx
  ·unfold Xn;split
   ·exact h7
   ·exact hg g
  ·exact ih _ x hx
theorem dx(l:List Gr)(m:Nat)(cr:Bool):∀ x∈scr l m cr,LacOk x:=Xo (by rw[← GW];decide) (fun g=>YA g cr) _ _
theorem Xp(cr:Bool)(s:Nat)(l:List Gr):(Ny cr s l).length=l.length:=by
 induction l generalizing s with
 | nil=>rfl
 | cons g l ih=>rw[Ny,List.length_cons,ih,List.length_cons]
theorem ZI(l:List Gr)(m:Nat)(cr:Bool):(scr l m cr).length≤m:=by unfold scr;rw[Xp,List.length_take];omega
def Nod.tp(p:Nod):Prop:=Bd p.d p.sy
theorem SP{d:List Int}{s:Int}{may:Prop}[Decidable may] {b:List Int} (h:Cy d s may b=0):Bd (F9 d s may b) (GE d s may b):=by
 obtain⟨h1,h2,_⟩:=UM h;unfold F9 GE;rw[if_pos h,if_pos h];unfold Bd at *;rw[List.length_append,EG];omega
theorem KF{p:Nod}(h:p.tp)(b:Bal):(p.promise b).1.tp:=by
 unfold Nod.promise;split
 ·exact h
 ·split
  ·exact h
  ·split
   ·exact h
   ·rename_i hw;exact SP (Decidable.not_not.1 hw)
theorem SJ{p:Nod}(h:p.tp)(v:Vt):(p.vote v).1.tp:=by
 unfold Nod.vote;split
 ·exact h
 ·split
  ·exact h
  ·split
   ·exact h
   ·rename_i hw;exact SP (Decidable.not_not.1 hw)
theorem Mx{p:Nod}(h:p.tp)(to:Nat)(e:Int):(p.refuse to e).tp:=by unfold Nod.refuse;split<;>exact h
theorem Vs{p:Nod}(h:p.tp)(j:Nat)(v:Vt):(p.count j v).tp:=by
 unfold Nod.count;split
 ·exact h
 ·split<;>exact h
theorem Qr{p:Nod}(h:p.tp)(l:List Cmd):(p.enqueue l).tp:=by unfold Nod.enqueue;split<;>exact h
theorem Vw{p:Nod}(h:p.tp){k:Int}(hk:0≤k):(p.crash k).tp∧(p.crash k).up=false∧(p.crash k).done=0∧(p.crash k).agreed=[]:=by
 have he:Jl p.d p.sy k=0:=by unfold Jl;rw[if_neg (fun e=>e h),if_neg (by omega)]
 unfold Nod.crash;rw[if_neg (fun e=>e he)];refine⟨?_,rfl,rfl,rfl⟩;show Bd (Ls p.d p.sy k) (Lt p.d p.sy k);unfold Ls Lt;rw[if_pos he,if_pos he];unfold Nod.tp Bd at h;have hc:0≤MV p.d p.sy k∧MV p.d p.sy k≤(p.d.length:Int):=by unfold MV;split<;>omega
 unfold Bd;rw[List.length_take];omega
theorem P5{p:Nod}(h:p.tp):p.start.tp∧p.start.up=true∧p.start.done=0∧p.start.agreed=[]:=by
 have he:CZ p.d p.sy=0:=if_pos h;have hl:=Wc p.d p.d.length;unfold Nod.start;rw[if_neg (fun e=>e he)];split
 ·refine⟨?_,rfl,rfl,rfl⟩;show Bd (LC p.d p.sy) (Ns p.d p.sy);unfold LC Ns;have h':Bd p.d p.sy:=h;rw[if_pos h',if_pos h'];unfold Nod.tp Bd at h;unfold Bd;rw[List.length_take];unfold Er;split<;>omega
 ·exact⟨h,rfl,rfl,rfl⟩
theorem XM(A:Alw)(i:Nat):NInv A i (fun _=>True) (fun _=>True) Nod.tp where
 take:=fun _ p l h _ _ _=>by
  unfold Nod.take;split
  ·split
   ·exact Mx h _ _
   ·exact KF h l.bal
  ·simp only;split<;>exact h
  ·exact h
  ·split
   ·exact Mx h _ _
   ·exact SJ h l.vote
  ·exact Vs h _ _
  ·split<;>exact h
  ·simp only;split<;>exact Qr h l.what
  ·exact h
 one:=fun p c h _ _ _=>by unfold Nod.unwant;split<;>exact h
 ask:=fun p h _=>⟨by
  unfold Nod.askd;split
  ·exact h
  ·split
   ·unfold Nod.enqueue;split<;>exact h
   ·exact h,fun _ _=>trivial⟩
 prop:=fun p h _=>by
  unfold Nod.propose;split
  ·exact h
  ·split
   ·exact h
   ·split
    ·exact h
    ·exact SJ h _
 syn:=fun p h _=>by
  unfold Nod.syn;split
  ·show Bd (Hs p.d p.sy) (I0 p.d p.sy);unfold Hs I0;have h':Bd p.d p.sy:=h;rw[if_pos h',if_pos h'];unfold Nod.tp Bd at h;unfold Bd;omega
  ·exact h
 run:=fun p q l h _ _ _=>⟨by
  have hk:=M1 p i q;show Bd (p.runP i q).d (p.runP i q).sy;rw[hk.2.2.1,hk.2.2.2];exact h,fun _ _=>trivial⟩
 teach:=fun p h _ _=>⟨h,fun _ _=>trivial⟩
 lead:=fun _ p h _=>by
  unfold Nod.lead;simp only;split
  ·exact h
  ·exact KF h _
 sub:=fun p d ts h _ _=>by
  unfold Nod.subm Nod.sub0;split
  ·exact h
  ·split
   ·exact h
   ·split
    ·exact h
    ·show(Nod.want _ _).tp;unfold Nod.want;split<;>exact h
 crash:=fun _ p k h hk _=>(Vw h hk).1
 start:=fun _ p h _=>(P5 h).1
def bE:Alw:=⟨true,true,true,true⟩
theorem RK(x:Lac):bE.Ok x:=⟨fun _=>rfl,fun _=>rfl,fun _=>rfl,fun _=>rfl⟩
theorem Yf(L:List Lac)(h:∀ x∈L,LacOk x)(hl:L.length≤100000){i:Nat}(hi:i<5):((Br.acts L).node i).tp :=
 (GInv.acts (R:=fun _=>True) (D:=fun _ _=>True) (Q:=fun _=>True) (P:=fun _=>Nod.tp) (fun i _=>XM bE i) (fun i _=>TInv.all i _ _) L MOk.zero (by omega) ⟨fun _ _=>(by show Bd [] 0;decide),fun _ _=>trivial⟩ trivial fun x hx=>⟨h x hx,RK x,fun _=>trivial⟩).1.node i hi
theorem ST(M:Meet){i:Nat}(hi:i<5)(ht:(M.node i).tp)(j:Nat):((M.act (acN 9 (i:Int))).node j).up=if j=i then true else(M.node j).up:=by
 show(upN M.node (i:Int).toNat _ j).up=_;unfold upN;rw[Int.toNat_natCast];split
 ·split
  ·assumption
  ·exact(P5 ht).2.1
 ·rfl
theorem bB(M:Meet){x:Lac}(h8:x.k≠8){j:Nat}(hu:(M.node j).up=true):((M.act x).node j).up=true:=by
 by_cases h1:x.k=1
 ·have:=congrArg Prod.fst (dF M h1 j);split at this
  ·exact this.trans hu
  ·exact this.trans hu
 ·by_cases h9:x.k=9
  ·unfold Meet.act;simp only;rw[if_neg h1,if_neg (by omega),if_neg (by omega),if_neg (by omega),if_neg (by omega),if_neg (by omega),if_pos h9,Hp];split
   ·rename_i e;rw[← e,if_pos hu];exact hu
   ·exact hu
  ·exact(congrArg Prod.fst (bv M h1 h8 h9 j)).trans hu
theorem Yg(L:List Lac)(h8:∀ x∈L,x.k≠8)(M:Meet){j:Nat}(hu:(M.node j).up=true):((M.acts L).node j).up=true:=by
 induction L generalizing M with
 | nil=>exact hu
 | cons x L ih=>exact ih (fun y hy=>h8 y (List.mem_cons_of_mem _ hy)) _ (bB M (h8 x List.mem_cons_self) hu)
theorem UT(M:Meet)(L K:List Lac):M.acts (L++K)=(M.acts L).acts K:=List.foldl_append
theorem Gl{k n:Int}(h:(k=2∨k=3∨k=9)∧0≤n∧n≤4):LacOk (acN k n):=by
 rw[← GW];rcases h with⟨rfl|rfl|rfl,h1,h2⟩<;>simp[YS,acN,F5,GC,GD]<;>omega
theorem Ku{P:Lac→Prop}{k:Int}(h:∀ n:Nat,n<5→P (acN k (n:Int))){j:Nat}(hj:j≤5):∀ x∈DX k j,P x:=by
 intro x hx;obtain⟨n,hn,rfl⟩:=List.mem_map.1 hx;exact h n (by have:=List.mem_range.1 hn;omega)
theorem Ke{P:Lac→Prop}(h3:∀ n:Nat,n<5→P (acN 3 (n:Int)))(h7:P (acN 7 0))(m:Nat):∀ x∈BX m,P x:=by
 induction m with
 | zero=>intro x hx;cases hx
 | succ m ih =>
  intro x hx;rcases List.mem_append.1 hx with h|h
  ·exact ih x h
  ·rcases List.mem_append.1 h with h|h
   ·exact Ku h3 (Nat.le_refl _) x h
   ·rw[List.mem_singleton.1 h];exact h7
theorem Pu{P:Lac→Prop}(h9:∀ n:Nat,n<5→P (acN 9 (n:Int)))(h3:∀ n:Nat,n<5→P (acN 3 (n:Int)))(h7:P (acN 7 0))(m:Nat):∀ x∈CG m,P x:=by
 intro x hx;rcases List.mem_append.1 hx with h|h
 ·exact Ku h9 (Nat.le_refl _) x h
 ·exact Ke h3 h7 m x h
theorem dm(L:List Lac)(h:∀ x∈L,LacOk x)(m:Nat)(hl:L.length+6*m+5≤100000){j:Nat}(hj:j<5):((Br.acts (L++CG m)).node j).up=true:=by
 unfold CG;rw[← List.append_assoc,UT];refine Yg _ (Ke (fun _ _=>by show(3:Int)≠8;decide) (by decide) m) _ ?_;have hs:∀ k,k≤5→j<k→((Br.acts (L++DX 9 k)).node j).up=true:=by
  intro k;induction k with
  | zero=>intro _ h;omega
  | succ k ih =>
   intro hk hjk;have hok:∀ x∈L++DX 9 k,LacOk x:=fun x hx=>(List.mem_append.1 hx).elim (h x) fun e=>Ku (fun n hn=>Gl ⟨.inr (.inr rfl),by omega,by omega⟩) (by omega) x e;have ht:=Yf (L++DX 9 k) hok (by rw[List.length_append,Wg];omega) (i:=k) (by omega);rw[Io,← List.append_assoc,Ib,ST _ (by omega) ht];split
   ·rfl
   ·exact ih (by omega) (by omega)
 exact hs 5 (Nat.le_refl _) hj
theorem SX{tc tr tu k c s n v now:Int}(h0:0≤now)(h:Du tc tr tu k c s n v now=0):Du tc tr tu k c s n v 0=0:=by
 unfold Du at h ⊢;split at h
 ·cases h
 ·rename_i a1
  rw[if_neg a1];split at h
  ·rename_i a2;exact absurd h a2
  ·rename_i a2
   rw[if_neg a2];split at h
   ·cases h
   ·rename_i a3
    rw[if_neg a3];split at h
    ·cases h
    ·rename_i a4
     rw[if_neg (by omega)]
theorem WG{l:List Int}{now:Int}(h0:0≤now)(h:opE l 0≠0):opE l now≠0:=by
 intro e;apply h;unfold opE at e ⊢;split at e
 ·rename_i a1;exact absurd e a1
 ·rename_i a1
  rw[if_neg a1];split at e
  ·cases e
  ·rename_i a2
   rw[if_neg a2];exact SX h0 e
def cw(c s:Int)(l:List Cmd):Nat:=l.countP fun x=>decide (x.c=c∧x.s=s)
def ct(i:Nat)(c s:Int)(l:List Tol):Nat:=l.countP fun t=>decide (t.n=i∧t.c=c∧t.s=s)
def JH(p:Nod):Prop:=∀ c,(p.asked c).isSome=true→c∈p.wants
theorem Vz{c s:Int}{x:Cmd}{l:List Cmd}(h:x∈l):cw c s (l.erase x)+(if x.c=c∧x.s=s then 1 else 0)=cw c s l:=by
 unfold cw;induction l with
 | nil=>cases h
 | cons y l ih =>
  by_cases e:y=x
  ·subst e;rw[List.erase_cons_head,List.countP_cons];simp
  ·have hm:x∈l:=(List.mem_cons.1 h).resolve_left fun e2=>e e2.symm;rw[List.erase_cons_tail (by simpa using e),List.countP_cons,List.countP_cons,← ih hm];omega
theorem JH.unwant{p:Nod}(h:JH p)(c:Cmd):JH (p.unwant c):=by
 unfold Nod.unwant;split
 ·intro d hd;have hd':(DA p.asked c none d).isSome=true:=hd;unfold DA at hd';split at hd'
  ·cases hd'
  ·rename_i e
   exact(List.mem_erase_of_ne e).2 (h d hd')
 ·exact h
theorem Tp(i:Nat)(c s:Int)(l:List Cmd)(p:Nod)(ts:List Tol)(h:JH p):ct i c s (doP i l p ts).2+cw c s (doP i l p ts).1.wants≤ct i c s ts+cw c s p.wants:=by
 induction l generalizing p ts with
 | nil=>exact Nat.le_refl _
 | cons x l ih =>
  rw[doP];split
  ·exact Nat.le_refl _
  ·have h1:JH { p with sto:=doS p.sto x,done:=p.done+1 }:=h;refine Nat.le_trans (ih _ _ (h1.unwant x)) ?_;unfold Nod.unwant;show ct i c s (if(p.asked x).isSome=true then _ else _)+cw c s (if(p.asked x).isSome=true then _ else _:Nod).wants≤_;split
   ·rename_i ha
    have he:=Vz (c:=c) (s:=s) (h x ha);show ct i c s (ts++_)+cw c s (p.wants.erase x)≤_;unfold ct at *;rw[List.countP_append,List.countP_singleton];simp only[true_and,decide_eq_true_eq];omega
   ·exact Nat.le_refl _
theorem Gd(p:Nod)(b:Bal):(p.promise b).1.wants=p.wants:=by
 unfold Nod.promise;split
 ·rfl
 ·split
  ·rfl
  ·split<;>rfl
theorem Lc(p:Nod)(v:Vt):(p.vote v).1.wants=p.wants:=by
 unfold Nod.vote;split
 ·rfl
 ·split
  ·rfl
  ·split<;>rfl
theorem ID(p:Nod)(j:Nat)(v:Vt):(p.count j v).wants=p.wants:=by
 unfold Nod.count;split
 ·rfl
 ·split<;>rfl
theorem Hj(p:Nod)(to:Nat)(e:Int):(p.refuse to e).wants=p.wants:=by unfold Nod.refuse;split<;>rfl
theorem FZ(p:Nod)(l:List Cmd):(p.enqueue l).wants=p.wants:=by unfold Nod.enqueue;split<;>rfl
theorem R9(p:Nod)(l:Let):(p.take l).wants=p.wants:=by
 unfold Nod.take;split
 ·split
  ·exact Hj _ _ _
  ·exact Gd p l.bal
 ·simp only;split<;>rfl
 ·rfl
 ·split
  ·exact Hj _ _ _
  ·exact Lc p l.vote
 ·exact ID p _ _
 ·split<;>rfl
 ·simp only;split<;>exact FZ p l.what
 ·rfl
theorem Ru(p:Nod)(i:Nat)(q:Pend):(p.runP i q).wants=p.wants:=by
 cases q with
 | began b vs=>unfold Nod.runP;simp only;split<;>rfl
 | prop v=>exact ID p i v
 | _=>rfl
theorem Oz(i:Nat)(l:List Pend)(p:Nod)(ls:List Let):(doneP i l p ls).1.wants=p.wants:=by
 induction l generalizing p ls with
 | nil=>rfl
 | cons q l ih=>exact(ih _ _).trans (Ru p i q)
theorem Pe(p:Nod)(i:Nat)(c s:Int)(ls:List Let)(ts:List Tol)(h:JH p):ct i c s (p.piece i ls ts).2.2+cw c s (p.piece i ls ts).1.wants≤ct i c s ts+cw c s p.wants:=by
 have h1:=Tp i c s (p.agreed.drop p.done) p ts h;unfold Nod.piece;simp only;generalize doP i (p.agreed.drop p.done) p ts=a at h1 ⊢;have e1:(a.1.askd i).1.wants=a.1.wants:=by
  unfold Nod.askd;split
  ·rfl
  ·split
   ·exact FZ _ _
   ·rfl
 generalize a.1.askd i=b at e1 ⊢;have e2:b.1.propose.wants=b.1.wants:=by
  unfold Nod.propose;split
  ·rfl
  ·split
   ·rfl
   ·split
    ·rfl
    ·exact Lc _ _
 generalize b.1.propose=d at e2 ⊢;generalize ls++b.2=k;have e3:(d.syncd i k).1.wants=d.wants:=by
  unfold Nod.syncd;split
  ·rfl
  ·rw[Oz];unfold Nod.syn;split<;>rfl
 generalize d.syncd i k=e at e3 ⊢;have e4:(e.1.taught i e.2).1.wants=e.1.wants:=by unfold Nod.taught;split<;>rfl
 rw[e4,e3,e2,e1];exact h1
theorem Tq{i j:Nat}(hij:j≠i)(c s:Int)(l:List Cmd)(p:Nod)(ts:List Tol):ct i c s (doP j l p ts).2=ct i c s ts:=by
 induction l generalizing p ts with
 | nil=>rfl
 | cons x l ih =>
  rw[doP];split
  ·rfl
  ·rw[ih];split
   ·unfold ct;rw[List.countP_append,List.countP_singleton];simp[hij]
   ·rfl
theorem JX(M:Meet)(l:Let)(j:Nat):((M.come l).node j).wants=(M.node j).wants:=by
 unfold Meet.come;split
 ·show(upN M.node l.dst ((M.node l.dst).take l) j).wants=_;unfold upN;split
  ·rename_i e;rw[e];exact R9 _ _
  ·rfl
 ·rfl
theorem Oq(l:List Let)(M:Meet)(j:Nat):((l.foldl (fun M l=>M.come l) M).node j).wants=(M.node j).wants:=by
 induction l generalizing M with
 | nil=>rfl
 | cons x l ih=>exact(ih _).trans (JX M x j)
theorem I7{f:Nat→Nod}{i j:Nat}{p:Nod}(h:p.wants=(f i).wants∨p.wants=[]):(upN f i p j).wants=(f j).wants∨(upN f i p j).wants=[]:=by
 unfold upN;split
 ·rename_i e;rw[e];exact h
 ·exact .inl rfl
theorem SV(M:Meet){x:Lac}(h1:x.k≠1)(h3:x.k≠3)(j:Nat):((M.act x).node j).wants=(M.node j).wants∨((M.act x).node j).wants=[]:=by
 unfold Meet.act;simp only;split
 ·exact absurd (by assumption) h1
 ·split
  ·refine I7 (.inl ?_);split
   ·unfold Nod.lead;simp only;split
    ·rfl
    ·exact Gd _ _
   ·rfl
  ·split
   ·left;unfold Meet.move;split
    ·rfl
    ·simp only;split
     ·rw[JX];split<;>rfl
     ·split<;>rfl
   ·split
    ·left;unfold Meet.comeAll;exact Oq _ { M with lets:=[] } j
    ·split
     ·refine I7 ?_;split
      ·unfold Nod.crash;split
       ·exact .inl rfl
       ·exact .inr rfl
      ·exact .inl rfl
     ·split
      ·refine I7 ?_;split
       ·exact .inl rfl
       ·unfold Nod.start;split
        ·exact .inl rfl
        ·split<;>exact .inr rfl
      ·exact .inl rfl
def Bq(i:Nat)(c s:Int)(x:Lac):Bool:=decide (x.k=1∧x.n=(i:Int)∧opE x.d 0=0∧(DY x.d 0).c=c∧(DY x.d 0).s=s)
theorem TW{l:List Int}{now:Int}(h0:0≤now)(h:opE l now=0):opE l 0=0∧DY l 0=DY l now:=by
 have h2:opE l 0=0:=Decidable.byContradiction fun e=>WG h0 e h;exact⟨h2,by unfold DY;rw[if_pos h,if_pos h2]⟩
theorem SS(M:Meet)(hA:∀ j,j<5→JH (M.node j)){x:Lac}(hx:LacOk x){i:Nat}(hi:i<5)(c s:Int):ct i c s (M.act x).told+cw c s ((M.act x).node i).wants≤ct i c s M.told+cw c s (M.node i).wants+(if Bq i c s x then 1 else 0):=by
 by_cases h1:x.k=1
 ·have hn:=hx.n (by rw[h1];rfl);unfold Meet.act;simp only;rw[if_pos h1];show ct i c s (Nod.subm _ _ _ _).2+cw c s (upN M.node x.n.toNat (Nod.subm _ _ _ _).1 i).wants≤_;by_cases hj:i=x.n.toNat
  ·have hxi:x.n=(i:Int):=by omega
   have hup:∀ p,upN M.node x.n.toNat p i=p:=fun p=>by unfold upN;rw[if_pos hj]
   rw[hup,← hj];unfold Nod.subm Nod.sub0;split
   ·exact Nat.le_add_right _ _
   ·split
    ·exact Nat.le_add_right _ _
    ·rename_i he
     obtain⟨g1,g2⟩:=TW (l:=x.d) (Int.natCast_nonneg (M.node i).done) (Decidable.not_not.1 he);have hcb:Bq i c s x=decide ((DY x.d ((M.node i).done:Int)).c=c∧(DY x.d ((M.node i).done:Int)).s=s):=by
      unfold Bq;rw[g2];simp[h1,hxi,g1]
     rw[hcb];generalize DY x.d ((M.node i).done:Int)=d;split
     ·show ct i c s (M.told++_)+_≤_;unfold ct;rw[List.countP_append,List.countP_singleton];simp only[true_and];omega
     ·show ct i c s M.told+cw c s (Nod.want _ _).wants≤_;unfold Nod.want;split
      ·omega
      ·show ct i c s M.told+cw c s ((M.node i).wants++[d])≤_;unfold cw;rw[List.countP_append,List.countP_singleton];omega
  ·have hup:∀ p,upN M.node x.n.toNat p i=M.node i:=fun p=>by unfold upN;rw[if_neg hj]
   rw[hup];unfold Nod.subm Nod.sub0;split
   ·exact Nat.le_add_right _ _
   ·split
    ·exact Nat.le_add_right _ _
    ·split
     ·show ct i c s (M.told++_)+_≤_;unfold ct;rw[List.countP_append,List.countP_singleton,if_neg (by simp;intro e;exact absurd e.symm hj)];omega
     ·exact Nat.le_add_right _ _
 ·have hcb:Bq i c s x=false:=decide_eq_false fun e=>h1 e.1;rw[hcb];by_cases h3:x.k=3
  ·unfold Meet.act;simp only;rw[if_neg h1,if_neg (by omega),if_pos h3];show ct i c s (if _ then _ else M.told)+cw c s (upN M.node x.n.toNat _ i).wants≤_;by_cases hj:i=x.n.toNat
   ·rw[← hj];have hup:∀ p,upN M.node i p i=p:=fun p=>by unfold upN;rw[if_pos rfl]
    rw[hup];split
    ·exact Pe _ _ _ _ _ _ (hA i hi)
    ·exact Nat.le_refl _
   ·have hup:∀ p,upN M.node x.n.toNat p i=M.node i:=fun p=>by unfold upN;rw[if_neg hj]
    rw[hup];split
    ·have:=Tq (i:=i) (j:=x.n.toNat) (fun e=>hj e.symm) c s ((M.node x.n.toNat).agreed.drop (M.node x.n.toNat).done) (M.node x.n.toNat) M.told;show ct i c s (doP _ _ _ _).2+_≤_;rw[this];exact Nat.le_refl _
    ·exact Nat.le_refl _
  ·rw[NR M h1 h3];rcases SV M h1 h3 i with h|h
   ·rw[h];exact Nat.le_refl _
   ·rw[h];show _+0≤_;omega
theorem bW(L:List Lac)(h:∀ x∈L,LacOk x)(hl:L.length≤100000){i:Nat}(hi:i<5)(c s:Int):ct i c s (Br.acts L).told≤L.countP (Bq i c s):=by
 have key:∀ k,k≤L.length→ct i c s (Br.acts (L.take k)).told+cw c s ((Br.acts (L.take k)).node i).wants≤(L.take k).countP (Bq i c s):=by
  intro k;induction k with
  | zero=>intro _;exact Nat.le_refl _
  | succ k ih =>
   intro hk;have hm:∀ x∈L.take k,LacOk x:=fun x hx=>h x (List.mem_of_mem_take hx);have hM:=NT (L.take k) hm (by rw[List.length_take];omega);have:=SS (Br.acts (L.take k)) (fun j hj=>(hM.node j hj).ask) (h L[k] (List.getElem_mem (by omega))) hi c s;rw[List.take_add_one,List.getElem?_eq_getElem (show k<L.length by omega),Option.toList_some,Ib,List.countP_append,List.countP_singleton];have:=ih (by omega);omega
 have:=key L.length (Nat.le_refl _);rw[List.take_length]at this
 omega
end
section
open Go.RowKit
theorem UO{n many c:Int}{w:World}(h:I64 n)(hc:pick n many=c)(hm:0<many:=by decide)(hm2:many≤9223372036854775807:=by decide) :
  Calls prog 7 #[iv n,iv many] w fun e w'=>e=.returned (iv c)∧Bw w w':=by subst hc;exact BD h many hm hm2
theorem Zh{v:S3}{l:List Int}{now:Int}{w:World}(h:Sl w v.v l)(hT:Tabs w){c:Cmd}(hc:DY l now=c){E:Int}(hE:opE l now=E) :
  Calls prog 8 #[v.v,iv now] w fun e w'=>e=.returned (.tuple #[.agg #[iv c.k,iv c.c,iv c.s,iv c.n,iv c.v],iv E])∧Bw w w':=by
 subst hc hE;have:=Ml v.v l now w h hT.t hT.q hT.n;rw[WE]at this
 exact this
theorem Yx{l:List Tol}{k:Nat}{t:Tol}(h:l[k]?=some t)(i:Nat)(c s:Int):ct i c s (l.take (k+1))=ct i c s (l.take k)+if t.n=i∧t.c=c∧t.s=s then 1 else 0:=by
 unfold ct;rw[List.take_add_one,h,Option.toList_some,List.countP_append,List.countP_singleton];simp
theorem Tc{l:List Lac}{k:Nat}{x:Lac}(h:l[k]?=some x)(i:Nat)(c s:Int):(l.take (k+1)).countP (Bq i c s)=(l.take k).countP (Bq i c s)+if Bq i c s x then 1 else 0:=by
 rw[List.take_add_one,h,Option.toList_some,List.countP_append,List.countP_singleton]
theorem fK(L:List Lac)(h:∀ x∈L,LacOk x)(hl:L.length≤100000):∀ t∈(Br.acts L).told,t.n<5 :=
 (GInv.acts (R:=fun ts=>∀ t∈ts,t.n<5) (D:=fun _ _=>True) (Q:=fun _=>True) (P:=fun _=>Nod.tp) (fun i _=>XM bE i) (fun i hi=>⟨fun _ _ _ _ _ _ _ _ hr t ht=>(List.mem_append.1 ht).elim (hr t) fun e=>by rw[List.mem_singleton.1 e];exact hi,fun _ _ _ _ _ _ _ _ hr t ht=>(List.mem_append.1 ht).elim (hr t) fun e=>by rw[List.mem_singleton.1 e];exact hi⟩) L MOk.zero (by omega) ⟨fun _ _=>(by show Bd [] 0;decide),fun _ _=>trivial⟩ (fun t ht=>by cases ht) fun x hx=>⟨h x hx,RK x,fun _=>trivial⟩).2.1
theorem KO{P:Lac→Prop}(h9:∀ n:Nat,n<5→P (acN 9 (n:Int)))(h3:∀ n:Nat,n<5→P (acN 3 (n:Int)))(h7:P (acN 7 0)){i:Int}(h2:P (acN 2 i))(l:List Lac):∀ x∈Ea l i,P x:=by
 have hh:∀ m,∀ x∈El m i,P x:=fun m x hx=>by
  rcases List.mem_append.1 hx with hx|hx
  ·rcases List.mem_append.1 hx with hx|hx
   ·exact Pu h9 h3 h7 0 x hx
   ·rw[List.mem_singleton.1 hx];exact h2
  ·exact Pu h9 h3 h7 m x hx
 intro x hx;exact(List.mem_append.1 hx).elim (hh _ x) (hh _ x)
theorem Py(l:List Lac)(i:Int):(Ea l i).length≤1222+240*l.length:=by
 have h1:(l.filter hvy).length≤l.length:=List.length_filter_le _ _;have h2:∀ m,(CG m).length=5+6*m:=fun m=>by unfold CG;rw[List.length_append,Gp];rfl
 unfold Ea El CA;simp only[List.length_append,h2,List.length_singleton];omega
theorem dy(L:List Lac)(h:∀ x∈L,LacOk x)(hl:L.length≤200){i:Nat}(hi:i<5):((Br.acts (L++Ea L (i:Int))).node 0).up=true:=by
 have h1:=Py L (i:Int);have hk:∀ x∈Ea L (i:Int),LacOk x:=KO (fun n hn=>Gl ⟨.inr (.inr rfl),by omega,by omega⟩) (fun n hn=>Gl ⟨.inr (.inl rfl),by omega,by omega⟩) (by rw[← GW];decide) (Gl ⟨.inl rfl,by omega,by omega⟩) L;have e:L++Ea L (i:Int)=(L++(El (CA L) (i:Int)++(CG 0++[acN 2 (i:Int)])))++CG (CA L):=by unfold Ea;rw[show El (CA L) (i:Int)=CG 0++[acN 2 (i:Int)]++CG (CA L)from rfl];simp only[List.append_assoc]
 have hle:(L++(El (CA L) (i:Int)++(CG 0++[acN 2 (i:Int)]))).length+(5+6*CA L)=L.length+(Ea L (i:Int)).length:=by
  have:=congrArg List.length e;rw[List.length_append,List.length_append,show(CG (CA L)).length=5+6*CA L by unfold CG;rw[List.length_append,Gp];rfl]at this
  exact this.symm
 rw[e];refine dm _ (fun x hx=>?_) (CA L) (by omega) (by decide);have:x∈L++Ea L (i:Int):=by rw[e];exact List.mem_append_left _ hx
 exact(List.mem_append.1 this).elim (h x) (hk x)
theorem LK{l:S3}{G:List Gr}{ld:Int}{w:World}(h:RdV w l 5 (grL G))(hG:∀ g∈G,GrOk g)(hld:I64 ld)(hT:SR w) :
  Calls prog 3 #[l.v,iv ld] w fun e w'=>e=.returned (.bool true)∧Bw w w':=by
 obtain⟨L,hL⟩:∃ L,scr G 100 true=L:=⟨_,rfl⟩;have hok:=dx G 100 true;have hln:=ZI G 100 true;rw[hL]at hok hln
 have hr:=AR ld 5 (by omega);obtain⟨n,hn,hn5⟩:∃ n:Nat,pick ld 5=(n:Int)∧n<5:=⟨(pick ld 5).toNat,by omega,by omega⟩;have hq1:=Py L (n:Int);have hqk:∀ x∈Ea L (n:Int),LacOk x∧x.k≠1:=KO (fun n hn=>⟨Gl ⟨.inr (.inr rfl),by omega,by omega⟩,by show(9:Int)≠1;decide⟩) (fun n hn=>⟨Gl ⟨.inr (.inl rfl),by omega,by omega⟩,by show(3:Int)≠1;decide⟩) ⟨by rw[← GW];decide,by decide⟩ ⟨Gl ⟨.inl rfl,by omega,by omega⟩,by show(2:Int)≠1;decide⟩ L;have hup:=dy L hok (by omega) hn5;have hoks:∀ x∈L++Ea L (n:Int),LacOk x:=fun x hx=>(List.mem_append.1 hx).elim (hok x) fun e=>(hqk x e).1;have hls:(L++Ea L (n:Int)).length≤100000:=by rw[List.length_append];omega
 have hcnt:∀ i c s,i<5→ct i c s (Br.acts (L++Ea L (n:Int))).told≤L.countP (Bq i c s):=fun i c s hi=>by
  have h1:=bW _ hoks hls hi c s;rw[List.countP_append,show(Ea L (n:Int)).countP (Bq i c s)=0 from List.countP_eq_zero.2 fun x hx e=>(hqk x hx).2 (of_decide_eq_true e).1]at h1
  omega
 have ht5:=fK _ hoks hls;have hmt:=(NT _ hoks hls).told;obtain⟨M,hM⟩:∃ M,Br.acts (L++Ea L (n:Int))=M:=⟨_,rfl⟩;rw[hM]at hup hcnt ht5 hmt
 refine tIn [] func3 trivial ?_;refine tR 7 [] fun σ1 _ _=>?_;refine tC 1 (fun F C=>Uq (most:=100) (cr:=true) (h.below (CgQ.below C)) hG (by decide) (tbA hT.1 C)) fun Nz=>?_;rintro _ _ ⟨s,P,rfl,hP,hN,b2⟩;refine⟨_,Fa.ac s P::_,rfl,b2,fun F=>⟨hN.ac Nz,F⟩,?_⟩;rw[hL]at hP
 have hPl:P.length=L.length:=by rw[← hP,List.length_map]
 refine tF fun F _=>?_;have hsn:=(AcR.of F.1 hP).n;refine tR 6 [] fun σ3 _ _=>?_;refine tC 2 (fun F C=>UO hld hn) fun Nz=>?_;rintro _ _ ⟨rfl,b4⟩;refine⟨_,_,rfl,b4,id,?_⟩;refine tC 3 (fun F C=>Ry (n:=(n:Int)) (AcR.of F.1 hP) (by omega)) fun Nz=>?_;rintro _ _ ⟨z,rfl,hz,b6⟩;refine⟨_,Fa.ac z (P++rnP (Ea L (n:Int)))::_,rfl,b6,fun F=>⟨⟨hz.fz Nz,Dat.app F.1.2 (Nt _ _ (KO (P:=fun a=>a.d=[]) (fun _ _=>rfl) (fun _ _=>rfl) rfl rfl L))⟩,F⟩,?_⟩;have hPr:(P++rnP (Ea L (n:Int))).map (·.1)=L++Ea L (n:Int):=by rw[List.map_append,hP,ZB]
 refine tC 4 (fun F C=>dk (AcR.of F.1 hPr) hoks hls (tb5 hT C) hM hup) fun Nz=>?_;rintro _ _ ⟨ly,tv,ys,rfl,hW,hO,b8⟩;refine⟨_,[Fa.ot ly tv ys M,Fa.ac s P],rfl,b8,fun F=>⟨Su hW hO Nz,F.2.1,trivial⟩,?_⟩;refine tF fun F _=>?_;have htn:=aZ F.1.told.rd;refine tR 13 [1,0,0,0] fun σ9 _ _=>?_;refine ES 136 [(5,S3.v s),(6,pt (σ9 0) 0),(7,.bool true),(8,iv 0)] [true] [⟨(σ9 0),.cells #[iv (M.lets.length:Int),.bool true,.bool (M.node 1).up,.bool (M.node 2).up,.bool (M.node 3).up,.bool (M.node 4).up,S3.v ly,iv ((M.node 0).bad:Int),iv ((M.node 1).bad:Int),iv ((M.node 2).bad:Int),iv ((M.node 3).bad:Int),iv ((M.node 4).bad:Int),S3.v tv] 30,.l,false⟩] [Fa.ot ly tv ys M,Fa.ac s P] (fun kk ee LL ΦΦ=>∃ (i:Nat),kk=M.told.length-i∧ee=[(5,S3.v s),(6,pt (σ9 0) 0),(7,.bool true),(8,iv (i:Int))]∧LL=[⟨(σ9 0),.cells (KA M ly tv) 30,.l,false⟩]∧ΦΦ=[Fa.ot ly tv ys M,Fa.ac s P]∧i≤M.told.length) (M.told.length) ⟨0,rfl,rfl,rfl,rfl,by omega⟩ (fun F=>⟨F.1,F.2.1,trivial⟩) ?_;rintro k _ _ _ ⟨i,rfl,rfl,rfl,rfl,hi⟩ _ _ _ J hJ;refine tR 9 [0] fun σ10 _ _=>?_;by_cases h1:i<M.told.length
 ·refine tI ((decide ((i:Int)<(tv.n:Int)))) true (decide_eq_true (by omega)) ?_;obtain⟨tt,htt⟩:∃ tt,M.told[i]?=some tt:=⟨_,List.getElem?_eq_getElem (by omega)⟩;have htt5:=ht5 tt (List.mem_of_getElem? htt);have hct:=hcnt tt.n tt.c tt.s htt5;refine tF fun F _=>?_;obtain⟨tb,tof,hta,_⟩:=F.1.told.rd.spot (i:=i) (by omega);refine tR 8 [0] fun σ11 _ _=>?_;refine tV 3 (pt tb (tof+5*i)) (fun F C=>(Sz hta i (by omega))) ?_;refine tV 4 (.agg #[iv (tt.n:Int),iv tt.c,iv tt.s,iv tt.e,iv tt.a]) (fun F C=>(gk tt fun j u hu=>NG F.1.told.rd hta htt hu)) ?_;refine tR 17 [1,0,1,0] fun σ13 _ _=>?_;refine ES 136 [(5,S3.v s),(6,pt (σ9 0) 0),(7,.bool true),(8,iv (i:Int)),(9,pt (σ13 0) 0),(10,iv 0),(11,iv 0),(12,iv 0)] [true,true] [⟨(σ9 0),.cells (KA M ly tv) 30,.l,false⟩,⟨(σ13 0),.cells #[iv (tt.n:Int),iv tt.c,iv tt.s,iv tt.e,iv tt.a] 39,.l,false⟩] [Fa.ot ly tv ys M,Fa.ac s P] (fun kk ee LL ΦΦ=>∃ (k:Nat),kk=M.told.length-k∧ee=[(5,S3.v s),(6,pt (σ9 0) 0),(7,.bool true),(8,iv (i:Int)),(9,pt (σ13 0) 0),(10,iv (ct tt.n tt.c tt.s (M.told.take k):Int)),(11,iv 0),(12,iv (k:Int))]∧LL=[⟨(σ9 0),.cells (KA M ly tv) 30,.l,false⟩,⟨(σ13 0),.cells #[iv (tt.n:Int),iv tt.c,iv tt.s,iv tt.e,iv tt.a] 39,.l,false⟩]∧ΦΦ=[Fa.ot ly tv ys M,Fa.ac s P]∧k≤M.told.length) (M.told.length) ⟨0,rfl,rfl,rfl,rfl,by omega⟩ (fun F=>⟨F.1,F.2.1,trivial⟩) ?_;rintro k _ _ _ ⟨k,rfl,rfl,rfl,rfl,hk⟩ _ _ _ JK hJK;refine tR 9 [0] fun σ14 _ _=>?_;by_cases h5:k<M.told.length
  ·refine tI ((decide ((k:Int)<(tv.n:Int)))) true (decide_eq_true (by omega)) ?_;obtain⟨ta,hta2⟩:∃ ta,M.told[k]?=some ta:=⟨_,List.getElem?_eq_getElem (by omega)⟩;have hck:=Yx hta2 tt.n tt.c tt.s;have hcl:ct tt.n tt.c tt.s (M.told.take k)≤k:=Nat.le_trans List.countP_le_length (by rw[List.length_take];omega);refine tR 4 [] fun σ15 _ _=>?_;refine LG 136 (fun ee LL ΦΦ=>∃ (cc:Bool),ee=[(5,S3.v s),(6,pt (σ9 0) 0),(7,.bool true),(8,iv (i:Int)),(9,pt (σ13 0) 0),(10,iv (ct tt.n tt.c tt.s (M.told.take k):Int)),(11,iv 0),(12,iv (k:Int)),(75,.bool cc)]∧LL=[⟨(σ9 0),.cells (KA M ly tv) 30,.l,false⟩,⟨(σ13 0),.cells #[iv (tt.n:Int),iv tt.c,iv tt.s,iv tt.e,iv tt.a] 39,.l,false⟩]∧ΦΦ=[Fa.ot ly tv ys M,Fa.ac s P]∧cc=decide (ta.n=tt.n∧ta.c=tt.c∧ta.s=tt.s)) (fun J hJ=>?_) ?_
   ·refine tR 4 [31,0,2,0,4] fun σ16 _ _=>?_;refine tT 3 (pt tb (tof+5*k)) (fun _=>(Sz hta k (by omega))) ?_;refine tR 3 [8,12,14,1] fun σ17 _ _=>?_;refine tF fun F _=>?_;refine tV 5 (iv (ta.n:Int)) (fun F C=>(Cx underlying3 rfl (NG F.1.told.rd hta hta2 (j:=0) rfl))) ?_;by_cases e1:ta.n=tt.n
    ·refine tT 8 (.bool true) (fun _=>(Cw (t:=3) (m:=(ta.n:Int)) (n:=(tt.n:Int)) (x:=(.tmp 50)) (y:=(.tmp 52)) (by simp[e1]))) ?_;refine tR 4 [18,20,22,0,24] fun σ19 _ _=>?_;refine tT 13 (pt tb (tof+5*k)) (fun _=>(Sz hta k (by omega))) ?_;refine tR 3 [28,32,34,1] fun σ20 _ _=>?_;refine tF fun F _=>?_;refine tV 15 (iv ta.c) (fun F C=>(Cx underlying3 rfl (NG F.1.told.rd hta hta2 (j:=1) rfl))) ?_;by_cases e2:ta.c=tt.c
     ·refine tT 18 (.bool true) (fun _=>(Cw (t:=3) (m:=ta.c) (n:=tt.c) (x:=(.tmp 60)) (y:=(.tmp 62)) (by simpa using e2))) ?_;refine tR 5 [38,40,42,44,0,46] fun σ22 _ _=>?_;refine tT 24 (pt tb (tof+5*k)) (fun _=>(Sz hta k (by omega))) ?_;refine tR 3 [50,54,56,1] fun σ23 _ _=>?_;refine tF fun F _=>?_;refine tV 26 (iv ta.s) (fun F C=>(Cx underlying3 rfl (NG F.1.told.rd hta hta2 (j:=2) rfl))) ?_;by_cases e3:ta.s=tt.s
      ·refine tT 29 (.bool true) (fun _=>(Cw (t:=3) (m:=ta.s) (n:=tt.s) (x:=(.tmp 71)) (y:=(.tmp 73)) (by simpa using e3))) ?_;refine tR 2 [60] fun σ25 _ _=>?_;exact tD hJ [true,true] ⟨true,rfl,rfl,rfl,(decide_eq_true ⟨e1,e2,e3⟩).symm⟩ (fun F=>⟨F.1,F.2.1,trivial⟩)
      ·refine tT 29 (.bool false) (fun _=>(Cw (t:=3) (m:=ta.s) (n:=tt.s) (x:=(.tmp 71)) (y:=(.tmp 73)) (by simp;omega))) ?_;refine tR 2 [60] fun σ26 _ _=>?_;exact tD hJ [true,true] ⟨false,rfl,rfl,rfl,(decide_eq_false fun e=>e3 e.2.2).symm⟩ (fun F=>⟨F.1,F.2.1,trivial⟩)
     ·refine tT 18 (.bool false) (fun _=>(Cw (t:=3) (m:=ta.c) (n:=tt.c) (x:=(.tmp 60)) (y:=(.tmp 62)) (by simp;omega))) ?_;refine tR 13 [38,40,42,44,46,48,50,52,54,56,58,60] fun σ27 _ _=>?_;exact tD hJ [true,true] ⟨false,rfl,rfl,rfl,(decide_eq_false fun e=>e2 e.2.1).symm⟩ (fun F=>⟨F.1,F.2.1,trivial⟩)
    ·refine tT 8 (.bool false) (fun _=>(Cw (t:=3) (m:=(ta.n:Int)) (n:=(tt.n:Int)) (x:=(.tmp 50)) (y:=(.tmp 52)) (by simp;omega))) ?_;refine tR 23 [18,20,22,24,26,28,30,32,34,36,38,40,42,44,46,48,50,52,54,56,58,60] fun σ28 _ _=>?_;exact tD hJ [true,true] ⟨false,rfl,rfl,rfl,(decide_eq_false fun e=>e1 e.1).symm⟩ (fun F=>⟨F.1,F.2.1,trivial⟩)
   rintro _ _ _ ⟨cc,rfl,rfl,rfl,hcc⟩ _ _ _;by_cases h6:ta.n=tt.n∧ta.c=tt.c∧ta.s=tt.s
   ·refine tI (cc) true (by rw[hcc];exact decide_eq_true h6) ?_;refine tR 2 [] fun σ30 _ _=>?_;rw[if_pos h6]at hck
    refine tV 1 (iv (ct tt.n tt.c tt.s (M.told.take (k+1)):Int)) (fun F C=>((show((ct tt.n tt.c tt.s (M.told.take k):Int)+1)=(ct tt.n tt.c tt.s (M.told.take (k+1)):Int)by omega)▸AB (x:=(.tmp 76)) (y:=(.const (iv 1))) (ct tt.n tt.c tt.s (M.told.take k):Int) 1 underlying3 (by omega))) ?_;refine tR 5 [] fun σ31 _ _=>?_;refine tV 1 (iv ((k:Int)+1)) (fun F C=>(AB (x:=(.tmp 43)) (y:=(.const (iv 1))) (k:Int) 1 underlying3 (by omega))) ?_;refine tR 2 [] fun σ32 _ _=>?_;exact tB hJK (M.told.length-(k+1)) (by omega) [true,true] ⟨k+1,rfl,rfl,rfl,rfl,by omega⟩ (fun F=>⟨F.1,F.2.1,trivial⟩)
   ·refine tI (cc) false (by rw[hcc];exact decide_eq_false h6) ?_;have hcz:ct tt.n tt.c tt.s (M.told.take (k+1))=ct tt.n tt.c tt.s (M.told.take k):=by rw[hck,if_neg h6];rfl
    rw[← hcz];refine tR 4 [] fun σ33 _ _=>?_;refine tV 1 (iv ((k:Int)+1)) (fun F C=>(AB (x:=(.tmp 43)) (y:=(.const (iv 1))) (k:Int) 1 underlying3 (by omega))) ?_;refine tR 2 [] fun σ34 _ _=>?_;exact tB hJK (M.told.length-(k+1)) (by omega) [true,true] ⟨k+1,rfl,rfl,rfl,rfl,by omega⟩ (fun F=>⟨F.1,F.2.1,trivial⟩)
  ·refine tI ((decide ((k:Int)<(tv.n:Int)))) false (decide_eq_false (by omega)) ?_;obtain rfl:k=M.told.length:=by omega
   rw[List.take_length];refine tR 7 [] fun σ35 _ _=>?_;refine ES 136 [(5,S3.v s),(6,pt (σ9 0) 0),(7,.bool true),(8,iv (i:Int)),(9,pt (σ13 0) 0),(10,iv (ct tt.n tt.c tt.s M.told:Int)),(11,iv 0),(13,iv 0)] [true,true] [⟨(σ9 0),.cells (KA M ly tv) 30,.l,false⟩,⟨(σ13 0),.cells #[iv (tt.n:Int),iv tt.c,iv tt.s,iv tt.e,iv tt.a] 39,.l,false⟩] [Fa.ot ly tv ys M,Fa.ac s P] (fun kk ee LL ΦΦ=>∃ (k:Nat),kk=L.length-k∧ee=[(5,S3.v s),(6,pt (σ9 0) 0),(7,.bool true),(8,iv (i:Int)),(9,pt (σ13 0) 0),(10,iv (ct tt.n tt.c tt.s M.told:Int)),(11,iv ((L.take k).countP (Bq tt.n tt.c tt.s):Int)),(13,iv (k:Int))]∧LL=[⟨(σ9 0),.cells (KA M ly tv) 30,.l,false⟩,⟨(σ13 0),.cells #[iv (tt.n:Int),iv tt.c,iv tt.s,iv tt.e,iv tt.a] 39,.l,false⟩]∧ΦΦ=[Fa.ot ly tv ys M,Fa.ac s P]∧k≤L.length) (L.length) ⟨0,rfl,rfl,rfl,rfl,by omega⟩ (fun F=>⟨F.1,F.2.1,trivial⟩) ?_;rintro k _ _ _ ⟨k,rfl,rfl,rfl,rfl,hk⟩ _ _ _ JC hJC;refine tR 8 [] fun σ36 _ _=>?_;by_cases h5:k<L.length
   ·refine tI ((decide ((k:Int)<(s.n:Int)))) true (decide_eq_true (by omega)) ?_;obtain⟨⟨a,yd⟩,ha⟩:∃ a,P[k]?=some a:=⟨_,List.getElem?_eq_getElem (by omega)⟩;have haL:L[k]?=some a:=by rw[← hP,List.getElem?_map,ha];rfl
    have hck:=Tc haL tt.n tt.c tt.s;have hcl:(L.take k).countP (Bq tt.n tt.c tt.s)≤k:=Nat.le_trans List.countP_le_length (by rw[List.length_take];omega);refine tF fun F _=>?_;obtain⟨b,off,hxa,_,hin⟩:=aJ F.2.1 ha;refine tR 5 [] fun σ37 _ _=>?_;refine LG 136 (fun ee LL ΦΦ=>∃ (cc:Bool),ee=[(5,S3.v s),(6,pt (σ9 0) 0),(7,.bool true),(8,iv (i:Int)),(9,pt (σ13 0) 0),(10,iv (ct tt.n tt.c tt.s M.told:Int)),(11,iv ((L.take k).countP (Bq tt.n tt.c tt.s):Int)),(13,iv (k:Int)),(99,.bool cc)]∧LL=[⟨(σ9 0),.cells (KA M ly tv) 30,.l,false⟩,⟨(σ13 0),.cells #[iv (tt.n:Int),iv tt.c,iv tt.s,iv tt.e,iv tt.a] 39,.l,false⟩]∧ΦΦ=[Fa.ot ly tv ys M,Fa.ac s P]∧(cc=true↔¬ (a.k=1∧a.n=(tt.n:Int)))) (fun J hJ=>?_) ?_
    ·refine tR 3 [16,0,2] fun σ38 _ _=>?_;refine tT 2 (pt b (off+5*k)) (fun _=>(Mu (c:=s.c) hxa k hin)) ?_;refine tR 1 [6] fun σ39 _ _=>?_;refine tF fun F _=>?_;refine tV 4 (iv a.k) (fun F C=>(Cx underlying3 rfl (acK F.2.1 hxa ha))) ?_;by_cases e1:a.k=1
     ·refine tT 5 (.bool false) (fun _=>(EW (t:=3) (m:=a.k) (n:=1) (x:=(.tmp 88)) (y:=(.const (iv 1))) (by simp[e1]))) ?_;refine tR 3 [12,14,16] fun σ41 _ _=>?_;refine tT 9 (pt b (off+5*k)) (fun _=>(Mu (c:=s.c) hxa k hin)) ?_;refine tR 3 [20,24,26,1] fun σ42 _ _=>?_;refine tF fun F _=>?_;refine tV 11 (iv a.n) (fun F C=>(Cx underlying3 rfl (fX F.2.1 hxa ha))) ?_;refine tT 14 (.bool (a.n != (tt.n:Int))) (fun _=>(EW (t:=3) (m:=a.n) (n:=(tt.n:Int)) (x:=(.tmp 95)) (y:=(.tmp 97)) rfl)) ?_;refine tR 2 [30] fun σ44 _ _=>?_;exact tD hJ [true,true] ⟨(a.n != (tt.n:Int)),rfl,rfl,rfl,(by simp[e1])⟩ (fun F=>⟨F.1,F.2.1,trivial⟩)
     ·refine tT 5 (.bool true) (fun _=>(EW (t:=3) (m:=a.k) (n:=1) (x:=(.tmp 88)) (y:=(.const (iv 1))) (by simpa using e1))) ?_;refine tR 11 [12,14,16,18,20,22,24,26,28,30] fun σ45 _ _=>?_;exact tD hJ [true,true] ⟨true,rfl,rfl,rfl,(by simp[e1])⟩ (fun F=>⟨F.1,F.2.1,trivial⟩)
    rintro _ _ _ ⟨cc,rfl,rfl,rfl,hcc⟩ _ _ _;by_cases h6:¬ (a.k=1∧a.n=(tt.n:Int))
    ·refine tI (cc) true (hcc.2 h6) ?_;have hcz:(L.take (k+1)).countP (Bq tt.n tt.c tt.s)=(L.take k).countP (Bq tt.n tt.c tt.s):=by rw[hck,if_neg (fun e=>h6 ⟨(of_decide_eq_true e).1,(of_decide_eq_true e).2.1⟩)];rfl
     rw[← hcz];refine tR 3 [] fun σ47 _ _=>?_;refine tV 1 (iv ((k:Int)+1)) (fun F C=>(AB (x:=(.tmp 82)) (y:=(.const (iv 1))) (k:Int) 1 underlying3 (by omega))) ?_;refine tR 2 [] fun σ48 _ _=>?_;exact tB hJC (L.length-(k+1)) (by omega) [true,true] ⟨k+1,rfl,rfl,rfl,rfl,by omega⟩ (fun F=>⟨F.1,F.2.1,trivial⟩)
    ·have h6:=Decidable.not_not.1 h6;refine tI (cc) false (by cases cc with|false=>rfl|true=>exact absurd h6 (hcc.1 rfl)) ?_;refine tR 5 [] fun σ49 _ _=>?_;refine tV 2 (pt b (off+5*k)) (fun F C=>(Mu (c:=s.c) hxa k hin)) ?_;refine tR 1 [] fun σ50 _ _=>?_;refine tF fun F _=>?_;refine tV 4 (S3.v yd) (fun F C=>(Cx underlying40 rfl (acS F.2.1 hxa ha 4 _ rfl))) ?_;obtain⟨c,hc⟩:∃ c,DY a.d 0=c:=⟨_,rfl⟩;obtain⟨E,hE⟩:∃ E,opE a.d 0=E:=⟨_,rfl⟩;have hcb:Bq tt.n tt.c tt.s a=decide (E=0∧c.c=tt.c∧c.s=tt.s):=by unfold Bq;rw[hc,hE];simp[h6.1,h6.2]
     refine tC 5 (fun F C=>Zh (F.2.1.2 _ (List.mem_of_getElem? ha)).s (tbA hT.1 C) hc hE) fun Nz=>?_;rintro _ _ ⟨rfl,b52⟩;refine⟨_,_,rfl,b52,id,?_⟩;refine tR 8 [1,0,2,0] fun σ53 _ _=>?_;refine LG 136 (fun ee LL ΦΦ=>∃ (cd:Bool),ee=[(5,S3.v s),(6,pt (σ9 0) 0),(7,.bool true),(8,iv (i:Int)),(9,pt (σ13 0) 0),(10,iv (ct tt.n tt.c tt.s M.told:Int)),(11,iv ((L.take k).countP (Bq tt.n tt.c tt.s):Int)),(13,iv (k:Int)),(124,.bool cd)]∧LL=[⟨(σ9 0),.cells (KA M ly tv) 30,.l,false⟩,⟨(σ13 0),.cells #[iv (tt.n:Int),iv tt.c,iv tt.s,iv tt.e,iv tt.a] 39,.l,false⟩]∧ΦΦ=[Fa.ot ly tv ys M,Fa.ac s P]∧cd=decide (E=0∧c.c=tt.c∧c.s=tt.s)) (fun J hJ=>?_) ?_
     ·refine tR 2 [] fun σ54 _ _=>?_;by_cases e1:E=0
      ·refine tV 1 (.bool true) (fun F C=>(Cw (t:=35) (m:=E) (n:=0) (x:=(.tmp 109)) (y:=(.const (iv 0))) (by simpa using e1))) ?_;refine tR 5 [2,1] fun σ55 _ _=>?_;by_cases e2:c.c=tt.c
       ·refine tV 7 (.bool true) (fun F C=>(Cw (t:=3) (m:=c.c) (n:=tt.c) (x:=(.tmp 113)) (y:=(.tmp 115)) (by simpa using e2))) ?_;refine tR 6 [2,1] fun σ56 _ _=>?_;by_cases e3:c.s=tt.s
        ·refine tV 14 (.bool true) (fun F C=>(Cw (t:=3) (m:=c.s) (n:=tt.s) (x:=(.tmp 120)) (y:=(.tmp 122)) (by simpa using e3))) ?_;refine tR 2 [] fun σ57 _ _=>?_;exact tD hJ [true,true,false] ⟨true,rfl,rfl,rfl,(decide_eq_true ⟨e1,e2,e3⟩).symm⟩ (fun F=>⟨F.1,F.2.1,trivial⟩)
        ·refine tV 14 (.bool false) (fun F C=>(Cw (t:=3) (m:=c.s) (n:=tt.s) (x:=(.tmp 120)) (y:=(.tmp 122)) (by simpa using e3))) ?_;refine tR 2 [] fun σ58 _ _=>?_;exact tD hJ [true,true,false] ⟨false,rfl,rfl,rfl,(decide_eq_false fun e=>e3 e.2.2).symm⟩ (fun F=>⟨F.1,F.2.1,trivial⟩)
       ·refine tV 7 (.bool false) (fun F C=>(Cw (t:=3) (m:=c.c) (n:=tt.c) (x:=(.tmp 113)) (y:=(.tmp 115)) (by simpa using e2))) ?_;refine tR 9 [] fun σ59 _ _=>?_;exact tD hJ [true,true,false] ⟨false,rfl,rfl,rfl,(decide_eq_false fun e=>e2 e.2.1).symm⟩ (fun F=>⟨F.1,F.2.1,trivial⟩)
      ·refine tV 1 (.bool false) (fun F C=>(Cw (t:=35) (m:=E) (n:=0) (x:=(.tmp 109)) (y:=(.const (iv 0))) (by simpa using e1))) ?_;refine tR 15 [] fun σ60 _ _=>?_;exact tD hJ [true,true,false] ⟨false,rfl,rfl,rfl,(decide_eq_false fun e=>e1 e.1).symm⟩ (fun F=>⟨F.1,F.2.1,trivial⟩)
     rintro _ _ _ ⟨cd,rfl,rfl,rfl,hcd⟩ _ _ _;rw[hcb]at hck
     by_cases h7:E=0∧c.c=tt.c∧c.s=tt.s
     ·refine tI (cd) true (by rw[hcd];exact decide_eq_true h7) ?_;refine tR 2 [] fun σ62 _ _=>?_;rw[if_pos (decide_eq_true h7)]at hck
      refine tV 1 (iv ((L.take (k+1)).countP (Bq tt.n tt.c tt.s):Int)) (fun F C=>((show(((L.take k).countP (Bq tt.n tt.c tt.s):Int)+1)=((L.take (k+1)).countP (Bq tt.n tt.c tt.s):Int)by omega)▸AB (x:=(.tmp 125)) (y:=(.const (iv 1))) ((L.take k).countP (Bq tt.n tt.c tt.s):Int) 1 underlying3 (by omega))) ?_;refine tR 5 [] fun σ63 _ _=>?_;refine tV 1 (iv ((k:Int)+1)) (fun F C=>(AB (x:=(.tmp 82)) (y:=(.const (iv 1))) (k:Int) 1 underlying3 (by omega))) ?_;refine tR 2 [] fun σ64 _ _=>?_;exact tB hJC (L.length-(k+1)) (by omega) [true,true] ⟨k+1,rfl,rfl,rfl,rfl,by omega⟩ (fun F=>⟨F.1,F.2.1,trivial⟩)
     ·refine tI (cd) false (by rw[hcd];exact decide_eq_false h7) ?_;have hcz:(L.take (k+1)).countP (Bq tt.n tt.c tt.s)=(L.take k).countP (Bq tt.n tt.c tt.s):=by rw[hck,if_neg (by simpa using h7)];rfl
      rw[← hcz];refine tR 4 [] fun σ65 _ _=>?_;refine tV 1 (iv ((k:Int)+1)) (fun F C=>(AB (x:=(.tmp 82)) (y:=(.const (iv 1))) (k:Int) 1 underlying3 (by omega))) ?_;refine tR 2 [] fun σ66 _ _=>?_;exact tB hJC (L.length-(k+1)) (by omega) [true,true] ⟨k+1,rfl,rfl,rfl,rfl,by omega⟩ (fun F=>⟨F.1,F.2.1,trivial⟩)
   ·refine tI ((decide ((k:Int)<(s.n:Int)))) false (decide_eq_false (by omega)) ?_;obtain rfl:k=L.length:=by omega
    rw[List.take_length];refine tR 5 [] fun σ67 _ _=>?_;refine tV 2 (.bool false) (fun F C=>(rGt (t:=3) (m:=(ct tt.n tt.c tt.s M.told:Int)) (n:=(L.countP (Bq tt.n tt.c tt.s):Int)) (x:=(.tmp 127)) (y:=(.tmp 128)) (decide_eq_false (by omega)))) ?_;refine tR 6 [] fun σ68 _ _=>?_;refine tV 1 (iv ((i:Int)+1)) (fun F C=>(AB (x:=(.tmp 31)) (y:=(.const (iv 1))) (i:Int) 1 underlying3 (by omega))) ?_;refine tR 2 [] fun σ69 _ _=>?_;exact tB hJ (M.told.length-(i+1)) (by omega) [true,false] ⟨i+1,rfl,rfl,rfl,rfl,by omega⟩ (fun F=>⟨F.1,F.2.1,trivial⟩)
 ·refine tI ((decide ((i:Int)<(tv.n:Int)))) false (decide_eq_false (by omega)) ?_;refine tR 11 [0] fun σ70 _ _=>?_;exact tE (.bool true) fun _ B=>⟨rfl,B⟩
end
end Go.Proofs.YtaeckakjdagddadGreatDoor
