/- Part 46 of the walk. -/
import Derived.ChangeKeysEq
import Derived.Test.YtkchbdgikgbiaabGreatDoorZ44
import Derived.Test.YtkchbdgikgbiaabGreatDoorZ45
set_option maxRecDepth 100000
set_option maxHeartbeats 4000000
open Go.Proofs.Tryz
set_option linter.unusedVariables false
namespace Go.Proofs.YtkchbdgikgbiaabGreatDoor
section
def Nod.ub(p:Nod):Bool × Nat:=(p.up,p.bad)
theorem Ki(p:Nod)(b:Bal):(p.promise b).1.ub=p.ub:=by
 unfold Nod.promise;split
 ·rfl
 ·split
  ·rfl
  ·split<;>rfl
theorem Sa(p:Nod)(v:Vt):(p.vote v).1.ub=p.ub:=by
 unfold Nod.vote;split
 ·rfl
 ·split
  ·rfl
  ·split<;>rfl
theorem NF(p:Nod)(j:Nat)(v:Vt):(p.count j v).ub=p.ub:=by
 unfold Nod.count;split
 ·rfl
 ·split<;>rfl
theorem LT(p:Nod)(to:Nat)(e:Int):(p.refuse to e).ub=p.ub:=by unfold Nod.refuse;split<;>rfl
theorem JD(p:Nod)(l:List Cmd):(p.enqueue l).ub=p.ub:=by unfold Nod.enqueue;split<;>rfl
theorem YV(p:Nod)(l:Let):(p.take l).ub=p.ub:=by
 unfold Nod.take;split
 ·split
  ·exact LT _ _ _
  ·exact Ki p l.bal
 ·simp only;split<;>rfl
 ·rfl
 ·split
  ·exact LT _ _ _
  ·exact Sa p l.vote
 ·exact NF p _ _
 ·split<;>rfl
 ·simp only;split<;>exact JD p l.what
 ·rfl
theorem YG(p:Nod)(i:Nat)(q:Pend):(p.runP i q).ub=p.ub:=by
 cases q with
 | began b vs=>unfold Nod.runP;simp only;split<;>rfl
 | prop v=>exact NF p i v
 | _=>rfl
theorem UU(i:Nat)(l:List Pend)(p:Nod)(ls:List Let):(doneP i l p ls).1.ub=p.ub:=by
 induction l generalizing p ls with
 | nil=>rfl
 | cons q l ih=>exact(ih _ _).trans (YG p i q)
theorem TU(p:Nod)(c:Cmd):(p.unwant c).ub=p.ub:=by unfold Nod.unwant;split<;>rfl
theorem aH(i:Nat)(l:List Cmd)(p:Nod)(ts:List Tol):(doP i l p ts).1.ub=p.ub:=by
 induction l generalizing p ts with
 | nil=>rfl
 | cons c l ih =>
  rw[doP];split
  ·rfl
  ·exact(ih _ _).trans (TU _ _)
theorem X1(p:Nod)(i:Nat):(p.askd i).1.ub=p.ub:=by
 unfold Nod.askd;split
 ·rfl
 ·split
  ·exact JD _ _
  ·rfl
theorem QG(p:Nod):p.propose.ub=p.ub:=by
 unfold Nod.propose;split
 ·rfl
 ·split
  ·rfl
  ·split
   ·rfl
   ·exact Sa p _
theorem WO(p:Nod)(i:Nat)(ls:List Let):(p.syncd i ls).1.ub=p.ub:=by
 unfold Nod.syncd;split
 ·rfl
 ·rw[UU];unfold Nod.syn;split<;>rfl
theorem TK(p:Nod)(i:Nat)(ls:List Let):(p.taught i ls).1.ub=p.ub:=by unfold Nod.taught;split<;>rfl
theorem Wb(p:Nod)(i:Nat)(ls:List Let)(ts:List Tol):(p.piece i ls ts).1.ub=p.ub:=by
 unfold Nod.piece;simp only;rw[TK,WO,QG,X1,aH]
theorem Yj(p:Nod)(i:Nat):(p.lead i).ub=p.ub:=by
 unfold Nod.lead;simp only;split
 ·rfl
 ·exact Ki p _
theorem Rt(M:Meet)(l:Let)(j:Nat):((M.come l).node j).ub=(M.node j).ub:=by
 unfold Meet.come;split
 ·show(upN M.node l.dst _ j).ub=_;unfold upN;split
  ·rename_i h;rw[h];exact YV _ _
  ·rfl
 ·rfl
theorem UF(l:List Let)(M:Meet)(j:Nat):((l.foldl (fun M l=>M.come l) M).node j).ub=(M.node j).ub:=by
 induction l generalizing M with
 | nil=>rfl
 | cons x l ih=>exact(ih _).trans (Rt M x j)
theorem Yp(M:Meet)(k:Int)(a:Nat)(j:Nat):((M.move k a).node j).ub=(M.node j).ub:=by
 unfold Meet.move;split
 ·rfl
 ·simp only;split
  ·rw[Rt];split<;>rfl
  ·split<;>rfl
theorem GZ(M:Meet)(i:Nat)(p:Nod)(ls:List Let)(ts:List Tol)(j:Nat):(M.set i p ls ts).node j=if j=i then p else M.node j:=rfl
theorem ZS(M:Meet){x:Lac}(h1:x.k≠1)(h8:x.k≠8)(h9:x.k≠9)(j:Nat):((M.act x).node j).ub=(M.node j).ub:=by
 unfold Meet.act;simp only;rw[if_neg h1];by_cases h2:x.k=2
 ·rw[if_pos h2,GZ];split
  ·rename_i e
   rw[e];split
   ·exact Yj _ _
   ·rfl
  ·rfl
 ·rw[if_neg h2];by_cases h3:x.k=3
  ·rw[if_pos h3,GZ];split
   ·rename_i e
    rw[e];split
    ·exact Wb _ _ _ _
    ·rfl
   ·rfl
  ·rw[if_neg h3];by_cases h4:x.k=4∨x.k=5∨x.k=6
   ·rw[if_pos h4];exact Yp _ _ _ _
   ·rw[if_neg h4];by_cases h7:x.k=7
    ·rw[if_pos h7];exact UF _ _ _
    ·rw[if_neg h7,if_neg h8,if_neg h9]
theorem cx(M:Meet){x:Lac}(h1:x.k=1)(j:Nat):((M.act x).node j).ub=if j=x.n.toNat∧(M.node j).up=true∧opE x.d ((M.node j).done:Int)≠0 then((M.node j).up,(M.node j).bad+1)else(M.node j).ub:=by
 unfold Meet.act;simp only;rw[if_pos h1,GZ];by_cases hj:j=x.n.toNat
 ·subst hj;rw[if_pos rfl];unfold Nod.subm Nod.sub0;by_cases hu:(M.node x.n.toNat).up=false
  ·rw[if_pos hu,if_neg (by rw[hu];simp)]
  ·rw[if_neg hu];have hu':(M.node x.n.toNat).up=true:=by simpa using hu
   by_cases he:opE x.d ((M.node x.n.toNat).done:Int)≠0
   ·rw[if_pos he,if_pos ⟨rfl,hu',he⟩];rfl
   ·rw[if_neg he,if_neg (c:=_∧_) (fun e=>he e.2.2)];split
    ·rfl
    ·show(Nod.want _ _).ub=_;unfold Nod.want;split<;>rfl
 ·rw[if_neg hj,if_neg (fun e=>hj e.1)]
theorem Lk(M:Meet)(L:List Lac)(x:Lac):M.acts (L++[x])=(M.acts L).act x:=by unfold Meet.acts;rw[List.foldl_append];rfl
theorem XR(g:Gr)(cr:Bool):LacOk (NT g cr):=by
 have h1:=AP g.a 5 (by omega);have h2:=AP g.c 20 (by omega);have h3:=AP g.c 90 (by omega);have hl:(pkB g).length≤63:=by
  have:(pkP g).length=63:=Gj (RI g);unfold pkB;split
  ·rw[List.length_take];omega
  ·omega
 rw[← GH];unfold NT acN
 repeat' split
 all_goals simp[SS,ED,Fs,Ft];try omega
theorem Wv{P:Lac→Prop}(h7:P (acN 7 0)){cr:Bool}(hg:∀ g,P (NT g cr))(s:Nat)(l:List Gr):∀ x∈MT cr s l,P x:=by
 induction l generalizing s with
 | nil=>intro x hx;cases hx
 | cons g l ih =>
  intro x hx;rcases List.mem_cons.1 hx with rfl|hx
  ·unfold Wu;split
   ·exact h7
   ·exact hg g
  ·exact ih _ x hx
theorem bU(l:List Gr)(m:Nat)(cr:Bool):∀ x∈scr l m cr,LacOk x:=Wv (by rw[← GH];decide) (fun g=>XR g cr) _ _
theorem Ww(cr:Bool)(s:Nat)(l:List Gr):(MT cr s l).length=l.length:=by
 induction l generalizing s with
 | nil=>rfl
 | cons g l ih=>rw[MT,List.length_cons,ih,List.length_cons]
theorem YK(l:List Gr)(m:Nat)(cr:Bool):(scr l m cr).length≤m:=by unfold scr;rw[Ww,List.length_take];omega
def Nod.tp(p:Nod):Prop:=Be p.d p.sy
theorem Sg{d:List Int}{s:Int}{may:Prop}[Decidable may] {b:List Int} (h:Cu d s may b=0):Be (Fx d s may b) (Gx d s may b):=by
 obtain⟨h1,h2,_⟩:=Ua h;unfold Fx Gx;rw[if_pos h,if_pos h];unfold Be at *;rw[List.length_append,E6];omega
theorem Kh{p:Nod}(h:p.tp)(b:Bal):(p.promise b).1.tp:=by
 unfold Nod.promise;split
 ·exact h
 ·split
  ·exact h
  ·split
   ·exact h
   ·rename_i hw;exact Sg (Decidable.not_not.1 hw)
theorem RZ{p:Nod}(h:p.tp)(v:Vt):(p.vote v).1.tp:=by
 unfold Nod.vote;split
 ·exact h
 ·split
  ·exact h
  ·split
   ·exact h
   ·rename_i hw;exact Sg (Decidable.not_not.1 hw)
theorem LS{p:Nod}(h:p.tp)(to:Nat)(e:Int):(p.refuse to e).tp:=by unfold Nod.refuse;split<;>exact h
theorem UG{p:Nod}(h:p.tp)(j:Nat)(v:Vt):(p.count j v).tp:=by
 unfold Nod.count;split
 ·exact h
 ·split<;>exact h
theorem PL{p:Nod}(h:p.tp)(l:List Cmd):(p.enqueue l).tp:=by unfold Nod.enqueue;split<;>exact h
theorem J9{p:Nod}(h:p.tp){k:Int}(hk:0≤k):(p.crash k).tp∧(p.crash k).up=false∧(p.crash k).done=0∧(p.crash k).agreed=[]:=by
 have he:IS p.d p.sy k=0:=by unfold IS;rw[if_neg (fun e=>e h),if_neg (by omega)]
 unfold Nod.crash;rw[if_neg (fun e=>e he)];refine⟨?_,rfl,rfl,rfl⟩;show Be (KN p.d p.sy k) (KO p.d p.sy k);unfold KN KO;rw[if_pos he,if_pos he];unfold Nod.tp Be at h;have hc:0≤Mq p.d p.sy k∧Mq p.d p.sy k≤(p.d.length:Int):=by unfold Mq;split<;>omega
 unfold Be;rw[List.length_take];omega
theorem OU{p:Nod}(h:p.tp):p.start.tp∧p.start.up=true∧p.start.done=0∧p.start.agreed=[]:=by
 have he:CW p.d p.sy=0:=if_pos h;have hl:=Vx p.d p.d.length;unfold Nod.start;rw[if_neg (fun e=>e he)];split
 ·refine⟨?_,rfl,rfl,rfl⟩;show Be (Lb p.d p.sy) (MN p.d p.sy);unfold Lb MN;have h':Be p.d p.sy:=h;rw[if_pos h',if_pos h'];unfold Nod.tp Be at h;unfold Be;rw[List.length_take];unfold Eg;split<;>omega
 ·exact⟨h,rfl,rfl,rfl⟩
theorem cG(A:Alw)(i:Nat):NInv A i (fun _=>True) (fun _=>True) Nod.tp where
 take:=fun _ p l h _ _ _=>by
  unfold Nod.take;split
  ·split
   ·exact LS h _ _
   ·exact Kh h l.bal
  ·simp only;split<;>exact h
  ·exact h
  ·split
   ·exact LS h _ _
   ·exact RZ h l.vote
  ·exact UG h _ _
  ·split<;>exact h
  ·simp only;split<;>exact PL h l.what
  ·exact h
 one:=fun p c h _ _ _=>by unfold Nod.unwant;split<;>exact h
 ask:=fun p h _=>⟨by
  unfold Nod.askd;split
  ·exact h
  ·split
   ·unfold Nod.enqueue;split<;>exact h
   ·exact h,fun _ _=>trivial⟩
 prop:=fun p h _=>by
  unfold Nod.propose;split
  ·exact h
  ·split
   ·exact h
   ·split
    ·exact h
    ·exact RZ h _
 syn:=fun p h _=>by
  unfold Nod.syn;split
  ·show Be (Hc p.d p.sy) (Ij p.d p.sy);unfold Hc Ij;have h':Be p.d p.sy:=h;rw[if_pos h',if_pos h'];unfold Nod.tp Be at h;unfold Be;omega
  ·exact h
 run:=fun p q l h _ _ _=>⟨by
  have hk:=LV p i q;show Be (p.runP i q).d (p.runP i q).sy;rw[hk.2.2.1,hk.2.2.2];exact h,fun _ _=>trivial⟩
 teach:=fun p h _ _=>⟨h,fun _ _=>trivial⟩
 lead:=fun _ p h _=>by
  unfold Nod.lead;simp only;split
  ·exact h
  ·exact Kh h _
 sub:=fun p d ts h _ _=>by
  unfold Nod.subm Nod.sub0;split
  ·exact h
  ·split
   ·exact h
   ·split
    ·exact h
    ·show(Nod.want _ _).tp;unfold Nod.want;split<;>exact h
 crash:=fun _ p k h hk _=>(J9 h hk).1
 start:=fun _ p h _=>(OU h).1
def cW:Alw:=⟨true,true,true,true⟩
theorem Xx(x:Lac):cW.Ok x:=⟨fun _=>rfl,fun _=>rfl,fun _=>rfl,fun _=>rfl⟩
theorem Rj(L:List Lac)(h:∀ x∈L,LacOk x)(hl:L.length≤100000){i:Nat}(hi:i<5):((BL.acts L).node i).tp :=
 (GInv.acts (R:=fun _=>True) (D:=fun _ _=>True) (Q:=fun _=>True) (P:=fun _=>Nod.tp) (fun i _=>cG cW i) (fun i _=>TInv.all i _ _) L MOk.zero (by omega) ⟨fun _ _=>(by show Be [] 0;decide),fun _ _=>trivial⟩ trivial fun x hx=>⟨h x hx,Xx x,fun _=>trivial⟩).1.node i hi
theorem ZT(M:Meet){x:Lac}(h8:x.k≠8){j:Nat}(hu:(M.node j).up=true):((M.act x).node j).up=true:=by
 by_cases h1:x.k=1
 ·have:=congrArg Prod.fst (cx M h1 j);split at this
  ·exact this.trans hu
  ·exact this.trans hu
 ·by_cases h9:x.k=9
  ·unfold Meet.act;simp only;rw[if_neg h1,if_neg (by omega),if_neg (by omega),if_neg (by omega),if_neg (by omega),if_neg (by omega),if_pos h9,GZ];split
   ·rename_i e;rw[← e,if_pos hu];exact hu
   ·exact hu
  ·exact(congrArg Prod.fst (ZS M h1 h8 h9 j)).trans hu
theorem Nl(M:Meet)(L K:List Lac):M.acts (L++K)=(M.acts L).acts K:=List.foldl_append
theorem Uf{k n:Int}(h:(k=2∨k=3∨k=9)∧0≤n∧n≤4):LacOk (acN k n):=by
 rw[← GH];rcases h with⟨rfl|rfl|rfl,h1,h2⟩<;>simp[SS,acN,ED,Fs,Ft]<;>omega
theorem Ks(M:Meet)(i:Nat):M.set i (M.node i) M.lets M.told=M:=by
 unfold Meet.set;have:upN M.node i (M.node i)=M.node:=by funext j;unfold upN;split<;>simp_all
 rw[this]
theorem Gw{f:Nat→Nod}{i j:Nat}{p:Nod}(h:i=j→p=f j):upN f i p j=f j:=by
 unfold upN;split
 ·rename_i e;exact h e.symm
 ·rfl
theorem Mp(M:Meet)(l:Let){j:Nat}(hd:(M.node j).up=false):(M.come l).node j=M.node j:=by
 unfold Meet.come;split
 ·rename_i hu
  exact Gw fun e=>by rw[e,hd]at hu;cases hu
 ·rfl
theorem UE(l:List Let)(M:Meet){j:Nat}(hd:(M.node j).up=false):(l.foldl (fun M l=>M.come l) M).node j=M.node j:=by
 induction l generalizing M with
 | nil=>rfl
 | cons x l ih =>
  have h:=Mp M x hd;exact(ih (M.come x) (by rw[h];exact hd)).trans h
theorem Yo(M:Meet)(k:Int)(a:Nat){j:Nat}(hd:(M.node j).up=false):(M.move k a).node j=M.node j:=by
 unfold Meet.move;split
 ·rfl
 ·simp only;split
  ·split
   ·exact Mp _ _ hd
   ·exact Mp _ _ hd
  ·split<;>rfl
theorem Uj(M:Meet)(x:Lac){j:Nat}(hd:(M.node j).up=false)(h9:¬ (x.k=9∧x.n.toNat=j)):(M.act x).node j=M.node j:=by
 have hu:∀ {i:Nat},i=j→¬ (M.node i).up=true:=fun e h=>by rw[e,hd]at h;cases h
 unfold Meet.act;simp only;split
 ·refine Gw fun e=>?_;rw[e];unfold Nod.subm Nod.sub0;rw[if_pos hd]
 ·split
  ·exact Gw fun e=>by rw[if_neg (hu e),e]
  ·split
   ·exact Gw fun e=>by rw[if_neg (hu e),e]
   ·split
    ·exact Yo M _ _ hd
    ·split
     ·unfold Meet.comeAll;exact UE _ { M with lets:=[] } hd
     ·split
      ·exact Gw fun e=>by rw[if_neg (hu e),e]
      ·split
       ·rename_i k9;exact Gw fun e=>absurd ⟨k9,e⟩ h9
       ·rfl
theorem Um(L:List Lac)(h:∀ x∈L,LacOk x)(hl:L.length≤100000){j:Nat}(hj:j<5)(hd:((BL.acts L).node j).up=false):((BL.acts L).node j).agreed=[]:=by
 have key:∀ k,k≤L.length→((BL.acts (L.take k)).node j).up=false→((BL.acts (L.take k)).node j).agreed=[]:=by
  intro k;induction k with
  | zero=>intro _ h;cases h
  | succ k ih =>
   intro hk;have hm:∀ x∈L.take k,LacOk x:=fun x hx=>h x (List.mem_of_mem_take hx);have hx:=h L[k] (List.getElem_mem (by omega));have ht:=Rj (L.take k) hm (by rw[List.length_take];omega) hj;rw[List.take_add_one,List.getElem?_eq_getElem (show k<L.length by omega),Option.toList_some,Lk];have ih:=ih (by omega);generalize BL.acts (L.take k)=M at ih ht ⊢;generalize L[k]=x at hx ⊢;by_cases hu:(M.node j).up=true
   ·intro h2;by_cases h8:x.k=8
    ·by_cases hn:x.n.toNat=j
     ·have:=J9 ht (hx.p (by rw[h8];rfl)).1;have he:(M.act x).node j=(M.node j).crash x.p:=by
       unfold Meet.act;simp only;rw[if_neg (by omega),if_neg (by omega),if_neg (by omega),if_neg (by omega),if_neg (by omega),if_pos h8,hn,if_pos hu];show upN _ _ _ _=_;unfold upN;rw[if_pos rfl]
      rw[he];exact this.2.2.2
     ·have he:(M.act x).node j=M.node j:=by
       unfold Meet.act;simp only;rw[if_neg (by omega),if_neg (by omega),if_neg (by omega),if_neg (by omega),if_neg (by omega),if_pos h8];exact Gw fun e=>absurd e hn
      rw[he,hu]at h2;cases h2
    ·rw[ZT M h8 hu]at h2;cases h2
   ·have hd:(M.node j).up=false:=by simpa using hu
    by_cases h9:x.k=9∧x.n.toNat=j
    ·intro h2;have he:(M.act x).node j=(M.node j).start:=by
      unfold Meet.act;simp only;rw[if_neg (by omega),if_neg (by omega),if_neg (by omega),if_neg (by omega),if_neg (by omega),if_neg (by omega),if_pos h9.1,h9.2,if_neg hu];show upN _ _ _ _=_;unfold upN;rw[if_pos rfl]
     rw[he,(OU ht).2.1]at h2;cases h2
    ·rw[Uj M x hd h9];exact ih
 have:=key L.length (Nat.le_refl _);rw[List.take_length]at this
 exact this hd
theorem UH(L:List Lac)(h:∀ x∈L,LacOk x)(hl:L.length≤100000){j:Nat}(hj:j<5){x:Lac}(h8:x.k=8)(hn:x.n=(j:Int))(hp:0≤x.p):((BL.acts (L++[x])).node j).up=false:=by
 rw[Lk];have ht:=Rj L h hl hj;generalize BL.acts L=M at ht ⊢;have hi:x.n.toNat=j:=by rw[hn,Int.toNat_natCast]
 have he:(M.act x).node j=if(M.node j).up then(M.node j).crash x.p else M.node j:=by
  unfold Meet.act;simp only;rw[if_neg (by omega),if_neg (by omega),if_neg (by omega),if_neg (by omega),if_neg (by omega),if_pos h8,hi];show upN _ _ _ _=_;unfold upN;rw[if_pos rfl]
 rw[he];split
 ·exact(J9 ht hp).2.1
 ·rename_i hu;simpa using hu
theorem Uk(M:Meet){x:Lac}{j:Nat}(hd:(M.node j).up=false)(hn:x.n=(j:Int))(hk:x.k=1∨x.k=3∨x.k=2):M.act x=M:=by
 have hi:x.n.toNat=j:=by rw[hn,Int.toNat_natCast]
 have hu:¬ (M.node j).up=true:=by rw[hd];simp
 unfold Meet.act;simp only;rw[hi];rcases hk with h|h|h
 ·rw[if_pos h];unfold Nod.subm Nod.sub0;rw[if_pos hd];exact Ks M j
 ·rw[if_neg (by omega),if_neg (by omega),if_pos h,if_neg hu,if_neg hu,if_neg hu];exact Ks M j
 ·rw[if_neg (by omega),if_pos h,if_neg hu];exact Ks M j
theorem Lj(L:List Lac){M:Meet}{j:Nat}(hd:(M.node j).up=false)(h:∀ x∈L,x.n=(j:Int)∧(x.k=1∨x.k=3∨x.k=2)):M.acts L=M:=by
 induction L with
 | nil=>rfl
 | cons x L ih =>
  have h1:=h x List.mem_cons_self;show(M.act x).acts L=M;rw[Uk M hd h1.1 h1.2];exact ih fun y hy=>h y (List.mem_cons_of_mem _ hy)
end
section
open Go.RowKit
theorem JQ{P:Program}{w:World}{d c:Nat}{e:TypeId}{xs:Array Value}:∀ l:List Nat,(∀ i∈l,∃ v,(part e xs (i*c)).run P w=.ok v w∧(Op.equalIn d e v v).run P w=.ok true w)→(Op.eqItems d e c xs xs l).run P w=.ok true w
 | [],_=>by simp[Op.eqItems]
 | i::l,h=>by
  obtain⟨v,h1,h2⟩:=h i (List.mem_cons_self ..);have ih:=JQ l (fun j hj=>h j (List.mem_cons_of_mem _ hj));simp[Op.eqItems,Sem.run_bind,h1,h2,ih,Result.andThen_ok]
theorem in5{i:Nat}(h:i∈List.range 5):i=0∨i=1∨i=2∨i=3∨i=4:=by have:=List.mem_range.1 h;omega
theorem eV(a b c d e:Int)(n:Nat)(w:World):(Op.equalIn (n+2) 37 (.agg #[iv a,iv b,iv c,iv d,iv e]) (.agg #[iv a,iv b,iv c,iv d,iv e])).run prog w=.ok true w:=by
 rw[run_equalIn_array (P:=prog) w (n+1) (t:=37) (e:=3) (n:=5) _ _ underlying37 (show prog.info? 3=some _ from rfl)];rw[show prog.cellsOf 3=1 by kernel_rfl];have hi:∀ z:Int,(Op.equalIn (n+1) 3 (iv z) (iv z)).run prog w=.ok true w:=fun z=>by rw[run_equalIn_int w n 3 .i64 .i64 _ _ underlying3];simp
 refine JQ _ (fun i h=>?_);rcases in5 h with rfl|rfl|rfl|rfl|rfl
 ·exact⟨iv a,by kernel_rfl,hi _⟩
 ·exact⟨iv b,by kernel_rfl,hi _⟩
 ·exact⟨iv c,by kernel_rfl,hi _⟩
 ·exact⟨iv d,by kernel_rfl,hi _⟩
 ·exact⟨iv e,by kernel_rfl,hi _⟩
theorem dK{W:World}{x y:Operand}{a b c d e a' b' c' d' e':Int}(h1:a=a')(h2:b=b')(h3:c=c')(h4:d=d')(h5:e=e'):(do Go.eqGuard .eql 37 x y (.agg #[iv a,iv b,iv c,iv d,iv e]) (.agg #[iv a',iv b',iv c',iv d',iv e']);Go.binOp .eql 37 (.agg #[iv a,iv b,iv c,iv d,iv e]) (.agg #[iv a',iv b',iv c',iv d',iv e']):Sem Value).run prog W=.ok (.bool true) W:=by
 subst h1 h2 h3 h4 h5;have hg:(Go.eqGuard .eql 37 x y (.agg #[iv a,iv b,iv c,iv d,iv e]) (.agg #[iv a,iv b,iv c,iv d,iv e])).run prog W=.ok () W:=by kernel_rfl
 rw[Sem.run_bind,hg,Result.andThen_ok,run_eql_struct,eV a b c d e 9998 W];rfl
theorem ZD{W:World}{x y:Operand}(b:Bool):(do Go.eqGuard .eql 4 x y (.bool b) (.bool b);Go.binOp .eql 4 (.bool b) (.bool b):Sem Value).run prog W=.ok (.bool true) W:=by cases b<;>kernel_rfl
theorem Uc{n many c:Int}{w:World}(h:I64 n)(hc:pick n many=c)(hm:0<many:=by decide)(hm2:many≤9223372036854775807:=by decide) :
  Calls prog 10 #[iv n,iv many] w fun e w'=>e=.returned (iv c)∧Bw w w':=by subst hc;exact BA h many hm hm2
theorem co{n:Nat}(hn:n<5)(g:Gr):LacOk ⟨1,(n:Int),0,0,pkB g⟩:=by
 have h:(pkB g).length≤63:=by
  have:(pkP g).length=63:=Gj (RI g);unfold pkB;split
  ·rw[List.length_take];omega
  ·omega
 rw[← GH];simp[SS,ED,Fs,Ft];omega
theorem UK{n:Nat}(hn:n<5):LacOk (acN 8 (n:Int)):=by
 rw[← GH];simp[SS,acN,ED,Fs,Ft];omega
theorem eQ{g:Gh}{w:World}{a b c:Lac}{d:S3}(h:FSl g w d a.d)(hb:b.d=[]:=by rfl)(hc:c.d=[]:=by rfl):Dat g w [(a,d),(b,s30),(c,s30)]:=by
 intro p hp;simp only[List.mem_cons,List.not_mem_nil,or_false]at hp;rcases hp with rfl|rfl|rfl
 ·exact h
 ·show FSl g w s30 b.d;rw[hb];exact XQ g w
 ·show FSl g w s30 c.d;rw[hc];exact XQ g w
theorem dl{n:Nat}(hn:n<5)(g:Gr){d:S3}(p:Lac × S3)(hp:p∈[((⟨1,(n:Int),0,0,pkB g⟩:Lac),d),(acN 3 (n:Int),s30),(acN 2 (n:Int),s30)]):LacOk p.1∧p.1.n=(n:Int)∧(p.1.k=1∨p.1.k=3∨p.1.k=2):=by
 simp only[List.mem_cons,List.not_mem_nil,or_false]at hp;rcases hp with rfl|rfl|rfl
 ·exact⟨co hn g,rfl,.inl rfl⟩
 ·exact⟨Uf ⟨.inr (.inl rfl),by omega,by omega⟩,rfl,.inr (.inl rfl)⟩
 ·exact⟨Uf ⟨.inl rfl,by omega,by omega⟩,rfl,.inr (.inr rfl)⟩
theorem Nc{l k:S3}{G K:List Gr}{who:Int}{w:World}(h:RdV w l 5 (grL G))(hG:∀ g∈G,GrOk g)(hw:I64 who)(h2:RdV w k 5 (grL K))(hK:∀ g∈K,GrOk g)(hT:Ud w) :
  Calls prog 8 #[l.v,iv who,k.v] w fun e w'=>e=.returned (.bool true)∧Bw w w':=by
 have hkn:k.n=K.length:=by have:=h2.len;rw[show(grL K).length=K.length*5 from Ds (f:=grV) (fun _=>rfl) K]at this;omega
 obtain⟨L,hL⟩:∃ L,scr G 60 true=L:=⟨_,rfl⟩;have hok:=bU G 60 true;have hln:=YK G 60 true;rw[hL]at hok hln
 have hr:=AP who 5 (by omega);obtain⟨n,hn,hn5⟩:∃ n:Nat,pick who 5=(n:Int)∧n<5:=⟨(pick who 5).toNat,by omega,by omega⟩;have hok1:∀ x∈L++[acN 8 (n:Int)],LacOk x:=fun x hx=>(List.mem_append.1 hx).elim (hok x) fun e=>by rw[List.mem_singleton.1 e];exact UK hn5
 obtain⟨M,hM⟩:∃ M,BL.acts (L++[acN 8 (n:Int)])=M:=⟨_,rfl⟩;have hd:(M.node n).up=false:=by rw[← hM];exact UH L hok (by omega) hn5 (x:=acN 8 (n:Int)) rfl rfl (Int.le_refl 0)
 have hlog:M.log n=[]:=by unfold Meet.log;rw[← hM,Um _ hok1 (by rw[List.length_append,List.length_singleton];omega) hn5 (by rw[hM];exact hd),List.take_nil]
 refine tIn [Fa.zv k 5 (grL K)] func8 ⟨h2.fz,trivial⟩ ?_;refine tR 7 [] fun σ1 _ _=>?_;refine tC 1 (fun F C=>Uc hw hn) fun Nz=>?_;rintro _ _ ⟨rfl,b2⟩;refine⟨_,_,rfl,b2,id,?_⟩;refine tR 5 [] fun σ3 _ _=>?_;refine tG 1 [] 0 (fun F C=>T1 (most:=60) (cr:=true) (h.below (CgQ.below C)) hG (by decide) (tbA hT.1 C)) fun Nz=>?_;rintro _ _ ⟨s,P,rfl,hP,hN,b0⟩;refine⟨_,[Fa.oa 0 s P,Fa.zv k 5 (grL K)],_,_,_,_,rfl,b0,hN.o,fun _=>⟨fun F hO hz=>⟨AcN.oa hN hO hz,F.1,trivial⟩,?_⟩⟩;rw[hL]at hP
 have hPl:P.length=L.length:=by rw[← hP,List.length_map]
 refine tF fun F _=>?_;have hsn:=(AcR.oo F.1 hP).n;refine tR 3 [0,0] fun σ4 _ _=>?_;refine T7 5 0 (x:=s) 24 24 34 5 56 zLa ⟨(σ4 0),0,none⟩ 1 1 [iv 8,iv (n:Int),iv 0,iv 0,sn] (fun F=>F.1.1) [Fa.zv k 5 (grL K),Fa.dt (P++[(acN 8 (n:Int),s30)])] (fun F=>⟨F.2.1,Dat.snoc F.1.2 (XQ _ _),trivial⟩) rfl (by simp[TQ]) rfl (by simp[Value.oneCell']) (fun F K=>Ch K 0 (σ4 0) [iv 8,iv (n:Int),iv 0,iv 0,sn] 34 .z true (by kernel_rfl)) (by unfold maxLen;omega) (by omega) fun y5 _ _ n5=>?_;refine tCv [Fa.oa 0 y5 (P++[(acN 8 (n:Int),s30)]),Fa.zv k 5 (grL K)] (fun F=>⟨⟨(by rw[Gy];exact F.1),F.2.2.1⟩,F.2.1,trivial⟩) ?_;have hP1:(P++[(acN 8 (n:Int),s30)]).map (·.1)=L++[acN 8 (n:Int)]:=by rw[List.map_append,hP];rfl
 have hl1:(L++[acN 8 (n:Int)]).length≤61:=by rw[List.length_append,List.length_singleton];omega
 generalize hP2:P++[(acN 8 (n:Int),s30)]=P1 at hP1 ⊢;have hyn0:y5.n=P1.length:=by rw[← hP2,List.length_append,List.length_singleton];omega
 refine tR 5 [] fun σ6 _ _=>?_;refine tC 1 (fun F C=>QK (AcR.oo F.1 hP1) hok1 (by omega) (tb5 hT C) hM) fun Nz=>?_;rintro _ _ ⟨ly,tv,ys,rfl,hW,hO,b7⟩;refine⟨_,Fa.ot ly tv ys M::_,rfl,b7,fun F=>⟨Jl hW hO Nz,F⟩,?_⟩;refine tF fun F _=>?_;have htn:=Xa F.1.told.rd;refine tR 13 [1,0,1,0] fun σ8 _ _=>?_;refine OZ 112 [(7,iv (n:Int)),(2,S3.v k),(8,S3.v y5),(9,pt (σ8 0) 0),(10,.bool true),(11,iv 0)] [false,true] [⟨(σ8 0),.cells #[iv (M.lets.length:Int),.bool (M.node 0).up,.bool (M.node 1).up,.bool (M.node 2).up,.bool (M.node 3).up,.bool (M.node 4).up,S3.v ly,iv ((M.node 0).bad:Int),iv ((M.node 1).bad:Int),iv ((M.node 2).bad:Int),iv ((M.node 3).bad:Int),iv ((M.node 4).bad:Int),S3.v tv] 40,.l,false⟩] [Fa.zv k 5 (grL K),Fa.oa 0 y5 (P1++[])] (fun kk ee LL ΦΦ=>∃ (i:Nat) (y:S3) (Q:List (Lac × S3)),kk=min K.length 10-i∧ee=[(7,iv (n:Int)),(2,S3.v k),(8,S3.v y),(9,pt (σ8 0) 0),(10,.bool true),(11,iv (i:Int))]∧LL=[⟨(σ8 0),.cells (Ia M ly tv) 40,.l,false⟩]∧ΦΦ=[Fa.zv k 5 (grL K),Fa.oa 0 y (P1++Q)]∧i≤min K.length 10∧Q.length=3*i∧y.n=P1.length+3*i∧(∀ p∈Q,LacOk p.1∧p.1.n=(n:Int)∧(p.1.k=1∨p.1.k=3∨p.1.k=2))) (min K.length 10) ⟨0,y5,[],rfl,rfl,rfl,rfl,by omega,rfl,by omega,fun p hp=>by cases hp⟩ (fun F=>⟨F.2.2.1,(by rw[List.append_nil];exact F.2.1),trivial⟩) ?_;rintro k _ _ _ ⟨i,y,Q,rfl,rfl,rfl,rfl,hi,hQl,hyn,hQ⟩ _ _ _ J hJ;refine tR 6 [] fun σ9 _ _=>?_;by_cases h3:i<K.length
 ·refine tV 3 (.bool true) (fun F C=>(rLt (t:=3) (m:=(i:Int)) (n:=(k.n:Int)) (x:=(.tmp 27)) (y:=(.tmp 29)) (decide_eq_true (by omega)))) ?_;refine tR 5 [] fun σ10 _ _=>?_;by_cases h4:i<10
  ·refine tI ((decide ((i:Int)<10))) true (decide_eq_true (by omega)) ?_;obtain⟨g,hg⟩:∃ g,K[i]?=some g:=⟨_,List.getElem?_eq_getElem (by omega)⟩;have hgo:=hK g (List.mem_of_getElem? hg);refine tF fun F _=>?_;obtain⟨b,off,hla,_,hlc⟩:=F.1.rd.spot (i:=i) (by omega);refine tR 8 [] fun σ11 _ _=>?_;refine tV 4 (pt b (off+5*i)) (fun F C=>(ZG hla i (by omega))) ?_;refine tV 5 (.agg #[iv g.k,iv g.a,iv g.b,iv g.c,iv g.d]) (fun F C=>(dP g fun j u hj=>Zw F.1.rd hla hg hj)) ?_;refine tC 6 (fun F C=>LK hgo (tbA hT.1 C)) fun Nz=>?_;rintro _ _ ⟨d,rfl,hdd,hdn,b14⟩;refine⟨_,Fa.sl d (pkB g)::_,rfl,b14,fun F=>⟨MD hdd hdn Nz,F⟩,?_⟩;refine tR 6 [0,0] fun σ15 _ _=>?_;refine T7 13 0 (x:=y) 24 24 34 5 56 zLa ⟨(σ15 0),0,none⟩ 3 3 [iv 1,iv (n:Int),iv 0,iv 0,S3.v d,iv 3,iv (n:Int),iv 0,iv 0,sn,iv 2,iv (n:Int),iv 0,iv 0,sn] (fun F=>F.2.2.1.1) [Fa.zv k 5 (grL K),Fa.dt (P1++Q++[((⟨1,(n:Int),0,0,pkB g⟩:Lac),d),(acN 3 (n:Int),s30),(acN 2 (n:Int),s30)])] (fun F=>⟨F.2.1,Dat.app F.2.2.1.2 (eQ F.1),trivial⟩) rfl (by simp[TQ]) rfl (by simp[Value.oneCell']) (fun F K=>Ch K 1 (σ15 0) [iv 1,iv (n:Int),iv 0,iv 0,S3.v d,iv 3,iv (n:Int),iv 0,iv 0,sn,iv 2,iv (n:Int),iv 0,iv 0,sn] 34 .z true (by kernel_rfl)) (by unfold maxLen;omega) (by omega) fun y16 _ _ n16=>?_;refine tR 5 [] fun σ17 _ _=>?_;refine tV 1 (iv ((i:Int)+1)) (fun F C=>(AT (x:=(.tmp 35)) (y:=(.const (iv 1))) (i:Int) 1 underlying3 (by omega))) ?_;refine tR 2 [] fun σ18 _ _=>?_;exact tB hJ (min K.length 10-(i+1)) (by omega) [true,false] ⟨i+1,y16,Q++[((⟨1,(n:Int),0,0,pkB g⟩:Lac),d),(acN 3 (n:Int),s30),(acN 2 (n:Int),s30)],rfl,rfl,rfl,rfl,by omega,(by rw[List.length_append,hQl];show 3*i+3=_;omega),by omega,fun p hp=>(List.mem_append.1 hp).elim (hQ p) (dl hn5 g p)⟩ (fun F=>⟨F.2.1,⟨(by rw[← List.append_assoc,Xt];exact F.1),(by rw[← List.append_assoc];exact F.2.2.1)⟩,trivial⟩)
  ·refine tI ((decide ((i:Int)<10))) false (decide_eq_false (by omega)) ?_;have hM2:BL.acts (L++[acN 8 (n:Int)]++Q.map (·.1))=M:=by rw[Nl,hM];exact Lj _ hd fun x hx=>by obtain⟨p,hp,rfl⟩:=List.mem_map.1 hx;exact(hQ p hp).2
   have hok2:∀ x∈L++[acN 8 (n:Int)]++Q.map (·.1),LacOk x:=fun x hx=>(List.mem_append.1 hx).elim (hok1 x) fun e=>by obtain⟨p,hp,rfl⟩:=List.mem_map.1 e;exact(hQ p hp).1
   refine tR 4 [] fun σ19 _ _=>?_;have hP3:(P1++Q).map (·.1)=L++[acN 8 (n:Int)]++Q.map (·.1):=by rw[List.map_append,hP1]
   have hl3:(L++[acN 8 (n:Int)]++Q.map (·.1)).length≤100:=by rw[List.length_append,List.length_map];omega
   refine tC 1 (fun F C=>QK (AcR.oo F.2.1 hP3) hok2 (by omega) (tb5 hT C) hM2) fun Nz=>?_;rintro _ _ ⟨lz,tz,zs,rfl,hW,hO,b20⟩;refine⟨_,Fa.ot lz tz zs M::_,rfl,b20,fun F=>⟨Jl hW hO Nz,F⟩,?_⟩;refine tF fun F _=>?_;have htz:=Xa F.1.told.rd;have hz5:=(MJ F.1).n5;obtain⟨b,off,hla,_⟩:=F.1.logs.rd.spot (i:=n) (by omega);have hzn:=di (F.1.log n hn5).rd;rw[hlog]at hzn
   refine tR 16 [1,0,1,0] fun σ21 _ _=>?_;refine tV 7 (pt (σ21 0) (1+n)) (fun F C=>(Wi hn5)) ?_;refine tW 8 (.bool false) (fun F K=>CK underlying4 rfl (el K 1 (σ21 0) (Ia M lz tz).toList 40 .l true (by kernel_rfl) (Zz hn5 hd))) ?_;refine tR 6 [1] fun σ23 _ _=>?_;refine tV 15 (pt b (off+n)) (fun F C=>(ZI hla n (by omega))) ?_;refine tV 16 (S3.v (zs n)) (fun F C=>(CK underlying43 rfl (RA F.1.logs.rd hla hn5))) ?_;refine tR 1 [] fun σ25 _ _=>?_;refine tV 18 (.bool true) (fun F C=>(CD (t:=3) (m:=((zs n).n:Int)) (n:=0) (x:=(.tmp 73)) (y:=(.const (iv 0))) (by rw[hzn];rfl))) ?_;refine tR 6 [0,1] fun σ26 _ _=>?_;refine tV 25 (.bool true) (fun F C=>(CD (t:=3) (m:=(M.lets.length:Int)) (n:=(M.lets.length:Int)) (x:=(.tmp 78)) (y:=(.tmp 80)) (by simp))) ?_;refine tR 6 [0,1] fun σ27 _ _=>?_;refine tV 32 (.bool true) (fun F C=>(dK (x:=(.tmp 85)) (y:=(.tmp 87)) (a:=((M.node 0).bad:Int)) (b:=((M.node 1).bad:Int)) (c:=((M.node 2).bad:Int)) (d:=((M.node 3).bad:Int)) (e:=((M.node 4).bad:Int)) rfl rfl rfl rfl rfl)) ?_;refine tR 8 [0,1] fun σ28 _ _=>?_;refine tV 41 (.bool true) (fun F C=>(CD (t:=3) (m:=(tv.n:Int)) (n:=(tz.n:Int)) (x:=(.tmp 93)) (y:=(.tmp 96)) (by rw[htn,htz];simp))) ?_;refine tR 3 [] fun σ29 _ _=>?_;by_cases h6:n=0
   ·refine tV 45 (.bool true) (fun F C=>(CD (t:=3) (m:=(n:Int)) (n:=0) (x:=(.tmp 100)) (y:=(.const (iv 0))) (by rw[h6];rfl))) ?_;refine tR 12 [] fun σ30 _ _=>?_;exact tE (.bool true) fun _ B=>⟨rfl,B⟩
   ·refine tV 45 (.bool false) (fun F C=>(CD (t:=3) (m:=(n:Int)) (n:=0) (x:=(.tmp 100)) (y:=(.const (iv 0))) (by simp;omega))) ?_;refine tR 7 [1,0] fun σ31 _ _=>?_;refine tV 53 (.bool true) (fun F C=>(ZD (x:=(.tmp 105)) (y:=(.tmp 108)) (M.node 0).up)) ?_;refine tR 4 [] fun σ32 _ _=>?_;exact tE (.bool true) fun _ B=>⟨rfl,B⟩
 ·refine tV 3 (.bool false) (fun F C=>(rLt (t:=3) (m:=(i:Int)) (n:=(k.n:Int)) (x:=(.tmp 27)) (y:=(.tmp 29)) (decide_eq_false (by omega)))) ?_;have hM2:BL.acts (L++[acN 8 (n:Int)]++Q.map (·.1))=M:=by rw[Nl,hM];exact Lj _ hd fun x hx=>by obtain⟨p,hp,rfl⟩:=List.mem_map.1 hx;exact(hQ p hp).2
  have hok2:∀ x∈L++[acN 8 (n:Int)]++Q.map (·.1),LacOk x:=fun x hx=>(List.mem_append.1 hx).elim (hok1 x) fun e=>by obtain⟨p,hp,rfl⟩:=List.mem_map.1 e;exact(hQ p hp).1
  refine tR 10 [] fun σ33 _ _=>?_;have hP3:(P1++Q).map (·.1)=L++[acN 8 (n:Int)]++Q.map (·.1):=by rw[List.map_append,hP1]
  have hl3:(L++[acN 8 (n:Int)]++Q.map (·.1)).length≤100:=by rw[List.length_append,List.length_map];omega
  refine tC 1 (fun F C=>QK (AcR.oo F.2.1 hP3) hok2 (by omega) (tb5 hT C) hM2) fun Nz=>?_;rintro _ _ ⟨lz,tz,zs,rfl,hW,hO,b34⟩;refine⟨_,Fa.ot lz tz zs M::_,rfl,b34,fun F=>⟨Jl hW hO Nz,F⟩,?_⟩;refine tF fun F _=>?_;have htz:=Xa F.1.told.rd;have hz5:=(MJ F.1).n5;obtain⟨b,off,hla,_⟩:=F.1.logs.rd.spot (i:=n) (by omega);have hzn:=di (F.1.log n hn5).rd;rw[hlog]at hzn
  refine tR 16 [1,0,1,0] fun σ35 _ _=>?_;refine tV 7 (pt (σ35 0) (1+n)) (fun F C=>(Wi hn5)) ?_;refine tW 8 (.bool false) (fun F K=>CK underlying4 rfl (el K 1 (σ35 0) (Ia M lz tz).toList 40 .l true (by kernel_rfl) (Zz hn5 hd))) ?_;refine tR 6 [1] fun σ37 _ _=>?_;refine tV 15 (pt b (off+n)) (fun F C=>(ZI hla n (by omega))) ?_;refine tV 16 (S3.v (zs n)) (fun F C=>(CK underlying43 rfl (RA F.1.logs.rd hla hn5))) ?_;refine tR 1 [] fun σ39 _ _=>?_;refine tV 18 (.bool true) (fun F C=>(CD (t:=3) (m:=((zs n).n:Int)) (n:=0) (x:=(.tmp 73)) (y:=(.const (iv 0))) (by rw[hzn];rfl))) ?_;refine tR 6 [0,1] fun σ40 _ _=>?_;refine tV 25 (.bool true) (fun F C=>(CD (t:=3) (m:=(M.lets.length:Int)) (n:=(M.lets.length:Int)) (x:=(.tmp 78)) (y:=(.tmp 80)) (by simp))) ?_;refine tR 6 [0,1] fun σ41 _ _=>?_;refine tV 32 (.bool true) (fun F C=>(dK (x:=(.tmp 85)) (y:=(.tmp 87)) (a:=((M.node 0).bad:Int)) (b:=((M.node 1).bad:Int)) (c:=((M.node 2).bad:Int)) (d:=((M.node 3).bad:Int)) (e:=((M.node 4).bad:Int)) rfl rfl rfl rfl rfl)) ?_;refine tR 8 [0,1] fun σ42 _ _=>?_;refine tV 41 (.bool true) (fun F C=>(CD (t:=3) (m:=(tv.n:Int)) (n:=(tz.n:Int)) (x:=(.tmp 93)) (y:=(.tmp 96)) (by rw[htn,htz];simp))) ?_;refine tR 3 [] fun σ43 _ _=>?_;by_cases h6:n=0
  ·refine tV 45 (.bool true) (fun F C=>(CD (t:=3) (m:=(n:Int)) (n:=0) (x:=(.tmp 100)) (y:=(.const (iv 0))) (by rw[h6];rfl))) ?_;refine tR 12 [] fun σ44 _ _=>?_;exact tE (.bool true) fun _ B=>⟨rfl,B⟩
  ·refine tV 45 (.bool false) (fun F C=>(CD (t:=3) (m:=(n:Int)) (n:=0) (x:=(.tmp 100)) (y:=(.const (iv 0))) (by simp;omega))) ?_;refine tR 7 [1,0] fun σ45 _ _=>?_;refine tV 53 (.bool true) (fun F C=>(ZD (x:=(.tmp 105)) (y:=(.tmp 108)) (M.node 0).up)) ?_;refine tR 4 [] fun σ46 _ _=>?_;exact tE (.bool true) fun _ B=>⟨rfl,B⟩
end
end Go.Proofs.YtkchbdgikgbiaabGreatDoor
