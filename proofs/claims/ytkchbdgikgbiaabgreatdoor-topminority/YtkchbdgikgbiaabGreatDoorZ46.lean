/- Part 46 of the walk. -/
import Derived.Test.YtkchbdgikgbiaabGreatDoorZ44
import Derived.Test.YtkchbdgikgbiaabGreatDoorZ45
set_option maxRecDepth 100000
set_option maxHeartbeats 4000000
open Go.Proofs.Tryz
set_option linter.unusedVariables false
namespace Go.Proofs.YtkchbdgikgbiaabGreatDoor
section
def Nod.ub(p:Nod):Bool × Nat:=(p.up,p.bad)
theorem Kr(p:Nod)(b:Bal):(p.promise b).1.ub=p.ub:=by
 unfold Nod.promise;split
 ·rfl
 ·split
  ·rfl
  ·split<;>rfl
theorem RU(p:Nod)(v:Vt):(p.vote v).1.ub=p.ub:=by
 unfold Nod.vote;split
 ·rfl
 ·split
  ·rfl
  ·split<;>rfl
theorem Nu(p:Nod)(j:Nat)(v:Vt):(p.count j v).ub=p.ub:=by
 unfold Nod.count;split
 ·rfl
 ·split<;>rfl
theorem LR(p:Nod)(to:Nat)(e:Int):(p.refuse to e).ub=p.ub:=by unfold Nod.refuse;split<;>rfl
theorem JL(p:Nod)(l:List Cmd):(p.enqueue l).ub=p.ub:=by unfold Nod.enqueue;split<;>rfl
theorem YT(p:Nod)(l:Let):(p.take l).ub=p.ub:=by
 unfold Nod.take;split
 ·split
  ·exact LR _ _ _
  ·exact Kr p l.bal
 ·simp only;split<;>rfl
 ·rfl
 ·split
  ·exact LR _ _ _
  ·exact RU p l.vote
 ·exact Nu p _ _
 ·split<;>rfl
 ·simp only;split<;>exact JL p l.what
 ·rfl
theorem YE(p:Nod)(i:Nat)(q:Pend):(p.runP i q).ub=p.ub:=by
 cases q with
 | began b vs=>unfold Nod.runP;simp only;split<;>rfl
 | prop v=>exact Nu p i v
 | _=>rfl
theorem UJ(i:Nat)(l:List Pend)(p:Nod)(ls:List Let):(doneP i l p ls).1.ub=p.ub:=by
 induction l generalizing p ls with
 | nil=>rfl
 | cons q l ih=>exact(ih _ _).trans (YE p i q)
theorem TP(p:Nod)(c:Cmd):(p.unwant c).ub=p.ub:=by unfold Nod.unwant;split<;>rfl
theorem aC(i:Nat)(l:List Cmd)(p:Nod)(ts:List Tol):(doP i l p ts).1.ub=p.ub:=by
 induction l generalizing p ts with
 | nil=>rfl
 | cons c l ih =>
  rw[doP];split
  ·rfl
  ·exact(ih _ _).trans (TP _ _)
theorem Xr(p:Nod)(i:Nat):(p.askd i).1.ub=p.ub:=by
 unfold Nod.askd;split
 ·rfl
 ·split
  ·exact JL _ _
  ·rfl
theorem Q9(p:Nod):p.propose.ub=p.ub:=by
 unfold Nod.propose;split
 ·rfl
 ·split
  ·rfl
  ·split
   ·rfl
   ·exact RU p _
theorem WG(p:Nod)(i:Nat)(ls:List Let):(p.syncd i ls).1.ub=p.ub:=by
 unfold Nod.syncd;split
 ·rfl
 ·rw[UJ];unfold Nod.syn;split<;>rfl
theorem TH(p:Nod)(i:Nat)(ls:List Let):(p.taught i ls).1.ub=p.ub:=by unfold Nod.taught;split<;>rfl
theorem VS(p:Nod)(i:Nat)(ls:List Let)(ts:List Tol):(p.piece i ls ts).1.ub=p.ub:=by
 unfold Nod.piece;simp only;rw[TH,WG,Q9,Xr,aC]
theorem Yd(p:Nod)(i:Nat):(p.lead i).ub=p.ub:=by
 unfold Nod.lead;simp only;split
 ·rfl
 ·exact Kr p _
theorem Rk(M:Meet)(l:Let)(j:Nat):((M.come l).node j).ub=(M.node j).ub:=by
 unfold Meet.come;split
 ·show(upN M.node l.dst _ j).ub=_;unfold upN;split
  ·rename_i h;rw[h];exact YT _ _
  ·rfl
 ·rfl
theorem U7(l:List Let)(M:Meet)(j:Nat):((l.foldl (fun M l=>M.come l) M).node j).ub=(M.node j).ub:=by
 induction l generalizing M with
 | nil=>rfl
 | cons x l ih=>exact(ih _).trans (Rk M x j)
theorem Yk(M:Meet)(k:Int)(a:Nat)(j:Nat):((M.move k a).node j).ub=(M.node j).ub:=by
 unfold Meet.move;split
 ·rfl
 ·simp only;split
  ·rw[Rk];split<;>rfl
  ·split<;>rfl
theorem He(M:Meet)(i:Nat)(p:Nod)(ls:List Let)(ts:List Tol)(j:Nat):(M.set i p ls ts).node j=if j=i then p else M.node j:=rfl
theorem ZO(M:Meet){x:Lac}(h1:x.k≠1)(h8:x.k≠8)(h9:x.k≠9)(j:Nat):((M.act x).node j).ub=(M.node j).ub:=by
 unfold Meet.act;simp only;rw[if_neg h1];by_cases h2:x.k=2
 ·rw[if_pos h2,He];split
  ·rename_i e
   rw[e];split
   ·exact Yd _ _
   ·rfl
  ·rfl
 ·rw[if_neg h2];by_cases h3:x.k=3
  ·rw[if_pos h3,He];split
   ·rename_i e
    rw[e];split
    ·exact VS _ _ _ _
    ·rfl
   ·rfl
  ·rw[if_neg h3];by_cases h4:x.k=4∨x.k=5∨x.k=6
   ·rw[if_pos h4];exact Yk _ _ _ _
   ·rw[if_neg h4];by_cases h7:x.k=7
    ·rw[if_pos h7];exact U7 _ _ _
    ·rw[if_neg h7,if_neg h8,if_neg h9]
theorem cx(M:Meet){x:Lac}(h1:x.k=1)(j:Nat):((M.act x).node j).ub=if j=x.n.toNat∧(M.node j).up=true∧opE x.d ((M.node j).done:Int)≠0 then((M.node j).up,(M.node j).bad+1)else(M.node j).ub:=by
 unfold Meet.act;simp only;rw[if_pos h1,He];by_cases hj:j=x.n.toNat
 ·subst hj;rw[if_pos rfl];unfold Nod.subm Nod.sub0;by_cases hu:(M.node x.n.toNat).up=false
  ·rw[if_pos hu,if_neg (by rw[hu];simp)]
  ·rw[if_neg hu];have hu':(M.node x.n.toNat).up=true:=by simpa using hu
   by_cases he:opE x.d ((M.node x.n.toNat).done:Int)≠0
   ·rw[if_pos he,if_pos ⟨rfl,hu',he⟩];rfl
   ·rw[if_neg he,if_neg (c:=_∧_) (fun e=>he e.2.2)];split
    ·rfl
    ·show(Nod.want _ _).ub=_;unfold Nod.want;split<;>rfl
 ·rw[if_neg hj,if_neg (fun e=>hj e.1)]
theorem Sa(M:Meet)(L:List Lac)(x:Lac):M.acts (L++[x])=(M.acts L).act x:=by unfold Meet.acts;rw[List.foldl_append];rfl
theorem Sb{M:Meet}{L:List Lac}{i:Nat}{x:Lac}(h:L[i]?=some x):M.acts (L.take (i+1))=(M.acts (L.take i)).act x:=by rw[List.take_add_one,h];exact Sa M (L.take i) x
theorem Ue(L:List Lac)(h:∀ x∈L,LacOk x)(hl:L.length≤100000):MOk L.length (Cb.acts L):=by
 suffices ∀ i,i≤L.length→MOk i (Cb.acts (L.take i))by have h1:=this L.length (Nat.le_refl _);rwa [List.take_length]at h1
 intro i;induction i with
 | zero=>intro _;exact MOk.zero
 | succ i ih =>
  intro hi;have hx:L[i]?=some L[i]:=List.getElem?_eq_getElem (by omega);rw[Sb hx];exact(ih (by omega)).act (by omega) (h _ (List.getElem_mem _))
theorem XK(g:Gr)(cr:Bool):LacOk (Mp g cr):=by
 have h1:=AN g.a 5 (by omega);have h2:=AN g.c 20 (by omega);have h3:=AN g.c 90 (by omega);have hl:(pkB g).length≤63:=by
  have:(pkP g).length=63:=Km (VT g);unfold pkB;split
  ·rw[List.length_take];omega
  ·omega
 rw[← FC];unfold Mp acN
 repeat' split
 all_goals simp[SO,EG,Fv,Fw];try omega
theorem OI{P:Lac→Prop}(h7:P (acN 7 0)){cr:Bool}(hg:∀ g,P (Mp g cr))(s:Nat)(l:List Gr):∀ x∈MI cr s l,P x:=by
 induction l generalizing s with
 | nil=>intro x hx;cases hx
 | cons g l ih =>
  intro x hx;rcases List.mem_cons.1 hx with rfl|hx
  ·unfold Wn;split
   ·exact h7
   ·exact hg g
  ·exact ih _ x hx
theorem bV(l:List Gr)(m:Nat)(cr:Bool):∀ x∈scr l m cr,LacOk x:=OI (by rw[← FC];decide) (fun g=>XK g cr) _ _
theorem Wo(cr:Bool)(s:Nat)(l:List Gr):(MI cr s l).length=l.length:=by
 induction l generalizing s with
 | nil=>rfl
 | cons g l ih=>rw[MI,List.length_cons,ih,List.length_cons]
theorem YI(l:List Gr)(m:Nat)(cr:Bool):(scr l m cr).length≤m:=by unfold scr;rw[Wo,List.length_take];omega
theorem Wp(l:List Gr)(m:Nat):∀ x∈scr l m false,x.k≠8∧x.k≠9:=OI (P:=fun x=>x.k≠8∧x.k≠9) (by decide) (fun g=>by
 unfold Mp acN
 repeat' split
 all_goals simp_all) _ _
theorem ZP(M:Meet){x:Lac}(h8:x.k≠8){j:Nat}(hu:(M.node j).up=true):((M.act x).node j).up=true:=by
 by_cases h1:x.k=1
 ·have:=congrArg Prod.fst (cx M h1 j);split at this
  ·exact this.trans hu
  ·exact this.trans hu
 ·by_cases h9:x.k=9
  ·unfold Meet.act;simp only;rw[if_neg h1,if_neg (by omega),if_neg (by omega),if_neg (by omega),if_neg (by omega),if_neg (by omega),if_pos h9,He];split
   ·rename_i e;rw[← e,if_pos hu];exact hu
   ·exact hu
  ·exact(congrArg Prod.fst (ZO M h1 h8 h9 j)).trans hu
theorem Ra(L:List Lac)(h8:∀ x∈L,x.k≠8)(M:Meet){j:Nat}(hu:(M.node j).up=true):((M.acts L).node j).up=true:=by
 induction L generalizing M with
 | nil=>exact hu
 | cons x L ih=>exact ih (fun y hy=>h8 y (List.mem_cons_of_mem _ hy)) _ (ZP M (h8 x List.mem_cons_self) hu)
theorem MZ(M:Meet)(L K:List Lac):M.acts (L++K)=(M.acts L).acts K:=List.foldl_append
theorem Pj{k n:Int}(h:(k=2∨k=3∨k=9)∧0≤n∧n≤4):LacOk (acN k n):=by
 rw[← FC];rcases h with⟨rfl|rfl|rfl,h1,h2⟩<;>simp[SO,acN,EG,Fv,Fw]<;>omega
theorem GW(p:Nod)(b:Bal):(p.promise b).1.agreed=p.agreed∧(p.promise b).1.done=p.done∧(p.promise b).1.pend=p.pend∧(p.promise b).1.rnd=p.rnd:=by
 unfold Nod.promise;split
 ·exact⟨rfl,rfl,rfl,rfl⟩
 ·split
  ·exact⟨rfl,rfl,rfl,rfl⟩
  ·split<;>exact⟨rfl,rfl,rfl,rfl⟩
theorem Uw{ac:List Acc}(h:∀ a∈ac,a.vs=[])(s:Int):CD ac s≠0:=by
 have hf:(ac.map (·.vs)).flatten=[]:=by
  rw[List.flatten_eq_nil_iff];intro l hl;obtain⟨a,ha,rfl⟩:=List.mem_map.1 hl;exact h a ha
 have hl:Er ac s=[]:=by unfold Er;rw[hf];rfl
 unfold CD;rw[hl];split
 ·decide
 ·split
  ·decide
  ·simp[G8]
theorem Yh{r:Rnd}(h:∀ j,(r.heard j).vs=[])(k:Nat)(l:List Cmd):Jc k r l=l:=by
 cases k with
 | zero=>rfl
 | succ k =>
  rw[Jc,if_neg];exact Uw (fun a ha=>by simp[Rnd.accs]at ha;rcases ha with rfl|rfl|rfl|rfl|rfl<;>exact h _) _
structure Duo(x y i:Nat)(p:Nod):Prop where
 dw:i≠x→i≠y→p.up=false
 ag:p.agreed=[]
 dn:p.done=0
 vs:p.vo.vs=[]
 pr:∀ j,j≠x→j≠y→p.rnd.pro j=false
 he:∀ j,(p.rnd.heard j).vs=[]
 pe:∀ q∈p.pend,(∃ b,q=.began b [])∨(∃ to b,q=.prom to b [])∨∃ to b,q=.refuse to b
structure DuoL(x y:Nat)(l:Let):Prop where
 kd:l.kind=0∨l.kind=1∨l.kind=2∨l.kind=6
 src:l.src=x∨l.src=y
 vs:l.kind=1→l.votes=[]∧l.what=[]
theorem Duo.enough{x y i:Nat}{p:Nod}(h:Duo x y i p):p.rnd.enough=false:=by
 refine decide_eq_false ?_;have hb:∀ j,p.rnd.pro j=true→j=x∨j=y:=fun j hj=>by
  by_cases h1:j=x
  ·exact .inl h1
  ·by_cases h2:j=y
   ·exact .inr h2
   ·rw[h.pr j h1 h2]at hj;cases hj
 unfold X0;cases h0:p.rnd.pro 0<;>cases h1:p.rnd.pro 1<;>cases h2:p.rnd.pro 2<;>cases h3:p.rnd.pro 3<;>cases h4:p.rnd.pro 4<;>first
  | decide
  | (exfalso;have e0:=hb 0;have e1:=hb 1;have e2:=hb 2;have e3:=hb 3;have e4:=hb 4;simp only[h0,h1,h2,h3,h4,forall_const,Bool.false_eq_true,false_implies]at e0 e1 e2 e3 e4;omega)
theorem FV{p:Nod}(h:p.vo.vs=[])(b:Bal):(p.promise b).1.vo.vs=[]∧(p.promise b).2.1=[]:=by
 unfold Nod.promise;split
 ·exact⟨h,rfl⟩
 ·split
  ·exact⟨h,h⟩
  ·split<;>first|exact⟨h,rfl⟩|exact⟨h,h⟩
theorem Duo.of{x y i:Nat}{p q:Nod}(h:Duo x y i p)(hu:p.up=true)(ag:q.agreed=[])(dn:q.done=0)(vs:q.vo.vs=[])(pr:∀ j,j≠x→j≠y→q.rnd.pro j=false)(he:∀ j,(q.rnd.heard j).vs=[])(pe:∀ r∈q.pend,(∃ b,r=.began b [])∨(∃ to b,r=.prom to b [])∨∃ to b,r=.refuse to b):Duo x y i q :=
 ⟨fun h1 h2=>absurd hu (by rw[h.dw h1 h2];decide),ag,dn,vs,pr,he,pe⟩
theorem Duo.xy{x y i:Nat}{p:Nod}(h:Duo x y i p)(hu:p.up=true):i=x∨i=y:=by
 by_cases h1:i=x
 ·exact .inl h1
 ·by_cases h2:i=y
  ·exact .inr h2
  ·rw[h.dw h1 h2]at hu;cases hu
theorem XB(x y i:Nat):NInv ⟨true,true,false,false⟩ i (fun _=>True) (DuoL x y) (Duo x y i) where
 take:=fun _ p l h hl _ hu=>by
  unfold Nod.take;rcases hl.kd with k|k|k|k<;>rw[k]<;>simp only
  ·split
   ·unfold Nod.refuse;split
    ·exact h.of hu h.ag h.dn h.vs h.pr h.he fun q hq=>(List.mem_append.1 hq).elim (h.pe q) fun e=>.inr (.inr ⟨_,_,List.mem_singleton.1 e⟩)
    ·exact h
   ·have hk:=GW p l.bal;have hv:=FV h.vs l.bal;refine h.of hu (hk.1.trans h.ag) (hk.2.1.trans h.dn) hv.1 (fun j h1 h2=>?_) (fun j=>?_) fun q hq=>?_
    ·show(p.promise l.bal).1.rnd.pro j=false;rw[hk.2.2.2];exact h.pr j h1 h2
    ·show((p.promise l.bal).1.rnd.heard j).vs=[];rw[hk.2.2.2];exact h.he j
    ·rcases List.mem_append.1 hq with e|e
     ·exact h.pe q (hk.2.2.1▸e)
     ·rw[hv.2]at e;exact .inr (.inl ⟨_,_,List.mem_singleton.1 e⟩)
  ·obtain⟨h1,h2⟩:=hl.vs k;have hL:p.learn 0 l.what=p:=by unfold Nod.learn;rw[h2,List.drop_nil,List.append_nil]
   rw[hL,h1];split
   ·exact h
   ·have hh:∀ j,(upN p.rnd.heard l.src (FR ⟨p.rnd.bal,[]⟩ (p.rnd.heard l.src).vs) j).vs=[]:=fun j=>by
     unfold upN;split
     ·rw[h.he l.src];rfl
     ·exact h.he j
    refine h.of hu ?_ h.dn h.vs (fun j g1 g2=>?_) hh h.pe
    ·show Jc 41 _ p.agreed=[];rw[Yh hh];exact h.ag
    ·show upN p.rnd.pro l.src true j=false;unfold upN;split
     ·rename_i e;rcases hl.src with e2|e2<;>omega
     ·exact h.pr j g1 g2
  ·exact h.of hu h.ag h.dn h.vs h.pr h.he h.pe
  ·have he:∀ q:Nod,q=p.enqueue l.what→Duo x y i q:=fun q e=>by
    rw[e];unfold Nod.enqueue;split
    ·exact h.of hu h.ag h.dn h.vs h.pr h.he h.pe
    ·exact h
   have:=he _ rfl;rw[if_neg (by rw[this.ag];simp)];exact this
 one:=fun p c h _ hc _=>by rw[h.ag]at hc;simp at hc
 ask:=fun p h hu=>by
  have h2:Duo x y i { p with asked:=(CS p.vo.p p.asked (p.wants.take 40)).2 }:=h.of hu h.ag h.dn h.vs h.pr h.he h.pe;unfold Nod.askd;split
  ·exact⟨h2,fun _ hm=>by cases hm⟩
  ·split
   ·refine⟨?_,fun _ hm=>by cases hm⟩;unfold Nod.enqueue;split
    ·exact h.of hu h.ag h.dn h.vs h.pr h.he h.pe
    ·exact h2
   ·refine⟨h2,fun m hm=>?_⟩;rw[List.mem_singleton.1 hm];exact⟨.inr (.inr (.inr rfl)),h.xy hu,fun e=>by cases e⟩
 prop:=fun p h _=>by unfold Nod.propose;rw[if_pos (.inr (.inl h.enough))];exact h
 syn:=fun p h hu=>by
  unfold Nod.syn;split
  ·exact h.of hu h.ag h.dn h.vs h.pr h.he h.pe
  ·exact h
 run:=fun p q l h hu he _=>by
  have hl:=fun q hq=>h.pe q (by rw[he];exact List.mem_cons_of_mem _ hq);have hxy:=h.xy hu;have h0:Duo x y i { p with pend:=l }:=h.of hu h.ag h.dn h.vs h.pr h.he hl;rcases h.pe q (by rw[he];exact List.mem_cons_self)with⟨b,rfl⟩|⟨to,b,rfl⟩|⟨to,b,rfl⟩
  ·unfold Nod.runP Nod.sentP;simp only;split
   ·exact⟨h0,fun _ hm=>by cases hm⟩
   ·refine⟨h.of hu h.ag h.dn h.vs (fun j g1 g2=>?_) (fun j=>?_) hl,fun m hm=>?_⟩
    ·show upN p.rnd.pro i true j=false;unfold upN;split
     ·rename_i e;rcases hxy with e2|e2<;>omega
     ·exact h.pr j g1 g2
    ·show(upN p.rnd.heard i (FR ⟨p.rnd.bal,[]⟩ (p.rnd.heard i).vs) j).vs=[];unfold upN;split
     ·rw[h.he i];rfl
     ·exact h.he j
    ·obtain⟨j,_,rfl⟩:=List.mem_map.1 hm;exact⟨.inl rfl,hxy,fun e=>by cases e⟩
  ·refine⟨h0,fun m hm=>?_⟩;rw[List.mem_singleton.1 hm];exact⟨.inr (.inl rfl),hxy,fun _=>⟨rfl,h.ag⟩⟩
  ·refine⟨h0,fun m hm=>?_⟩;rw[List.mem_singleton.1 hm];exact⟨.inr (.inr (.inl rfl)),hxy,fun e=>by cases e⟩
 teach:=fun p h hu _=>by
  refine⟨h.of hu h.ag h.dn h.vs h.pr h.he h.pe,fun m hm=>?_⟩;have:∀ k,Dh p i k=[]:=fun k=>by
   induction k with
   | zero=>rfl
   | succ k ih=>rw[Dh,ih,if_neg];rfl;unfold OX;rw[h.ag];simp
  rw[this]at hm;cases hm
 lead:=fun _ p h hu=>by
  unfold Nod.lead;simp only;split
  ·exact h
  ·have hk:=GW p ⟨max p.rounds p.vo.p.r+1,(i:Int)⟩;have hv:=FV h.vs ⟨max p.rounds p.vo.p.r+1,(i:Int)⟩;refine h.of hu (hk.1.trans h.ag) (hk.2.1.trans h.dn) hv.1 (fun _ _ _=>rfl) (fun _=>rfl) fun q hq=>?_;rcases List.mem_append.1 hq with hq|hq
   ·exact h.pe q (hk.2.2.1▸hq)
   ·rw[hv.2]at hq;exact .inl ⟨_,List.mem_singleton.1 hq⟩
 sub:=fun p d ts h _ hu=>by
  unfold Nod.subm Nod.sub0;split
  ·exact h
  ·split
   ·exact h.of hu h.ag h.dn h.vs h.pr h.he h.pe
   ·split
    ·exact h
    ·show Duo x y i (Nod.want _ _);unfold Nod.want;split
     ·exact h
     ·exact h.of hu h.ag h.dn h.vs h.pr h.he h.pe
 crash:=fun e=>by cases e
 start:=fun e=>by cases e
theorem UN(x y i:Nat):TInv i (fun _=>True) (Duo x y i) (fun ts=>ts=[]) where
 one:=fun p c ts h _ hc _ _ _=>by rw[h.ag]at hc;simp at hc
 sub:=fun p d ts h _ _ _ hm _=>by rw[h.ag]at hm;simp at hm
def CI(x y k:Nat):List Lac:=((List.range k).filter fun n=>decide (n≠x∧n≠y)).map fun n:Nat=>acN 8 (n:Int)
theorem GR(x y k:Nat):CI x y (k+1)=CI x y k++if k≠x∧k≠y then[acN 8 (k:Int)]else[]:=by
 unfold CI;rw[List.range_succ,List.filter_append,List.map_append];by_cases h:k≠x∧k≠y
 ·rw[if_pos h];simp[h]
 ·rw[if_neg h];simp[h]
theorem VK(x y k:Nat):Cb.acts (CI x y k)=⟨fun j=>if j<k∧j≠x∧j≠y then Bf.crash 0 else Bf,[],[]⟩:=by
 induction k with
 | zero=>simp[CI,Cb,Meet.acts]
 | succ k ih =>
  rw[GR,MZ,ih];have hf:∀ (c:Prop) [Decidable c],(k≠x∧k≠y↔c)→(fun j=>if j<k+1∧j≠x∧j≠y then Bf.crash 0 else Bf)=fun j=>if j=k∧c then Bf.crash 0 else if j<k∧j≠x∧j≠y then Bf.crash 0 else Bf:=fun c _ hc=>by
   funext j
   by_cases h1:j=k
   ·subst h1;by_cases h2:j≠x∧j≠y
    ·rw[if_pos ⟨by omega,h2⟩,if_pos ⟨rfl,hc.1 h2⟩]
    ·rw[if_neg (fun e=>h2 e.2),if_neg (fun e=>h2 (hc.2 e.2)),if_neg (fun e=>h2 e.2)]
   ·rw[if_neg (fun(e:j=k∧c)=>h1 e.1)];by_cases h3:j<k∧j≠x∧j≠y
    ·rw[if_pos ⟨by omega,h3.2⟩,if_pos h3]
    ·rw[if_neg (fun e=>h3 ⟨by omega,e.2⟩),if_neg h3]
  by_cases h:k≠x∧k≠y
  ·rw[if_pos h,hf True (by simp[h])];show Meet.act _ (acN 8 (k:Int))=_;unfold Meet.act;simp only;rw[if_neg (by simp[acN]),if_neg (by simp[acN]),if_neg (by simp[acN]),if_neg (by simp[acN]),if_neg (by simp[acN]),if_pos (show(acN 8 (k:Int)).k=8 from rfl)];unfold Meet.set
   congr 1
   funext j
   unfold upN;rw[show(acN 8 (k:Int)).n.toNat=k from Int.toNat_natCast k];by_cases h1:j=k
   ·rw[if_pos h1,if_pos (show j=k∧True from⟨h1,trivial⟩),if_neg (show ¬ (k<k∧k≠x∧k≠y)by omega)];rfl
   ·rw[if_neg h1,if_neg (show ¬ (j=k∧True)from fun e=>h1 e.1)]
  ·rw[if_neg h,hf False ⟨h,False.elim⟩];simp[Meet.acts]
theorem duo{x y:Nat}(L:List Lac)(h:∀ a∈L,LacOk a∧a.k≠8∧a.k≠9)(hl:L.length≤100000)(hx:x<5)(hy:y<5):(∀ i,i<5→(Cb.acts (CI x y 5++L)).log i=[])∧(Cb.acts (CI x y 5++L)).told=[]∧((Cb.acts (CI x y 5++L)).node x).up=true∧((Cb.acts (CI x y 5++L)).node y).up=true:=by
 have hoo:∀ k,k≤5→∀ a∈CI x y k,LacOk a:=fun k hk a ha=>by
  obtain⟨n,hn,rfl⟩:=List.mem_map.1 ha;have:=List.mem_range.1 (List.mem_filter.1 hn).1;rw[← FC];simp[SO,acN,EG,Fv,Fw];omega
 have hol:(CI x y 5).length≤5:=by unfold CI;rw[List.length_map];exact Nat.le_trans (List.length_filter_le _ _) (by rw[List.length_range];omega)
 have hm:=Ue (CI x y 5) (hoo 5 (Nat.le_refl _)) (by omega);rw[MZ];rw[VK]at hm ⊢
 have hc:Bf.crash 0=Bf.bare false [] 0 DM []:=by
  unfold Nod.crash;rw[if_neg (by decide)];rfl
 have hI:GInv (DuoL x y) (Duo x y) ⟨fun j=>if j<5∧j≠x∧j≠y then Bf.crash 0 else Bf,[],[]⟩:=⟨fun i hi=>by
  show Duo x y i (if i<5∧i≠x∧i≠y then Bf.crash 0 else Bf);split
  ·rw[hc];exact⟨fun _ _=>rfl,rfl,rfl,rfl,fun _ _ _=>rfl,fun _=>rfl,fun q hq=>by cases hq⟩
  ·rename_i hn;exact⟨fun e1 e2=>absurd ⟨hi,e1,e2⟩ hn,rfl,rfl,rfl,fun _ _ _=>rfl,fun _=>rfl,fun q hq=>by cases hq⟩,fun l hl=>by cases hl⟩
 obtain⟨h1,h2,_⟩:=GInv.acts (D:=fun _ _=>True) (P:=Duo x y) (fun i _=>XB x y i) (fun i _=>UN x y i) L hm (by omega) hI rfl fun a ha=>⟨(h a ha).1,⟨fun _=>rfl,fun _=>rfl,fun e=>absurd e (h a ha).2.1,fun e=>absurd e (h a ha).2.2⟩,fun _=>trivial⟩;refine⟨fun i hi=>?_,h2,Ra L (fun a ha=>(h a ha).2.1) _ ?_,Ra L (fun a ha=>(h a ha).2.1) _ ?_⟩
 ·unfold Meet.log;rw[(h1.node i hi).ag,List.take_nil]
 ·show(if x<5∧x≠x∧x≠y then Bf.crash 0 else Bf).up=true;rw[if_neg (fun e=>e.2.1 rfl)];rfl
 ·show(if y<5∧y≠x∧y≠y then Bf.crash 0 else Bf).up=true;rw[if_neg (fun e=>e.2.2 rfl)];rfl
end
section
open Go.RowKit
theorem MY{n many c:Int}{w:World}(h:I64 n)(hc:pick n many=c)(hm:0<many:=by decide)(hm2:many≤9223372036854775807:=by decide) :
  Calls prog 10 #[iv n,iv many] w fun e w'=>e=.returned (iv c)∧Bw w w':=by subst hc;exact BA h many hm hm2
def Hp(x y:Nat):Nat→List Lac
 | 0=>[]
 | k+1=>Hp x y k++[acN 3 (x:Int),acN 3 (y:Int),acN 7 0]
theorem YW(x y k:Nat):(Hp x y k).length=3*k:=by
 induction k with
 | zero=>rfl
 | succ k ih=>rw[Hp,List.length_append,ih];show 3*k+3=_;omega
theorem R9(x y k:Nat):(CI x y k).length≤k:=by unfold CI;rw[List.length_map];exact Nat.le_trans (List.length_filter_le _ _) (by rw[List.length_range];omega)
theorem bB(x y:Nat):∀ a∈CI x y 5,LacOk a:=fun a ha=>by
 obtain⟨n,hn,rfl⟩:=List.mem_map.1 ha;have:=List.mem_range.1 (List.mem_filter.1 hn).1;rw[← FC];simp[SO,acN,EG,Fv,Fw];omega
theorem cG{x y:Nat}(hx:x<5)(hy:y<5)(k:Nat):∀ a∈Hp x y k,LacOk a∧a.k≠8∧a.k≠9:=by
 induction k with
 | zero=>intro a ha;cases ha
 | succ k ih =>
  intro a ha;rcases List.mem_append.1 ha with ha|ha
  ·exact ih a ha
  ·simp only[List.mem_cons,List.not_mem_nil,or_false]at ha;rcases ha with rfl|rfl|rfl
   ·exact⟨Pj ⟨.inr (.inl rfl),by omega,by omega⟩,by show(3:Int)≠8;decide,by show(3:Int)≠9;decide⟩
   ·exact⟨Pj ⟨.inr (.inl rfl),by omega,by omega⟩,by show(3:Int)≠8;decide,by show(3:Int)≠9;decide⟩
   ·exact⟨by rw[← FC];decide,by decide,by decide⟩
theorem Iv{l:S3}{G:List Gr}{wa wb:Int}{w:World}(h:RdV w l 5 (grL G))(hG:∀ g∈G,GrOk g)(hwa:I64 wa)(hwb:I64 wb)(hT:TY w) :
  Calls prog 6 #[l.v,iv wa,iv wb] w fun e w'=>e=.returned (.bool true)∧Bw w w':=by
 obtain⟨L,hL⟩:∃ L,scr G 80 false=L:=⟨_,rfl⟩;have hok:=bV G 80 false;have hln:=YI G 80 false;have hkn:=Wp G 80;rw[hL]at hok hln hkn
 have hr:=AN wa 5 (by omega);have hr2:=AN wb 4 (by omega);obtain⟨x,hx,hx5⟩:∃ n:Nat,pick wa 5=(n:Int)∧n<5:=⟨(pick wa 5).toNat,by omega,by omega⟩;obtain⟨q,hq,hq4⟩:∃ n:Nat,pick wb 4=(n:Int)∧n<4:=⟨(pick wb 4).toNat,by omega,by omega⟩;obtain⟨y,hy,hy5⟩:∃ n:Nat,((x:Int)+1+(q:Int))%5=(n:Int)∧n<5:=⟨((x:Int)+1+(q:Int)).toNat%5,by omega,by omega⟩;refine tIn [] func6 trivial ?_;refine tR 7 [] fun σ1 _ _=>?_;refine tC 1 (fun F C=>MY hwa hx) fun Nz=>?_;rintro _ _ ⟨rfl,b2⟩;refine⟨_,_,rfl,b2,id,?_⟩;refine tR 5 [] fun σ3 _ _=>?_;refine tV 1 (iv ((x:Int)+1)) (fun F C=>(AJ (x:=(.tmp 18)) (y:=(.const (iv 1))) (x:Int) 1 underlying3 (by omega))) ?_;refine tR 1 [] fun σ4 _ _=>?_;refine tC 3 (fun F C=>MY hwb hq) fun Nz=>?_;rintro _ _ ⟨rfl,b5⟩;refine⟨_,_,rfl,b5,id,?_⟩;refine tV 4 (iv ((x:Int)+1+(q:Int))) (fun F C=>(AJ (x:=(.tmp 19)) (y:=(.tmp 21)) ((x:Int)+1) (q:Int) underlying3 (by omega))) ?_;refine tV 5 (iv (y:Int)) (fun F C=>(hy▸RE (x:=(.tmp 22)) (y:=(.const (iv 5))) ((x:Int)+1+(q:Int)) 5 underlying3 (by omega) (by omega) (by decide) (by decide))) ?_;refine tR 12 [] fun σ8 _ _=>?_;refine IQ 103 [(0,S3.v l),(7,iv (x:Int)),(8,iv (y:Int)),(9,sn),(10,iv 0)] [] [] [Fa.oa 0 s30 (rnP (CI x y 0))] (fun kk ee LL ΦΦ=>∃ (n:Nat) (z:S3),kk=5-n∧ee=[(0,S3.v l),(7,iv (x:Int)),(8,iv (y:Int)),(9,S3.v z),(10,iv (n:Int))]∧LL=[]∧ΦΦ=[Fa.oa 0 z (rnP (CI x y n))]∧n≤5∧z.n=(CI x y n).length) (5) ⟨0,s30,rfl,rfl,rfl,rfl,by omega,rfl⟩ (fun F=>⟨⟨OwnS.nil _ _ _ _ _ _,(fun p hp=>by cases hp)⟩,trivial⟩) ?_;rintro k _ _ _ ⟨n,z,rfl,rfl,rfl,rfl,hn,hzn⟩ _ _ _ J hJ;refine tR 6 [] fun σ9 _ _=>?_;by_cases h1:n<5
 ·refine tI ((decide ((n:Int)<5))) true (decide_eq_true (by omega)) ?_;have hol:=R9 x y n;refine tR 7 [] fun σ10 _ _=>?_;by_cases h2:n≠x
  ·refine tV 2 (.bool true) (fun F C=>(E8 (t:=3) (m:=(n:Int)) (n:=(x:Int)) (x:=(.tmp 28)) (y:=(.tmp 29)) (by simp;omega))) ?_;refine tR 3 [] fun σ11 _ _=>?_;by_cases h3:n≠y
   ·refine tV 6 (.bool true) (fun F C=>(E8 (t:=3) (m:=(n:Int)) (n:=(y:Int)) (x:=(.tmp 32)) (y:=(.tmp 33)) (by simp;omega))) ?_;refine tR 8 [0,0] fun σ12 _ _=>?_;refine OR 4 0 (x:=z) 24 24 34 5 56 zLa ⟨(σ12 0),0,none⟩ 1 1 [iv 8,iv (n:Int),iv 0,iv 0,sn] (fun F=>F.1.1) [Fa.dt ((rnP (CI x y n))++[(acN 8 (n:Int),s30)])] (fun F=>⟨Dat.snoc F.1.2 (XJ _ _),trivial⟩) rfl (by simp[TQ]) rfl (by simp[Value.oneCell']) (fun F K=>BL K 0 (σ12 0) [iv 8,iv (n:Int),iv 0,iv 0,sn] 34 .z true (by kernel_rfl)) (by unfold maxLen;omega) (by omega) fun y13 _ _ n13=>?_;refine tR 5 [] fun σ14 _ _=>?_;refine tV 1 (iv ((n:Int)+1)) (fun F C=>(AJ (x:=(.tmp 26)) (y:=(.const (iv 1))) (n:Int) 1 underlying3 (by omega))) ?_;refine tR 2 [] fun σ15 _ _=>?_;have hos:CI x y (n+1)=CI x y n++[acN 8 (n:Int)]:=by rw[GR,if_pos (by omega)]
    exact tB hJ (5-(n+1)) (by omega) [false] ⟨n+1,y13,rfl,rfl,rfl,rfl,by omega,(by rw[hos,List.length_append,List.length_singleton];omega)⟩ (fun F=>by rw[hos,Wh];exact⟨⟨(by rw[DX];exact F.1),F.2.1⟩,trivial⟩)
   ·refine tV 6 (.bool false) (fun F C=>(E8 (t:=3) (m:=(n:Int)) (n:=(y:Int)) (x:=(.tmp 32)) (y:=(.tmp 33)) (by simp;omega))) ?_;refine tR 7 [] fun σ16 _ _=>?_;refine tV 1 (iv ((n:Int)+1)) (fun F C=>(AJ (x:=(.tmp 26)) (y:=(.const (iv 1))) (n:Int) 1 underlying3 (by omega))) ?_;refine tR 2 [] fun σ17 _ _=>?_;have hos:CI x y (n+1)=CI x y n:=by rw[GR,if_neg (by omega),List.append_nil]
    exact tB hJ (5-(n+1)) (by omega) [] ⟨n+1,z,rfl,rfl,rfl,rfl,by omega,(by rw[hos];exact hzn)⟩ (fun F=>by rw[hos];exact F)
  ·refine tV 2 (.bool false) (fun F C=>(E8 (t:=3) (m:=(n:Int)) (n:=(x:Int)) (x:=(.tmp 28)) (y:=(.tmp 29)) (by simp;omega))) ?_;refine tR 11 [] fun σ18 _ _=>?_;refine tV 1 (iv ((n:Int)+1)) (fun F C=>(AJ (x:=(.tmp 26)) (y:=(.const (iv 1))) (n:Int) 1 underlying3 (by omega))) ?_;refine tR 2 [] fun σ19 _ _=>?_;have hos:CI x y (n+1)=CI x y n:=by rw[GR,if_neg (by omega),List.append_nil]
   exact tB hJ (5-(n+1)) (by omega) [] ⟨n+1,z,rfl,rfl,rfl,rfl,by omega,(by rw[hos];exact hzn)⟩ (fun F=>by rw[hos];exact F)
 ·refine tI ((decide ((n:Int)<5))) false (decide_eq_false (by omega)) ?_;obtain rfl:n=5:=by omega
  have hol:=R9 x y 5;generalize hO:CI x y 5=O at hol hzn ⊢;refine tR 4 [] fun σ20 _ _=>?_;refine tC 1 (fun F C=>Ty (most:=80) (cr:=false) (h.below (CgQ.below C)) hG (by decide) (tbA hT.1 C)) fun Nz=>?_;rintro _ _ ⟨s,P,rfl,hP,hN,b21⟩;refine⟨_,Fa.ac s P::_,rfl,b21,fun F=>⟨hN.ac Nz,F⟩,?_⟩;rw[hL]at hP
  have hPl:P.length=L.length:=by rw[← hP,List.length_map]
  refine tF fun F _=>?_;have hsn:=(AcR.of F.1 hP).n;refine tR 8 [] fun σ22 _ _=>?_;refine IQ 103 [(7,iv (x:Int)),(8,iv (y:Int)),(9,S3.v z),(11,S3.v s),(12,iv 0)] [] [] [Fa.ac s P,Fa.oa 0 z (rnP O++P.take 0)] (fun kk ee LL ΦΦ=>∃ (i:Nat) (z2:S3),kk=P.length-i∧ee=[(7,iv (x:Int)),(8,iv (y:Int)),(9,S3.v z2),(11,S3.v s),(12,iv (i:Int))]∧LL=[]∧ΦΦ=[Fa.ac s P,Fa.oa 0 z2 (rnP O++P.take i)]∧i≤P.length∧z2.n=O.length+i) (P.length) ⟨0,z,rfl,rfl,rfl,rfl,by omega,by omega⟩ (fun F=>⟨F.1,(by rw[List.take_zero,List.append_nil];exact F.2.1),trivial⟩) ?_;rintro k _ _ _ ⟨i,z2,rfl,rfl,rfl,rfl,hi,hz2⟩ _ _ _ J hJ;refine tR 8 [] fun σ23 _ _=>?_;by_cases h1:i<P.length
  ·refine tI ((decide ((i:Int)<(s.n:Int)))) true (decide_eq_true (by omega)) ?_;obtain⟨⟨a,yd⟩,ha⟩:∃ a,P[i]?=some a:=⟨_,List.getElem?_eq_getElem (by omega)⟩;refine tF fun F _=>?_;obtain⟨b,off,hxa,_,hin⟩:=Zr F.1 ha;have htk:rnP O++P.take (i+1)=rnP O++P.take i++[(a,yd)]:=by rw[List.take_add_one,ha,List.append_assoc];rfl
   refine tR 7 [] fun σ24 _ _=>?_;refine tV 3 (pt b (off+5*i)) (fun F C=>(Wb (c:=s.c) hxa i hin)) ?_;refine tF fun F _=>?_;refine tV 4 (.agg #[iv a.k,iv a.n,iv a.a,iv a.p,S3.v yd]) (fun F C=>(bI (acS F.1 hxa ha))) ?_;refine tR 1 [0,0] fun σ26 _ _=>?_;refine OR 6 0 (x:=z2) 24 24 34 5 56 zLa ⟨(σ26 0),0,none⟩ 1 1 [iv a.k,iv a.n,iv a.a,iv a.p,S3.v yd] (fun F=>F.2.1.1) [Fa.ac s P,Fa.dt (rnP O++P.take i++[(a,yd)])] (fun F=>⟨F.1,Dat.snoc F.2.1.2 (F.1.2 _ (List.mem_of_getElem? ha)),trivial⟩) rfl (by simp[TQ]) rfl (by simp[Value.oneCell']) (fun F K=>BL K 0 (σ26 0) [iv a.k,iv a.n,iv a.a,iv a.p,S3.v yd] 34 .z true (by kernel_rfl)) (by unfold maxLen;omega) (by omega) fun y27 _ _ n27=>?_;refine tR 5 [] fun σ28 _ _=>?_;refine tV 1 (iv ((i:Int)+1)) (fun F C=>(AJ (x:=(.tmp 47)) (y:=(.const (iv 1))) (i:Int) 1 underlying3 (by omega))) ?_;refine tR 2 [] fun σ29 _ _=>?_;exact tB hJ (P.length-(i+1)) (by omega) [false] ⟨i+1,y27,rfl,rfl,rfl,rfl,by omega,by omega⟩ (fun F=>by rw[htk];exact⟨F.2.1,⟨(by rw[DX];exact F.1),F.2.2.1⟩,trivial⟩)
  ·refine tI ((decide ((i:Int)<(s.n:Int)))) false (decide_eq_false (by omega)) ?_;obtain rfl:i=P.length:=by omega
   rw[List.take_length];refine tR 7 [0,0] fun σ30 _ _=>?_;refine OR 4 0 (x:=z2) 24 24 34 5 56 zLa ⟨(σ30 0),0,none⟩ 1 1 [iv 2,iv (x:Int),iv 0,iv 0,sn] (fun F=>F.2.1.1) [Fa.dt ((rnP O++P)++[(acN 2 (x:Int),s30)])] (fun F=>⟨Dat.snoc F.2.1.2 (XJ _ _),trivial⟩) rfl (by simp[TQ]) rfl (by simp[Value.oneCell']) (fun F K=>BL K 0 (σ30 0) [iv 2,iv (x:Int),iv 0,iv 0,sn] 34 .z true (by kernel_rfl)) (by unfold maxLen;omega) (by omega) fun y31 _ _ n31=>?_;obtain⟨B,hB⟩:∃ B,rnP O++P++[(acN 2 (x:Int),s30)]=B:=⟨_,rfl⟩;have hBl:B.length=O.length+L.length+1:=by rw[← hB,List.length_append,List.length_append,YB,List.length_singleton];omega
   have hBm:B.map (·.1)=O++L++[acN 2 (x:Int)]:=by rw[← hB,List.map_append,List.map_append,RH,hP];rfl
   refine tCv [Fa.oa 0 y31 (B++rnP (Hp x y 0))] (fun F=>⟨(by rw[show rnP (Hp x y 0)=[]from rfl,List.append_nil,← hB];exact⟨(by rw[DX];exact F.1),F.2.1⟩),trivial⟩) ?_;refine tR 8 [] fun σ32 _ _=>?_;refine IQ 103 [(7,iv (x:Int)),(8,iv (y:Int)),(9,S3.v y31),(13,iv 0)] [false] [] [Fa.oa 0 y31 (B++rnP (Hp x y 0))] (fun kk ee LL ΦΦ=>∃ (i:Nat) (z3:S3),kk=60-i∧ee=[(7,iv (x:Int)),(8,iv (y:Int)),(9,S3.v z3),(13,iv (i:Int))]∧LL=[]∧ΦΦ=[Fa.oa 0 z3 (B++rnP (Hp x y i))]∧i≤60∧z3.n=B.length+3*i) (60) ⟨0,y31,rfl,rfl,rfl,rfl,by omega,by omega⟩ (fun F=>⟨F.1,trivial⟩) ?_;rintro k _ _ _ ⟨i,z3,rfl,rfl,rfl,rfl,hi,hz3⟩ _ _ _ J hJ;refine tR 6 [] fun σ33 _ _=>?_;by_cases h1:i<60
   ·refine tI ((decide ((i:Int)<60))) true (decide_eq_true (by omega)) ?_;refine tR 11 [0,0] fun σ34 _ _=>?_;refine OR 7 0 (x:=z3) 24 24 34 5 56 zLa ⟨(σ34 0),0,none⟩ 3 3 [iv 3,iv (x:Int),iv 0,iv 0,sn,iv 3,iv (y:Int),iv 0,iv 0,sn,iv 7,iv 0,iv 0,iv 0,sn] (fun F=>F.1.1) [Fa.dt (B++rnP (Hp x y i)++rnP [acN 3 (x:Int),acN 3 (y:Int),acN 7 0])] (fun F=>⟨Dat.app F.1.2 (YA _ _ (by simp[acN])),trivial⟩) rfl (by simp[TQ]) rfl (by simp[Value.oneCell']) (fun F K=>BL K 0 (σ34 0) [iv 3,iv (x:Int),iv 0,iv 0,sn,iv 3,iv (y:Int),iv 0,iv 0,sn,iv 7,iv 0,iv 0,iv 0,sn] 34 .z true (by kernel_rfl)) (by unfold maxLen;omega) (by omega) fun y35 _ _ n35=>?_;refine tR 5 [] fun σ36 _ _=>?_;refine tV 1 (iv ((i:Int)+1)) (fun F C=>(AJ (x:=(.tmp 63)) (y:=(.const (iv 1))) (i:Int) 1 underlying3 (by omega))) ?_;refine tR 2 [] fun σ37 _ _=>?_;have htr:B++rnP (Hp x y (i+1))=B++rnP (Hp x y i)++rnP [acN 3 (x:Int),acN 3 (y:Int),acN 7 0]:=by rw[Hp,Y9,List.append_assoc]
    exact tB hJ (60-(i+1)) (by omega) [false] ⟨i+1,y35,rfl,rfl,rfl,rfl,by omega,by omega⟩ (fun F=>by rw[htr];exact⟨⟨(by rw[Xk];exact F.1),F.2.1⟩,trivial⟩)
   ·refine tI ((decide ((i:Int)<60))) false (decide_eq_false (by omega)) ?_;obtain rfl:i=60:=by omega
    have htl:=YW x y 60;generalize hQ:Hp x y 60=T at htl ⊢;have hLm:(B++rnP T).map (·.1)=O++(L++([acN 2 (x:Int)]++T)):=by rw[List.map_append,hBm,RH];simp only[List.append_assoc]
    have hTk:∀ k,∀ a∈Hp x y k,LacOk a∧a.k≠8∧a.k≠9:=cG hx5 hy5;have hLk:∀ a∈L++([acN 2 (x:Int)]++T),LacOk a∧a.k≠8∧a.k≠9:=fun a ha=>by
     rcases List.mem_append.1 ha with ha|ha
     ·exact⟨hok a ha,hkn a ha⟩
     ·rcases List.mem_append.1 ha with ha|ha
      ·rw[List.mem_singleton.1 ha];exact⟨Pj ⟨.inl rfl,by omega,by omega⟩,by show(2:Int)≠8;decide,by show(2:Int)≠9;decide⟩
      ·exact hTk 60 a (hQ▸ha)
    have hll:(L++([acN 2 (x:Int)]++T)).length≤300:=by rw[List.length_append,List.length_append,List.length_singleton];omega
    obtain⟨d1,d2,d3,d4⟩:=duo (x:=x) (y:=y) _ hLk (by omega) hx5 hy5;rw[hO]at d1 d2 d3 d4
    have hOk:∀ a∈O++(L++([acN 2 (x:Int)]++T)),LacOk a:=fun a ha=>(List.mem_append.1 ha).elim (fun e=>bB x y a (hO▸e)) fun e=>(hLk a e).1;have hlo:(O++(L++([acN 2 (x:Int)]++T))).length≤400:=by rw[List.length_append];omega
    obtain⟨M,hM⟩:∃ M,Cb.acts (O++(L++([acN 2 (x:Int)]++T)))=M:=⟨_,rfl⟩;rw[hM]at d1 d2 d3 d4
    refine tR 4 [] fun σ38 _ _=>?_;refine tC 1 (fun F C=>bO (AcR.oo F.1 hLm) hOk (by omega) (tb5 hT C) hM) fun Nz=>?_;rintro _ _ ⟨ly,tv,ys,rfl,hW,hO2,b39⟩;refine⟨_,Fa.ot ly tv ys M::_,rfl,b39,fun F=>⟨RA hW hO2 Nz,F⟩,?_⟩;refine tF fun F _=>?_;have htn:=ew F.1.told.rd;rw[d2]at htn
    have hlg:=Ye d1 (Nat.le_refl 5);refine tR 13 [1,0,0,0] fun σ40 _ _=>?_;refine tV 4 (pt (σ40 0) (1+x)) (fun F C=>(Wa hx5)) ?_;refine tW 5 (.bool true) (fun F K=>CJ underlying4 rfl (ei K 0 (σ40 0) (GS M ly tv).toList 40 .l true (by kernel_rfl) (Zy hx5 d3))) ?_;refine tR 4 [] fun σ42 _ _=>?_;refine tV 10 (pt (σ40 0) (1+y)) (fun F C=>(Wa hy5)) ?_;refine tW 11 (.bool true) (fun F K=>CJ underlying4 rfl (ei K 0 (σ40 0) (GS M ly tv).toList 40 .l false (by kernel_rfl) (Zy hy5 d4))) ?_;refine tR 3 [0] fun σ44 _ _=>?_;refine tC 15 (fun F C=>Qd (RB F.1)) fun Nz=>?_;rintro _ _ ⟨rfl,b45⟩;refine⟨_,_,rfl,b45,id,?_⟩;refine tR 1 [] fun σ46 _ _=>?_;refine tV 17 (.bool true) (fun F C=>(Eh (t:=3) (m:=((lgY ys (lgN M 5)).n:Int)) (n:=0) (x:=(.tmp 94)) (y:=(.const (iv 0))) (by rw[hlg];rfl))) ?_;refine tR 5 [0] fun σ47 _ _=>?_;refine tV 23 (.bool true) (fun F C=>(Eh (t:=3) (m:=((tv).n:Int)) (n:=0) (x:=(.tmp 100)) (y:=(.const (iv 0))) (by rw[htn];rfl))) ?_;refine tR 3 [] fun σ48 _ _=>?_;exact tE (.bool true) fun _ B=>⟨rfl,B⟩
end
end Go.Proofs.YtkchbdgikgbiaabGreatDoor
