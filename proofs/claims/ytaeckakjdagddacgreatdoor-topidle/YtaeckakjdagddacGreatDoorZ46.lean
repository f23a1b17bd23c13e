/- Part 46 of the walk. -/
import Derived.ChangeKeysEq
import Derived.Test.YtaeckakjdagddacGreatDoorZ44
import Derived.Test.YtaeckakjdagddacGreatDoorZ45
set_option maxRecDepth 100000
set_option maxHeartbeats 4000000
open Go.Proofs.Tryz
set_option linter.unusedVariables false
namespace Go.Proofs.YtaeckakjdagddacGreatDoor
section
def Nod.ub(p:Nod):Bool × Nat:=(p.up,p.bad)
theorem KA(p:Nod)(b:Bal):(p.promise b).1.ub=p.ub:=by
 unfold Nod.promise;split
 ·rfl
 ·split
  ·rfl
  ·split<;>rfl
theorem S5(p:Nod)(v:Vt):(p.vote v).1.ub=p.ub:=by
 unfold Nod.vote;split
 ·rfl
 ·split
  ·rfl
  ·split<;>rfl
theorem Oj(p:Nod)(j:Nat)(v:Vt):(p.count j v).ub=p.ub:=by
 unfold Nod.count;split
 ·rfl
 ·split<;>rfl
theorem Mr(p:Nod)(to:Nat)(e:Int):(p.refuse to e).ub=p.ub:=by unfold Nod.refuse;split<;>rfl
theorem JW(p:Nod)(l:List Cmd):(p.enqueue l).ub=p.ub:=by unfold Nod.enqueue;split<;>rfl
theorem Zu(p:Nod)(l:Let):(p.take l).ub=p.ub:=by
 unfold Nod.take;split
 ·split
  ·exact Mr _ _ _
  ·exact KA p l.bal
 ·simp only;split<;>rfl
 ·rfl
 ·split
  ·exact Mr _ _ _
  ·exact S5 p l.vote
 ·exact Oj p _ _
 ·split<;>rfl
 ·simp only;split<;>exact JW p l.what
 ·rfl
theorem Zf(p:Nod)(i:Nat)(q:Pend):(p.runP i q).ub=p.ub:=by
 cases q with
 | began b vs=>unfold Nod.runP;simp only;split<;>rfl
 | prop v=>exact Oj p i v
 | _=>rfl
theorem Vm(i:Nat)(l:List Pend)(p:Nod)(ls:List Let):(doneP i l p ls).1.ub=p.ub:=by
 induction l generalizing p ls with
 | nil=>rfl
 | cons q l ih=>exact(ih _ _).trans (Zf p i q)
theorem Us(p:Nod)(c:Cmd):(p.unwant c).ub=p.ub:=by unfold Nod.unwant;split<;>rfl
theorem bg(i:Nat)(l:List Cmd)(p:Nod)(ts:List Tol):(doP i l p ts).1.ub=p.ub:=by
 induction l generalizing p ts with
 | nil=>rfl
 | cons c l ih =>
  rw[doP];split
  ·rfl
  ·exact(ih _ _).trans (Us _ _)
theorem XQ(p:Nod)(i:Nat):(p.askd i).1.ub=p.ub:=by
 unfold Nod.askd;split
 ·rfl
 ·split
  ·exact JW _ _
  ·rfl
theorem Rf(p:Nod):p.propose.ub=p.ub:=by
 unfold Nod.propose;split
 ·rfl
 ·split
  ·rfl
  ·split
   ·rfl
   ·exact S5 p _
theorem Xl(p:Nod)(i:Nat)(ls:List Let):(p.syncd i ls).1.ub=p.ub:=by
 unfold Nod.syncd;split
 ·rfl
 ·rw[Vm];unfold Nod.syn;split<;>rfl
theorem Un(p:Nod)(i:Nat)(ls:List Let):(p.taught i ls).1.ub=p.ub:=by unfold Nod.taught;split<;>rfl
theorem Wx(p:Nod)(i:Nat)(ls:List Let)(ts:List Tol):(p.piece i ls ts).1.ub=p.ub:=by
 unfold Nod.piece;simp only;rw[Un,Xl,Rf,XQ,bg]
theorem Y8(p:Nod)(i:Nat):(p.lead i).ub=p.ub:=by
 unfold Nod.lead;simp only;split
 ·rfl
 ·exact KA p _
theorem RH(M:Meet)(l:Let)(j:Nat):((M.come l).node j).ub=(M.node j).ub:=by
 unfold Meet.come;split
 ·show(upN M.node l.dst _ j).ub=_;unfold upN;split
  ·rename_i h;rw[h];exact Zu _ _
  ·rfl
 ·rfl
theorem UY(l:List Let)(M:Meet)(j:Nat):((l.foldl (fun M l=>M.come l) M).node j).ub=(M.node j).ub:=by
 induction l generalizing M with
 | nil=>rfl
 | cons x l ih=>exact(ih _).trans (RH M x j)
theorem YD(M:Meet)(k:Int)(a:Nat)(j:Nat):((M.move k a).node j).ub=(M.node j).ub:=by
 unfold Meet.move;split
 ·rfl
 ·simp only;split
  ·rw[RH];split<;>rfl
  ·split<;>rfl
theorem Hq(M:Meet)(i:Nat)(p:Nod)(ls:List Let)(ts:List Tol)(j:Nat):(M.set i p ls ts).node j=if j=i then p else M.node j:=rfl
theorem aG(M:Meet){x:Lac}(h1:x.k≠1)(h8:x.k≠8)(h9:x.k≠9)(j:Nat):((M.act x).node j).ub=(M.node j).ub:=by
 unfold Meet.act;simp only;rw[if_neg h1];by_cases h2:x.k=2
 ·rw[if_pos h2,Hq];split
  ·rename_i e
   rw[e];split
   ·exact Y8 _ _
   ·rfl
  ·rfl
 ·rw[if_neg h2];by_cases h3:x.k=3
  ·rw[if_pos h3,Hq];split
   ·rename_i e
    rw[e];split
    ·exact Wx _ _ _ _
    ·rfl
   ·rfl
  ·rw[if_neg h3];by_cases h4:x.k=4∨x.k=5∨x.k=6
   ·rw[if_pos h4];exact YD _ _ _ _
   ·rw[if_neg h4];by_cases h7:x.k=7
    ·rw[if_pos h7];exact UY _ _ _
    ·rw[if_neg h7,if_neg h8,if_neg h9]
theorem cW(M:Meet){x:Lac}(h1:x.k=1)(j:Nat):((M.act x).node j).ub=if j=x.n.toNat∧(M.node j).up=true∧opE x.d ((M.node j).done:Int)≠0 then((M.node j).up,(M.node j).bad+1)else(M.node j).ub:=by
 unfold Meet.act;simp only;rw[if_pos h1,Hq];by_cases hj:j=x.n.toNat
 ·subst hj;rw[if_pos rfl];unfold Nod.subm Nod.sub0;by_cases hu:(M.node x.n.toNat).up=false
  ·rw[if_pos hu,if_neg (by rw[hu];simp)]
  ·rw[if_neg hu];have hu':(M.node x.n.toNat).up=true:=by simpa using hu
   by_cases he:opE x.d ((M.node x.n.toNat).done:Int)≠0
   ·rw[if_pos he,if_pos ⟨rfl,hu',he⟩];rfl
   ·rw[if_neg he,if_neg (c:=_∧_) (fun e=>he e.2.2)];split
    ·rfl
    ·show(Nod.want _ _).ub=_;unfold Nod.want;split<;>rfl
 ·rw[if_neg hj,if_neg (fun e=>hj e.1)]
theorem Ic(M:Meet)(L:List Lac)(x:Lac):M.acts (L++[x])=(M.acts L).act x:=by unfold Meet.acts;rw[List.foldl_append];rfl
theorem SG{M:Meet}{L:List Lac}{i:Nat}{x:Lac}(h:L[i]?=some x):M.acts (L.take (i+1))=(M.acts (L.take i)).act x:=by rw[List.take_add_one,h];exact Ic M (L.take i) x
theorem U9(L:List Lac)(h:∀ x∈L,LacOk x)(hl:L.length≤100000):MOk L.length (BW.acts L):=by
 suffices ∀ i,i≤L.length→MOk i (BW.acts (L.take i))by have h1:=this L.length (Nat.le_refl _);rwa [List.take_length]at h1
 intro i;induction i with
 | zero=>intro _;exact MOk.zero
 | succ i ih =>
  intro hi;have hx:L[i]?=some L[i]:=List.getElem?_eq_getElem (by omega);rw[SG hx];exact(ih (by omega)).act (by omega) (h _ (List.getElem_mem _))
theorem Yp(g:Gr)(cr:Bool):LacOk (Oy g cr):=by
 have h1:=AP g.a 5 (by omega);have h2:=AP g.c 20 (by omega);have h3:=AP g.c 90 (by omega);have hl:(pkB g).length≤63:=by
  have:(pkP g).length=63:=K6 (Wy g);unfold pkB;split
  ·rw[List.length_take];omega
  ·omega
 rw[← GZ];unfold Oy acN
 repeat' split
 all_goals simp[VL,Fe,FZ,Ga];try omega
theorem WR{P:Lac→Prop}(h7:P (acN 7 0)){cr:Bool}(hg:∀ g,P (Oy g cr))(s:Nat)(l:List Gr):∀ x∈Nt cr s l,P x:=by
 induction l generalizing s with
 | nil=>intro x hx;cases hx
 | cons g l ih =>
  intro x hx;rcases List.mem_cons.1 hx with rfl|hx
  ·unfold WQ;split
   ·exact h7
   ·exact hg g
  ·exact ih _ x hx
theorem cO(l:List Gr)(m:Nat)(cr:Bool):∀ x∈scr l m cr,LacOk x:=WR (by rw[← GZ];decide) (fun g=>Yp g cr) _ _
theorem WS(cr:Bool)(s:Nat)(l:List Gr):(Nt cr s l).length=l.length:=by
 induction l generalizing s with
 | nil=>rfl
 | cons g l ih=>rw[Nt,List.length_cons,ih,List.length_cons]
theorem Zj(l:List Gr)(m:Nat)(cr:Bool):(scr l m cr).length≤m:=by unfold scr;rw[WS,List.length_take];omega
def Nod.tp(p:Nod):Prop:=Bh p.d p.sy
theorem SA{d:List Int}{s:Int}{may:Prop}[Decidable may] {b:List Int} (h:C1 d s may b=0):Bh (FE d s may b) (GF d s may b):=by
 obtain⟨h1,h2,_⟩:=Uy h;unfold FE GF;rw[if_pos h,if_pos h];unfold Bh at *;rw[List.length_append,EM];omega
theorem K9{p:Nod}(h:p.tp)(b:Bal):(p.promise b).1.tp:=by
 unfold Nod.promise;split
 ·exact h
 ·split
  ·exact h
  ·split
   ·exact h
   ·rename_i hw;exact SA (Decidable.not_not.1 hw)
theorem S4{p:Nod}(h:p.tp)(v:Vt):(p.vote v).1.tp:=by
 unfold Nod.vote;split
 ·exact h
 ·split
  ·exact h
  ·split
   ·exact h
   ·rename_i hw;exact SA (Decidable.not_not.1 hw)
theorem Mq{p:Nod}(h:p.tp)(to:Nat)(e:Int):(p.refuse to e).tp:=by unfold Nod.refuse;split<;>exact h
theorem UZ{p:Nod}(h:p.tp)(j:Nat)(v:Vt):(p.count j v).tp:=by
 unfold Nod.count;split
 ·exact h
 ·split<;>exact h
theorem Qh{p:Nod}(h:p.tp)(l:List Cmd):(p.enqueue l).tp:=by unfold Nod.enqueue;split<;>exact h
theorem Vc{p:Nod}(h:p.tp){k:Int}(hk:0≤k):(p.crash k).tp∧(p.crash k).up=false∧(p.crash k).done=0∧(p.crash k).agreed=[]:=by
 have he:Jk p.d p.sy k=0:=by unfold Jk;rw[if_neg (fun e=>e h),if_neg (by omega)]
 unfold Nod.crash;rw[if_neg (fun e=>e he)];refine⟨?_,rfl,rfl,rfl⟩;show Bh (Lm p.d p.sy k) (Ln p.d p.sy k);unfold Lm Ln;rw[if_pos he,if_pos he];unfold Nod.tp Bh at h;have hc:0≤MN p.d p.sy k∧MN p.d p.sy k≤(p.d.length:Int):=by unfold MN;split<;>omega
 unfold Bh;rw[List.length_take];omega
theorem Ps{p:Nod}(h:p.tp):p.start.tp∧p.start.up=true∧p.start.done=0∧p.start.agreed=[]:=by
 have he:Dd p.d p.sy=0:=if_pos h;have hl:=VG p.d p.d.length;unfold Nod.start;rw[if_neg (fun e=>e he)];split
 ·refine⟨?_,rfl,rfl,rfl⟩;show Bh (L5 p.d p.sy) (Np p.d p.sy);unfold L5 Np;have h':Bh p.d p.sy:=h;rw[if_pos h',if_pos h'];unfold Nod.tp Bh at h;unfold Bh;rw[List.length_take];unfold Ev;split<;>omega
 ·exact⟨h,rfl,rfl,rfl⟩
theorem de(A:Alw)(i:Nat):NInv A i (fun _=>True) (fun _=>True) Nod.tp where
 take:=fun _ p l h _ _ _=>by
  unfold Nod.take;split
  ·split
   ·exact Mq h _ _
   ·exact K9 h l.bal
  ·simp only;split<;>exact h
  ·exact h
  ·split
   ·exact Mq h _ _
   ·exact S4 h l.vote
  ·exact UZ h _ _
  ·split<;>exact h
  ·simp only;split<;>exact Qh h l.what
  ·exact h
 one:=fun p c h _ _ _=>by unfold Nod.unwant;split<;>exact h
 ask:=fun p h _=>⟨by
  unfold Nod.askd;split
  ·exact h
  ·split
   ·unfold Nod.enqueue;split<;>exact h
   ·exact h,fun _ _=>trivial⟩
 prop:=fun p h _=>by
  unfold Nod.propose;split
  ·exact h
  ·split
   ·exact h
   ·split
    ·exact h
    ·exact S4 h _
 syn:=fun p h _=>by
  unfold Nod.syn;split
  ·show Bh (Ht p.d p.sy) (I1 p.d p.sy);unfold Ht I1;have h':Bh p.d p.sy:=h;rw[if_pos h',if_pos h'];unfold Nod.tp Bh at h;unfold Bh;omega
  ·exact h
 run:=fun p q l h _ _ _=>⟨by
  have hk:=Mt p i q;show Bh (p.runP i q).d (p.runP i q).sy;rw[hk.2.2.1,hk.2.2.2];exact h,fun _ _=>trivial⟩
 teach:=fun p h _ _=>⟨h,fun _ _=>trivial⟩
 lead:=fun _ p h _=>by
  unfold Nod.lead;simp only;split
  ·exact h
  ·exact K9 h _
 sub:=fun p d ts h _ _=>by
  unfold Nod.subm Nod.sub0;split
  ·exact h
  ·split
   ·exact h
   ·split
    ·exact h
    ·show(Nod.want _ _).tp;unfold Nod.want;split<;>exact h
 crash:=fun _ p k h hk _=>(Vc h hk).1
 start:=fun _ p h _=>(Ps h).1
def dA:Alw:=⟨true,true,true,true⟩
theorem XM(x:Lac):dA.Ok x:=⟨fun _=>rfl,fun _=>rfl,fun _=>rfl,fun _=>rfl⟩
theorem XI(L:List Lac)(h:∀ x∈L,LacOk x)(hl:L.length≤100000){i:Nat}(hi:i<5):((BW.acts L).node i).tp :=
 (GInv.acts (R:=fun _=>True) (D:=fun _ _=>True) (Q:=fun _=>True) (P:=fun _=>Nod.tp) (fun i _=>de dA i) (fun i _=>TInv.all i _ _) L MOk.zero (by omega) ⟨fun _ _=>(by show Bh [] 0;decide),fun _ _=>trivial⟩ trivial fun x hx=>⟨h x hx,XM x,fun _=>trivial⟩).1.node i hi
theorem SF(M:Meet){i:Nat}(hi:i<5)(ht:(M.node i).tp)(j:Nat):((M.act (acN 9 (i:Int))).node j).up=if j=i then true else(M.node j).up:=by
 show(upN M.node (i:Int).toNat _ j).up=_;unfold upN;rw[Int.toNat_natCast];split
 ·split
  ·assumption
  ·exact(Ps ht).2.1
 ·rfl
theorem aH(M:Meet){x:Lac}(h8:x.k≠8){j:Nat}(hu:(M.node j).up=true):((M.act x).node j).up=true:=by
 by_cases h1:x.k=1
 ·have:=congrArg Prod.fst (cW M h1 j);split at this
  ·exact this.trans hu
  ·exact this.trans hu
 ·by_cases h9:x.k=9
  ·unfold Meet.act;simp only;rw[if_neg h1,if_neg (by omega),if_neg (by omega),if_neg (by omega),if_neg (by omega),if_neg (by omega),if_pos h9,Hq];split
   ·rename_i e;rw[← e,if_pos hu];exact hu
   ·exact hu
  ·exact(congrArg Prod.fst (aG M h1 h8 h9 j)).trans hu
theorem XJ(L:List Lac)(h8:∀ x∈L,x.k≠8)(M:Meet){j:Nat}(hu:(M.node j).up=true):((M.acts L).node j).up=true:=by
 induction L generalizing M with
 | nil=>exact hu
 | cons x L ih=>exact ih (fun y hy=>h8 y (List.mem_cons_of_mem _ hy)) _ (aH M (h8 x List.mem_cons_self) hu)
theorem JE(M:Meet)(L K:List Lac):M.acts (L++K)=(M.acts L).acts K:=List.foldl_append
theorem ME{k n:Int}(h:(k=2∨k=3∨k=9)∧0≤n∧n≤4):LacOk (acN k n):=by
 rw[← GZ];rcases h with⟨rfl|rfl|rfl,h1,h2⟩<;>simp[VL,acN,Fe,FZ,Ga]<;>omega
theorem Kl{P:Lac→Prop}{k:Int}(h:∀ n:Nat,n<5→P (acN k (n:Int))){j:Nat}(hj:j≤5):∀ x∈Eb k j,P x:=by
 intro x hx;obtain⟨n,hn,rfl⟩:=List.mem_map.1 hx;exact h n (by have:=List.mem_range.1 hn;omega)
theorem JX{P:Lac→Prop}(h3:∀ n:Nat,n<5→P (acN 3 (n:Int)))(h7:P (acN 7 0))(m:Nat):∀ x∈Cb m,P x:=by
 induction m with
 | zero=>intro x hx;cases hx
 | succ m ih =>
  intro x hx;rcases List.mem_append.1 hx with h|h
  ·exact ih x h
  ·rcases List.mem_append.1 h with h|h
   ·exact Kl h3 (Nat.le_refl _) x h
   ·rw[List.mem_singleton.1 h];exact h7
theorem WI{P:Lac→Prop}(h9:∀ n:Nat,n<5→P (acN 9 (n:Int)))(h3:∀ n:Nat,n<5→P (acN 3 (n:Int)))(h7:P (acN 7 0))(m:Nat):∀ x∈CI m,P x:=by
 intro x hx;rcases List.mem_append.1 hx with h|h
 ·exact Kl h9 (Nat.le_refl _) x h
 ·exact JX h3 h7 m x h
theorem Sm(m:Nat):∀ x∈CI m,LacOk x:=WI (fun n hn=>ME ⟨.inr (.inr rfl),by omega,by omega⟩) (fun n hn=>ME ⟨.inr (.inl rfl),by omega,by omega⟩) (by rw[← GZ];decide) m
theorem cJ(L:List Lac)(h:∀ x∈L,LacOk x)(m:Nat)(hl:L.length+6*m+5≤100000){j:Nat}(hj:j<5):((BW.acts (L++CI m)).node j).up=true:=by
 unfold CI;rw[← List.append_assoc,JE];refine XJ _ (JX (fun _ _=>by show(3:Int)≠8;decide) (by decide) m) _ ?_;have hs:∀ k,k≤5→j<k→((BW.acts (L++Eb 9 k)).node j).up=true:=by
  intro k;induction k with
  | zero=>intro _ h;omega
  | succ k ih =>
   intro hk hjk;have hok:∀ x∈L++Eb 9 k,LacOk x:=fun x hx=>(List.mem_append.1 hx).elim (h x) fun e=>Kl (fun n hn=>ME ⟨.inr (.inr rfl),by omega,by omega⟩) (by omega) x e;have ht:=XI (L++Eb 9 k) hok (by rw[List.length_append,VK];omega) (i:=k) (by omega);rw[Ip,← List.append_assoc,Ic,SF _ (by omega) ht];split
   ·rfl
   ·exact ih (by omega) (by omega)
 exact hs 5 (Nat.le_refl _) hj
theorem Po(M:Meet)(i:Nat):M.set i (M.node i) M.lets M.told=M:=by
 unfold Meet.set;have:upN M.node i (M.node i)=M.node:=by funext j;unfold upN;split<;>simp_all
 rw[this]
end
section
open Go.RowKit
theorem Kk{P:Program}{w:World}{d c:Nat}{e:TypeId}{xs:Array Value}:∀ l:List Nat,(∀ i∈l,∃ v,(part e xs (i*c)).run P w=.ok v w∧(Op.equalIn d e v v).run P w=.ok true w)→(Op.eqItems d e c xs xs l).run P w=.ok true w
 | [],_=>by simp[Op.eqItems]
 | i::l,h=>by
  obtain⟨v,h1,h2⟩:=h i (List.mem_cons_self ..);have ih:=Kk l (fun j hj=>h j (List.mem_cons_of_mem _ hj));simp[Op.eqItems,Sem.run_bind,h1,h2,ih,Result.andThen_ok]
theorem in5{i:Nat}(h:i∈List.range 5):i=0∨i=1∨i=2∨i=3∨i=4:=by have:=List.mem_range.1 h;omega
theorem fA(a b c d e:Bool)(n:Nat)(w:World):(Op.equalIn (n+2) 26 (.agg #[.bool a,.bool b,.bool c,.bool d,.bool e]) (.agg #[.bool a,.bool b,.bool c,.bool d,.bool e])).run prog w=.ok true w:=by
 rw[run_equalIn_array (P:=prog) w (n+1) (t:=26) (e:=4) (n:=5) _ _ underlying26 (show prog.info? 4=some _ from rfl)];rw[show prog.cellsOf 4=1 by kernel_rfl];have hi:∀ z:Bool,(Op.equalIn (n+1) 4 (.bool z) (.bool z)).run prog w=.ok true w:=fun z=>by rw[run_equalIn_bool' w n 4 _ _ underlying4];simp
 refine Kk _ (fun i h=>?_);rcases in5 h with rfl|rfl|rfl|rfl|rfl
 ·exact⟨.bool a,by kernel_rfl,hi _⟩
 ·exact⟨.bool b,by kernel_rfl,hi _⟩
 ·exact⟨.bool c,by kernel_rfl,hi _⟩
 ·exact⟨.bool d,by kernel_rfl,hi _⟩
 ·exact⟨.bool e,by kernel_rfl,hi _⟩
theorem eB{W:World}{x y:Operand}{a b c d e a' b' c' d' e':Bool}(h1:a=a')(h2:b=b')(h3:c=c')(h4:d=d')(h5:e=e'):(do Go.eqGuard .neq 26 x y (.agg #[.bool a,.bool b,.bool c,.bool d,.bool e]) (.agg #[.bool a',.bool b',.bool c',.bool d',.bool e']);Go.binOp .neq 26 (.agg #[.bool a,.bool b,.bool c,.bool d,.bool e]) (.agg #[.bool a',.bool b',.bool c',.bool d',.bool e']):Sem Value).run prog W=.ok (.bool false) W:=by
 subst h1 h2 h3 h4 h5;have hg:(Go.eqGuard .neq 26 x y (.agg #[.bool a,.bool b,.bool c,.bool d,.bool e]) (.agg #[.bool a,.bool b,.bool c,.bool d,.bool e])).run prog W=.ok () W:=by kernel_rfl
 rw[Sem.run_bind,hg,Result.andThen_ok,run_neq_struct,fA a b c d e 9998 W];rfl
end
end Go.Proofs.YtaeckakjdagddacGreatDoor
