/- Part 32 of the walk. -/
import Derived.Test.YtalbmmghmoggcadGreatDoorZ31
set_option maxRecDepth 100000
set_option maxHeartbeats 4000000
set_option linter.unusedVariables false
namespace Go.Proofs.YtalbmmghmoggcadGreatDoor
section
open Go.RowKit
section
variable{n tc tr tu k c s m v:Int}(h:paE n tc tr tu k c s m v=0)
include h
end
theorem Lk{n tc tr tu k c s m v:Int}(h:paE n tc tr tu k c s m v=0):(paL n tc tr tu k c s m v).length=63:=by
 rw[XK h,jo,FK,GV]
end
section
def Nod.ub(p:Nod):Bool × Nat:=(p.up,p.bad)
theorem Lo(p:Nod)(b:Bal):(p.promise b).1.ub=p.ub:=by
 unfold Nod.promise;split
 .rfl
 .split
  .rfl
  .split<;>rfl
theorem T8(p:Nod)(v:Vt):(p.vote v).1.ub=p.ub:=by
 unfold Nod.vote;split
 .rfl
 .split
  .rfl
  .split<;>rfl
theorem KB(p:Nod)(j:Nat)(v:Vt):(p.count j v).ub=p.ub:=by
 unfold Nod.count;split
 .rfl
 .split<;>rfl
theorem Np(p:Nod)(to:Nat)(e:Int):(p.refuse to e).ub=p.ub:=by unfold Nod.refuse;split<;>rfl
theorem KE(p:Nod)(l:List Cmd):(p.enqueue l).ub=p.ub:=by unfold Nod.enqueue;split<;>rfl
theorem Tx(p:Nod)(l:Let):(p.take l).ub=p.ub:=by
 unfold Nod.take;split
 .split
  .exact Np _ _ _
  .exact Lo p l.bal
 .simp only;split<;>rfl
 .rfl
 .split
  .exact Np _ _ _
  .exact T8 p l.vote
 .exact KB p _ _
 .split<;>rfl
 .simp only;split<;>exact KE p l.what
 .rfl
theorem bg(p:Nod)(i:Nat)(q:Pend):(p.runP i q).ub=p.ub:=by
 cases q with
 | began b vs=>unfold Nod.runP;simp only;split<;>rfl
 | prop v=>exact KB p i v
 | _=>rfl
theorem Ws(i:Nat)(l:List Pend)(p:Nod)(ls:List Let):(doneP i l p ls).1.ub=p.ub:=by
 induction l generalizing p ls with
 | nil=>rfl
 | cons q l ih=>exact(ih _ _).trans (bg p i q)
theorem V2(p:Nod)(c:Cmd):(p.unwant c).ub=p.ub:=by unfold Nod.unwant;split<;>rfl
theorem dE(i:Nat)(l:List Cmd)(p:Nod)(ts:List Tol):(doP i l p ts).1.ub=p.ub:=by
 induction l generalizing p ts with
 | nil=>rfl
 | cons c l ih =>
  rw[doP];split
  .rfl
  .exact(ih _ _).trans (V2 _ _)
theorem Zh(p:Nod)(i:Nat):(p.askd i).1.ub=p.ub:=by
 unfold Nod.askd;split
 .rfl
 .split
  .exact KE _ _
  .rfl
theorem Sb(p:Nod):p.propose.ub=p.ub:=by
 unfold Nod.propose;split
 .rfl
 .split
  .rfl
  .split
   .rfl
   .exact T8 p _
theorem Y2(p:Nod)(i:Nat)(ls:List Let):(p.syncd i ls).1.ub=p.ub:=by
 unfold Nod.syncd;split
 .rfl
 .rw[Ws];unfold Nod.syn;split<;>rfl
theorem Vw(p:Nod)(i:Nat)(ls:List Let):(p.taught i ls).1.ub=p.ub:=by unfold Nod.taught;split<;>rfl
theorem XP(p:Nod)(i:Nat)(ls:List Let)(ts:List Tol):(p.piece i ls ts).1.ub=p.ub:=by
 unfold Nod.piece;simp only;rw[Vw,Y2,Sb,Zh,dE]
theorem Tb(p:Nod)(i:Nat):(p.lead i).ub=p.ub:=by
 unfold Nod.lead;simp only;split
 .rfl
 .exact Lo p _
theorem SM(M:Meet)(l:Let)(j:Nat):((M.come l).node j).ub=(M.node j).ub:=by
 unfold Meet.come;split
 .show(upN M.node l.dst _ j).ub=_;unfold upN;split
  .rename_i h;rw[h];exact Tx _ _
  .rfl
 .rfl
theorem Wd(l:List Let)(M:Meet)(j:Nat):((l.foldl (λM l=>M.come l) M).node j).ub=(M.node j).ub:=by
 induction l generalizing M with
 | nil=>rfl
 | cons x l ih=>exact(ih _).trans (SM M x j)
theorem aw(M:Meet)(k:Int)(a:Nat)(j:Nat):((M.move k a).node j).ub=(M.node j).ub:=by
 unfold Meet.move;split
 .rfl
 .simp only;split
  .rw[SM];split<;>rfl
  .split<;>rfl
theorem Ij(M:Meet)(i:Nat)(p:Nod)(ls:List Let)(ts:List Tol)(j:Nat):(M.set i p ls ts).node j=if j=i then p else M.node j:=rfl
theorem cZ(M:Meet){x:Lac}(h1:x.k≠1)(h8:x.k≠8)(h9:x.k≠9)(j:Nat):((M.act x).node j).ub=(M.node j).ub:=by
 unfold Meet.act;simp only;rw[if_neg h1];by_cases h2:x.k=2
 .rw[if_pos h2,Ij];split
  .rename_i e
   rw[e];split
   .exact Tb _ _
   .rfl
  .rfl
 .rw[if_neg h2];by_cases h3:x.k=3
  .rw[if_pos h3,Ij];split
   .rename_i e
    rw[e];split
    .exact XP _ _ _ _
    .rfl
   .rfl
  .rw[if_neg h3];by_cases h4:x.k=4\/x.k=5\/x.k=6
   .rw[if_pos h4];exact aw _ _ _ _
   .rw[if_neg h4];by_cases h7:x.k=7
    .rw[if_pos h7];exact Wd _ _ _
    .rw[if_neg h7,if_neg h8,if_neg h9]
theorem eT(M:Meet){x:Lac}(h1:x.k=1)(j:Nat):((M.act x).node j).ub=if j=x.n.toNat/\(M.node j).up=true/\opE x.d ((M.node j).done:Int)≠0 then((M.node j).up,(M.node j).bad+1)else(M.node j).ub:=by
 unfold Meet.act;simp only;rw[if_pos h1,Ij];by_cases hj:j=x.n.toNat
 .subst hj;rw[if_pos rfl];unfold Nod.subm Nod.sub0;by_cases hu:(M.node x.n.toNat).up=false
  .rw[if_pos hu,if_neg (by rw[hu];simp)]
  .rw[if_neg hu];have hu':(M.node x.n.toNat).up=true:=by simpa using hu
   by_cases he:opE x.d ((M.node x.n.toNat).done:Int)≠0
   .rw[if_pos he,if_pos ⟨rfl,hu',he⟩];rfl
   .rw[if_neg he,if_neg (c:=_/\_) (λe=>he e.2.2)];split
    .rfl
    .show(Nod.want _ _).ub=_;unfold Nod.want;split<;>rfl
 .rw[if_neg hj,if_neg (λe=>hj e.1)]
theorem MA(M:Meet)(L:List Lac)(x:Lac):M.acts (L++[x])=(M.acts L).act x:=by unfold Meet.acts;rw[mf];rfl
theorem TJ{M:Meet}{L:List Lac}{i:Nat}{x:Lac}(h:L[i]?=some x):M.acts (L.take (i+1))=(M.acts (L.take i)).act x:=by rw[List.take_add_one,h];exact MA M (L.take i) x
theorem Kr(L:List Lac)(h:∀ x∈L,LacOk x)(hl:L.length<=100000):MOk L.length (AK.acts L):=by
 suffices ∀ i,i<=L.length->MOk i (AK.acts (L.take i))by have h1:=this L.length (A' _);rwa [jU]at h1
 intro i;induction i with
 | zero=>intro _;exact MOk.zero
 | succ i ih =>
  intro hi;have hx:L[i]?=some L[i]:=E' (by omega);rw[TJ hx];exact(ih (by omega)).act (by omega) (h _ (jr _))
end
section
open Go.RowKit
def rnP(l:List Lac):List (Lac × S3):=l.map λa=>(a,s30)
theorem aY(l:List Lac):(rnP l).map (·.1)=l:=by simp[rnP,Function.comp_def]
theorem aX(g:Gh)(w:World){l:List Lac}(h:∀ a∈l,a.d=[]):Dat g w (rnP l):=by
 intro p hp;obtain⟨a,ha,rfl⟩:=ju.1 hp;show FSl g w s30 a.d;rw[h a ha];exact Hq g w
theorem Ly(l:List Lac)(a:Lac):rnP (l++[a])=rnP l++[(a,s30)]:=by simp[rnP]
theorem Rj(m:Nat):(Ct m).length=6*m:=by
 induction m with
 | zero=>rfl
 | succ m ih=>rw[Ct,G',ih];show _+6=_;omega
def Er(k:Int)(j:Nat):List Lac:=(List.range j).map λn:Nat=>acN k (n:Int)
theorem IE(k:Int)(j:Nat):Er k (j+1)=Er k j++[acN k (j:Int)]:=by simp[Er,List.range_succ]
theorem Xg(k:Int)(j:Nat):(Er k j).length=j:=by simp[Er]
end
section
section
def Nod.tp(p:Nod):Prop:=Bd p.d p.sy
variable{D:Wh}{M N:Meet}{P:Lac->Prop}{c:Cmd}{i j n s:Nat}{k:Int}{l:Let}{p:Nod}{rs:List Rk}{x:Pend}{σ:Gs}
theorem TE{d:List Int}{s:Int}{may:Prop}[Decidable may]{b:List Int}(h:CM d s may b=0):Bd (Fl d s may b) (FX d s may b):=by
 obtain⟨h1,h2,_⟩:=IZ h;unfold Fl FX;rw[if_pos h,if_pos h];unfold Bd at *;rw[G',Bg];omega
theorem Ln(h:p.tp)(b:Bal):(p.promise b).1.tp:=by
 unfold Nod.promise;split
 .exact h
 .split
  .exact h
  .split
   .exact h
   .rename_i hw;exact TE (iY.1 hw)
theorem T7(h:p.tp)(v:Vt):(p.vote v).1.tp:=by
 unfold Nod.vote;split
 .exact h
 .split
  .exact h
  .split
   .exact h
   .rename_i hw;exact TE (iY.1 hw)
theorem No(h:p.tp)(to:Nat)(e:Int):(p.refuse to e).tp:=by unfold Nod.refuse;split<;>exact h
theorem We(h:p.tp)(j:Nat)(v:Vt):(p.count j v).tp:=by
 unfold Nod.count;split
 .exact h
 .split<;>exact h
theorem Rd(h:p.tp)(l:List Cmd):(p.enqueue l).tp:=by unfold Nod.enqueue;split<;>exact h
theorem Pa(h:p.tp)(hk:0<=k):(p.crash k).tp/\(p.crash k).up=false/\(p.crash k).done=0/\(p.crash k).agreed=[]:=by
 have he:Hm p.d p.sy k=0:=by unfold Hm;rw[if_neg (λe=>e h),if_neg (by omega)]
 unfold Nod.crash;rw[if_neg (λe=>e he)];refine⟨?_,rfl,rfl,rfl⟩;show Bd (JF p.d p.sy k) (JG p.d p.sy k);unfold JF JG;rw[if_pos he,if_pos he];unfold Nod.tp Bd at h;have hc:0<=F5 p.d p.sy k/\F5 p.d p.sy k<=(p.d.length:Int):=by unfold F5;split<;>omega
 unfold Bd;rw[iO];omega
theorem L8(h:p.tp):p.start.tp/\p.start.up=true/\p.start.done=0/\p.start.agreed=[]:=by
 have he:CS p.d p.sy=0:=if_pos h;have hl:=Xa p.d p.d.length;unfold Nod.start;rw[if_neg (λe=>e he)];split
 .refine⟨?_,rfl,rfl,rfl⟩;show Bd (IK p.d p.sy) (Lv p.d p.sy);unfold IK Lv;have h':Bd p.d p.sy:=h;rw[if_pos h',if_pos h'];unfold Nod.tp Bd at h;unfold Bd;rw[iO];unfold DU;split<;>omega
 .exact⟨h,rfl,rfl,rfl⟩
theorem fc(A:Alw)(i:Nat):NInv A i (λ_=>True) (λ_=>True) Nod.tp where
 take:=λ_ p l h _ _ _=>by
  unfold Nod.take;split
  .split
   .exact No h _ _
   .exact Ln h l.bal
  .simp only;split<;>exact h
  .exact h
  .split
   .exact No h _ _
   .exact T7 h l.vote
  .exact We h _ _
  .split<;>exact h
  .simp only;split<;>exact Rd h l.what
  .exact h
 one:=λp c h _ _ _=>by unfold Nod.unwant;split<;>exact h
 ask:=λp h _=>⟨by
  unfold Nod.askd;split
  .exact h
  .split
   .unfold Nod.enqueue;split<;>exact h
   .exact h,λ_ _=>trivial⟩
 prop:=λp h _=>by
  unfold Nod.propose;split
  .exact h
  .split
   .exact h
   .split
    .exact h
    .exact T7 h _
 syn:=λp h _=>by
  unfold Nod.syn;split
  .show Bd (Hd p.d p.sy) (In p.d p.sy);unfold Hd In;have h':Bd p.d p.sy:=h;rw[if_pos h',if_pos h'];unfold Nod.tp Bd at h;unfold Bd;omega
  .exact h
 run:=λp q l h _ _ _=>⟨by
  have hk:=Gk p i q;show Bd (p.runP i q).d (p.runP i q).sy;rw[hk.2.2.1,hk.2.2.2];exact h,λ_ _=>trivial⟩
 teach:=λp h _ _=>⟨h,λ_ _=>trivial⟩
 lead:=λ_ p h _=>by
  unfold Nod.lead;simp only;split
  .exact h
  .exact Ln h _
 sub:=λp d ts h _ _=>by
  unfold Nod.subm Nod.sub0;split
  .exact h
  .split
   .exact h
   .split
    .exact h
    .show(Nod.want _ _).tp;unfold Nod.want;split<;>exact h
 crash:=λ_ p k h hk _=>(Pa h hk).1
 start:=λ_ p h _=>(L8 h).1
def fA:Alw:=⟨true,true,true,true⟩
theorem Zc(x:Lac):fA.Ok x:=⟨λ_=>rfl,λ_=>rfl,λ_=>rfl,λ_=>rfl⟩
theorem YY(L:List Lac)(h:∀ x∈L,LacOk x)(hl:L.length<=100000)(hi:i<5):((AK.acts L).node i).tp :=
 (GInv.acts (R:=λ_=>True) (D:=λ_ _=>True) (Q:=λ_=>True) (P:=λ_=>Nod.tp) (λi _=>fc fA i) (λi _=>TInv.all i _ _) L MOk.zero (by omega) ⟨λ_ _=>(by show Bd [] 0;decide),λ_ _=>trivial⟩ trivial λx hx=>⟨h x hx,Zc x,λ_=>trivial⟩).1.node i hi
theorem TI(M:Meet)(hi:i<5)(ht:(M.node i).tp)(j:Nat):((M.act (acN 9 (i:Int))).node j).up=if j=i then true else(M.node j).up:=by
 show(upN M.node (i:Int).toNat _ j).up=_;unfold upN;rw[jA];split
 .split
  .assumption
  .exact(L8 ht).2.1
 .rfl
theorem da(M:Meet){x:Lac}(h8:x.k≠8)(hu:(M.node j).up=true):((M.act x).node j).up=true:=by
 by_cases h1:x.k=1
 .have:=congrArg Prod.fst (eT M h1 j);split at this
  .exact this.trans hu
  .exact this.trans hu
 .by_cases h9:x.k=9
  .unfold Meet.act;simp only;rw[if_neg h1,if_neg (by omega),if_neg (by omega),if_neg (by omega),if_neg (by omega),if_neg (by omega),if_pos h9,Ij];split
   .rename_i e;rw[<- e,if_pos hu];exact hu
   .exact hu
  .exact(congrArg Prod.fst (cZ M h1 h8 h9 j)).trans hu
theorem YZ(L:List Lac)(h8:∀ x∈L,x.k≠8)(M:Meet)(hu:(M.node j).up=true):((M.acts L).node j).up=true:=by
 induction L generalizing M with
 | nil=>exact hu
 | cons x L ih=>exact ih (λy hy=>h8 y (P' _ hy)) _ (da M (h8 x U') hu)
theorem OG(M:Meet)(L K:List Lac):M.acts (L++K)=(M.acts L).acts K:=mf
theorem Ko{n:Int}(h:(k=2\/k=3\/k=9)/\0<=n/\n<=4):LacOk (acN k n):=by
 rw[<- Hx];rcases h with⟨rfl|rfl|rfl,h1,h2⟩<;>simp[Xh,acN,Fi,Gw,Gx]<;>omega
theorem KU(h:∀ n:Nat,n<5->P (acN k (n:Int)))(hj:j<=5):∀ x∈Er k j,P x:=by
 intro x hx;obtain⟨n,hn,rfl⟩:=ju.1 hx;exact h n (by have:=kQ.1 hn;omega)
theorem KG(h3:∀ n:Nat,n<5->P (acN 3 (n:Int)))(h7:P (acN 7 0))(m:Nat):∀ x∈Ct m,P x:=by
 induction m with
 | zero=>intro x hx;cases hx
 | succ m ih =>
  intro x hx;rcases V'.1 hx with h|h
  .exact ih x h
  .rcases V'.1 h with h|h
   .exact KU h3 (A' _) x h
   .rw[O'.1 h];exact h7
theorem Yd(h9:∀ n:Nat,n<5->P (acN 9 (n:Int)))(h3:∀ n:Nat,n<5->P (acN 3 (n:Int)))(h7:P (acN 7 0))(m:Nat):∀ x∈Gt m,P x:=by
 intro x hx;rcases V'.1 hx with h|h
 .exact KU h9 (A' _) x h
 .exact KG h3 h7 m x h
theorem aZ(m:Nat):∀ x∈Gt m,LacOk x:=Yd (λn hn=>Ko ⟨.inr (.inr rfl),by omega,by omega⟩) (λn hn=>Ko ⟨.inr (.inl rfl),by omega,by omega⟩) (by rw[<- Hx];decide) m
theorem eG(L:List Lac)(h:∀ x∈L,LacOk x)(m:Nat)(hl:L.length+6*m+5<=100000)(hj:j<5):((AK.acts (L++Gt m)).node j).up=true:=by
 unfold Gt;rw[<- iR,OG];refine YZ _ (KG (λ_ _=>by show(3:Int)≠8;decide) (by decide) m) _ ?_;have hs:∀ k,k<=5->j<k->((AK.acts (L++Er 9 k)).node j).up=true:=by
  intro k;induction k with
  | zero=>intro _ h;omega
  | succ k ih =>
   intro hk hjk;have hok:∀ x∈L++Er 9 k,LacOk x:=λx hx=>(V'.1 hx).elim (h x) λe=>KU (λn hn=>Ko ⟨.inr (.inr rfl),by omega,by omega⟩) (by omega) x e;have ht:=YY (L++Er 9 k) hok (by rw[G',Xg];omega) (i:=k) (by omega);rw[IE,<- iR,MA,TI _ (by omega) ht];split
   .rfl
   .exact ih (by omega) (by omega)
 exact hs 5 (A' _) hj
theorem NdI.mk'(hu:p.up=true)(h:UpI σ i p rs)(ha:AgL σ p.agreed 0):NdI σ i p:=⟨λ_=>⟨rs,h⟩,λe=>(by rw[hu]at e;cases e),ha⟩
theorem AgL.nil(σ:Gs)(k:Nat):AgL σ [] k:=λs c e=>by simp at e
theorem AgL.drop{l:List Cmd}(h:AgL σ l 0)(k:Nat):AgL σ (l.drop k) k:=λs c e=>by
 rw[jB]at e
 have:=h _ c e
 rwa [jm]at this
theorem UpI.wait(h:UpI σ i p rs)(hx:PnI σ rs p.rnd x):UpI σ i (p.wait x) rs :=
 h.keep rfl rfl rfl h.rd rfl λy hy=>(V'.1 hy).imp id λe=>by rw[O'.1 e];exact hx
theorem UpI.refuse(h:UpI σ i p rs)(to:Nat)(e:Int):UpI σ i (p.refuse to e) rs:=by
 unfold Nod.refuse;split
 .exact h.wait (by show Aw p.vo.p/\p.vo.p.key<=_;rw[h.tp.vo];exact⟨h.tp.ok.acc.1,jH _⟩)
 .exact h
theorem Nn(p:Nod)(to:Nat)(e:Int):(p.refuse to e).agreed=p.agreed:=by unfold Nod.refuse;split<;>rfl
theorem UpI.wrote{τ:Gs}{q:Nod}{rs':List Rk}(h:UpI σ i p rs)(hle:σ.le τ)(hI:GsI τ)(hdr:τ.dr i=σ.dr i)(ht:TpU q (σ.dr i) rs')(hp:rs <+: rs')(hv:∀ v,Rk.vt v∈rs'->τ.vok v){r:Rnd}(hr:RdI τ i r)(hb1:p.rnd.bal.key<=r.bal.key)(hb2:r.bal.key<=q.vo.p.key)(hx:PnI τ rs' r x)(hpe:q.pend=p.pend):UpI τ i (Nod.wait { q with rnd:=r } x) rs' :=
 ⟨by rw[hdr];exact⟨ht.ok,ht.pre,ht.d,ht.sy,ht.vo,ht.len⟩,hv,hr,hb2,λy hy=>by
  rcases V'.1 hy with g|g
  .have g:y∈q.pend:=g;rw[hpe]at g
   exact(h.pe y g).mono hle hI hp ht.ok hb1
  .rw[O'.1 g];exact hx⟩
theorem EO(h:UpI σ i p rs)(l:List Cmd):UpI σ i (p.enqueue l) rs/\(p.enqueue l).agreed=p.agreed:=by
 unfold Nod.enqueue;split
 .exact⟨h.keep rfl rfl rfl ⟨h.rd.bal,h.rd.next,h.rd.own,h.rd.heard,h.rd.prom,h.rd.acc⟩ rfl λx hx=>.inl hx,rfl⟩
 .exact⟨h,rfl⟩
theorem P0(h:UpI σ i p rs)(ha:AgL σ p.agreed 0):UpI σ i p.learnC rs/\AgL σ p.learnC.agreed 0:=⟨h.keep rfl rfl rfl h.rd rfl λx hx=>.inl hx,Te (λj hj v hv=>(h.rd.heard j hj v hv).1) 41 ha⟩
theorem NdI.take(hI:GsI σ)(h:NdI σ i p)(hu:p.up=true)(hl:LtI σ l)(hs:l.src<5):NdI σ i (p.take l):=by
 obtain⟨rs,k⟩:=h.up hu;have ha:=h.ag
 suffices g:∃ rs',UpI σ i (p.take l) rs'/\AgL σ (p.take l).agreed 0 by
  obtain⟨rs',g1,g2⟩:=g;exact NdI.mk' ((congrArg Prod.fst (Tx p l)).trans hu) g1 g2
 unfold Nod.take;split
 .rename_i hk
  rcases k.tp.promise l.bal with⟨e,he⟩|⟨e,he,hvs,rs',hp,ht,hm,hpb,hpv,d,a,hq⟩
  .rw[if_pos e];exact⟨rs,k.refuse _ _,by rw[Nn];exact ha⟩
  .rw[if_neg (λg=>g e)];have hz:=Dd he;refine⟨rs',?_,?_⟩
   .refine k.wrote (q:=(p.promise l.bal).1) (r:=(p.promise l.bal).1.rnd) (.refl σ) hI rfl ht hp (λv hv=>k.vok v ((hm v).1 hv)) ?_ ?_ ?_ ⟨PrmOk.of ht.ok hpb (hpv.trans hvs.symm),hl.k0 hk⟩ (by rw[hq];rfl)
    .rw[hq];exact k.rd
    .rw[hq];exact jH _
    .rw[ht.vo,hpb,hq];exact jp k.bp (BM hz.2.1.pr hz.1.1 hz.2.2)
   .show AgL σ (p.promise l.bal).1.agreed 0;rw[hq];exact ha
 .rename_i hk
  obtain⟨g1,g2,g3⟩:=hl.k1 hk;have hL:AgL σ (p.learn 0 l.what).agreed 0:=P3 ha g3 (jf _);have hU:UpI σ i (p.learn 0 l.what) rs:=k.keep rfl rfl rfl k.rd rfl λx hx=>.inl hx;generalize p.learn 0 l.what=K at hL hU ⊢;simp only;split
  .exact⟨rs,hU,hL⟩
  .rename_i hc
   have hld:K.leads=true:=by cases hh:K.leads with|true=>rfl|false=>exact absurd (.inl hh) hc
   have hbal:l.bal=K.rnd.bal:=iY.1 λe=>hc (.inr (.inl e));have hb0:K.rnd.bal≠Cc:=(jn hld).1;rw[hbal]at g1 g2
   have hn:=(hU.rd.bal.resolve_left hb0).2;rw[hn,jA]at g2
   have hr:=hU.rd.hear g1 g2;exact⟨rs,P0 (p:={ K with rnd:={ K.rnd.hear l.src l.votes with taught:=upN K.rnd.taught l.src l.what.length } }) (hU.keep rfl rfl rfl ⟨hr.bal,hr.next,hr.own,hr.heard,hr.prom,hr.acc⟩ rfl λx hx=>.inl hx) hL⟩
 .exact⟨rs,k.keep rfl rfl rfl k.rd rfl λx hx=>.inl hx,ha⟩
 .rename_i hk
  rcases k.tp.vote l.vote with⟨e,he⟩|⟨e,he,rs',hp,ht,hm,hpb,d,a,hq⟩
  .rw[if_pos e];exact⟨rs,k.refuse _ _,by rw[Nn];exact ha⟩
  .rw[if_neg (λg=>g e)];have hz:=AH he;refine⟨rs',?_,?_⟩
   .refine k.wrote (q:=(p.vote l.vote).1) (r:=(p.vote l.vote).1.rnd) (.refl σ) hI rfl ht hp (λv hv=>((hm v).1 hv).elim (λe=>by rw[e];exact hl.k3 hk) (k.vok v)) ?_ ?_ ?_ ((hm _).2 (.inl rfl)) (by rw[hq];rfl)
    .rw[hq];exact k.rd
    .rw[hq];exact jH _
    .rw[ht.vo,hpb,hq];exact jp k.bp (BM hz.2.1.2.1.pr hz.1.1 hz.2.2)
   .show AgL σ (p.vote l.vote).1.agreed 0;rw[hq];exact ha
 .rename_i hk
  exact⟨rs,k.count ha (hl.k4 hk)⟩
 .rename_i hk
  split
  .exact⟨rs,k.wait trivial,ha⟩
  .rename_i hlt;exact⟨rs,k.keep rfl rfl rfl k.rd rfl λx hx=>.inl hx,P3 ha (hl.k5 hk) (by omega)⟩
 .have:=EO k l.what;simp only;split
  .exact⟨rs,this.1.wait trivial,by show AgL σ (p.enqueue l.what).agreed 0;rw[this.2];exact ha⟩
  .exact⟨rs,this.1,by rw[this.2];exact ha⟩
 .exact⟨rs,k,ha⟩
theorem UU(hI:GsI σ)(h:RdI σ i p.rnd)(hb:Ab p.rnd.bal)(he:p.rnd.enough=true)(hs:p.rnd.next<=s)(hc:p.nextC s=some c):DA σ.H σ.P s p.rnd.bal.key c:=by
 have h5:5<2*K7 p.rnd.pro:=jn he;have hmem:∀ j,j<5->∀ v∈(p.rnd.heard j).vs,v.slot=(s:Int)->v∈Af (p.rnd.accs.map (·.vs)).flatten (s:Int):=λj hj v hv e=>by
  refine BO.2 ⟨mr.2 ⟨(p.rnd.heard j).vs,ju.2 ⟨p.rnd.heard j,?_,rfl⟩,hv⟩,e⟩;unfold Rnd.accs;rcases five hj with rfl|rfl|rfl|rfl|rfl<;>simp
 refine⟨p.rnd.pro,by omega,λq hq hQ=>(h.prom q hq hQ).1,?_⟩;unfold Nod.nextC at hc;split at hc
 .cases hc
 .rename_i hpe
  have hpe:=iY.1 hpe;have hF:Fr (p.rnd.accs.map (·.vs)) (s:Int)=(Jw (p.rnd.accs.map (·.vs)) (s:Int)).isSome:=if_pos hpe;have hC:G7 (p.rnd.accs.map (·.vs)) (s:Int)=((Jw (p.rnd.accs.map (·.vs)) (s:Int)).map (·.w)).getD ⟨0,0,0,0,0⟩:=if_pos hpe;have hall:∀ l∈p.rnd.accs.map (·.vs),∀ v∈l,Ak v:=by
   unfold C1 at hpe;split at hpe
   .cases hpe
   .split at hpe
    .assumption
    .cases hpe
  have hpr:∀ v∈Af (p.rnd.accs.map (·.vs)).flatten (s:Int),Aw v.b:=λv hv=>by
   obtain⟨l,h1,h2⟩:=mr.1 (BO.1 hv).1;exact(hall l h1 v h2).2.1.pr
  rcases QC _ hpr with⟨h0,hO⟩|⟨x,hO,hx,hmax⟩
  .left;intro q hq hQ b' c' ⟨v,g,k1,k2,k3⟩;refine Int.not_lt.1 λhlt=>?_;obtain⟨u,h1,h2,_⟩:=(h.prom q hq hQ).2 v g (by omega);have:=hmem q hq u h1 (h2.trans k1);rw[h0]at this;cases this
  .right;have hO:Jw (p.rnd.accs.map (·.vs)) (s:Int)=some x:=hO;rw[hO]at hF hC
   have hF:Fr (p.rnd.accs.map (·.vs)) (s:Int)=true:=hF;rw[if_pos hF]at hc
   have hcx:c=x.w:=(jJ hc).symm.trans hC;obtain⟨hxm,hxs⟩:=BO.1 hx;obtain⟨j,hj,hxj⟩:∃ j,j<5/\x∈(p.rnd.heard j).vs:=by
    obtain⟨l,h1,h2⟩:=mr.1 hxm;obtain⟨a,h3,rfl⟩:=ju.1 h1;unfold Rnd.accs at h3;simp only[iX,M',or_false]at h3;rcases h3 with rfl|rfl|rfl|rfl|rfl
    .exact⟨0,by omega,h2⟩
    .exact⟨1,by omega,h2⟩
    .exact⟨2,by omega,h2⟩
    .exact⟨3,by omega,h2⟩
    .exact⟨4,by omega,h2⟩
   obtain⟨hh1,hh2,hh3⟩:=h.heard j hj x hxj;have hvk:=hI.hv j x hh1;have hnb:x.b≠p.rnd.bal:=λe=>by
    have h1:=hvk.2;rw[e]at h1
    have:=h.next _ _ h1;omega
   have hlt:x.b.key<p.rnd.bal.key:=by
    rcases Int.lt_or_eq_of_le hh2 with g|g
    .exact g
    .exact absurd (Hw hvk.1.2.1.pr hb.pr g) hnb
   have hpj:p.rnd.pro j=true:=by
    cases hh:p.rnd.pro j with
    | true=>rfl
    | false=>exact absurd (hh3 hh) hnb
   refine⟨x.b.key,hlt,⟨j,hj,hpj,x,hh1,hxs,rfl,hcx.symm⟩,λq hq hQ b' c' ⟨v,g,k1,k2,k3⟩ hlt'=>?_⟩;obtain⟨u,h1,h2,h3⟩:=(h.prom q hq hQ).2 v g (by omega);have:=hmax u (hmem q hq u h1 (h2.trans k1));omega
def Gs.prop(σ:Gs)(b:Bal)(s:Nat)(c:Cmd):Gs:=⟨σ.dr,λb' s' c'=>σ.W b' s' c'\/(b'=b/\s'=s/\c'=c)⟩
theorem GsI.prop(h:GsI σ){b:Bal}(hb:Ab b)(hS:DA σ.H σ.P s b.key c)(ho:b.key<=σ.P b.n.toNat)(hn:∀ c',¬ σ.W b s c'):GsI (σ.prop b s c):=by
 refine⟨h.ok,h.pinv,?_,?_,?_,λn v g=>⟨(h.hv n v g).1,.inl (h.hv n v g).2⟩⟩
 .rintro b' s' c1 c2 (g|⟨rfl,rfl,rfl⟩) (k|⟨e1,e2,e3⟩)
  .exact h.w1 _ _ _ _ g k
  .subst e1 e2;exact absurd g (hn _)
  .exact absurd k (hn _)
  .exact e3.symm
 .rintro b' s' c' (g|⟨rfl,rfl,rfl⟩)
  .exact h.w2 _ _ _ g
  .exact⟨hb,hS⟩
 .rintro b' s' c' (g|⟨rfl,rfl,rfl⟩)
  .exact h.w3 _ _ _ g
  .exact ho
theorem NdI.propose(hI:GsI σ)(h:NdI σ i p)(hu:p.up=true):∃ τ ex,Gs.by_ i σ τ/\GsI τ/\NdI τ i p.propose/\(∀ b s c,τ.W b s c->σ.W b s c\/ex=some (b,s))/\∀ b s,ex=some (b,s)->s<40/\b=p.rnd.bal:=by
 obtain⟨rs,k⟩:=h.up hu;have hsame:∃ τ ex,Gs.by_ i σ τ/\GsI τ/\NdI τ i p/\(∀ b s c,τ.W b s c->σ.W b s c\/ex=some (b,s))/\∀ b s,ex=some (b,s)->s<40/\b=p.rnd.bal:=⟨σ,none,.refl i σ,hI,h,λ_ _ _ h=>.inl h,λ_ _ e=>by cases e⟩;have hup:=(GX p).trans hu
 revert hup
 unfold Nod.propose;split
 .exact λ_=>hsame
 .rename_i hc
  have hld:p.leads=true:=by cases hh:p.leads with|true=>rfl|false=>exact absurd (.inl hh) hc
  have hen:p.rnd.enough=true:=by cases hh:p.rnd.enough with|true=>rfl|false=>exact absurd (.inr (.inl hh)) hc
  have hnx:p.rnd.next<=p.agreed.length:=Nat.not_lt.1 λe=>hc (.inr (.inr e));cases hn:p.nextC p.agreed.length with
  | none=>exact λ_=>hsame
  | some c =>
   simp only;rcases k.tp.vote ⟨(p.agreed.length:Int),p.rnd.bal,c⟩with⟨e,he⟩|⟨e,he,rs',hp,ht,hm,hpb,d,a,hq⟩
   .rw[if_pos e];exact λ_=>hsame
   .rw[if_neg (λg=>g e)];intro hup;have hz:=AH he;have hb0:p.rnd.bal≠Cc:=(jn hld).1;obtain⟨hb,hbn⟩:=k.rd.bal.resolve_left hb0;have hS:=UU hI k.rd hb hen hnx hn;have hW:∀ c',¬ σ.W p.rnd.bal p.agreed.length c':=λc' g=>by have:=k.rd.next _ _ g;omega
    have ho:p.rnd.bal.key<=σ.P i:=by
     obtain⟨q,hq,hQ,_⟩:=KX p.rnd.pro p.rnd.pro (by have:5<2*K7 p.rnd.pro:=jn hen;omega) (by have:5<2*K7 p.rnd.pro:=jn hen;omega);exact k.rd.own q hq hQ
    have hτ:=hI.prop hb hS (by rw[hbn,jA];exact ho) hW;have hby:Gs.by_ i σ (σ.prop p.rnd.bal p.agreed.length c):=⟨⟨λ_=>jM _,λ_ _ _ g=>.inl g⟩,λb s c' g=>g.imp id λe=>by rw[e.1];exact hbn,λ_ _=>rfl⟩;have hvk:(σ.prop p.rnd.bal p.agreed.length c).vok ⟨(p.agreed.length:Int),p.rnd.bal,c⟩:=⟨hz.2.1,.inr ⟨rfl,jA _,rfl⟩⟩;have hr:=k.rd.mono (τ:=σ.prop p.rnd.bal p.agreed.length c) (r:=p.rnd) hby.le hτ;refine⟨_,some (p.rnd.bal,p.agreed.length),hby,hτ,NdI.mk' (rs:=rs') hup ?_ ?_,λb s c' g=>g.imp id λe=>by rw[e.1,e.2.1],λb s e=>?_⟩
    .refine k.wrote (q:=(p.vote ⟨(p.agreed.length:Int),p.rnd.bal,c⟩).1) (r:={ p.rnd with next:=p.agreed.length+1 }) hby.le hτ rfl ht hp (λv hv=>((hm v).1 hv).elim (λe=>by rw[e];exact hvk) λg=>hby.le.vok (k.vok v g)) ?_ (jH _) ?_ ((hm _).2 (.inl rfl)) (by rw[hq];rfl)
     .have g:=k.rd;refine RdI.mono (σ:=σ) hby.le hτ (r:={ p.rnd with next:=p.agreed.length+1 }) ⟨g.bal,λs c' hw=>Z' (g.next s c' hw) (by show p.rnd.next<=p.agreed.length+1;omega),g.own,g.heard,g.prom,g.acc⟩ λs c' hw=>?_;rcases hw with hw|⟨_,rfl,_⟩
      .exact Z' (g.next s c' hw) (by show p.rnd.next<=p.agreed.length+1;omega)
      .exact Nat.lt_succ_self _
     .rw[ht.vo,hpb];exact jH _
    .show AgL _ (p.vote ⟨(p.agreed.length:Int),p.rnd.bal,c⟩).1.agreed 0;rw[hq];exact h.ag.mono hby.le
    .cases e;have:=hz.2.1.1.2;exact⟨by simp only at this;omega,rfl⟩
theorem LtI.none(h:l.kind=6):LtI σ l:=⟨λe=>by omega,λe=>by omega,λe=>by omega,λe=>by omega,λe=>by omega,λe=>by omega⟩
theorem LtI.news(h:l.kind=5)(hw:AgL σ l.what l.slot):LtI σ l:=⟨λe=>by omega,λe=>by omega,λe=>by omega,λe=>by omega,λe=>by omega,λ_=>hw⟩
theorem NdI.run(hI:GsI σ)(hi:i<5)(h:NdI σ i p)(hu:p.up=true){q:Pend}{l:List Pend}(hp:p.pend=q::l)(hs:¬ p.sy<(p.d.length:Int)):NdI σ i { p.runP i q with pend:=l }/\∀ m∈p.sentP i q,LtI σ m:=by
 obtain⟨rs,k⟩:=h.up hu;have hdr:=k.tp.all hs;have hpq:=k.pe q (by rw[hp];exact U');have hsub:∀ x∈l,x∈p.pend:=λx hx=>by rw[hp];exact P' _ hx
 have hk:∀ {p':Nod},UpI σ i p' rs->p'.pend=p.pend->UpI σ i { p' with pend:=l } rs:=λ{p'} g e=>g.keep rfl rfl rfl g.rd rfl λx hx=>.inl (by rw[e];exact hsub x hx);cases q with
 | began b vs =>
  unfold Nod.runP Nod.sentP;simp only;split
  .exact⟨NdI.mk' hu (hk k rfl) h.ag,λm hm=>by cases hm⟩
  .rename_i e
   have e:=iY.1 e;obtain⟨g1,g2⟩:=hpq;have hacc:=k.tp.ok.acc;rw[<- k.tp.vo]at hacc
   have hbp:=k.bp;have hb:p.rnd.bal=b:=by
    rw[<- e];refine Hw ?_ hacc.1 (by rw[e]at hbp ⊢;omega);rcases k.rd.bal with g|g
    .rw[g];exact .inr ⟨rfl,rfl⟩
    .exact g.1.pr
   have hle:b.key<=σ.P i:=by have:=g1.le;rw[<- hdr]at this;exact this
   rw[<- hdr,<- hb]at g1
   rw[<- hb]at hle
   refine⟨NdI.mk' hu (hk (p':={ p with rnd:=p.rnd.hear i vs }) (k.keep rfl rfl rfl (k.rd.hear g1 hle) rfl λx hx=>.inl hx) rfl) h.ag,λm hm=>?_⟩;obtain⟨to,_,rfl⟩:=D8 hm;refine⟨λ_=>?_,λe=>(by cases e),λe=>(by cases e),λe=>(by cases e),λe=>(by cases e),λe=>(by cases e)⟩;show b.key<=σ.P b.n.toNat;rw[<- hb];rcases k.rd.bal with g|g
   .rw[g];have hz:=(hI.ok (Cc.n.toNat)).acc.1;have:0<=σ.P (Cc.n.toNat):=by
     unfold Aw Ab at hz;unfold Gs.P Bal.key;omega
    exact this
   .rw[g.2,jA];exact hle
 | prom to b vs =>
  refine⟨NdI.mk' hu (hk k rfl) h.ag,λm hm=>?_⟩;rw[O'.1 hm];refine⟨λe=>(by cases e),λ_=>⟨?_,hpq.2,h.ag⟩,λe=>(by cases e),λe=>(by cases e),λe=>(by cases e),λe=>(by cases e)⟩;show PrmOk (σ.dr i) b vs;rw[hdr];exact hpq.1
 | voted to v =>
  refine⟨NdI.mk' hu (hk k rfl) h.ag,λm hm=>?_⟩;rw[O'.1 hm];refine⟨λe=>(by cases e),λe=>(by cases e),λe=>(by cases e),λe=>(by cases e),λ_=>?_,λe=>(by cases e)⟩;show Rk.vt v∈σ.dr i;rw[hdr];exact hpq
 | refuse to b =>
  refine⟨NdI.mk' hu (hk k rfl) h.ag,λm hm=>?_⟩;rw[O'.1 hm];refine⟨λe=>(by cases e),λe=>(by cases e),λ_=>?_,λe=>(by cases e),λe=>(by cases e),λe=>(by cases e)⟩;show Aw b/\b.key<=(BF (σ.dr i)).p.key;rw[hdr];exact hpq
 | prop v =>
  have hh:σ.held i v:=by show Rk.vt v∈σ.dr i;rw[hdr];exact hpq
  have g:=k.count h.ag hh;refine⟨NdI.mk' ((congrArg Prod.fst (KB p i v)).trans hu) (hk g.1 (Gk p i (.prop v)).1) g.2,λm hm=>?_⟩;obtain⟨to,_,rfl⟩:=D8 hm;exact⟨λe=>(by cases e),λe=>(by cases e),λe=>(by cases e),λ_=>k.vok v hpq,λe=>(by cases e),λe=>(by cases e)⟩
 | askNews to=>exact⟨NdI.mk' hu (hk k rfl) h.ag,λm hm=>by rw[O'.1 hm];exact LtI.none rfl⟩
 | start=>exact⟨NdI.mk' hu (hk k rfl) h.ag,λm hm=>by obtain⟨to,_,rfl⟩:=D8 hm;exact LtI.none rfl⟩
 | tell to slot=>exact⟨NdI.mk' hu (hk k rfl) h.ag,λm hm=>by rw[O'.1 hm];exact LtI.news rfl (h.ag.drop slot)⟩
theorem NdI.lead(hI:GsI σ)(hi:i<5)(h:NdI σ i p)(hu:p.up=true):NdI σ i (p.lead i):=by
 obtain⟨rs,k⟩:=h.up hu;have hup:(p.lead i).up=true:=(congrArg Prod.fst (Tb p i)).trans hu
 revert hup
 unfold Nod.lead;simp only;generalize hb:(⟨max p.rounds p.vo.p.r+1,(i:Int)⟩:Bal)=b;rcases k.tp.promise b with⟨e,he⟩|⟨e,he,hvs,rs',hp,ht,hm,hpb,hpv,d,a,hq⟩
 .rw[if_pos e];exact λ_=>h
 .rw[if_neg (λg=>g e)];intro hup;have hz:=Dd he;have hlt:p.vo.p.key<b.key:=by
   have:=hz.1.1;rw[<- hb];unfold Aw Ab at this;show 5*p.vo.p.r+p.vo.p.n<5*(max p.rounds p.vo.p.r+1)+(i:Int);omega
  refine NdI.mk' (rs:=rs') hup ?_ ?_
  .refine k.wrote (q:=(p.promise b).1) (r:=⟨b,λ_=>false,λ_=>Ej,λ_=>p.agreed.length,0,[]⟩) (.refl σ) hI rfl ht hp (λv hv=>k.vok v ((hm v).1 hv)) ?_ ?_ ?_ ⟨PrmOk.of ht.ok hpb (hpv.trans hvs.symm),jH _⟩ (by rw[hq];rfl)
   .refine⟨.inr ⟨hz.2.1,by rw[<- hb]⟩,λs c hW=>?_,λj _ e=>(by cases e),λj _ v hv=>(by cases hv),λj _ e=>(by cases e),λj _=>⟨Kb,λe=>(by cases e)⟩⟩;have h1:=hI.w3 _ _ _ hW;rw[show b.n.toNat=i by rw[<- hb];exact jA i]at h1
    obtain⟨x,hx⟩:=k.tp.pre;have h2:=k.tp.ok;rw[<- hx]at h2
    have h3:=(EA h2).1;rw[hx,<- k.tp.vo]at h3
    have h4:σ.P i<=p.vo.p.key:=h3;have h1:b.key<=σ.P i:=h1;omega
   .have:=k.bp;show _<=b.key;omega
   .rw[ht.vo,hpb];exact jH _
  .show AgL σ (p.promise b).1.agreed 0;rw[hq];exact h.ag
theorem Vx(k:Nat):∀ m∈D2 p i k,m.kind=5/\m.what=p.agreed.drop m.slot:=by
 induction k with
 | zero=>intro m hm;cases hm
 | succ k ih =>
  intro m hm;rw[D2]at hm
  rcases V'.1 hm with hm|hm
  .exact ih m hm
  .split at hm
   .rw[O'.1 hm];exact⟨rfl,rfl⟩
   .cases hm
theorem AgI.step(h:AgI σ M)(s:Stp D n M N):∃ τ ex,σ.le τ/\AgI τ N/\(∀ b s c,τ.W b s c->σ.W b s c\/ex=some (b,s))/\∀ b s,ex=some (b,s)->n=1/\s<40/\∃ i,i<5/\b=(M.node i).rnd.bal:=by
 have hI:=h.gs;have done:∀ {i:Nat} {p:Nod} {ls:List Let} {ts:List Tol},NdI σ i p->(∀ l∈ls,l∈M.lets\/LtI σ l)->∃ τ ex,σ.le τ/\AgI τ (M.set i p ls ts)/\(∀ b s c,τ.W b s c->σ.W b s c\/ex=some (b,s))/\∀ b s,ex=some (b,s)->n=1/\s<40/\∃ i,i<5/\b=(M.node i).rnd.bal:=λ{i p ls ts} hp hl=>⟨σ,none,.refl σ,h.set (.refl _ σ) hI hp hl ts,λ_ _ _ h=>.inl h,λ_ _ e=>by cases e⟩;have same:∀ l∈M.lets,l∈M.lets\/LtI σ l:=λl hl=>.inl hl;have app:∀ {ms:List Let},(∀ m∈ms,LtI σ m)->∀ l∈M.lets++ms,l∈M.lets\/LtI σ l:=λg l hl=>(V'.1 hl).imp id (g l);cases s with
 | take _ l hl hd hu _=>exact done ((h.nd _ hd.2).take hI hu (h.lt l hl) hd.1) same
 | lets _ ls hl _=>exact⟨σ,none,.refl σ,⟨hI,h.nd,λl g=>h.lt l (hl l g)⟩,λ_ _ _ h=>.inl h,λ_ _ e=>by cases e⟩
 | one _ i c hi hu hc he =>
  refine done ?_ same;obtain⟨rs,k⟩:=(h.nd i hi).up hu;have hk:=Eh { M.node i with sto:=doS (M.node i).sto c,done:=(M.node i).done+1 } c;refine NdI.mk' (hk.1.trans hu) (rs:=rs) ?_ (by rw[hk.2.1];exact(h.nd i hi).ag);unfold Nod.unwant;split<;>exact k.keep rfl rfl rfl k.rd rfl λx hx=>.inl hx
 | ask _ i hi hu =>
  obtain⟨rs,k⟩:=(h.nd i hi).up hu;have ha:=(h.nd i hi).ag;have hup:=(NI (M.node i) i).trans hu;generalize hp:M.node i=p at k ha hup ⊢;refine done (NdI.mk' (rs:=rs) hup ?_ ?_) (app ?_)
  .unfold Nod.askd;split
   .exact k.keep rfl rfl rfl k.rd rfl λx hx=>.inl hx
   .split
    .exact(EO (p:={ p with asked:=(CY p.vo.p p.asked (p.wants.take 40)).2 }) (k.keep rfl rfl rfl k.rd rfl λx hx=>.inl hx) _).1
    .exact k.keep rfl rfl rfl k.rd rfl λx hx=>.inl hx
  .unfold Nod.askd;split
   .exact ha
   .split
    .show AgL σ (Nod.enqueue _ _).agreed 0;rw[(EO (p:={ p with asked:=(CY p.vo.p p.asked (p.wants.take 40)).2 }) (k.keep rfl rfl rfl k.rd rfl λx hx=>.inl hx) _).2];exact ha
    .exact ha
  .intro m hm;unfold Nod.askd at hm;split at hm
   .cases hm
   .split at hm
    .cases hm
    .rw[O'.1 hm];exact LtI.none rfl
 | prop _ i hi hu =>
  obtain⟨τ,ex,h1,h2,h3,h4,h5⟩:=(h.nd i hi).propose hI hu;exact⟨τ,ex,h1.le,h.set h1 h2 h3 (λl hl=>.inl hl) _,h4,λb s e=>⟨rfl,(h5 b s e).1,i,hi,(h5 b s e).2⟩⟩
 | syn _ i hi hu hlt hT =>
  obtain⟨rs,k⟩:=(h.nd i hi).up hu;obtain⟨x,hx⟩:=k.tp.pre;have h2:=hI.ext (i:=i) x (by rw[hx];exact k.tp.ok) λv hv=>k.vok v (by rw[<- hx];exact jx _ hv);have h1:=NV σ i x;refine⟨σ.ext i x,none,h1.le,h.set h1 h2 (NdI.mk' (p:={ M.node i with sy:=((M.node i).d.length:Int) }) (rs:=rs) hu ⟨?_,λv hv=>h1.le.vok (k.vok v hv),k.rd.mono h1.le h2 λs c hW=>k.rd.next s c hW,k.bp,λq hq=>(k.pe q hq).mono h1.le h2 (jM _) k.tp.ok (jH _)⟩ ((h.nd i hi).ag.mono h1.le)) (λl hl=>.inl hl) _,λ_ _ _ h=>.inl h,λ_ _ e=>by cases e⟩;rw[GI,hx];exact k.tp.syn
 | run _ i hi hu q l hp hs =>
  have g:=(h.nd i hi).run hI hi hu hp hs;exact done g.1 (app g.2)
 | teach _ i hi hu hL =>
  obtain⟨rs,k⟩:=(h.nd i hi).up hu;refine done (NdI.mk' (rs:=rs) hu (k.keep rfl rfl rfl ⟨k.rd.bal,k.rd.next,k.rd.own,k.rd.heard,k.rd.prom,k.rd.acc⟩ rfl λx hx=>.inl hx) (h.nd i hi).ag) (app λm hm=>?_);obtain⟨g1,g2⟩:=Vx 5 m hm;exact LtI.news g1 (by rw[g2];exact(h.nd i hi).ag.drop _)
 | lead _ i hi hu _=>exact done ((h.nd i hi).lead hI hi hu) same
 | sub _ i d hi hu hD =>
  obtain⟨rs,k⟩:=(h.nd i hi).up hu;have ha:=(h.nd i hi).ag;refine done ?_ same;unfold Nod.subm Nod.sub0;split
  .exact h.nd i hi
  .split
   .exact NdI.mk' (rs:=rs) hu (k.keep rfl rfl rfl k.rd rfl λx hx=>.inl hx) ha
   .split
    .exact h.nd i hi
    .show NdI σ i (Nod.want _ _);unfold Nod.want;split
     .exact h.nd i hi
     .exact NdI.mk' (rs:=rs) hu (k.keep rfl rfl rfl k.rd rfl λx hx=>.inl hx) ha
 | crash _ i c hi hu hc _ =>
  obtain⟨rs,k⟩:=(h.nd i hi).up hu;obtain⟨dr',⟨x,hx⟩,⟨y,hy⟩,hD⟩:=k.tp.crash hc;have h2:=hI.ext (i:=i) x (k.tp.ok.pre ⟨y,by rw[hx];exact hy⟩) λv hv=>k.vok v (by rw[<- hy,<- hx];exact jl _ (jx _ hv));have h1:=NV σ i x;have hct:=Pa (p:=M.node i) k.tp.tap hc;exact⟨σ.ext i x,none,h1.le,h.set h1 h2 ⟨λe=>(by rw[hct.2.1]at e;cases e),λ_=>(by rw[GI,hx];exact hD),by rw[hct.2.2.2];exact AgL.nil _ _⟩ (λl hl=>.inl hl) _,λ_ _ _ h=>.inl h,λ_ _ e=>by cases e⟩
 | start _ i hi hu _ =>
  have k:=(h.nd i hi).dn hu;have hT:Bd (M.node i).d (M.node i).sy:=⟨k.len,by rw[k.sy];omega,by rw[k.sy];omega⟩;have hst:=L8 (p:=M.node i) hT;have ht:=k.start;have hr:(M.node i).start.rnd=eE/\(M.node i).start.pend=[.start]:=by
   unfold Nod.start;rw[if_neg (λe=>e (if_pos hT))];split<;>exact⟨rfl,rfl⟩
  refine done (NdI.mk' (rs:=σ.dr i) hst.2.1 ⟨ht,λv hv=>hI.hv i v hv,?_,?_,λq hq=>?_⟩ (by rw[hst.2.2.2];exact AgL.nil _ _)) same
  .rw[hr.1];exact⟨.inl rfl,λs c hW=>absurd (hI.w2 _ _ _ hW).1 (by decide),λj _ e=>(by cases e),λj _ v hv=>(by cases hv),λj _ e=>(by cases e),λj _=>⟨Kb,λe=>(by cases e)⟩⟩
  .rw[hr.1,ht.vo];have hz:=ht.ok.acc.1;show(0:Int)<=_;unfold Aw Ab at hz;unfold Bal.key;omega
  .rw[hr.2]at hq
   rw[O'.1 hq];trivial
theorem AgI.steps(s:Sts D n M N)(h:AgI σ M):∃ (τ:Gs) (ex:List (Bal × Nat)),σ.le τ/\AgI τ N/\ex.length<=n/\∀ b s c,τ.W b s c->σ.W b s c\/(b,s)∈ex:=by
 induction s with
 | nil=>exact⟨σ,[],.refl σ,h,jf _,λ_ _ _ h=>.inl h⟩
 | snoc _ s hm ih =>
  obtain⟨τ,ex,h1,h2,h5,h6⟩:=ih h;obtain⟨υ,eo,h3,h4,h7,h8⟩:=h2.step s;cases eo with
  | none=>exact⟨υ,ex,h1.trans h3,h4,by omega,λb s c g=>(h7 b s c g).elim (h6 b s c) λe=>by cases e⟩
  | some x=>exact⟨υ,x::ex,h1.trans h3,h4,by have:=(h8 x.1 x.2 rfl).1;rw[jo];omega,λb s c g=>(h7 b s c g).elim (λg=>(h6 b s c g).imp id (P' _)) λe=>.inr (by cases e;exact U')⟩
theorem AgI.zero:AgI ⟨λ_=>[],λ_ _ _=>False⟩ AK :=
 ⟨⟨λ_=>AX.nil,⟨λn s b c ⟨v,g,_⟩=>(by cases g),λn n' s b c c' ⟨v,g,_⟩=>(by cases g),λn s b c ⟨v,g,_⟩=>(by cases g)⟩,λ_ _ _ _ g=>g.elim,λ_ _ _ g=>g.elim,λ_ _ _ g=>g.elim,λn v g=>(by cases g)⟩,
  λi _=>NdI.mk' (rs:=[]) rfl ⟨TpU.zero,λv g=>(by cases g),⟨.inl rfl,λ_ _ g=>g.elim,λj _ e=>(by cases e),λj _ v hv=>(by cases hv),λj _ e=>(by cases e),λj _=>⟨Kb,λe=>(by cases e)⟩⟩,jH _,λq hq=>(by cases hq)⟩ (AgL.nil _ _),λl hl=>by cases hl⟩
theorem agree{L K:List Lac}(hL:∀ x∈L++K,LacOk x)(hl:(L++K).length<=100000)(hi:i<5)(hj:j<5){d:Cmd}(hc:((AK.acts L).node i).agreed[s]?=some c)(hd:((AK.acts (L++K)).node j).agreed[s]?=some d):c=d:=by
 rw[G']at hl
 have hLL:∀ x∈L,LacOk x:=λx hx=>hL x (jl _ hx);have s1:Sts whT L.length AK (AK.acts L):=OH L MOk.zero (by omega) λx hx=>⟨hLL x hx,TB x⟩;have s2:Sts whT K.length (AK.acts L) (AK.acts (L++K)):=by
  rw[OG];exact OH K (Kr L hLL (by omega)) (by omega) λx hx=>⟨hL x (jx _ hx),TB x⟩
 obtain⟨σ,_,_,h1,_⟩:=AgI.zero.steps s1;obtain⟨τ,_,h2,h3,_⟩:=h1.steps s2;have g1:=h2.chs ((h1.nd i hi).ag s c hc);have g2:=(h3.nd j hj).ag s d hd;obtain⟨b1,g1⟩:=g1;obtain⟨b2,g2⟩:=g2;exact h3.gs.pinv.agree g1 g2
end
end
end Go.Proofs.YtalbmmghmoggcadGreatDoor
