/- Part 33 of the walk. -/
import Derived.Test.YtalbmmghmoggcacGreatDoorZ31
import Derived.Test.YtalbmmghmoggcacGreatDoorZ32
set_option maxRecDepth 100000
set_option maxHeartbeats 4000000
open Go.Proofs.Tryz
set_option linter.unusedVariables false
namespace Go.Proofs.YtalbmmghmoggcacGreatDoor
section
section
def Nod.ub(p:Nod):Bool × Nat:=(p.up,p.bad)
theorem KV(p:Nod)(b:Bal):(p.promise b).1.ub=p.ub:=by
 unfold Nod.promise;split
 .rfl
 .split
  .rfl
  .split<;>rfl
theorem Tp(p:Nod)(v:Vt):(p.vote v).1.ub=p.ub:=by
 unfold Nod.vote;split
 .rfl
 .split
  .rfl
  .split<;>rfl
theorem Kr(p:Nod)(j:Nat)(v:Vt):(p.count j v).ub=p.ub:=by
 unfold Nod.count;split
 .rfl
 .split<;>rfl
theorem ML(p:Nod)(to:Nat)(e:Int):(p.refuse to e).ub=p.ub:=by unfold Nod.refuse;split<;>rfl
theorem Kv(p:Nod)(l:List Cmd):(p.enqueue l).ub=p.ub:=by unfold Nod.enqueue;split<;>rfl
theorem Tf(p:Nod)(l:Let):(p.take l).ub=p.ub:=by
 unfold Nod.take;split
 .split
  .exact ML _ _ _
  .exact KV p l.bal
 .simp only;split<;>rfl
 .rfl
 .split
  .exact ML _ _ _
  .exact Tp p l.vote
 .exact Kr p _ _
 .split<;>rfl
 .simp only;split<;>exact Kv p l.what
 .rfl
theorem aG(p:Nod)(i:Nat)(q:Pend):(p.runP i q).ub=p.ub:=by
 cases q with
 | began b vs=>unfold Nod.runP;simp only;split<;>rfl
 | prop v=>exact Kr p i v
 | _=>rfl
theorem VZ(i:Nat)(l:List Pend)(p:Nod)(ls:List Let):(doneP i l p ls).1.ub=p.ub:=by
 induction l generalizing p ls with
 | nil=>rfl
 | cons q l ih=>exact(ih _ _).trans (aG p i q)
theorem Vk(p:Nod)(c:Cmd):(p.unwant c).ub=p.ub:=by unfold Nod.unwant;split<;>rfl
theorem df(i:Nat)(l:List Cmd)(p:Nod)(ts:List Tol):(doP i l p ts).1.ub=p.ub:=by
 induction l generalizing p ts with
 | nil=>rfl
 | cons c l ih =>
  rw[doP];split
  .rfl
  .exact(ih _ _).trans (Vk _ _)
theorem YJ(p:Nod)(i:Nat):(p.askd i).1.ub=p.ub:=by
 unfold Nod.askd;split
 .rfl
 .split
  .exact Kv _ _
  .rfl
theorem RI(p:Nod):p.propose.ub=p.ub:=by
 unfold Nod.propose;split
 .rfl
 .split
  .rfl
  .split
   .rfl
   .exact Tp p _
theorem Yg(p:Nod)(i:Nat)(ls:List Let):(p.syncd i ls).1.ub=p.ub:=by
 unfold Nod.syncd;split
 .rfl
 .rw[VZ];unfold Nod.syn;split<;>rfl
theorem Ve(p:Nod)(i:Nat)(ls:List Let):(p.taught i ls).1.ub=p.ub:=by unfold Nod.taught;split<;>rfl
theorem X0(p:Nod)(i:Nat)(ls:List Let)(ts:List Tol):(p.piece i ls ts).1.ub=p.ub:=by
 unfold Nod.piece;simp only;rw[Ve,Yg,RI,YJ,df]
theorem SI(p:Nod)(i:Nat):(p.lead i).ub=p.ub:=by
 unfold Nod.lead;simp only;split
 .rfl
 .exact KV p _
theorem S2(M:Meet)(l:Let)(j:Nat):((M.come l).node j).ub=(M.node j).ub:=by
 unfold Meet.come;split
 .show(upN M.node l.dst _ j).ub=_;unfold upN;split
  .rename_i h;rw[h];exact Tf _ _
  .rfl
 .rfl
theorem VL(l:List Let)(M:Meet)(j:Nat):((l.foldl (λM l=>M.come l) M).node j).ub=(M.node j).ub:=by
 induction l generalizing M with
 | nil=>rfl
 | cons x l ih=>exact(ih _).trans (S2 M x j)
theorem ZI(M:Meet)(k:Int)(a:Nat)(j:Nat):((M.move k a).node j).ub=(M.node j).ub:=by
 unfold Meet.move;split
 .rfl
 .simp only;split
  .rw[S2];split<;>rfl
  .split<;>rfl
theorem Id(M:Meet)(i:Nat)(p:Nod)(ls:List Let)(ts:List Tol)(j:Nat):(M.set i p ls ts).node j=if j=i then p else M.node j:=rfl
variable{D:Wh}{L:List Lac}{M N:Meet}{P:Lac->Prop}{c:Cmd}{i j n s:Nat}{k:Int}{l:Let}{p:Nod}{rs:List Rk}{x:Lac}{σ:Gs}
theorem cG(M:Meet)(h1:x.k≠1)(h8:x.k≠8)(h9:x.k≠9)(j:Nat):((M.act x).node j).ub=(M.node j).ub:=by
 unfold Meet.act;simp only;rw[if_neg h1];by_cases h2:x.k=2
 .rw[if_pos h2,Id];split
  .rename_i e
   rw[e];split
   .exact SI _ _
   .rfl
  .rfl
 .rw[if_neg h2];by_cases h3:x.k=3
  .rw[if_pos h3,Id];split
   .rename_i e
    rw[e];split
    .exact X0 _ _ _ _
    .rfl
   .rfl
  .rw[if_neg h3];by_cases h4:x.k=4\/x.k=5\/x.k=6
   .rw[if_pos h4];exact ZI _ _ _ _
   .rw[if_neg h4];by_cases h7:x.k=7
    .rw[if_pos h7];exact VL _ _ _
    .rw[if_neg h7,if_neg h8,if_neg h9]
theorem eA(M:Meet)(h1:x.k=1)(j:Nat):((M.act x).node j).ub=if j=x.n.toNat/\(M.node j).up=true/\opE x.d ((M.node j).done:Int)≠0 then((M.node j).up,(M.node j).bad+1)else(M.node j).ub:=by
 unfold Meet.act;simp only;rw[if_pos h1,Id];by_cases hj:j=x.n.toNat
 .subst hj;rw[if_pos rfl];unfold Nod.subm Nod.sub0;by_cases hu:(M.node x.n.toNat).up=false
  .rw[if_pos hu,if_neg (by rw[hu];simp)]
  .rw[if_neg hu];have hu':(M.node x.n.toNat).up=true:=by simpa using hu
   by_cases he:opE x.d ((M.node x.n.toNat).done:Int)≠0
   .rw[if_pos he,if_pos ⟨rfl,hu',he⟩];rfl
   .rw[if_neg he,if_neg (c:=_/\_) (λe=>he e.2.2)];split
    .rfl
    .show(Nod.want _ _).ub=_;unfold Nod.want;split<;>rfl
 .rw[if_neg hj,if_neg (λe=>hj e.1)]
theorem Tx(M:Meet)(L:List Lac)(x:Lac):M.acts (L++[x])=(M.acts L).act x:=by unfold Meet.acts;rw[lM];rfl
theorem Ty(h:L[i]?=some x):M.acts (L.take (i+1))=(M.acts (L.take i)).act x:=by rw[List.take_add_one,h];exact Tx M (L.take i) x
theorem Ot(L:List Lac)(h:∀ x∈L,LacOk x)(hl:L.length<=100000):MOk L.length (Bl.acts L):=by
 suffices ∀ i,i<=L.length->MOk i (Bl.acts (L.take i))by have h1:=this L.length (A' _);rwa [jO]at h1
 intro i;induction i with
 | zero=>intro _;exact MOk.zero
 | succ i ih =>
  intro hi;have hx:L[i]?=some L[i]:=E' (by omega);rw[Ty hx];exact(ih (by omega)).act (by omega) (h _ (jc _))
theorem Zj(g:Gr)(cr:Bool):LacOk (Nu g cr):=by
 have h1:=AT g.a 5 (by omega);have h2:=AT g.c 20 (by omega);have h3:=AT g.c 90 (by omega);have hl:(pkB g).length<=63:=by
  have:(pkP g).length=63:=KS (X1 g);unfold pkB;split
  .rw[X'];omega
  .omega
 rw[<- JQ];unfold Nu acN
 repeat' split
 all_goals simp[ZB,FQ,GZ,Ha];try omega
theorem PJ(h7:P (acN 7 0)){cr:Bool}(hg:∀ g,P (Nu g cr))(s:Nat)(l:List Gr):∀ x∈NV cr s l,P x:=by
 induction l generalizing s with
 | nil=>intro x hx;cases hx
 | cons g l ih =>
  intro x hx;rcases iF.1 hx with rfl|hx
  .unfold XL;split
   .exact h7
   .exact hg g
  .exact ih _ x hx
theorem ep(l:List Gr)(m:Nat)(cr:Bool):∀ x∈scr l m cr,LacOk x:=PJ (by rw[<- JQ];decide) (λg=>Zj g cr) _ _
theorem XM(cr:Bool)(s:Nat)(l:List Gr):(NV cr s l).length=l.length:=by
 induction l generalizing s with
 | nil=>rfl
 | cons g l ih=>rw[NV,iW,ih,iW]
theorem aK(l:List Gr)(m:Nat)(cr:Bool):(scr l m cr).length<=m:=by unfold scr;rw[XM,X'];omega
theorem XN(l:List Gr)(m:Nat):∀ x∈scr l m false,x.k≠8/\x.k≠9:=PJ (P:=λx=>x.k≠8/\x.k≠9) (by decide) (λg=>by
 unfold Nu acN
 repeat' split
 all_goals simp_all) _ _
def Nod.tp(p:Nod):Prop:=B2 p.d p.sy
theorem VO(h:p.tp)(hk:0<=k):(p.crash k).tp/\(p.crash k).up=false/\(p.crash k).done=0/\(p.crash k).agreed=[]:=by
 have he:Hi p.d p.sy k=0:=by unfold Hi;rw[if_neg (λe=>e h),if_neg (by omega)]
 unfold Nod.crash;rw[if_neg (λe=>e he)];refine⟨?_,rfl,rfl,rfl⟩;show B2 (Jz p.d p.sy k) (J0 p.d p.sy k);unfold Jz J0;rw[if_pos he,if_pos he];unfold Nod.tp B2 at h;have hc:0<=Fy p.d p.sy k/\Fy p.d p.sy k<=(p.d.length:Int):=by unfold Fy;split<;>omega
 unfold B2;rw[X'];omega
theorem XY(h:p.tp):p.start.tp/\p.start.up=true/\p.start.done=0/\p.start.agreed=[]:=by
 have he:De p.d p.sy=0:=if_pos h;have hl:=WF p.d p.d.length;unfold Nod.start;rw[if_neg (λe=>e he)];split
 .refine⟨?_,rfl,rfl,rfl⟩;show B2 (I8 p.d p.sy) (Le p.d p.sy);unfold I8 Le;have h':B2 p.d p.sy:=h;rw[if_pos h',if_pos h'];unfold Nod.tp B2 at h;unfold B2;rw[X'];unfold DR;split<;>omega
 .exact⟨h,rfl,rfl,rfl⟩
theorem cH(M:Meet)(h8:x.k≠8)(hu:(M.node j).up=true):((M.act x).node j).up=true:=by
 by_cases h1:x.k=1
 .have:=congrArg Prod.fst (eA M h1 j);split at this
  .exact this.trans hu
  .exact this.trans hu
 .by_cases h9:x.k=9
  .unfold Meet.act;simp only;rw[if_neg h1,if_neg (by omega),if_neg (by omega),if_neg (by omega),if_neg (by omega),if_neg (by omega),if_pos h9,Id];split
   .rename_i e;rw[<- e,if_pos hu];exact hu
   .exact hu
  .exact(congrArg Prod.fst (cG M h1 h8 h9 j)).trans hu
theorem YD(L:List Lac)(h8:∀ x∈L,x.k≠8)(M:Meet)(hu:(M.node j).up=true):((M.acts L).node j).up=true:=by
 induction L generalizing M with
 | nil=>exact hu
 | cons x L ih=>exact ih (λy hy=>h8 y (Q' _ hy)) _ (cH M (h8 x U') hu)
theorem Vw(M:Meet)(L K:List Lac):M.acts (L++K)=(M.acts L).acts K:=lM
theorem Nh{n:Int}(h:(k=2\/k=3\/k=9)/\0<=n/\n<=4):LacOk (acN k n):=by
 rw[<- JQ];rcases h with⟨rfl|rfl|rfl,h1,h2⟩<;>simp[ZB,acN,FQ,GZ,Ha]<;>omega
theorem Pa(h:∀ n:Nat,n<5->P (acN k (n:Int)))(hj:j<=5):∀ x∈Gn k j,P x:=by
 intro x hx;obtain⟨n,hn,rfl⟩:=i9.1 hx;exact h n (by have:=j7.1 hn;omega)
theorem QM(h3:∀ n:Nat,n<5->P (acN 3 (n:Int)))(h7:P (acN 7 0))(m:Nat):∀ x∈Cr m,P x:=by
 induction m with
 | zero=>intro x hx;cases hx
 | succ m ih =>
  intro x hx;rcases V'.1 hx with h|h
  .exact ih x h
  .rcases V'.1 h with h|h
   .exact Pa h3 (A' _) x h
   .rw[N'.1 h];exact h7
theorem PE(h9:∀ n:Nat,n<5->P (acN 9 (n:Int)))(h3:∀ n:Nat,n<5->P (acN 3 (n:Int)))(h7:P (acN 7 0))(m:Nat):∀ x∈EZ m,P x:=by
 intro x hx;rcases V'.1 hx with h|h
 .exact Pa h9 (A' _) x h
 .exact QM h3 h7 m x h
theorem aD(m:Nat):∀ x∈EZ m,LacOk x:=PE (λn hn=>Nh ⟨.inr (.inr rfl),by omega,by omega⟩) (λn hn=>Nh ⟨.inr (.inl rfl),by omega,by omega⟩) (by rw[<- JQ];decide) m
theorem NdI.mk'(hu:p.up=true)(h:UpI σ i p rs)(ha:AgL σ p.agreed 0):NdI σ i p:=⟨λ_=>⟨rs,h⟩,λe=>(by rw[hu]at e;cases e),ha⟩
theorem AgL.nil(σ:Gs)(k:Nat):AgL σ [] k:=λs c e=>by simp at e
theorem AgL.drop{l:List Cmd}(h:AgL σ l 0)(k:Nat):AgL σ (l.drop k) k:=λs c e=>by
 rw[jh]at e
 have:=h _ c e
 rwa [iX]at this
theorem UpI.wait(h:UpI σ i p rs){x:Pend}(hx:PnI σ rs p.rnd x):UpI σ i (p.wait x) rs :=
 h.keep rfl rfl rfl h.rd rfl λy hy=>(V'.1 hy).imp id λe=>by rw[N'.1 e];exact hx
theorem UpI.refuse(h:UpI σ i p rs)(to:Nat)(e:Int):UpI σ i (p.refuse to e) rs:=by
 unfold Nod.refuse;split
 .exact h.wait (by show Aw p.vo.p/\p.vo.p.key<=_;rw[h.tp.vo];exact⟨h.tp.ok.acc.1,jm _⟩)
 .exact h
theorem MK(p:Nod)(to:Nat)(e:Int):(p.refuse to e).agreed=p.agreed:=by unfold Nod.refuse;split<;>rfl
theorem UpI.wrote{τ:Gs}{q:Nod}{rs':List Rk}(h:UpI σ i p rs)(hle:σ.le τ)(hI:GsI τ)(hdr:τ.dr i=σ.dr i)(ht:TpU q (σ.dr i) rs')(hp:rs <+: rs')(hv:∀ v,Rk.vt v∈rs'->τ.vok v){r:Rnd}(hr:RdI τ i r)(hb1:p.rnd.bal.key<=r.bal.key)(hb2:r.bal.key<=q.vo.p.key){x:Pend}(hx:PnI τ rs' r x)(hpe:q.pend=p.pend):UpI τ i (Nod.wait { q with rnd:=r } x) rs' :=
 ⟨by rw[hdr];exact⟨ht.ok,ht.pre,ht.d,ht.sy,ht.vo,ht.len⟩,hv,hr,hb2,λy hy=>by
  rcases V'.1 hy with g|g
  .have g:y∈q.pend:=g;rw[hpe]at g
   exact(h.pe y g).mono hle hI hp ht.ok hb1
  .rw[N'.1 g];exact hx⟩
theorem EI(h:UpI σ i p rs)(l:List Cmd):UpI σ i (p.enqueue l) rs/\(p.enqueue l).agreed=p.agreed:=by
 unfold Nod.enqueue;split
 .exact⟨h.keep rfl rfl rfl ⟨h.rd.bal,h.rd.next,h.rd.own,h.rd.heard,h.rd.prom,h.rd.acc⟩ rfl λx hx=>.inl hx,rfl⟩
 .exact⟨h,rfl⟩
theorem Pb(h:UpI σ i p rs)(ha:AgL σ p.agreed 0):UpI σ i p.learnC rs/\AgL σ p.learnC.agreed 0:=⟨h.keep rfl rfl rfl h.rd rfl λx hx=>.inl hx,SL (λj hj v hv=>(h.rd.heard j hj v hv).1) 41 ha⟩
theorem NdI.take(hI:GsI σ)(h:NdI σ i p)(hu:p.up=true)(hl:LtI σ l)(hs:l.src<5):NdI σ i (p.take l):=by
 obtain⟨rs,k⟩:=h.up hu;have ha:=h.ag
 suffices g:∃ rs',UpI σ i (p.take l) rs'/\AgL σ (p.take l).agreed 0 by
  obtain⟨rs',g1,g2⟩:=g;exact NdI.mk' ((congrArg Prod.fst (Tf p l)).trans hu) g1 g2
 unfold Nod.take;split
 .rename_i hk
  rcases k.tp.promise l.bal with⟨e,he⟩|⟨e,he,hvs,rs',hp,ht,hm,hpb,hpv,d,a,hq⟩
  .rw[if_pos e];exact⟨rs,k.refuse _ _,by rw[MK];exact ha⟩
  .rw[if_neg (λg=>g e)];have hz:=Dc he;refine⟨rs',?_,?_⟩
   .refine k.wrote (q:=(p.promise l.bal).1) (r:=(p.promise l.bal).1.rnd) (.refl σ) hI rfl ht hp (λv hv=>k.vok v ((hm v).1 hv)) ?_ ?_ ?_ ⟨PrmOk.of ht.ok hpb (hpv.trans hvs.symm),hl.k0 hk⟩ (by rw[hq];rfl)
    .rw[hq];exact k.rd
    .rw[hq];exact jm _
    .rw[ht.vo,hpb,hq];exact i6 k.bp (BJ hz.2.1.pr hz.1.1 hz.2.2)
   .show AgL σ (p.promise l.bal).1.agreed 0;rw[hq];exact ha
 .rename_i hk
  obtain⟨g1,g2,g3⟩:=hl.k1 hk;have hL:AgL σ (p.learn 0 l.what).agreed 0:=Pc ha g3 (iP _);have hU:UpI σ i (p.learn 0 l.what) rs:=k.keep rfl rfl rfl k.rd rfl λx hx=>.inl hx;generalize p.learn 0 l.what=K at hL hU ⊢;simp only;split
  .exact⟨rs,hU,hL⟩
  .rename_i hc
   have hld:K.leads=true:=by cases hh:K.leads with|true=>rfl|false=>exact absurd (.inl hh) hc
   have hbal:l.bal=K.rnd.bal:=iQ.1 λe=>hc (.inr (.inl e));have hb0:K.rnd.bal≠Ca:=(jb hld).1;rw[hbal]at g1 g2
   have hn:=(hU.rd.bal.resolve_left hb0).2;rw[hn,jq]at g2
   have hr:=hU.rd.hear g1 g2;exact⟨rs,Pb (p:={ K with rnd:={ K.rnd.hear l.src l.votes with taught:=upN K.rnd.taught l.src l.what.length } }) (hU.keep rfl rfl rfl ⟨hr.bal,hr.next,hr.own,hr.heard,hr.prom,hr.acc⟩ rfl λx hx=>.inl hx) hL⟩
 .exact⟨rs,k.keep rfl rfl rfl k.rd rfl λx hx=>.inl hx,ha⟩
 .rename_i hk
  rcases k.tp.vote l.vote with⟨e,he⟩|⟨e,he,rs',hp,ht,hm,hpb,d,a,hq⟩
  .rw[if_pos e];exact⟨rs,k.refuse _ _,by rw[MK];exact ha⟩
  .rw[if_neg (λg=>g e)];have hz:=AG he;refine⟨rs',?_,?_⟩
   .refine k.wrote (q:=(p.vote l.vote).1) (r:=(p.vote l.vote).1.rnd) (.refl σ) hI rfl ht hp (λv hv=>((hm v).1 hv).elim (λe=>by rw[e];exact hl.k3 hk) (k.vok v)) ?_ ?_ ?_ ((hm _).2 (.inl rfl)) (by rw[hq];rfl)
    .rw[hq];exact k.rd
    .rw[hq];exact jm _
    .rw[ht.vo,hpb,hq];exact i6 k.bp (BJ hz.2.1.2.1.pr hz.1.1 hz.2.2)
   .show AgL σ (p.vote l.vote).1.agreed 0;rw[hq];exact ha
 .rename_i hk
  exact⟨rs,k.count ha (hl.k4 hk)⟩
 .rename_i hk
  split
  .exact⟨rs,k.wait trivial,ha⟩
  .rename_i hlt;exact⟨rs,k.keep rfl rfl rfl k.rd rfl λx hx=>.inl hx,Pc ha (hl.k5 hk) (by omega)⟩
 .have:=EI k l.what;simp only;split
  .exact⟨rs,this.1.wait trivial,by show AgL σ (p.enqueue l.what).agreed 0;rw[this.2];exact ha⟩
  .exact⟨rs,this.1,by rw[this.2];exact ha⟩
 .exact⟨rs,k,ha⟩
theorem UB(hI:GsI σ)(h:RdI σ i p.rnd)(hb:Ab p.rnd.bal)(he:p.rnd.enough=true)(hs:p.rnd.next<=s)(hc:p.nextC s=some c):D6 σ.H σ.P s p.rnd.bal.key c:=by
 have h5:5<2*Kl p.rnd.pro:=jb he;have hmem:∀ j,j<5->∀ v∈(p.rnd.heard j).vs,v.slot=(s:Int)->v∈Af (p.rnd.accs.map (·.vs)).flatten (s:Int):=λj hj v hv e=>by
  refine BL.2 ⟨lV.2 ⟨(p.rnd.heard j).vs,i9.2 ⟨p.rnd.heard j,?_,rfl⟩,hv⟩,e⟩;unfold Rnd.accs;rcases five hj with rfl|rfl|rfl|rfl|rfl<;>simp
 refine⟨p.rnd.pro,by omega,λq hq hQ=>(h.prom q hq hQ).1,?_⟩;unfold Nod.nextC at hc;split at hc
 .cases hc
 .rename_i hpe
  have hpe:=iQ.1 hpe;have hF:Fk (p.rnd.accs.map (·.vs)) (s:Int)=(Ji (p.rnd.accs.map (·.vs)) (s:Int)).isSome:=if_pos hpe;have hC:Gz (p.rnd.accs.map (·.vs)) (s:Int)=((Ji (p.rnd.accs.map (·.vs)) (s:Int)).map (·.w)).getD ⟨0,0,0,0,0⟩:=if_pos hpe;have hall:∀ l∈p.rnd.accs.map (·.vs),∀ v∈l,Ak v:=by
   unfold Cz at hpe;split at hpe
   .cases hpe
   .split at hpe
    .assumption
    .cases hpe
  have hpr:∀ v∈Af (p.rnd.accs.map (·.vs)).flatten (s:Int),Aw v.b:=λv hv=>by
   obtain⟨l,h1,h2⟩:=lV.1 (BL.1 hv).1;exact(hall l h1 v h2).2.1.pr
  rcases Qq _ hpr with⟨h0,hO⟩|⟨x,hO,hx,hmax⟩
  .left;intro q hq hQ b' c' ⟨v,g,k1,k2,k3⟩;refine Int.not_lt.1 λhlt=>?_;obtain⟨u,h1,h2,_⟩:=(h.prom q hq hQ).2 v g (by omega);have:=hmem q hq u h1 (h2.trans k1);rw[h0]at this;cases this
  .right;have hO:Ji (p.rnd.accs.map (·.vs)) (s:Int)=some x:=hO;rw[hO]at hF hC
   have hF:Fk (p.rnd.accs.map (·.vs)) (s:Int)=true:=hF;rw[if_pos hF]at hc
   have hcx:c=x.w:=(jp hc).symm.trans hC;obtain⟨hxm,hxs⟩:=BL.1 hx;obtain⟨j,hj,hxj⟩:∃ j,j<5/\x∈(p.rnd.heard j).vs:=by
    obtain⟨l,h1,h2⟩:=lV.1 hxm;obtain⟨a,h3,rfl⟩:=i9.1 h1;unfold Rnd.accs at h3;simp only[iF,H',or_false]at h3;rcases h3 with rfl|rfl|rfl|rfl|rfl
    .exact⟨0,by omega,h2⟩
    .exact⟨1,by omega,h2⟩
    .exact⟨2,by omega,h2⟩
    .exact⟨3,by omega,h2⟩
    .exact⟨4,by omega,h2⟩
   obtain⟨hh1,hh2,hh3⟩:=h.heard j hj x hxj;have hvk:=hI.hv j x hh1;have hnb:x.b≠p.rnd.bal:=λe=>by
    have h1:=hvk.2;rw[e]at h1
    have:=h.next _ _ h1;omega
   have hlt:x.b.key<p.rnd.bal.key:=by
    rcases Int.lt_or_eq_of_le hh2 with g|g
    .exact g
    .exact absurd (Hr hvk.1.2.1.pr hb.pr g) hnb
   have hpj:p.rnd.pro j=true:=by
    cases hh:p.rnd.pro j with
    | true=>rfl
    | false=>exact absurd (hh3 hh) hnb
   refine⟨x.b.key,hlt,⟨j,hj,hpj,x,hh1,hxs,rfl,hcx.symm⟩,λq hq hQ b' c' ⟨v,g,k1,k2,k3⟩ hlt'=>?_⟩;obtain⟨u,h1,h2,h3⟩:=(h.prom q hq hQ).2 v g (by omega);have:=hmax u (hmem q hq u h1 (h2.trans k1));omega
def Gs.prop(σ:Gs)(b:Bal)(s:Nat)(c:Cmd):Gs:=⟨σ.dr,λb' s' c'=>σ.W b' s' c'\/(b'=b/\s'=s/\c'=c)⟩
theorem GsI.prop(h:GsI σ){b:Bal}(hb:Ab b)(hS:D6 σ.H σ.P s b.key c)(ho:b.key<=σ.P b.n.toNat)(hn:∀ c',¬ σ.W b s c'):GsI (σ.prop b s c):=by
 refine⟨h.ok,h.pinv,?_,?_,?_,λn v g=>⟨(h.hv n v g).1,.inl (h.hv n v g).2⟩⟩
 .rintro b' s' c1 c2 (g|⟨rfl,rfl,rfl⟩) (k|⟨e1,e2,e3⟩)
  .exact h.w1 _ _ _ _ g k
  .subst e1 e2;exact absurd g (hn _)
  .exact absurd k (hn _)
  .exact e3.symm
 .rintro b' s' c' (g|⟨rfl,rfl,rfl⟩)
  .exact h.w2 _ _ _ g
  .exact⟨hb,hS⟩
 .rintro b' s' c' (g|⟨rfl,rfl,rfl⟩)
  .exact h.w3 _ _ _ g
  .exact ho
theorem NdI.propose(hI:GsI σ)(h:NdI σ i p)(hu:p.up=true):∃ τ ex,Gs.by_ i σ τ/\GsI τ/\NdI τ i p.propose/\(∀ b s c,τ.W b s c->σ.W b s c\/ex=some (b,s))/\∀ b s,ex=some (b,s)->s<40/\b=p.rnd.bal:=by
 obtain⟨rs,k⟩:=h.up hu;have hsame:∃ τ ex,Gs.by_ i σ τ/\GsI τ/\NdI τ i p/\(∀ b s c,τ.W b s c->σ.W b s c\/ex=some (b,s))/\∀ b s,ex=some (b,s)->s<40/\b=p.rnd.bal:=⟨σ,none,.refl i σ,hI,h,λ_ _ _ h=>.inl h,λ_ _ e=>by cases e⟩;have hup:=(KW p).trans hu
 revert hup
 unfold Nod.propose;split
 .exact λ_=>hsame
 .rename_i hc
  have hld:p.leads=true:=by cases hh:p.leads with|true=>rfl|false=>exact absurd (.inl hh) hc
  have hen:p.rnd.enough=true:=by cases hh:p.rnd.enough with|true=>rfl|false=>exact absurd (.inr (.inl hh)) hc
  have hnx:p.rnd.next<=p.agreed.length:=Nat.not_lt.1 λe=>hc (.inr (.inr e));cases hn:p.nextC p.agreed.length with
  | none=>exact λ_=>hsame
  | some c =>
   simp only;rcases k.tp.vote ⟨(p.agreed.length:Int),p.rnd.bal,c⟩with⟨e,he⟩|⟨e,he,rs',hp,ht,hm,hpb,d,a,hq⟩
   .rw[if_pos e];exact λ_=>hsame
   .rw[if_neg (λg=>g e)];intro hup;have hz:=AG he;have hb0:p.rnd.bal≠Ca:=(jb hld).1;obtain⟨hb,hbn⟩:=k.rd.bal.resolve_left hb0;have hS:=UB hI k.rd hb hen hnx hn;have hW:∀ c',¬ σ.W p.rnd.bal p.agreed.length c':=λc' g=>by have:=k.rd.next _ _ g;omega
    have ho:p.rnd.bal.key<=σ.P i:=by
     obtain⟨q,hq,hQ,_⟩:=KG p.rnd.pro p.rnd.pro (by have:5<2*Kl p.rnd.pro:=jb hen;omega) (by have:5<2*Kl p.rnd.pro:=jb hen;omega);exact k.rd.own q hq hQ
    have hτ:=hI.prop hb hS (by rw[hbn,jq];exact ho) hW;have hby:Gs.by_ i σ (σ.prop p.rnd.bal p.agreed.length c):=⟨⟨λ_=>jx _,λ_ _ _ g=>.inl g⟩,λb s c' g=>g.imp id λe=>by rw[e.1];exact hbn,λ_ _=>rfl⟩;have hvk:(σ.prop p.rnd.bal p.agreed.length c).vok ⟨(p.agreed.length:Int),p.rnd.bal,c⟩:=⟨hz.2.1,.inr ⟨rfl,jq _,rfl⟩⟩;have hr:=k.rd.mono (τ:=σ.prop p.rnd.bal p.agreed.length c) (r:=p.rnd) hby.le hτ;refine⟨_,some (p.rnd.bal,p.agreed.length),hby,hτ,NdI.mk' (rs:=rs') hup ?_ ?_,λb s c' g=>g.imp id λe=>by rw[e.1,e.2.1],λb s e=>?_⟩
    .refine k.wrote (q:=(p.vote ⟨(p.agreed.length:Int),p.rnd.bal,c⟩).1) (r:={ p.rnd with next:=p.agreed.length+1 }) hby.le hτ rfl ht hp (λv hv=>((hm v).1 hv).elim (λe=>by rw[e];exact hvk) λg=>hby.le.vok (k.vok v g)) ?_ (jm _) ?_ ((hm _).2 (.inl rfl)) (by rw[hq];rfl)
     .have g:=k.rd;refine RdI.mono (σ:=σ) hby.le hτ (r:={ p.rnd with next:=p.agreed.length+1 }) ⟨g.bal,λs c' hw=>iy (g.next s c' hw) (by show p.rnd.next<=p.agreed.length+1;omega),g.own,g.heard,g.prom,g.acc⟩ λs c' hw=>?_;rcases hw with hw|⟨_,rfl,_⟩
      .exact iy (g.next s c' hw) (by show p.rnd.next<=p.agreed.length+1;omega)
      .exact Nat.lt_succ_self _
     .rw[ht.vo,hpb];exact jm _
    .show AgL _ (p.vote ⟨(p.agreed.length:Int),p.rnd.bal,c⟩).1.agreed 0;rw[hq];exact h.ag.mono hby.le
    .cases e;have:=hz.2.1.1.2;exact⟨by simp only at this;omega,rfl⟩
theorem LtI.none(h:l.kind=6):LtI σ l:=⟨λe=>by omega,λe=>by omega,λe=>by omega,λe=>by omega,λe=>by omega,λe=>by omega⟩
theorem LtI.news(h:l.kind=5)(hw:AgL σ l.what l.slot):LtI σ l:=⟨λe=>by omega,λe=>by omega,λe=>by omega,λe=>by omega,λe=>by omega,λ_=>hw⟩
theorem NdI.run(hI:GsI σ)(hi:i<5)(h:NdI σ i p)(hu:p.up=true){q:Pend}{l:List Pend}(hp:p.pend=q::l)(hs:¬ p.sy<(p.d.length:Int)):NdI σ i { p.runP i q with pend:=l }/\∀ m∈p.sentP i q,LtI σ m:=by
 obtain⟨rs,k⟩:=h.up hu;have hdr:=k.tp.all hs;have hpq:=k.pe q (by rw[hp];exact U');have hsub:∀ x∈l,x∈p.pend:=λx hx=>by rw[hp];exact Q' _ hx
 have hk:∀ {p':Nod},UpI σ i p' rs->p'.pend=p.pend->UpI σ i { p' with pend:=l } rs:=λ{p'} g e=>g.keep rfl rfl rfl g.rd rfl λx hx=>.inl (by rw[e];exact hsub x hx);cases q with
 | began b vs =>
  unfold Nod.runP Nod.sentP;simp only;split
  .exact⟨NdI.mk' hu (hk k rfl) h.ag,λm hm=>by cases hm⟩
  .rename_i e
   have e:=iQ.1 e;obtain⟨g1,g2⟩:=hpq;have hacc:=k.tp.ok.acc;rw[<- k.tp.vo]at hacc
   have hbp:=k.bp;have hb:p.rnd.bal=b:=by
    rw[<- e];refine Hr ?_ hacc.1 (by rw[e]at hbp ⊢;omega);rcases k.rd.bal with g|g
    .rw[g];exact .inr ⟨rfl,rfl⟩
    .exact g.1.pr
   have hle:b.key<=σ.P i:=by have:=g1.le;rw[<- hdr]at this;exact this
   rw[<- hdr,<- hb]at g1
   rw[<- hb]at hle
   refine⟨NdI.mk' hu (hk (p':={ p with rnd:=p.rnd.hear i vs }) (k.keep rfl rfl rfl (k.rd.hear g1 hle) rfl λx hx=>.inl hx) rfl) h.ag,λm hm=>?_⟩;obtain⟨to,_,rfl⟩:=D4 hm;refine⟨λ_=>?_,λe=>(by cases e),λe=>(by cases e),λe=>(by cases e),λe=>(by cases e),λe=>(by cases e)⟩;show b.key<=σ.P b.n.toNat;rw[<- hb];rcases k.rd.bal with g|g
   .rw[g];have hz:=(hI.ok (Ca.n.toNat)).acc.1;have:0<=σ.P (Ca.n.toNat):=by
     unfold Aw Ab at hz;unfold Gs.P Bal.key;omega
    exact this
   .rw[g.2,jq];exact hle
 | prom to b vs =>
  refine⟨NdI.mk' hu (hk k rfl) h.ag,λm hm=>?_⟩;rw[N'.1 hm];refine⟨λe=>(by cases e),λ_=>⟨?_,hpq.2,h.ag⟩,λe=>(by cases e),λe=>(by cases e),λe=>(by cases e),λe=>(by cases e)⟩;show PrmOk (σ.dr i) b vs;rw[hdr];exact hpq.1
 | voted to v =>
  refine⟨NdI.mk' hu (hk k rfl) h.ag,λm hm=>?_⟩;rw[N'.1 hm];refine⟨λe=>(by cases e),λe=>(by cases e),λe=>(by cases e),λe=>(by cases e),λ_=>?_,λe=>(by cases e)⟩;show Rk.vt v∈σ.dr i;rw[hdr];exact hpq
 | refuse to b =>
  refine⟨NdI.mk' hu (hk k rfl) h.ag,λm hm=>?_⟩;rw[N'.1 hm];refine⟨λe=>(by cases e),λe=>(by cases e),λ_=>?_,λe=>(by cases e),λe=>(by cases e),λe=>(by cases e)⟩;show Aw b/\b.key<=(BD (σ.dr i)).p.key;rw[hdr];exact hpq
 | prop v =>
  have hh:σ.held i v:=by show Rk.vt v∈σ.dr i;rw[hdr];exact hpq
  have g:=k.count h.ag hh;refine⟨NdI.mk' ((congrArg Prod.fst (Kr p i v)).trans hu) (hk g.1 (MN p i (.prop v)).1) g.2,λm hm=>?_⟩;obtain⟨to,_,rfl⟩:=D4 hm;exact⟨λe=>(by cases e),λe=>(by cases e),λe=>(by cases e),λ_=>k.vok v hpq,λe=>(by cases e),λe=>(by cases e)⟩
 | askNews to=>exact⟨NdI.mk' hu (hk k rfl) h.ag,λm hm=>by rw[N'.1 hm];exact LtI.none rfl⟩
 | start=>exact⟨NdI.mk' hu (hk k rfl) h.ag,λm hm=>by obtain⟨to,_,rfl⟩:=D4 hm;exact LtI.none rfl⟩
 | tell to slot=>exact⟨NdI.mk' hu (hk k rfl) h.ag,λm hm=>by rw[N'.1 hm];exact LtI.news rfl (h.ag.drop slot)⟩
theorem NdI.lead(hI:GsI σ)(hi:i<5)(h:NdI σ i p)(hu:p.up=true):NdI σ i (p.lead i):=by
 obtain⟨rs,k⟩:=h.up hu;have hup:(p.lead i).up=true:=(congrArg Prod.fst (SI p i)).trans hu
 revert hup
 unfold Nod.lead;simp only;generalize hb:(⟨max p.rounds p.vo.p.r+1,(i:Int)⟩:Bal)=b;rcases k.tp.promise b with⟨e,he⟩|⟨e,he,hvs,rs',hp,ht,hm,hpb,hpv,d,a,hq⟩
 .rw[if_pos e];exact λ_=>h
 .rw[if_neg (λg=>g e)];intro hup;have hz:=Dc he;have hlt:p.vo.p.key<b.key:=by
   have:=hz.1.1;rw[<- hb];unfold Aw Ab at this;show 5*p.vo.p.r+p.vo.p.n<5*(max p.rounds p.vo.p.r+1)+(i:Int);omega
  refine NdI.mk' (rs:=rs') hup ?_ ?_
  .refine k.wrote (q:=(p.promise b).1) (r:=⟨b,λ_=>false,λ_=>Eg,λ_=>p.agreed.length,0,[]⟩) (.refl σ) hI rfl ht hp (λv hv=>k.vok v ((hm v).1 hv)) ?_ ?_ ?_ ⟨PrmOk.of ht.ok hpb (hpv.trans hvs.symm),jm _⟩ (by rw[hq];rfl)
   .refine⟨.inr ⟨hz.2.1,by rw[<- hb]⟩,λs c hW=>?_,λj _ e=>(by cases e),λj _ v hv=>(by cases hv),λj _ e=>(by cases e),λj _=>⟨JK,λe=>(by cases e)⟩⟩;have h1:=hI.w3 _ _ _ hW;rw[show b.n.toNat=i by rw[<- hb];exact jq i]at h1
    obtain⟨x,hx⟩:=k.tp.pre;have h2:=k.tp.ok;rw[<- hx]at h2
    have h3:=(E7 h2).1;rw[hx,<- k.tp.vo]at h3
    have h4:σ.P i<=p.vo.p.key:=h3;have h1:b.key<=σ.P i:=h1;omega
   .have:=k.bp;show _<=b.key;omega
   .rw[ht.vo,hpb];exact jm _
  .show AgL σ (p.promise b).1.agreed 0;rw[hq];exact h.ag
theorem Vf(k:Nat):∀ m∈DN p i k,m.kind=5/\m.what=p.agreed.drop m.slot:=by
 induction k with
 | zero=>intro m hm;cases hm
 | succ k ih =>
  intro m hm;rw[DN]at hm
  rcases V'.1 hm with hm|hm
  .exact ih m hm
  .split at hm
   .rw[N'.1 hm];exact⟨rfl,rfl⟩
   .cases hm
theorem AgI.step(h:AgI σ M)(s:Stp D n M N):∃ τ ex,σ.le τ/\AgI τ N/\(∀ b s c,τ.W b s c->σ.W b s c\/ex=some (b,s))/\∀ b s,ex=some (b,s)->n=1/\s<40/\∃ i,i<5/\b=(M.node i).rnd.bal:=by
 have hI:=h.gs;have done:∀ {i:Nat} {p:Nod} {ls:List Let} {ts:List Tol},NdI σ i p->(∀ l∈ls,l∈M.lets\/LtI σ l)->∃ τ ex,σ.le τ/\AgI τ (M.set i p ls ts)/\(∀ b s c,τ.W b s c->σ.W b s c\/ex=some (b,s))/\∀ b s,ex=some (b,s)->n=1/\s<40/\∃ i,i<5/\b=(M.node i).rnd.bal:=λ{i p ls ts} hp hl=>⟨σ,none,.refl σ,h.set (.refl _ σ) hI hp hl ts,λ_ _ _ h=>.inl h,λ_ _ e=>by cases e⟩;have same:∀ l∈M.lets,l∈M.lets\/LtI σ l:=λl hl=>.inl hl;have app:∀ {ms:List Let},(∀ m∈ms,LtI σ m)->∀ l∈M.lets++ms,l∈M.lets\/LtI σ l:=λg l hl=>(V'.1 hl).imp id (g l);cases s with
 | take _ l hl hd hu _=>exact done ((h.nd _ hd.2).take hI hu (h.lt l hl) hd.1) same
 | lets _ ls hl _=>exact⟨σ,none,.refl σ,⟨hI,h.nd,λl g=>h.lt l (hl l g)⟩,λ_ _ _ h=>.inl h,λ_ _ e=>by cases e⟩
 | one _ i c hi hu hc he =>
  refine done ?_ same;obtain⟨rs,k⟩:=(h.nd i hi).up hu;have hk:=Jt { M.node i with sto:=doS (M.node i).sto c,done:=(M.node i).done+1 } c;refine NdI.mk' (hk.1.trans hu) (rs:=rs) ?_ (by rw[hk.2.1];exact(h.nd i hi).ag);unfold Nod.unwant;split<;>exact k.keep rfl rfl rfl k.rd rfl λx hx=>.inl hx
 | ask _ i hi hu =>
  obtain⟨rs,k⟩:=(h.nd i hi).up hu;have ha:=(h.nd i hi).ag;have hup:=(Sr (M.node i) i).trans hu;generalize hp:M.node i=p at k ha hup ⊢;refine done (NdI.mk' (rs:=rs) hup ?_ ?_) (app ?_)
  .unfold Nod.askd;split
   .exact k.keep rfl rfl rfl k.rd rfl λx hx=>.inl hx
   .split
    .exact(EI (p:={ p with asked:=(CY p.vo.p p.asked (p.wants.take 40)).2 }) (k.keep rfl rfl rfl k.rd rfl λx hx=>.inl hx) _).1
    .exact k.keep rfl rfl rfl k.rd rfl λx hx=>.inl hx
  .unfold Nod.askd;split
   .exact ha
   .split
    .show AgL σ (Nod.enqueue _ _).agreed 0;rw[(EI (p:={ p with asked:=(CY p.vo.p p.asked (p.wants.take 40)).2 }) (k.keep rfl rfl rfl k.rd rfl λx hx=>.inl hx) _).2];exact ha
    .exact ha
  .intro m hm;unfold Nod.askd at hm;split at hm
   .cases hm
   .split at hm
    .cases hm
    .rw[N'.1 hm];exact LtI.none rfl
 | prop _ i hi hu =>
  obtain⟨τ,ex,h1,h2,h3,h4,h5⟩:=(h.nd i hi).propose hI hu;exact⟨τ,ex,h1.le,h.set h1 h2 h3 (λl hl=>.inl hl) _,h4,λb s e=>⟨rfl,(h5 b s e).1,i,hi,(h5 b s e).2⟩⟩
 | syn _ i hi hu hlt hT =>
  obtain⟨rs,k⟩:=(h.nd i hi).up hu;obtain⟨x,hx⟩:=k.tp.pre;have h2:=hI.ext (i:=i) x (by rw[hx];exact k.tp.ok) λv hv=>k.vok v (by rw[<- hx];exact jf _ hv);have h1:=Ns σ i x;refine⟨σ.ext i x,none,h1.le,h.set h1 h2 (NdI.mk' (p:={ M.node i with sy:=((M.node i).d.length:Int) }) (rs:=rs) hu ⟨?_,λv hv=>h1.le.vok (k.vok v hv),k.rd.mono h1.le h2 λs c hW=>k.rd.next s c hW,k.bp,λq hq=>(k.pe q hq).mono h1.le h2 (jx _) k.tp.ok (jm _)⟩ ((h.nd i hi).ag.mono h1.le)) (λl hl=>.inl hl) _,λ_ _ _ h=>.inl h,λ_ _ e=>by cases e⟩;rw[GC,hx];exact k.tp.syn
 | run _ i hi hu q l hp hs =>
  have g:=(h.nd i hi).run hI hi hu hp hs;exact done g.1 (app g.2)
 | teach _ i hi hu hL =>
  obtain⟨rs,k⟩:=(h.nd i hi).up hu;refine done (NdI.mk' (rs:=rs) hu (k.keep rfl rfl rfl ⟨k.rd.bal,k.rd.next,k.rd.own,k.rd.heard,k.rd.prom,k.rd.acc⟩ rfl λx hx=>.inl hx) (h.nd i hi).ag) (app λm hm=>?_);obtain⟨g1,g2⟩:=Vf 5 m hm;exact LtI.news g1 (by rw[g2];exact(h.nd i hi).ag.drop _)
 | lead _ i hi hu _=>exact done ((h.nd i hi).lead hI hi hu) same
 | sub _ i d hi hu hD =>
  obtain⟨rs,k⟩:=(h.nd i hi).up hu;have ha:=(h.nd i hi).ag;refine done ?_ same;unfold Nod.subm Nod.sub0;split
  .exact h.nd i hi
  .split
   .exact NdI.mk' (rs:=rs) hu (k.keep rfl rfl rfl k.rd rfl λx hx=>.inl hx) ha
   .split
    .exact h.nd i hi
    .show NdI σ i (Nod.want _ _);unfold Nod.want;split
     .exact h.nd i hi
     .exact NdI.mk' (rs:=rs) hu (k.keep rfl rfl rfl k.rd rfl λx hx=>.inl hx) ha
 | crash _ i c hi hu hc _ =>
  obtain⟨rs,k⟩:=(h.nd i hi).up hu;obtain⟨dr',⟨x,hx⟩,⟨y,hy⟩,hD⟩:=k.tp.crash hc;have h2:=hI.ext (i:=i) x (k.tp.ok.pre ⟨y,by rw[hx];exact hy⟩) λv hv=>k.vok v (by rw[<- hy,<- hx];exact iU _ (jf _ hv));have h1:=Ns σ i x;have hct:=VO (p:=M.node i) k.tp.tap hc;exact⟨σ.ext i x,none,h1.le,h.set h1 h2 ⟨λe=>(by rw[hct.2.1]at e;cases e),λ_=>(by rw[GC,hx];exact hD),by rw[hct.2.2.2];exact AgL.nil _ _⟩ (λl hl=>.inl hl) _,λ_ _ _ h=>.inl h,λ_ _ e=>by cases e⟩
 | start _ i hi hu _ =>
  have k:=(h.nd i hi).dn hu;have hT:B2 (M.node i).d (M.node i).sy:=⟨k.len,by rw[k.sy];omega,by rw[k.sy];omega⟩;have hst:=XY (p:=M.node i) hT;have ht:=k.start;have hr:(M.node i).start.rnd=eg/\(M.node i).start.pend=[.start]:=by
   unfold Nod.start;rw[if_neg (λe=>e (if_pos hT))];split<;>exact⟨rfl,rfl⟩
  refine done (NdI.mk' (rs:=σ.dr i) hst.2.1 ⟨ht,λv hv=>hI.hv i v hv,?_,?_,λq hq=>?_⟩ (by rw[hst.2.2.2];exact AgL.nil _ _)) same
  .rw[hr.1];exact⟨.inl rfl,λs c hW=>absurd (hI.w2 _ _ _ hW).1 (by decide),λj _ e=>(by cases e),λj _ v hv=>(by cases hv),λj _ e=>(by cases e),λj _=>⟨JK,λe=>(by cases e)⟩⟩
  .rw[hr.1,ht.vo];have hz:=ht.ok.acc.1;show(0:Int)<=_;unfold Aw Ab at hz;unfold Bal.key;omega
  .rw[hr.2]at hq
   rw[N'.1 hq];trivial
theorem AgI.steps(s:Sts D n M N)(h:AgI σ M):∃ (τ:Gs) (ex:List (Bal × Nat)),σ.le τ/\AgI τ N/\ex.length<=n/\∀ b s c,τ.W b s c->σ.W b s c\/(b,s)∈ex:=by
 induction s with
 | nil=>exact⟨σ,[],.refl σ,h,iP _,λ_ _ _ h=>.inl h⟩
 | snoc _ s hm ih =>
  obtain⟨τ,ex,h1,h2,h5,h6⟩:=ih h;obtain⟨υ,eo,h3,h4,h7,h8⟩:=h2.step s;cases eo with
  | none=>exact⟨υ,ex,h1.trans h3,h4,by omega,λb s c g=>(h7 b s c g).elim (h6 b s c) λe=>by cases e⟩
  | some x=>exact⟨υ,x::ex,h1.trans h3,h4,by have:=(h8 x.1 x.2 rfl).1;rw[iW];omega,λb s c g=>(h7 b s c g).elim (λg=>(h6 b s c g).imp id (Q' _)) λe=>.inr (by cases e;exact U')⟩
theorem AgI.zero:AgI ⟨λ_=>[],λ_ _ _=>False⟩ Bl :=
 ⟨⟨λ_=>AW.nil,⟨λn s b c ⟨v,g,_⟩=>(by cases g),λn n' s b c c' ⟨v,g,_⟩=>(by cases g),λn s b c ⟨v,g,_⟩=>(by cases g)⟩,λ_ _ _ _ g=>g.elim,λ_ _ _ g=>g.elim,λ_ _ _ g=>g.elim,λn v g=>(by cases g)⟩,
  λi _=>NdI.mk' (rs:=[]) rfl ⟨TpU.zero,λv g=>(by cases g),⟨.inl rfl,λ_ _ g=>g.elim,λj _ e=>(by cases e),λj _ v hv=>(by cases hv),λj _ e=>(by cases e),λj _=>⟨JK,λe=>(by cases e)⟩⟩,jm _,λq hq=>(by cases hq)⟩ (AgL.nil _ _),λl hl=>by cases hl⟩
theorem agree{K:List Lac}(hL:∀ x∈L++K,LacOk x)(hl:(L++K).length<=100000)(hi:i<5)(hj:j<5){d:Cmd}(hc:((Bl.acts L).node i).agreed[s]?=some c)(hd:((Bl.acts (L++K)).node j).agreed[s]?=some d):c=d:=by
 rw[M']at hl
 have hLL:∀ x∈L,LacOk x:=λx hx=>hL x (iU _ hx);have s1:Sts whT L.length Bl (Bl.acts L):=Ou L MOk.zero (by omega) λx hx=>⟨hLL x hx,Ts x⟩;have s2:Sts whT K.length (Bl.acts L) (Bl.acts (L++K)):=by
  rw[Vw];exact Ou K (Ot L hLL (by omega)) (by omega) λx hx=>⟨hL x (jf _ hx),Ts x⟩
 obtain⟨σ,_,_,h1,_⟩:=AgI.zero.steps s1;obtain⟨τ,_,h2,h3,_⟩:=h1.steps s2;have g1:=h2.chs ((h1.nd i hi).ag s c hc);have g2:=(h3.nd j hj).ag s d hd;obtain⟨b1,g1⟩:=g1;obtain⟨b2,g2⟩:=g2;exact h3.gs.pinv.agree g1 g2
theorem cK{l m:List Cmd}(h:∀ (s:Nat) (c d:Cmd),l[s]?=some c->m[s]?=some d->c=d):alk l m=true:=by
 induction l generalizing m with
 | nil=>cases m<;>rfl
 | cons c l ih =>
  cases m with
  | nil=>rfl
  | cons d m =>
   rw[alk,h 0 c d rfl rfl,ih λs c d h1 h2=>h (s+1) c d h1 h2];simp
theorem WY(h:(M.log i)[s]?=some c):(M.node i).agreed[s]?=some c:=by
 unfold Meet.log at h;rw[jr]at h
 split at h
 .exact h
 .cases h
theorem WZ(hL:∀ x∈L,LacOk x)(hl:L.length<=100000){k m:Nat}(hi:i<5)(hj:j<5):alk ((Bl.acts (L.take k)).log i) ((Bl.acts (L.take m)).log j)=true:=by
 have key:∀ {k m i j:Nat},k<=m->i<5->j<5->∀ (s:Nat) (c d:Cmd),((Bl.acts (L.take k)).log i)[s]?=some c->((Bl.acts (L.take m)).log j)[s]?=some d->c=d:=λ{k m i j} hkm hi hj s c d h1 h2=>by
  have e:L.take m=L.take k++(L.take m).drop k:=by
   have:=jg k (L.take m);rw[jU,jw hkm]at this
   exact this.symm
  rw[e]at h2
  refine agree (L:=L.take k) (K:=(L.take m).drop k) (λx hx=>?_) ?_ hi hj (WY h1) (WY h2)
  .rw[<- e]at hx;exact hL x (iM hx)
  .rw[<- e,X'];omega
 refine cK λs c d h1 h2=>?_;rcases Nat.le_total k m with g|g
 .exact key g hi hj s c d h1 h2
 .exact(key g hj hi s d c h2 h1).symm
theorem ZE(hL:∀ x∈L,LacOk x)(hl:L.length<=100000)(k:Nat)(hj:j<5):((Bl.acts (L.take k)).log j).length<=40:=by
 have h1:=((Ot (L.take k) (λx hx=>hL x (iM hx)) (by rw[X'];omega)).node j hj).ag;unfold Meet.log;rw[X'];omega
end
end
section
open Go.RowKit
theorem Oq{n many c:Int}{w:World}(h:I64 n)(hc:pick n many=c)(hm:0<many:=by decide)(hm2:many<=9223372036854775807:=by decide) :
  Calls prog 4 #[iv n,iv many] w λe w'=>e=.returned (iv c)/\Bw w w':=by subst hc;exact BP h many hm hm2
theorem gR{g:Gh}{w:World}{a b:Lac}(ha:a.d=[]:=by rfl)(hb:b.d=[]:=by rfl):Dat g w [(a,s30),(b,s30)]:=by
 intro p hp;simp only[iF,H',or_false]at hp;rcases hp with rfl|rfl
 .show FSl g w s30 a.d;rw[ha];exact QP g w
 .show FSl g w s30 b.d;rw[hb];exact QP g w
theorem Qd{l:S3}{G:List Gr}{wa wb:Int}{w:World}(h:RdV w l 5 (grL G))(hG:∀ g∈G,GrOk g)(hwa:I64 wa)(hwb:I64 wb)(hT:Tw w) :
  Calls prog 3 #[l.v,iv wa,iv wb] w λe w'=>e=.returned (.bool true)/\Bw w w':=by
 obtain⟨L,hL⟩:∃ L,scr G 80 false=L:=⟨_,rfl⟩;have hok:=ep G 80 false;have hln:=aK G 80 false;have hkn:=λx hx=>(XN G 80 x hx).1;rw[hL]at hok hln hkn
 have hr:=AT wa 5 (by omega);have hr2:=AT wb 5 (by omega);obtain⟨x,hx,hx5⟩:∃ n:Nat,pick wa 5=(n:Int)/\n<5:=⟨(pick wa 5).toNat,by omega,by omega⟩;obtain⟨y,hy,hy5⟩:∃ n:Nat,pick wb 5=(n:Int)/\n<5:=⟨(pick wb 5).toNat,by omega,by omega⟩;have hok1:∀ a∈[acN 2 (x:Int),acN 2 (y:Int)]++L,LacOk a:=λa ha=>(V'.1 ha).elim (λe=>by
  simp only[iF,H',or_false]at e;rcases e with rfl|rfl
  .exact Nh ⟨.inl rfl,by omega,by omega⟩
  .exact Nh ⟨.inl rfl,by omega,by omega⟩) (hok a)
 obtain⟨K,hK⟩:∃ K,[acN 2 (x:Int),acN 2 (y:Int)]++L=K:=⟨_,rfl⟩;have hKl:K.length=2+L.length:=by rw[<- hK,M'];rfl
 rw[hK]at hok1
 have hrl:(EZ 80).length=485:=XE 80;have hokr:∀ x∈K++EZ 80,LacOk x:=λx hx=>(V'.1 hx).elim (hok1 x) (aD 80 x);have hlr:(K++EZ 80).length<=600:=by rw[M'];omega
 have hup:((Bl.acts (K++EZ 80)).node 0).up=true:=YD _ (λz hz=>(V'.1 hz).elim (λe=>by
  rw[<- hK]at e
  rcases V'.1 e with e|e
  .simp only[iF,H',or_false]at e;rcases e with rfl|rfl<;>(show(2:Int)≠8;decide)
  .exact hkn z e) λe=>PE (P:=λx=>x.k≠8) (λ_ _=>by show(9:Int)≠8;decide) (λ_ _=>by show(3:Int)≠8;decide) (by decide) 80 z e) Bl rfl
 have hal:=λ{i j:Nat} (hi:i<5) (hj:j<5)=>WZ (L:=K++EZ 80) hokr (by omega) (k:=(K++EZ 80).length) (m:=(K++EZ 80).length) hi hj;have hle:=λ{j:Nat} (hj:j<5)=>ZE (L:=K++EZ 80) hokr (by omega) (K++EZ 80).length hj;rw[jO]at hal hle
 obtain⟨M,hM⟩:∃ M,Bl.acts (K++EZ 80)=M:=⟨_,rfl⟩;rw[hM]at hup hal hle
 refine tIn [] func3 trivial ?_;refine tR 7 [] λσ1 _ _=>?_;refine tC 1 (λF C=>Oq hwa hx) λNz=>?_;rintro _ _ ⟨rfl,b2⟩;refine⟨_,_,rfl,b2,id,?_⟩;refine tR 2 [] λσ3 _ _=>?_;refine tC 4 (λF C=>Oq hwb hy) λNz=>?_;rintro _ _ ⟨rfl,b4⟩;refine⟨_,_,rfl,b4,id,?_⟩;refine tR 8 [62,0] λσ5 _ _=>?_;refine io 0 0 (σ5 0) 2 [false] [iv 2,iv (x:Int),iv 0,iv 0,sn,iv 2,iv (y:Int),iv 0,iv 0,sn] 26 5 rfl λ_=>?_;refine tCv [Fa.oa 0 (⟨some ⟨(σ5 0),0,none⟩,2,2⟩:S3) [(acN 2 (x:Int),s30),(acN 2 (y:Int),s30)]] (λF=>⟨⟨F.1,gR⟩,trivial⟩) ?_;refine tC 2 (λF C=>UO (most:=80) (cr:=false) (h.below (CgQ.below C)) hG (by decide) (tbA hT.1 C)) λNz=>?_;rintro _ _ ⟨s,P,rfl,hP,hN,b6⟩;refine⟨_,Fa.ac s P::_,rfl,b6,λF=>⟨hN.ac Nz,F⟩,?_⟩;rw[hL]at hP
 have hPl:P.length=L.length:=by rw[<- hP,iO]
 refine tF λF _=>?_;have hsn:=(AcR.of F.1 hP).n;refine gu 3 0 (x:=(⟨some ⟨(σ5 0),0,none⟩,2,2⟩:S3)) s (acV P) 27 27 26 5 56 zLa (λF=>F.2.1.1) (λF=>F.1.1.rd) [Fa.dt ([(acN 2 (x:Int),s30),(acN 2 (y:Int),s30)]++P)] (λF=>⟨Dat.app F.2.1.2 F.1.2,trivial⟩) rfl (by simp[TQ]) (Sp P) (by show 2+s.n<=_;unfold maxLen;omega) (by show(2+s.n)*56<=_;omega) λz _ _ hzn=>?_;obtain⟨Q,hQ⟩:∃ Q,[(acN 2 (x:Int),s30),(acN 2 (y:Int),s30)]++P=Q:=⟨_,rfl⟩;have hQm:Q.map (·.1)=K:=by rw[<- hQ,<- hK,iK,hP];rfl
 have hQl:Q.length=K.length:=by rw[<- hQm,iO]
 refine tCv [Fa.oa 0 z Q] (λF=>by rw[<- hQ];exact⟨⟨(by rw[Y9];exact F.1),F.2.1⟩,trivial⟩) ?_;refine tR 5 [] λσ9 _ _=>?_;refine tC 1 (λF C=>UJ (many:=80) (AcR.oo F.1 rfl).r (AcR.oo F.1 rfl).d (by omega)) λNz=>?_;rintro _ _ ⟨v,rfl,hz,b10⟩;refine⟨_,Fa.ac v (Q++rnP (EZ 80))::_,rfl,b10,λF=>⟨⟨hz.fz Nz,Dat.app F.1.2 (aB _ _ (eh _))⟩,F⟩,?_⟩;have hPr:(Q++rnP (EZ 80)).map (·.1)=K++EZ 80:=by rw[iK,hQm,aC]
 refine tC 2 (λF C=>ec (AcR.of F.1 hPr) hokr (by omega) (tb5 hT C) hM hup) λNz=>?_;rintro _ _ ⟨ly,tv,ys,rfl,hW,hO,b12⟩;refine⟨_,[Fa.ot ly tv ys M],rfl,b12,λF=>⟨ST hW hO Nz,trivial⟩,?_⟩;refine tF λF _=>?_;have hl5:=(SV F.1).n5;obtain⟨bl,fl,al,_⟩:=F.1.logs.rd.spot (i:=0) (by omega);refine tR 13 [1,0,0,0] λσ13 _ _=>?_;refine G7 59 [(8,pt (σ13 0) 0),(9,.bool true),(10,iv 0)] [true] [⟨(σ13 0),.cells #[iv (M.lets.length:Int),.bool true,.bool (M.node 1).up,.bool (M.node 2).up,.bool (M.node 3).up,.bool (M.node 4).up,S3.v ly,iv ((M.node 0).bad:Int),iv ((M.node 1).bad:Int),iv ((M.node 2).bad:Int),iv ((M.node 3).bad:Int),iv ((M.node 4).bad:Int),S3.v tv] 34,.l,false⟩] [Fa.ot ly tv ys M] (λkk ee LL ΦΦ=>∃ (n:Nat),kk=5-n/\ee=[(8,pt (σ13 0) 0),(9,.bool true),(10,iv (n:Int))]/\LL=[⟨(σ13 0),.cells (R4 M ly tv) 34,.l,false⟩]/\ΦΦ=[Fa.ot ly tv ys M]/\n<=5) (5) ⟨0,rfl,rfl,rfl,rfl,by omega⟩ (λF=>⟨F.1,trivial⟩) ?_;rintro k _ _ _ ⟨n,rfl,rfl,rfl,rfl,hn⟩ _ _ _ J hJ;refine tR 4 [] λσ14 _ _=>?_;by_cases h1:n<5
 .refine tV 1 (.bool true) (λF C=>(rLt (t:=3) (m:=(n:Int)) (n:=5) (x:=(.tmp 29)) (y:=(.const (iv 5))) (I' (by omega)))) ?_;refine tR 13 [] λσ15 _ _=>?_;refine G7 59 [(8,pt (σ13 0) 0),(9,.bool true),(10,iv (n:Int)),(11,iv 0)] [true] [⟨(σ13 0),.cells (R4 M ly tv) 34,.l,false⟩] [Fa.ot ly tv ys M] (λkk ee LL ΦΦ=>∃ (j:Nat),kk=n-j/\ee=[(8,pt (σ13 0) 0),(9,.bool true),(10,iv (n:Int)),(11,iv (j:Int))]/\LL=[⟨(σ13 0),.cells (R4 M ly tv) 34,.l,false⟩]/\ΦΦ=[Fa.ot ly tv ys M]/\j<=n) (n) ⟨0,rfl,rfl,rfl,rfl,by omega⟩ (λF=>⟨F.1,trivial⟩) ?_;rintro k _ _ _ ⟨j,rfl,rfl,rfl,rfl,hj⟩ _ _ _ JN hJN;refine tR 7 [] λσ16 _ _=>?_;by_cases h2:j<n
  .refine tI ((decide ((j:Int)<(n:Int)))) true (I' (by omega)) ?_;refine tR 8 [10,0,2,0,4] λσ17 _ _=>?_;refine tT 3 (pt bl (fl+n)) (λ_=>(ce al n (by omega))) ?_;refine tR 3 [10,12,0,14] λσ18 _ _=>?_;refine tT 8 (pt bl (fl+j)) (λ_=>(ce al j (by omega))) ?_;refine PS 59 (λee LL ΦΦ=>∃ (_:Unit),ee=[(8,pt (σ13 0) 0),(9,.bool true),(10,iv (n:Int)),(11,iv (j:Int)),(52,.bool false)]/\LL=[⟨(σ13 0),.cells (R4 M ly tv) 34,.l,false⟩]/\ΦΦ=[Fa.ot ly tv ys M]) (λJ hJ=>?_) ?_
   .refine PU 4 9 ?_ ?_
    .refine tV 4 (S3.v (ys n)) (λF C=>(Dd underlying39 rfl (JR F.1.logs.rd al (by omega)))) ?_;refine tV 9 (S3.v (ys j)) (λF C=>(Dd underlying39 rfl (JR F.1.logs.rd al (by omega)))) ?_;refine tC 10 (λF C=>Ov (F.1.log n (by omega)).rd (F.1.log j (by omega)).rd (by have:=hle (j:=n) (by omega);omega) (r:=true) (hal (by omega) (by omega))) λNz=>?_;rintro _ _ ⟨rfl,b23⟩;refine⟨_,_,rfl,b23,id,?_⟩;refine tR 2 [22] λσ24 _ _=>?_;exact tD hJ [true] ⟨(),rfl,rfl,rfl⟩ (λF=>⟨F.1,trivial⟩)
    .refine tV 9 (S3.v (ys j)) (λF C=>(Dd underlying39 rfl (JR F.1.logs.rd al (by omega)))) ?_;refine tV 4 (S3.v (ys n)) (λF C=>(Dd underlying39 rfl (JR F.1.logs.rd al (by omega)))) ?_;refine tC 10 (λF C=>Ov (F.1.log n (by omega)).rd (F.1.log j (by omega)).rd (by have:=hle (j:=n) (by omega);omega) (r:=true) (hal (by omega) (by omega))) λNz=>?_;rintro _ _ ⟨rfl,b28⟩;refine⟨_,_,rfl,b28,id,?_⟩;refine tR 2 [22] λσ29 _ _=>?_;exact tD hJ [true] ⟨(),rfl,rfl,rfl⟩ (λF=>⟨F.1,trivial⟩)
   rintro _ _ _ ⟨_,rfl,rfl,rfl⟩ _ _ _;refine tR 5 [] λσ30 _ _=>?_;refine tV 1 (iv ((j:Int)+1)) (λF C=>(AV (x:=(.tmp 39)) (y:=(.const (iv 1))) (j:Int) 1 underlying3 (by omega))) ?_;refine tR 2 [] λσ31 _ _=>?_;exact tB hJN (n-(j+1)) (by omega) [true] ⟨j+1,rfl,rfl,rfl,rfl,by omega⟩ (λF=>⟨F.1,trivial⟩)
  .refine tI ((decide ((j:Int)<(n:Int)))) false (D' (by omega)) ?_;refine tR 4 [] λσ32 _ _=>?_;refine tV 1 (iv ((n:Int)+1)) (λF C=>(AV (x:=(.tmp 34)) (y:=(.const (iv 1))) (n:Int) 1 underlying3 (by omega))) ?_;refine tR 2 [] λσ33 _ _=>?_;exact tB hJ (5-(n+1)) (by omega) [true] ⟨n+1,rfl,rfl,rfl,rfl,by omega⟩ (λF=>⟨F.1,trivial⟩)
 .refine tV 1 (.bool false) (λF C=>(rLt (t:=3) (m:=(n:Int)) (n:=5) (x:=(.tmp 29)) (y:=(.const (iv 5))) (D' (by omega)))) ?_;refine tR 16 [0] λσ34 _ _=>?_;exact tE (.bool true) λ_ B=>⟨rfl,B⟩
end
end Go.Proofs.YtalbmmghmoggcacGreatDoor
