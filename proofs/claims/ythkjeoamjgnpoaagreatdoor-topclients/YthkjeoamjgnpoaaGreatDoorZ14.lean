/- Part 14 of the walk. -/
import Derived.Test.YthkjeoamjgnpoaaGreatDoorZ13
set_option maxRecDepth 100000
set_option maxHeartbeats 4000000
set_option linter.unusedVariables false
namespace Go.Proofs.YthkjeoamjgnpoaaGreatDoor
section
end
section
open Go.RowKit
section
variable{P:Program}{fn:Func}{R:Ending->World->Prop}{w0:World}{Φ:List Fa}{g:Gh}{w:World}
def ku(g:Gh)(r b k:Nat):Gh:=⟨λc=>if c=b then .n 60 r else g.t c,λc=>if c=b then k else g.k c⟩
theorem mK{s:Xs}(i r b I n:Nat)(o:List Value)(e:TypeId){v:Bool}(Ψ:List Fa)(E:∀ g',(∀ c,g.t c=.z->g'.t c=.z)->AllF g w Φ->AllF g' w Ψ)
  (M:∀ g',GT P fn R w0 (Fa.ow r e I ⟨some ⟨b,0,none⟩,n,n⟩ o::Ψ) ⟨s.K,s.f,s.L.eraseIdx i⟩ g' w)
  (D:o.length=n*I)(N:n<=maxLen)(H:s.L[i]?=some ⟨b,.cells o.toArray e,.l,v⟩:=by kernel_rfl):GT P fn R w0 Φ s g w:=by
 refine⟨λF C=>⟨λm=>?_⟩⟩;obtain⟨G,J,B,S⟩:=m.row _ (np H);have B:w0.heap.size<=b:=B rfl;have T:b<w.heap.size:=rl G;have Q:∀ c,g.t c=.z->(ku g r b o.length).t c=.z:=λc h=>by
  show(if c=b then _ else _)=_;rw[if_neg (λe=>by rw[e,J]at h;cases h)];exact h
 have ne:∀ c,c<w0.heap.size->c≠b:=λc h e=>by subst e;exact absurd B (by omega)
 refine((M (ku g r b o.length)).ex ⟨⟨D,.inr ⟨b,o.toArray,rfl,G,A' _,N,by simpa using D,by simp[<- D],if_pos rfl,if_pos rfl⟩⟩,E _ Q F⟩ ⟨C.os,C.tape,C.output,C.size,λc h=>?_,λc h=>?_,λc h a d=>?_,C.same,λc h=>C.sK c h⟩).ex ⟨λx O=>?_,?_,λc h=>?_,m.base⟩
 .show(if c=b then _ else _)=_\/_/\_/\(if c=b then _ else _)=_;rw[if_neg (ne c h)];exact C.sR c h
 .show _<=(if c=b then _ else _);rw[if_neg (ne c h)];exact C.sL c h
 .show(if c=b then _ else _)=_;rw[if_neg (ne c h)];exact C.tm c h a d
 .obtain⟨j,hj,hx2⟩:=List.mem_eraseIdx_iff_getElem?.1 O;have A:x.g≠b:=λe=>by
   obtain⟨u,y⟩:=V'.1 hx2;obtain⟨p,k⟩:=V'.1 H;rcases Nat.lt_or_gt_of_ne hj with q|q
   .have:=(nZ.1 m.sU j i u p q (by rw[y,k];exact e)).2.1;rw[k]at this;cases this
   .have:=(nZ.1 m.sU i j p u q (by rw[y,k];exact e.symm)).1.1;rw[k]at this;cases this
  have:=m.row x (np hx2);show _/\(if _ then _ else _)=_/\_/\(_->(if _ then _ else _)=_);rw[if_neg A,if_neg A];exact this
 .exact m.sU.sublist (List.eraseIdx_sublist _ _)
 .show(if _ then _ else _)=_/\(if _ then _ else _)=_;have e:c≠b:=by omega
  rw[if_neg e,if_neg e];exact m.new c h
end
theorem FSl.og{g b:Gh}{w:World}{x:S3}{l:List Int}(h:FSl g w x l)(f:∀ c,g.t c=.z->b.t c=.z):FSl b w x l:=⟨h.s,λe a d=>f _ (h.z e a d)⟩
end
section
section
theorem La{α:Type}[DecidableEq α]{l m:List α}(f:l.Nodup)(h:∀ x∈l,x∈m):l.length<=m.length:=by
 induction l generalizing m with
 | nil=>exact nH _
 | cons x l ih =>
  obtain⟨c,d⟩:=pB.1 f;have a:=h x M';have:=ih d (m:=m.erase x) λy b=>(qZ (λe=>c (by rw[<- e];exact b))).2 (h y (I' _ b));rw[p9 a]at this
  have:=qo a;rw[nK];omega
def prc:List Rk->Nat
 | []=>0
 | .pr _::l=>prc l+1
 | .vt _::l=>prc l
def vts:List Rk->List Vt
 | []=>[]
 | .pr _::l=>vts l
 | .vt v::l=>v::vts l
theorem eC(l m:List Rk):prc (l++m)=prc l+prc m:=by
 induction l with
 | nil=>simp[prc]
 | cons r l ih=>cases r<;>simp[prc,ih];omega
theorem fS(l m:List Rk):vts (l++m)=vts l++vts m:=by
 induction l with
 | nil=>rfl
 | cons r l ih=>cases r<;>simp[vts,ih]
theorem Vz{l:List Rk}{v:Vt}:v∈vts l↔Rk.vt v∈l:=by
 induction l with
 | nil=>simp[vts]
 | cons r l ih=>cases r<;>simp[vts,ih]
theorem dm(a:List Rk):(fl a).length=14*prc a+38*(vts a).length:=by
 induction a with
 | nil=>rfl
 | cons r l ih =>
  have e:fl (r::l)=AP r.body++fl l:=rfl;rw[e,G',Bh,ih];cases r with
  | pr b=>show(Bu b).length+5+_=14*(prc l+1)+38*(vts l).length;rw[Kr];omega
  | vt v=>show(Bj v).length+5+_=14*prc l+38*((vts l).length+1);rw[GR];omega
variable{K R:Int}{M N:Meet}{b:Bal}{c i j:Nat}{p:Nod}{q:Pend}{rs:List Rk}{σ:Gs}
theorem iY(h:AU rs):(prc rs:Int)<=(By rs).p.key:=h.ind (P:=λrs=>(prc rs:Int)<=(By rs).p.key) (by decide) λrs r f a g=>by
 have c:=Rk.tf f.acc a.err;rw[eC,BT];cases r with
 | pr b =>
  have d:=Co a.1;have:(By rs).p.key≠b.key:=λe=>a.2 (DL d.1.1 d.2.1.pr e);have c:(By rs).p.key<=b.key:=c;show((prc rs+1:Nat):Int)<=b.key;omega
 | vt v=>show((prc rs+0:Nat):Int)<=_;exact ny (by omega) c
theorem Xx(s:GsI σ){a:List Rk}(h:AU a)(c:∀ v,Rk.vt v∈a->σ.sG v):(vts a).Nodup:=by
 revert c
 refine h.ind (P:=λa=>(∀ v,Rk.vt v∈a->σ.sG v)->(vts a).Nodup) (λ_=>oV) λa r i m j c=>?_;have j:=j λv g=>c v (mV _ g);rw[fS];cases r with
 | pr b=>show(vts a++[]).Nodup;rw[nB];exact j
 | vt v =>
  show(vts a++[v]).Nodup;refine pA.2 ⟨j,pB.2 ⟨Q',oV⟩,λx z y A e=>?_⟩;rw[D'.1 A]at e
  subst e;obtain⟨B,u,f,l,C⟩:=Rr i x (Vz.1 z);have p:=Aq m.1;have w:=i.acc.le f;have t:=Bo p.2.1.2.1.pr i.acc.1 p.2.2;have n:=c u (mV _ (IX i u f));have d:=c x (mU _ M');have k:u.b=x.b:=DL n.1.2.1.pr d.1.2.1.pr (by omega);have o:=n.2;rw[k,l]at o
  have q:=s.w1 _ _ _ _ o d.2;have:u=x:=(Vt.eq_iff u x).1 ⟨l,k,q⟩;rw[this]at f
  exact m.2 f
theorem fT(r:GsI σ){d:List Rk}(h:AU d)(i:∀ v,Rk.vt v∈d->σ.sG v){a:List (Bal × Nat)}(B:∀ b s c,σ.W b s c->(b,s)∈a):(vts d).length<=a.length:=by
 have t:=Xx r h i;have j:∀ v∈vts d,σ.sG v:=λv g=>i v (Vz.1 g);have:((vts d).map λv=>(v.b,v.bt.toNat)).Nodup:=by
  clear h i;generalize vts d=q at t j ⊢;induction q with
  | nil=>exact oV
  | cons v l ih =>
   obtain⟨z,A⟩:=pB.1 t;refine pB.2 ⟨λg=>?_,ih A λu f=>j u (I' _ f)⟩;obtain⟨u,f,e⟩:=nw.1 g;have n:=j u (I' _ f);have o:=j v M';have k:u.b=v.b:=congrArg Prod.fst e;have w:u.bt.toNat=v.bt.toNat:=congrArg Prod.snd e;have p:=n.2;rw[k,w]at p
   have y:=r.w1 _ _ _ _ p o.2;have:u=v:=(Vt.eq_iff u v).1 ⟨by have:=n.1.1;have:=o.1.1;omega,k,y⟩;rw[this]at f;exact z f
 have:=La this (m:=a) λx C=>by
  obtain⟨v,i,rfl⟩:=nw.1 C;exact B _ _ _ (j v i).2
 rwa [nA]at this
theorem bF(h:AgI σ M){a:List (Bal × Nat)}(e:∀ b s c,σ.W b s c->(b,s)∈a){j:Nat}(f:j<5)(g:(M.ab j).up=true):((M.ab j).d.length:Int)<=14*(M.ab j).vo.p.key+38*(a.length:Int):=by
 obtain⟨m,k⟩:=(h.nd j f).up g;have i:=fT h.gs k.tp.ok k.sG e;have l:=iY k.tp.ok;rw[k.tp.d,dm,k.tp.vo];omega
def Nod.pk(p:Nod):Int:=if p.up then p.vo.p.key else(Eu p.d).2.p.key
def KbI(K R:Int)(M:Meet):Prop:=∀ j,j<5->(M.ab j).pk<=K/\5*(M.ab j).cF<=R
theorem NdI.sV(h:NdI σ j p):σ.P j<=p.pk:=by
 unfold Nod.pk;split
 .rename_i hu
  obtain⟨c,k⟩:=h.up hu;obtain⟨x,b⟩:=k.tp.pre;have a:=k.tp.ok;rw[<- b]at a
  have:=(DF a).1;rw[b,<- k.tp.vo]at this
  exact this
 .rename_i hu
  rw[(h.dn (by simpa using hu)).tN];exact mT _
theorem AgI.sV(h:AgI σ M){K R:Int}(c:KbI K R M){b:Bal}(d:Ac b)(e:b.key<=σ.P b.n.toNat):b.key<=K:=by
 have a:b.n.toNat<5:=by unfold Ac at d;omega
 exact ny e (ny (h.nd _ a).sV (c _ a).1)
theorem YX(h:Ap b):5*b.r<=b.key:=by unfold Ap Ac at h;unfold Bal.key;omega
theorem KbI.set(h:KbI K R M){i:Nat}{p:Nod}(b:p.pk<=K/\5*p.cF<=R)(ls:List Let)(ts:List Tol):KbI K R (M.set i p ls ts):=λj a=>by
 show(upN M.ab i p j).pk<=K/\5*(upN M.ab i p j).cF<=R;unfold upN;split
 .exact b
 .exact h j a
theorem KbI.step{D:Wh}(P:¬ D.ld){n:Nat}{σ:Gs}{M N:Meet}(h:AgI σ M)(s:Stp D n M N){K R:Int}(Q:K<=R)(m:KbI K R M):KbI K R N:=by
 have nn:∀ {i:Nat} {p:Nod},i<5->(M.ab i).up=true->p.up=true->p.vo.p.key<=(M.ab i).vo.p.key\/p.vo.p.key<=K->p.cF=(M.ab i).cF->p.pk<=K/\5*p.cF<=R:=λ{i p} j f z S A=>by
  have o:=m i j;unfold Nod.pk at o ⊢;rw[if_pos f]at o
  rw[if_pos z,A];exact⟨S.elim (λg=>ny g o.1) id,o.2⟩
 cases s with
 | take _ l hl hd f _ =>
  have w:=h.lt l hl;obtain⟨O,k⟩:=(h.nd _ hd.2).up f;have b:=(congrArg Prod.fst (PM (M.ab l.dst) l)).trans f;refine m.set ?_ _ _
  revert b
  unfold Nod.take;split
  .rename_i u
   rcases k.tp.au l.hU with⟨e,he⟩|⟨e,he,hvs,rs',z,v,hm,hpb,hpv,d,a,hq⟩
   .rw[if_pos e];intro b;refine nn hd.2 f b (.inl ?_) ?_<;>(unfold Nod.ew;split)<;>first|exact mT _|rfl
   .rw[if_neg (λg=>g e)];intro b;refine nn hd.2 f b (.inr ?_) (by show((M.ab l.dst).au l.hU).1.cF=_;rw[hq];rfl);show((M.ab l.dst).au l.hU).1.vo.p.key<=K;rw[v.vo,hpb];exact h.sV m (Co he).2.1 (w.k0 u)
  .simp only;split<;>exact λb=>nn hd.2 f b (.inl (mT _)) rfl
  .rename_i u
   intro b;have o:=nn (p:=M.ab l.dst) hd.2 f f (.inl (mT _)) rfl;refine⟨o.1,?_⟩;have B:=ny (w.k2 u).2 (ny (h.nd _ hd.1).sV (m _ hd.1).1);have J:5*l.hU.r<=K:=ny (YX (w.k2 u).1) B;show 5*max (M.ab l.dst).cF l.hU.r<=R;have:=o.2;omega
  .rename_i u
   rcases k.tp.cl l.cl with⟨e,he⟩|⟨e,he,rs',z,v,hm,hpb,d,a,hq⟩
   .rw[if_pos e];intro b;refine nn hd.2 f b (.inl ?_) ?_<;>(unfold Nod.ew;split)<;>first|exact mT _|rfl
   .rw[if_neg (λg=>g e)];intro b;refine nn hd.2 f b (.inr ?_) (by show((M.ab l.dst).cl l.cl).1.cF=_;rw[hq];rfl);show((M.ab l.dst).cl l.cl).1.vo.p.key<=K;rw[v.vo,hpb];exact h.sV m (Aq he).2.1.2.1 (h.gs.w3 _ _ _ (w.k3 u).2)
  .unfold Nod.count;split
   .exact λb=>nn hd.2 f b (.inl (mT _)) rfl
   .split<;>exact λb=>nn hd.2 f b (.inl (mT _)) rfl
  .split<;>exact λb=>nn hd.2 f b (.inl (mT _)) rfl
  .simp only;unfold Nod.dT;split<;>split<;>exact λb=>nn hd.2 f b (.inl (mT _)) rfl
  .exact λb=>nn hd.2 f b (.inl (mT _)) rfl
 | br _ ls hl _=>exact m
 | one _ i c j f hc he =>
  refine m.set (nn j f ((DY { M.ab i with ni:=doS (M.ab i).ni c,done:=(M.ab i).done+1 } c).1.trans f) (.inl ?_) ?_) _ _<;>(unfold Nod.fv;split)<;>first|exact mT _|rfl
 | ask _ i j f =>
  refine m.set (nn j f ((Ix _ i).trans f) (.inl ?_) ?_) _ _<;>(unfold Nod.jv;split)<;>first|exact mT _|rfl|(split<;>first|exact mT _|rfl|(unfold Nod.dT;split<;>first|exact mT _|rfl))
 | prop _ i j f =>
  refine m.set (nn j f ((EE _).trans f) (.inl ?_) ?_) _ _
  .obtain⟨O,k⟩:=(h.nd i j).up f;unfold Nod.cx;split
   .exact mT _
   .rename_i hc
    have G:(M.ab i).leads=true:=by cases hh:(M.ab i).leads with|true=>rfl|false=>exact absurd (.inl hh) hc
    cases hn:(M.ab i).rk (M.ab i).ae.length with
    | none=>exact mT _
    | some c =>
     simp only;rcases k.tp.cl ⟨((M.ab i).ae.length:Int),(M.ab i).bn.hU,c⟩with⟨e,he⟩|⟨e,he,rs',z,v,hm,hpb,d,a,hq⟩
     .rw[if_pos e];exact mT _
     .rw[if_neg (λg=>g e)];show((M.ab i).cl _).1.vo.p.key<=_;rw[v.vo,hpb,(nL G).2];exact mT _
  .unfold Nod.cx;split
   .rfl
   .split
    .rfl
    .split
     .rfl
     .show((M.ab i).cl _).1.cF=_;unfold Nod.cl;split
      .rfl
      .split
       .rfl
       .split<;>rfl
 | so _ i j f hlt E=>exact m.set (nn (p:={ M.ab i with sy:=((M.ab i).d.length:Int) }) j f f (.inl (mT _)) rfl) _ _
 | run _ i j f q l z hs =>
  have u:=DG (M.ab i) i q;refine m.set (nn (p:={ (M.ab i).ln i q with bu:=l }) j f (u.2.1.trans f) (.inl ?_) ?_) _ _<;>(cases q<;>first|exact mT _|rfl|(simp only[Nod.ln];split<;>first|exact mT _|rfl)|(simp only[Nod.ln,Nod.count];split<;>first|exact mT _|rfl|(split<;>first|exact mT _|rfl)))
 | sg _ i j f w=>exact m.set (nn (p:=EI (M.ab i) i 5) j f f (.inl (mT _)) rfl) _ _
 | lead _ i j f w=>exact absurd w P
 | sub _ i d j f hd =>
  have b:((M.ab i).sj i d M.ed).1.up=true:=by
   unfold Nod.sj Nod.ss;split
   .exact f
   .split
    .exact f
    .split
     .exact f
     .show(Nod.want _ _).up=true;unfold Nod.want;split<;>exact f
  refine m.set (nn j f b (.inl ?_) ?_) _ _<;>(unfold Nod.sj Nod.ss;split)<;>first|exact mT _|rfl|(split<;>first|exact mT _|rfl|(split<;>first|exact mT _|rfl|(simp only[Nod.want];split<;>first|exact mT _|rfl)))
 | lp _ i c j f hc hC =>
  obtain⟨O,k⟩:=(h.nd i j).up f;obtain⟨x,_,⟨y,L⟩,C⟩:=k.tp.lp hc;have F:=I2 (p:=M.ab i) k.tp.sT hc;have A:((M.ab i).lp c).cF=0:=by
   unfold Nod.lp;rw[if_neg]
   .rfl
   .intro e;exact e (by unfold Gt;rw[if_neg (λe=>e k.tp.sT),if_neg (by omega)])
  have t:=(m i j).1;unfold Nod.pk at t;rw[if_pos f]at t
  have o:=k.tp.ok;rw[<- L]at o
  have B:=(DF o).1;rw[L,<- k.tp.vo]at B
  have I:=(AU.left o).acc.1;have J:0<=(By x).p.key:=by unfold Ap Ac at I;unfold Bal.key;omega
  refine m.set ⟨?_,by rw[A];omega⟩ _ _;unfold Nod.pk;rw[if_neg (by rw[F.2.1];decide),C.tN];show(By x).p.key<=K;omega
 | start _ i j f _ =>
  have k:=(h.nd i j).dn f;have v:=k.start;have E:AV (M.ab i).d (M.ab i).sy:=⟨k.len,by rw[k.sy];omega,by rw[k.sy];omega⟩;have H:=GJ (p:=M.ab i) E;have A:(M.ab i).start.cF=0:=by
   unfold Nod.start;rw[if_neg (λe=>e (if_pos E))];split<;>rfl
  have t:=(m i j).1;unfold Nod.pk at t;rw[if_neg (by rw[f];decide),k.tN]at t
  have t:(By (σ.dr i)).p.key<=K:=t;have I:=v.ok.acc.1;have J:0<=(By (σ.dr i)).p.key:=by unfold Ap Ac at I;unfold Bal.key;omega
  refine m.set ⟨?_,by rw[A];omega⟩ _ _;unfold Nod.pk;rw[if_pos H.2.1,v.vo];exact t
def wh1:Wh:=⟨λ_ _=>False,False,False,False,False,False⟩
def wh0:Wh:=⟨λ_ _=>False,False,False,False,True,False⟩
theorem Stp.calm(h:Stp wh1 c M N):Stp wh0 c M N:=by
 cases h with
 | take _ l hl hd hu ht=>exact .take M l hl hd hu trivial
 | br _ ls h hd=>exact False.elim hd
 | one _ i c hi hu hc he=>exact .one M i c hi hu hc he
 | ask _ i hi hu=>exact .ask M i hi hu
 | prop _ i hi hu=>exact .prop M i hi hu
 | so _ i hi hu h hT=>exact .so M i hi hu h hT
 | run _ i hi hu q l hp hs=>exact .run M i hi hu q l hp hs
 | sg _ i hi hu hL=>exact .sg M i hi hu hL
 | lead _ i hi hu hL=>exact False.elim hL
 | sub _ i d hi hu hD=>exact False.elim hD
 | lp _ i k hi hu hk hC=>exact False.elim hC
 | start _ i hi hu hs=>exact False.elim hs
theorem Kv{to:Nat}{e:Int}(a:q∈p.bu):q∈(p.ew to e).bu:=by
 unfold Nod.ew;split
 .exact mV _ a
 .exact a
theorem Hl{l:Let}(a:q∈p.bu):q∈(p.take l).bu:=by
 unfold Nod.take;split
 .split
  .exact Kv a
  .exact mV _ (by rw[FP];exact a)
 .simp only;split<;>exact a
 .exact a
 .split
  .exact Kv a
  .exact mV _ (by rw[Hm];exact a)
 .unfold Nod.count;split
  .exact a
  .split<;>exact a
 .split
  .exact mV _ a
  .exact a
 .simp only;unfold Nod.dT;split<;>split<;>first|exact a|exact mV _ a
 .exact a
theorem P4(a:q∈p.bu):q∈p.cx.bu:=by
 unfold Nod.cx;split
 .exact a
 .split
  .exact a
  .split
   .exact a
   .exact mV _ (by rw[Hm];exact a)
theorem Ju(p:Nod)(i:Nat):(p.jv i).1.bu=p.bu/\(p.jv i).1.d=p.d/\(p.jv i).1.sy=p.sy:=by
 unfold Nod.jv;split
 .exact⟨rfl,rfl,rfl⟩
 .split
  .unfold Nod.dT;split<;>exact⟨rfl,rfl,rfl⟩
  .exact⟨rfl,rfl,rfl⟩
theorem GO(p:Nod)(c:Cmd):(p.fv c).bu=p.bu/\(p.fv c).d=p.d/\(p.fv c).sy=p.sy:=by unfold Nod.fv;split<;>exact⟨rfl,rfl,rfl⟩
theorem Yp(i:Nat)(l:List Cmd)(p:Nod)(a:List Tol):(sq i l p a).1.d=p.d/\(sq i l p a).1.sy=p.sy:=by
 induction l generalizing p a with
 | nil=>exact⟨rfl,rfl⟩
 | cons c l ih =>
  rw[sq];split
  .exact⟨rfl,rfl⟩
  .have h1:=ih (Nod.fv { p with ni:=doS p.ni c,done:=p.done+1 } c) (if(p.bN c).isSome=true then a++[⟨i,c.c,c.s,doC p.ni c,doA p.ni c⟩]else a);have b:=GO { p with ni:=doS p.ni c,done:=p.done+1 } c;exact⟨h1.1.trans b.2.1,h1.2.trans b.2.2⟩
theorem Sz(i:Nat)(l:List Pend)(p:Nod)(a:List Let):(qv i l p a).1.bu=p.bu:=by
 induction l generalizing p a with
 | nil=>rfl
 | cons q l ih=>rw[qv,ih];exact(DG p i q).1
theorem Ii(h:AV p.d p.sy)(i:Nat)(k:List Let)(l:List Tol):(p.piece i k l).1.bu=[]:=by
 unfold Nod.piece;simp only;have g:=Yp i (p.ae.drop p.done) p l;generalize sq i (p.ae.drop p.done) p l=a at g ⊢;have j:=Ju a.1 i;generalize a.1.jv i=b at j ⊢;have c:b.1.tp:=by show AV b.1.d b.1.sy;rw[j.2.1,j.2.2,g.1,g.2];exact h
 have m:b.1.cx.tp:=by
  unfold Nod.cx;split
  .exact c
  .split
   .exact c
   .split
    .exact c
    .exact PR c _
 generalize b.1.cx=r at m ⊢;have n:(r.qk i (k++b.2)).1.bu=[]:=by
  unfold Nod.qk;rw[if_neg (λe=>e.2 (if_pos m)),Sz]
 generalize r.qk i (k++b.2)=f at n ⊢;unfold Nod.bw;split<;>exact n
theorem Am(M:Meet)(i:Nat)(p:Nod)(a:List Let)(b:List Tol)(j:Nat):(M.set i p a b).ab j=if j=i then p else M.ab j:=rfl
theorem O5(s:Stp wh0 c M N){i:Nat}{q:Pend}(hq:q∈(M.ab i).bu):q∈(N.ab i).bu\/∃ l,(M.ab i).bu=q::l/\N=M.set i { (M.ab i).ln i q with bu:=l } (M.br++(M.ab i).sc i q) M.ed:=by
 have put:∀ {j:Nat} {p:Nod} {a:List Let} {b:List Tol},(j=i->q∈p.bu)->q∈((M.set j p a b).ab i).bu:=λ{j p a b} h=>by
  rw[Am];split
  .rename_i e;exact h e.symm
  .exact hq
 cases s with
 | take _ l hl hd hu ht=>exact .inl (put λe=>Hl (by rw[e];exact hq))
 | br _ a h hd=>exact False.elim hd
 | one _ j c hi hu hc he=>exact .inl (put λe=>by rw[(GO _ c).1,e];exact hq)
 | ask _ j hi hu=>exact .inl (put λe=>by rw[(Ju _ j).1,e];exact hq)
 | prop _ j hi hu=>exact .inl (put λe=>P4 (by rw[e];exact hq))
 | so _ j hi hu h hT=>exact .inl (put λe=>by subst e;exact hq)
 | run _ j hi hu x l hp hs =>
  by_cases e:j=i
  .subst e;rw[hp]at hq
   rcases mZ.1 hq with rfl|hq
   .exact .inr ⟨l,hp,rfl⟩
   .exact .inl (by rw[Am,if_pos rfl];exact hq)
  .exact .inl (put λf=>absurd f e)
 | sg _ j hi hu hL=>exact .inl (put λe=>by subst e;exact hq)
 | lead _ j hi hu hL=>exact False.elim hL
 | sub _ j d hi hu hD=>exact False.elim hD
 | lp _ j k hi hu hk hC=>exact False.elim hC
 | start _ j hi hu hs=>exact False.elim hs
theorem Hk(a:(M.ab i).up=true):M.act (acN 3 (i:Int))=M.set i ((M.ab i).piece i M.br M.ed).1 ((M.ab i).piece i M.br M.ed).2.1 ((M.ab i).piece i M.br M.ed).2.2:=by
 unfold Meet.act;simp[acN,a]
theorem FU(a:i<5):LacOk (acN 3 (i:Int)):=D8 ⟨.inr (.inl rfl),by omega,by omega⟩
theorem aW(i:Nat):wh1.may (acN 3 (i:Int)):=⟨λe=>absurd e (by show(3:Int)≠1;decide),λe=>absurd e (by show(3:Int)≠2;decide),λe=>absurd e (by show(3:Int)≠8;decide),λe=>absurd e (by show ¬ ((3:Int)=4\/(3:Int)=5\/(3:Int)=6\/(3:Int)=7);decide),λe=>absurd e (by show(3:Int)≠9;decide)⟩
end
section
variable{I J:Meet->Prop}
theorem Cz(a:∀ c M N,Stp wh1 c M N->I M->I N){n:Nat}{M:Meet}(b:MOk n M){i:Nat}(d:i<5)(h:I M):I (M.act (acN 3 (i:Int))):=(OX (D:=wh1) b (FU d) (aW i)).inv a h
theorem Xd(a:∀ c M N,Stp wh1 c M N->I M->I N)(b:∀ c M N,Stp wh1 c M N->I M->J M->J N){n:Nat}{M:Meet}(e:MOk n M){i:Nat}(f:i<5)(p:(M.ab i).up=true)(o:AV (M.ab i).d (M.ab i).sy){q:Pend}(j:q∈(M.ab i).bu)(h:I M)
  (m:∀ N l,I N->(N.ab i).bu=q::l->J (N.set i { (N.ab i).ln i q with bu:=l } (N.br++(N.ab i).sc i q) N.ed)):J (M.act (acN 3 (i:Int))):=by
 have k:=Cz (I:=λN=>I N/\(q∈(N.ab i).bu\/J N)) (λc A B s g=>⟨a c A B s g.1,by
  rcases g.2 with g2|g2
  .rcases O5 s.calm g2 with g3|⟨l,g3,rfl⟩
   .exact .inl g3
   .exact .inr (m A l g.1 g3)
  .exact .inr (b c A B s g.1 g2)⟩) e f ⟨h,.inl j⟩
 refine k.2.resolve_left λg=>?_;rw[Hk p,Am,if_pos rfl,Ii o]at g
 cases g
def TkS(M N:Meet):Prop:=∃ l,l∈M.br/\(l.src<5/\l.dst<5)/\(M.ab l.dst).up=true/\N=M.set l.dst ((M.ab l.dst).take l) M.br M.ed
theorem TkS.sF{M N:Meet}(h:TkS M N):Stp wh0 0 M N:=by obtain⟨l,a,b,c,rfl⟩:=h;exact .take M l a b c trivial
theorem Jz(e:∀ M N,TkS M N->I M->I N)(l:List Let){M:Meet}(a:∀ m∈l,m∈M.br/\m.src<5/\m.dst<5)(h:I M):I (l.foldl (λM l=>M.pd l) M)/\(l.foldl (λM l=>M.pd l) M).br=M.br:=by
 induction l generalizing M with
 | nil=>exact⟨h,rfl⟩
 | cons x l ih =>
  obtain⟨b,c⟩:=a x M';have d:I (M.pd x):=by
   unfold Meet.pd;split
   .rename_i hu;exact e M _ ⟨x,b,c,hu,rfl⟩ h
   .exact h
  have:=ih (M:=M.pd x) (λm f=>by rw[Ew];exact a m (I' _ f)) d;exact⟨this.1,this.2.trans (Ew M x)⟩
theorem DP(f:∀ M N,TkS M N->I M->I N)(t:∀ M N,TkS M N->I M->J M->J N){n:Nat}{M:Meet}(o:MOk n M)(h:I M){l:Let}(k:l∈M.br)(q:∀ N,I N->(N.ab l.dst).up=true)
  (u:∀ N,I N->N.br=M.br->J (N.set l.dst ((N.ab l.dst).take l) N.br N.ed)):∃ N,M.act (acN 7 0)={ N with br:=[] }/\I N/\J N/\N.br=M.br:=by
 have j:∀ m∈M.br,m.src<5/\m.dst<5:=λm d=>⟨(o.br m d).src,(o.br m d).dst⟩;obtain⟨a,b,e⟩:=List.append_of_mem k;have r:M.act (acN 7 0)={ M.br.foldl (λM l=>M.pd l) M with br:=[] }:=by
  show M.si=_;unfold Meet.si;rw[H9]
 refine⟨_,r,?_⟩;have c:=Jz f a (M:=M) (λm d=>by have:m∈M.br:=(by rw[e];exact mV _ d);exact⟨this,j m this⟩) h;rw[show M.br.foldl (λM l=>M.pd l) M=b.foldl (λM l=>M.pd l) ((a.foldl (λM l=>M.pd l) M).pd l)by rw[e,pT];rfl];generalize a.foldl (λM l=>M.pd l) M=A at c ⊢;have p:A.pd l=A.set l.dst ((A.ab l.dst).take l) A.br A.ed:=by unfold Meet.pd;rw[if_pos (q A c.1)];rfl
 have s:TkS A (A.pd l):=⟨l,by rw[c.2];exact k,j l k,q A c.1,p⟩;have i:=Jz (I:=λN=>I N/\J N) (λA B s g=>⟨f A B s g.1,t A B s g.1 g.2⟩) b (M:=A.pd l) (λm d=>by
  have:m∈M.br:=by rw[e];exact mU _ (I' _ d)
  exact⟨by rw[Ew,c.2];exact this,j m this⟩) ⟨f _ _ s c.1,by rw[p];exact u A c.1 c.2⟩
 exact⟨i.1.1,i.1.2,by rw[i.2,Ew,c.2]⟩
end
theorem KbI.mono{K R a b:Int}{M:Meet}(h:KbI K R M)(d:K<=a)(e:R<=b):KbI a b M:=λj c=>⟨ny (h j c).1 d,ny (h j c).2 e⟩
theorem TI{D:Wh}(l:¬ D.ld){n:Nat}{M N:Meet}(s:Sts D n M N){σ:Gs}(h:AgI σ M){K R:Int}(a:K<=R)(f:KbI K R M):∃ (τ:Gs) (ex:List (Bal × Nat)),σ.le τ/\AgI τ N/\KbI K R N/\ex.length<=n/\∀ b s c,τ.W b s c->σ.W b s c\/(b,s)∈ex:=by
 induction s with
 | nil=>exact⟨σ,[],.refl σ,h,f,nH _,λ_ _ _ g=>.inl g⟩
 | snoc _ s hm ih =>
  obtain⟨τ,ex,i,d,j,r,k⟩:=ih h f;obtain⟨υ,e,m,o,p,q⟩:=d.step s;refine⟨υ,ex++e.toList,i.trans m,o,j.step l d s a,?_,λb s c g=>?_⟩
  .cases e with
   | none=>simp;omega
   | some x=>have:=(q x.1 x.2 rfl).1;simp;omega
  .rcases p b s c g with g|g
   .exact(k b s c g).imp id λg=>mV _ g
   .exact .inr (mU _ (by rw[g];exact D'.2 rfl))
theorem KbI.lead{σ:Gs}{M:Meet}(h:AgI σ M){R:Int}(l:KbI R R M){i:Nat}(m:i<5)(j:(M.ab i).up=true)(o:List Let)(q:List Tol):KbI (R+9) (R+9) (M.set i ((M.ab i).lead i) o q):=by
 obtain⟨t,k⟩:=(h.nd i m).up j;have f:=l i m;have c:=f.1;unfold Nod.pk at c;rw[if_pos j]at c
 have s:=YX (b:=(M.ab i).vo.p) (by rw[k.tp.vo];exact k.tp.ok.acc.1);refine(l.mono (by omega) (by omega)).set ?_ _ _;unfold Nod.lead;simp only;generalize n:(⟨max (M.ab i).cF (M.ab i).vo.p.r+1,(i:Int)⟩:Bal)=b;rcases k.tp.au b with⟨e,he⟩|⟨e,he,hvs,rs',hp,ht,hm,hpb,hpv,d,a,hq⟩
 .rw[if_pos e];exact⟨by have:=f.1;omega,by have:=f.2;omega⟩
 .rw[if_neg (λg=>g e)];refine⟨?_,?_⟩
  .show(if((M.ab i).au b).1.up=true then((M.ab i).au b).1.vo.p.key else(Eu ((M.ab i).au b).1.d).2.p.key)<=_;rw[if_pos (by rw[hq];exact j),ht.vo,hpb,<- n];show 5*(max (M.ab i).cF (M.ab i).vo.p.r+1)+(i:Int)<=_;omega
  .show 5*((M.ab i).au b).1.cF<=_;rw[hq];show 5*(M.ab i).cF<=_;omega
def whL:Wh:=⟨λ_ _=>True,False,True,True,True,True⟩
def lds(L:List Lac):Nat:=L.countP λx=>decide (x.k=2)
theorem WV(L:List Lac){n:Nat}{M:Meet}(w:MOk n M)(B:n+L.length<=1000000)(v:∀ x∈L,LacOk x){σ:Gs}(h:AgI σ M){R:Int}(l:KbI R R M){cov:List (Bal × Nat)}(m:∀ b s c,σ.W b s c->(b,s)∈cov) :
  ∃ (τ:Gs) (cov':List (Bal × Nat)),σ.le τ/\AgI τ (M.dc L)/\KbI (R+9*(lds L:Int)) (R+9*(lds L:Int)) (M.dc L)/\cov'.length<=cov.length+L.length/\∀ b s c,τ.W b s c->(b,s)∈cov':=by
 induction L generalizing n M σ R cov with
 | nil=>exact⟨σ,cov,.refl σ,h,l.mono (by simp[lds]) (by simp[lds]),A' _,m⟩
 | cons x L ih =>
  rw[nK]at B
  have t:=v x M';have r:lds (x::L)=lds L+if x.k=2 then 1 else 0:=by unfold lds;rw[qX];simp
  have one:∃ (τ:Gs) (cov':List (Bal × Nat)),σ.le τ/\AgI τ (M.act x)/\KbI (R+if x.k=2 then 9 else 0) (R+if x.k=2 then 9 else 0) (M.act x)/\cov'.length<=cov.length+1/\∀ b s c,τ.W b s c->(b,s)∈cov':=by
   by_cases d:x.k=2
   .rw[if_pos d];have z:x.n.toNat<5:=by have:=t.n (by rw[d];rfl);omega
    have e:M.act x=M.set x.n.toNat (if(M.ab x.n.toNat).up then(M.ab x.n.toNat).lead x.n.toNat else M.ab x.n.toNat) M.br M.ed:=by
     unfold Meet.act;simp only;rw[if_neg (by omega),if_pos d]
    by_cases o:(M.ab x.n.toNat).up=true
    .rw[if_pos o]at e
     obtain⟨τ,u,f,i,j,p⟩:=h.step (D:=whT) (.lead M _ z o trivial);refine⟨τ,cov,f,by rw[e];exact i,by rw[e];exact l.lead h z o _ _,by omega,λb s c g=>?_⟩;rcases j b s c g with g|g
     .exact m b s c g
     .exact absurd (p b s g).1 (by decide)
    .rw[if_neg o,EW]at e
     rw[e];exact⟨σ,cov,.refl σ,h,l.mono (by omega) (by omega),by omega,m⟩
   .rw[if_neg d,Int.add_zero];obtain⟨τ,u,f,i,j,p,q⟩:=TI (D:=whL) (λe=>e) (OX w t ⟨λ_=>trivial,λe=>d e,λ_=>trivial,λ_=>⟨trivial,trivial⟩,λ_=>trivial⟩) h (mT R) l;refine⟨τ,cov++u,f,i,j,by rw[G'];omega,λb s c g=>?_⟩;exact(q b s c g).elim (λg=>mV _ (m b s c g)) λg=>mU _ g
  obtain⟨τ,cov',f,i,j,p,q⟩:=one;obtain⟨υ,a,E,F,A,H,G⟩:=ih (w.act (by omega) t) (by omega) (λy C=>v y (I' _ C)) i j q;have e:R+(if x.k=2 then 9 else 0)+9*(lds L:Int)=R+9*(lds (x::L):Int):=by
   rw[r];split<;>omega
  rw[e]at A
  exact⟨υ,a,f.trans E,F,A,by rw[nK];omega,G⟩
theorem KbI.zero:KbI 0 0 Ao:=λj a=>⟨by show CY.pk<=0;decide,by show 5*CY.cF<=0;decide⟩
section
variable{S:Cmd->Prop}
section
def VsS(S:Cmd->Prop)(l:List Vt):Prop:=∀ v∈l,S v.w
def RsS(S:Cmd->Prop)(rs:List Rk):Prop:=∀ v,Rk.vt v∈rs->S v.w
def PnS(S:Cmd->Prop):Pend->Prop
 | .began _ vs=>VsS S vs
 | .prom _ _ vs=>VsS S vs
 | .voted _ v=>S v.w
 | .prop v=>S v.w
 | _=>True
structure NdS(S:Cmd->Prop)(p:Nod):Prop where
 up:p.up=true->∃ dr rs,TpU p dr rs/\RsS S rs
 dn:p.up=false->∃ dr,TpD p dr/\RsS S dr
 ag:∀ c∈p.ae,S c
 wa:∀ c∈p.av,S c
 qu:∀ c∈p.bn.fa,S c
 he:∀ j,j<5->VsS S (p.bn.an j).vs
 pe:∀ q∈p.bu,PnS S q
structure LtS(S:Cmd->Prop)(l:Let):Prop where
 vs:VsS S l.mv
 wh:∀ c∈l.gC,S c
 vt:l.kind=3\/l.kind=4->S l.cl.w
variable{M:Meet}{dr:List Rk}{i:Nat}{p q:Nod}{r:Rnd}
theorem NdS.tape(h:NdS S p){q:Nod}(i:q.up=p.up)(a:q.d=p.d)(f:q.sy=p.sy)(n:q.vo=p.vo)(l:∀ c∈q.ae,S c)(t:∀ c∈q.av,S c)(r:∀ c∈q.bn.fa,S c)(m:∀ j,j<5->VsS S (q.bn.an j).vs)(o:∀ x∈q.bu,PnS S x):NdS S q :=
 ⟨λe=>by
  obtain⟨b,s,k,g⟩:=h.up (i▸e);exact⟨b,s,⟨k.ok,k.pre,a.trans k.d,f.trans k.sy,n.trans k.vo,by rw[a];exact k.len⟩,g⟩,λe=>by
  obtain⟨b,k,g⟩:=h.dn (i▸e);exact⟨b,⟨k.ok,by rw[a];exact k.tN,by rw[a];exact k.tk,by rw[f,a];exact k.sy,by rw[a];exact k.len⟩,g⟩,l,t,r,m,o⟩
theorem NdS.wait(h:NdS S p){x:Pend}(a:PnS S x):NdS S (p.wait x) :=
 h.tape rfl rfl rfl rfl h.ag h.wa h.qu h.he λy b=>(P'.1 b).elim (h.pe y) λe=>by rw[D'.1 e];exact a
theorem NdS.ew(h:NdS S p)(to:Nat)(e:Int):NdS S (p.ew to e):=by
 unfold Nod.ew;split
 .exact h.wait trivial
 .exact h
theorem NdS.wrote(h:NdS S p){f b:List Rk}(j:TpU q f b)(i:RsS S b)(k:p.up=true){d:List Int}{a:Acc}(g:q=p.tv d p.sy a)(l:∀ c∈q.ae,S c):NdS S q:=by
 subst g;exact⟨λ_=>⟨f,b,j,i⟩,λe=>(by rw[show(p.tv d p.sy a).up=p.up from rfl,k]at e;cases e),h.ag,h.wa,h.qu,h.he,h.pe⟩
theorem gH(h:∀ j,j<5->VsS S (r.an j).vs){a:Acc}(b:a∈r.hZ):VsS S a.vs:=by
 unfold Rnd.hZ at b;simp only[mZ,Q',or_false]at b;rcases b with rfl|rfl|rfl|rfl|rfl
 .exact h 0 (by omega)
 .exact h 1 (by omega)
 .exact h 2 (by omega)
 .exact h 3 (by omega)
 .exact h 4 (by omega)
theorem Y9(h:∀ j,j<5->VsS S (r.an j).vs){s:Int}{v:Vt}(e:v∈Ae (r.hZ.map (·.vs)).flatten s):S v.w:=by
 obtain⟨l,b,c⟩:=pa.1 (AM.1 e).1;obtain⟨a,d,rfl⟩:=nw.1 b;exact gH h d v c
theorem ig(h:∀ j,j<5->VsS S (r.an j).vs){s:Int}(a:CX r.hZ s=0):S (CQ r.hZ s):=by
 have c:CQ r.hZ s=((Ho (D5 r.hZ s) r.hZ.length).map (·.w)).getD ⟨0,0,0,0,0⟩:=if_pos a;unfold CX at a;split at a
 .cases a
 .split at a
  .cases a
  .split at a
   .rename_i hO
    obtain⟨v,b⟩:=oA.1 hO;rw[c,b];exact Y9 h (rF b)
   .cases a
theorem iH(h:∀ j,j<5->VsS S (r.an j).vs)(k:Nat){l:List Cmd}(a:∀ c∈l,S c):∀ c∈FG k r l,S c:=by
 induction k generalizing l with
 | zero=>exact a
 | succ k ih =>
  rw[FG];split
  .rename_i he;exact ih λc b=>(P'.1 b).elim (a c) λe=>by rw[D'.1 e];exact ig h he
  .exact a
theorem NdS.sf(h:NdS S p):NdS S p.sf:=h.tape rfl rfl rfl rfl (iH h.he 41 h.ag) h.wa h.qu h.he h.pe
theorem dD(a:Acc)(l:List Vt)(d:VsS S a.vs)(e:VsS S l):VsS S (Dh a l).vs:=by
 induction l generalizing a with
 | nil=>exact d
 | cons u l ih =>
  rw[Dh];refine ih _ ?_ λv b=>e v (I' _ b);by_cases c:Bb a u=0
  .rw[if_pos c];intro v b;have b:v∈Br a u:=b;rw[(DK c).2]at b
   rcases(BA (Aq c).1.2.2).1 b with rfl|⟨b,_⟩
   .exact e v M'
   .exact d v b
  .rw[if_neg c];exact d
theorem YM(h:∀ j,j<5->VsS S (r.an j).vs)(j:Nat)(b:j<5){a:List Vt}(d:VsS S a):∀ k,k<5->VsS S ((r.sw j a).an k).vs:=λk c=>by
 show VsS S (upN r.an j _ k).vs;unfold upN;split
 .exact dD ⟨r.hU,a⟩ _ d (h j b)
 .exact h k c
theorem NdS.count(h:NdS S p){j:Nat}(c:j<5){v:Vt}(e:S v.w):NdS S (p.count j v):=by
 unfold Nod.count;split
 .exact h
 .split
  .exact h
  .rename_i b
   have b:=mX.1 b;refine NdS.sf (h.tape rfl rfl rfl rfl h.ag h.wa h.qu (λk d=>?_) h.pe);show VsS S (upN p.bn.an j _ k).vs;unfold upN;split
   .intro u a;have a:u∈Br (p.bn.an j) v:=a;rw[(DK b).2]at a
    rcases(BA (Aq b).1.2.2).1 a with rfl|⟨a,_⟩
    .exact e
    .exact h.he j c u a
   .exact h.he k d
theorem iw(q l:List Cmd)(b:∀ c∈q,S c)(f:∀ c∈l,S c):∀ c∈Hp q l,S c:=by
 induction l generalizing q with
 | nil=>exact b
 | cons d l ih =>
  rw[Hp];refine ih _ ?_ λc a=>f c (I' _ a);split
  .exact λc a=>(P'.1 a).elim (b c) λe=>by rw[D'.1 e];exact f d M'
  .exact b
theorem NdS.dT(h:NdS S p){l:List Cmd}(a:∀ c∈l,S c):NdS S (p.dT l):=by
 unfold Nod.dT;split
 .exact h.tape rfl rfl rfl rfl h.ag h.wa (iw _ _ h.qu a) h.he h.pe
 .exact h
theorem NdS.lr(h:NdS S p)(bt:Nat){l:List Cmd}(b:∀ c∈l,S c):NdS S (p.lr bt l) :=
 h.tape rfl rfl rfl rfl (λc a=>(P'.1 a).elim (h.ag c) λg=>b c (oP g)) h.wa h.qu h.he h.pe
theorem TpU.uO{a:List Rk}(h:TpU p dr a)(b:RsS S a):VsS S p.vo.vs:=λv c=>b v (IX h.ok v (by rw[<- h.vo];exact c))
theorem NdS.take(h:NdS S p)(f:p.up=true){l:Let}(b:LtS S l)(j:l.src<5):NdS S (p.take l):=by
 obtain⟨m,n,k,c⟩:=h.up f;unfold Nod.take;split
 .rcases k.au l.hU with⟨e,he⟩|⟨e,he,hvs,rs',hp,ht,hm,hpb,hpv,d,a,hq⟩
  .rw[if_pos e];exact h.ew _ _
  .rw[if_neg (λg=>g e)];exact(h.wrote ht (λv i=>c v ((hm v).1 i)) f hq (by rw[hq];exact h.ag)).wait (by show VsS S _;rw[hvs];exact k.uO c)
 .have hL:=h.lr 0 b.wh;generalize p.lr 0 l.gC=K at hL ⊢;simp only;split
  .exact hL
  .exact NdS.sf (hL.tape rfl rfl rfl rfl hL.ag hL.wa hL.qu (YM hL.he _ j b.vs) hL.pe)
 .exact h.tape rfl rfl rfl rfl h.ag h.wa h.qu h.he h.pe
 .rename_i hk
  rcases k.cl l.cl with⟨e,he⟩|⟨e,he,rs',hp,ht,hm,hpb,d,a,hq⟩
  .rw[if_pos e];exact h.ew _ _
  .rw[if_neg (λg=>g e)];exact(h.wrote ht (λv i=>((hm v).1 i).elim (λe=>by rw[e];exact b.vt (.inl hk)) (c v)) f hq (by rw[hq];exact h.ag)).wait (b.vt (.inl hk))
 .rename_i hk;exact h.count j (b.vt (.inr hk))
 .split
  .exact h.wait trivial
  .exact h.lr _ b.wh
 .simp only;split
  .exact(h.dT b.wh).wait trivial
  .exact h.dT b.wh
 .exact h
theorem Lb(h:NdS S p){s:Nat}{c:Cmd}(b:p.rk s=some c):S c:=by
 unfold Nod.rk at b;split at b
 .cases b
 .rename_i a
  have a:=mX.1 a;split at b
  .rename_i hF
   have f:G8 (p.bn.hZ.map (·.vs)) (s:Int)=((Eh (p.bn.hZ.map (·.vs)) (s:Int)).map (·.w)).getD ⟨0,0,0,0,0⟩:=if_pos a;have d:DV (p.bn.hZ.map (·.vs)) (s:Int)=(Eh (p.bn.hZ.map (·.vs)) (s:Int)).isSome:=if_pos a;rw[hF]at d
   obtain⟨x,i⟩:=oA.1 d.symm;rw[i]at f
   rw[<- nP b,f];refine Y9 h.he (s:=(s:Int)) ?_;have:∀ (l:List Vt) (o:Option Vt) (x:Vt),BR l o=some x->x∈l\/o=some x:=by
    intro l;induction l with
    | nil=>intro o x e;exact .inr e
    | cons v l ih =>
     intro o x e;cases o with
     | none =>
      rw[BR]at e
      rcases ih _ _ e with g|g
      .exact .inl (I' _ g)
      .left;cases g;exact M'
     | some u =>
      rw[BR]at e
      split at e
      .rcases ih _ _ e with g|g
       .exact .inl (I' _ g)
       .left;cases g;exact M'
      .rcases ih _ _ e with g|g
       .exact .inl (I' _ g)
       .exact .inr g
   exact(this _ _ _ i).resolve_right λe=>by cases e
  .exact h.qu c (rF b)
theorem NdS.cx(h:NdS S p)(f:p.up=true):NdS S p.cx:=by
 obtain⟨l,m,k,i⟩:=h.up f;unfold Nod.cx;split
 .exact h
 .cases hn:p.rk p.ae.length with
  | none=>exact h
  | some c =>
   have b:=Lb h hn;simp only;rcases k.cl ⟨(p.ae.length:Int),p.bn.hU,c⟩with⟨e,he⟩|⟨e,he,rs',hp,ht,hm,hpb,d,a,hq⟩
   .rw[if_pos e];exact h
   .rw[if_neg (λg=>g e)];have g:=h.wrote ht (λv j=>((hm v).1 j).elim (λe=>by rw[e];exact b) (i v)) f hq (by rw[hq];exact h.ag);exact NdS.wait (p:={ (p.cl ⟨(p.ae.length:Int),p.bn.hU,c⟩).1 with bn:={ p.bn with next:=p.ae.length+1 } }) (g.tape rfl rfl rfl rfl g.ag g.wa h.qu h.he g.pe) b
theorem NdS.run(n:i<5){p:Nod}(h:NdS S p){q:Pend}{l:List Pend}(o:p.bu=q::l):NdS S { p.ln i q with bu:=l }/\∀ m∈p.sc i q,LtS S m:=by
 have f:=h.pe q (by rw[o];exact M');have j:∀ {p':Nod},NdS S p'->p'.bu=p.bu->NdS S { p' with bu:=l }:=λ{p'} g e=>g.tape rfl rfl rfl rfl g.ag g.wa g.qu g.he λx r=>g.pe x (by rw[e,o];exact I' _ r);have none:∀ c∈([]:List Cmd),S c:=λc k=>by cases k
 have a:VsS S []:=λc k=>by cases k
 cases q with
 | began b vs =>
  unfold Nod.ln Nod.sc;simp only;split
  .exact⟨j h rfl,λm d=>(by cases d)⟩
  .refine⟨j (p':={ p with bn:=p.bn.sw i vs }) (h.tape rfl rfl rfl rfl h.ag h.wa h.qu (YM h.he i n f) h.pe) rfl,λm d=>?_⟩;obtain⟨to,_,rfl⟩:=CF d;exact⟨a,none,λe=>e.elim (λg=>by cases g) λg=>(by cases g)⟩
 | prom to b vs=>exact⟨j h rfl,λm d=>by rw[D'.1 d];exact⟨f,h.ag,λe=>e.elim (λg=>by cases g) λg=>(by cases g)⟩⟩
 | voted to v=>exact⟨j h rfl,λm d=>by rw[D'.1 d];exact⟨a,none,λ_=>f⟩⟩
 | ew to b=>exact⟨j h rfl,λm d=>by rw[D'.1 d];exact⟨a,none,λe=>e.elim (λg=>by cases g) λg=>(by cases g)⟩⟩
 | prop v =>
  refine⟨j (h.count n f) (DG p i (.prop v)).1,λm d=>?_⟩;obtain⟨to,_,rfl⟩:=CF d;exact⟨a,none,λ_=>f⟩
 | askNews to=>exact⟨j h rfl,λm d=>by rw[D'.1 d];exact⟨a,none,λe=>e.elim (λg=>by cases g) λg=>(by cases g)⟩⟩
 | start =>
  refine⟨j h rfl,λm d=>?_⟩;obtain⟨to,_,rfl⟩:=CF d;exact⟨a,none,λe=>e.elim (λg=>by cases g) λg=>(by cases g)⟩
 | tell to bt=>exact⟨j h rfl,λm d=>by rw[D'.1 d];exact⟨a,λc k=>h.ag c (oP k),λe=>e.elim (λg=>by cases g) λg=>(by cases g)⟩⟩
theorem NdS.lead(h:NdS S p)(m:p.up=true):NdS S (p.lead i):=by
 obtain⟨o,q,k,l⟩:=h.up m;unfold Nod.lead;simp only;generalize (⟨max p.cF p.vo.p.r+1,(i:Int)⟩:Bal)=b;rcases k.au b with⟨e,he⟩|⟨e,he,hvs,rs',hp,ht,hm,hpb,hpv,d,a,hq⟩
 .rw[if_pos e];exact h
 .rw[if_neg (λg=>g e)];have g:=h.wrote ht (λv f=>l v ((hm v).1 f)) m hq (by rw[hq];exact h.ag);exact NdS.wait (p:={ (p.au b).1 with bn:=⟨b,λ_=>false,λ_=>Em,λ_=>p.ae.length,0,[]⟩ }) (x:=.began b (p.au b).2.1) (g.tape rfl rfl rfl rfl g.ag g.wa (λc n=>by cases n) (λj _ v f=>by cases f) g.pe) (by show VsS S _;rw[hvs];exact k.uO l)
theorem gT(b:Bal)(f:Cmd->Option Bal)(l:List Cmd)(h:∀ c∈l,S c):∀ c∈(Bd b f l).1,S c:=by
 induction l generalizing f with
 | nil=>intro c a;cases a
 | cons d l g =>
  have g:=λf=>g f λc a=>h c (I' _ a);rw[Bd];split
  .exact λc a=>(mZ.1 a).elim (λe=>by rw[e];exact h d M') (g _ c)
  .exact g f
structure MtS(S:Cmd->Prop)(M:Meet):Prop where
 nd:∀ i,i<5->NdS S (M.ab i)
 lt:∀ l∈M.br,LtS S l
theorem MtS.set(h:MtS S M){i:Nat}{p:Nod}(d:NdS S p){ls:List Let}(b:∀ l∈ls,l∈M.br\/LtS S l)(ts:List Tol):MtS S (M.set i p ls ts) :=
 ⟨λj a=>by
  show NdS S (upN M.ab i p j);unfold upN;split
  .exact d
  .exact h.nd j a,λl c=>(b l c).elim (h.lt l) id⟩
theorem MtS.step{D:Wh}(x:∀ i d,D.d i d->∀ now:Nat,opE d (now:Int)=0->S (Eb d (now:Int))){n:Nat}{M N:Meet}(s:Stp D n M N)(h:MtS S M):MtS S N:=by
 have same:∀ l∈M.br,l∈M.br\/LtS S l:=λl o=>.inl o;have app:∀ {ms:List Let},(∀ m∈ms,LtS S m)->∀ l∈M.br++ms,l∈M.br\/LtS S l:=λg l o=>(P'.1 o).imp id (g l);cases s with
 | take _ l o hd hu _=>exact h.set ((h.nd _ hd.2).take hu (h.lt l o) hd.1) same _
 | br _ ls o _=>exact⟨h.nd,λl g=>h.lt l (o l g)⟩
 | one _ i c hi hu a he =>
  refine h.set ?_ same _;have k:=h.nd i hi;unfold Nod.fv;split
  .exact k.tape rfl rfl rfl rfl k.ag (λc a=>k.wa c (List.mem_of_mem_erase a)) k.qu k.he k.pe
  .exact k.tape rfl rfl rfl rfl k.ag k.wa k.qu k.he k.pe
 | ask _ i hi hu =>
  have k:=h.nd i hi;have E:=gT (M.ab i).vo.p (M.ab i).bN ((M.ab i).av.take 40) λc a=>k.wa c (nm a);have B:NdS S { M.ab i with bN:=(Bd (M.ab i).vo.p (M.ab i).bN ((M.ab i).av.take 40)).2 }:=k.tape rfl rfl rfl rfl k.ag k.wa k.qu k.he k.pe;refine h.set ?_ (app ?_) _
  .unfold Nod.jv;split
   .exact B
   .split
    .exact B.dT E
    .exact B
  .intro m hm;unfold Nod.jv at hm;split at hm
   .cases hm
   .split at hm
    .cases hm
    .rw[D'.1 hm];exact⟨λv f=>(by cases f),E,λe=>e.elim (λg=>by cases g) λg=>(by cases g)⟩
 | prop _ i hi hu=>exact h.set ((h.nd i hi).cx hu) same _
 | so _ i hi hu hlt y =>
  have k:=h.nd i hi;obtain⟨u,C,g,r⟩:=k.up hu;exact h.set (p:={ M.ab i with sy:=((M.ab i).d.length:Int) }) ⟨λ_=>⟨C,C,g.so,r⟩,λe=>(by rw[show _=(M.ab i).up from rfl,hu]at e;cases e),k.ag,k.wa,k.qu,k.he,k.pe⟩ same _
 | run _ i hi hu q l hp hs =>
  have g:=(h.nd i hi).run hi hp;exact h.set g.1 (app g.2) _
 | sg _ i hi hu hL =>
  have k:=h.nd i hi;refine h.set (p:=EI (M.ab i) i 5) (k.tape rfl rfl rfl rfl k.ag k.wa k.qu k.he k.pe) (app ?_) _;have:∀ n,∀ m∈Dt (M.ab i) i n,LtS S m:=by
   intro n;induction n with
   | zero=>intro m hm;cases hm
   | succ n ih =>
    intro m hm;rw[Dt]at hm
    rcases P'.1 hm with hm|hm
    .exact ih m hm
    .split at hm
     .rw[D'.1 hm];exact⟨λv f=>(by cases f),λc a=>k.ag c (oP a),λe=>e.elim (λg=>by cases g) λg=>(by cases g)⟩
     .cases hm
  exact this 5
 | lead _ i hi hu _=>exact h.set ((h.nd i hi).lead hu) same _
 | sub _ i d hi hu hd =>
  have k:=h.nd i hi;refine h.set ?_ same _;unfold Nod.sj Nod.ss;split
  .exact k
  .split
   .exact k.tape rfl rfl rfl rfl k.ag k.wa k.qu k.he k.pe
   .rename_i he
    split
    .exact k
    .show NdS S (Nod.want _ _);unfold Nod.want;split
     .exact k
     .exact k.tape rfl rfl rfl rfl k.ag (λc a=>(P'.1 a).elim (k.wa c) λe=>by rw[D'.1 e];exact x i d hd _ (mX.1 he)) k.qu k.he k.pe
 | lp _ i c hi hu a _ =>
  have k:=h.nd i hi;obtain⟨u,C,g,r⟩:=k.up hu;obtain⟨w,_,G,x⟩:=g.lp a;have z:Gt (M.ab i).d (M.ab i).sy c=0:=by unfold Gt;rw[if_neg (λe=>e g.sT),if_neg (by omega)]
  have A:=I2 (p:=M.ab i) g.sT a;refine h.set ⟨λe=>(by rw[A.2.1]at e;cases e),λ_=>⟨w,x,λv f=>r v (G.subset f)⟩,?_,?_,?_,?_,?_⟩ same _<;>(unfold Nod.lp;rw[if_neg (λe=>e z)])
  .exact λc a=>by cases a
  .exact λc a=>by cases a
  .exact λc a=>by cases a
  .exact λj _ v f=>by cases f
  .exact λc a=>by cases a
 | start _ i hi hu _ =>
  obtain⟨u,g,r⟩:=(h.nd i hi).dn hu;have y:AV (M.ab i).d (M.ab i).sy:=⟨g.len,by rw[g.sy];omega,by rw[g.sy];omega⟩;have t:=GJ (p:=M.ab i) y;have b:(M.ab i).start.bn=eQ/\(M.ab i).start.bu=[.start]/\(M.ab i).start.av=[]:=by
   unfold Nod.start;rw[if_neg (λe=>e (if_pos y))];split<;>exact⟨rfl,rfl,rfl⟩
  refine h.set ⟨λ_=>⟨u,u,g.start,r⟩,λe=>(by rw[t.2.1]at e;cases e),?_,?_,?_,?_,?_⟩ same _
  .rw[t.2.2.2];exact λc a=>by cases a
  .rw[b.2.2];exact λc a=>by cases a
  .rw[b.1];exact λc a=>by cases a
  .rw[b.1];exact λj _ v f=>by cases f
  .rw[b.2.1];exact λq F=>by rw[D'.1 F];trivial
theorem MtS.zero:MtS S Ao:=⟨λi _=>⟨λ_=>⟨[],[],TpU.zero,λv b=>(by cases b)⟩,λe=>(by cases e),λc a=>(by cases a),λc a=>(by cases a),λc a=>(by cases a),λj _ v b=>(by cases b),λc a=>(by cases a)⟩,λl d=>(by cases d)⟩
theorem gL(L:List Lac)(f:∀ x∈L,LacOk x)(n:L.length<=100000)(j:∀ x∈L,x.k=1->∀ now:Nat,opE x.d (now:Int)=0->S (Eb x.d (now:Int))):MtS S (Ao.dc L):=by
 have s:Sts ⟨λ_ d=>∃ x∈L,x.k=1/\x.d=d,True,True,True,True,True⟩ L.length Ao (Ao.dc L):=Gl L MOk.zero (by omega) λx a=>⟨f x a,λe=>⟨x,a,e,rfl⟩,λ_=>trivial,λ_=>trivial,λ_=>⟨trivial,trivial⟩,λ_=>trivial⟩;exact s.inv (λ_ M N h g=>g.step (λi d l now m=>by obtain⟨x,b,c,rfl⟩:=l;exact j x b c now m) h) MtS.zero
end
end
structure Ev(p q:Nod):Prop where
 up:q.up=p.up
 hU:q.bn.hU=p.bn.hU
 vo:p.vo.p.key<=q.vo.p.key
 cF:p.cF<=q.cF
 ag:p.ae <+: q.ae
 rN:∀ j,p.bn.rN j=true->q.bn.rN j=true
 next:p.bn.next<=q.bn.next
 qu:p.bn.fa <+: q.bn.fa
 wa:∀ c∈q.av,c∈p.av
 dn:p.done<=q.done
theorem Ev.refl(p:Nod):Ev p p:=⟨rfl,rfl,mT _,mT _,mW _,λ_ h=>h,A' _,mW _,λ_ h=>h,A' _⟩
theorem Ev.trans{p q r:Nod}(h:Ev p q)(k:Ev q r):Ev p r:=⟨k.up.trans h.up,k.hU.trans h.hU,ny h.vo k.vo,ny h.cF k.cF,h.ag.trans k.ag,λj g=>k.rN j (h.rN j g),mS h.next k.next,h.qu.trans k.qu,λc g=>h.wa c (k.wa c g),mS h.dn k.dn⟩
theorem IG(k:Nat)(r:Rnd)(l:List Cmd):l <+: FG k r l:=by
 induction k generalizing l with
 | zero=>exact mW _
 | succ k ih =>
  rw[FG];split
  .exact(oH _ _).trans (ih _)
  .exact mW _
theorem Qu(l q:List Cmd):q <+: Hp q l:=by
 induction l generalizing q with
 | nil=>exact mW _
 | cons c l ih =>
  rw[Hp];split
  .exact(oH _ _).trans (ih _)
  .exact ih _
theorem Ev.au(p:Nod)(b:Bal):Ev p (p.au b).1:=by
 unfold Nod.au;split
 .exact .refl p
 .rename_i h
  have a:=Co (mX.1 h);have c:p.vo.p.key<=b.key:=Bo a.2.1.pr a.1.1 a.2.2;split
  .exact⟨rfl,rfl,c,mT _,mW _,λ_ h=>h,A' _,mW _,λ_ h=>h,A' _⟩
  .split
   .exact .refl p
   .exact⟨rfl,rfl,c,mT _,mW _,λ_ h=>h,A' _,mW _,λ_ h=>h,A' _⟩
theorem Ev.cl(p:Nod)(v:Vt):Ev p (p.cl v).1:=by
 unfold Nod.cl;split
 .exact .refl p
 .rename_i h
  have a:=Aq (mX.1 h);have c:p.vo.p.key<=v.b.key:=Bo a.2.1.2.1.pr a.1.1 a.2.2;split
  .exact⟨rfl,rfl,c,mT _,mW _,λ_ h=>h,A' _,mW _,λ_ h=>h,A' _⟩
  .split
   .exact .refl p
   .exact⟨rfl,rfl,c,mT _,mW _,λ_ h=>h,A' _,mW _,λ_ h=>h,A' _⟩
theorem Ev.bu{p q:Nod}(h:Ev p q)(x:List Pend):Ev p { q with bu:=x }:=⟨h.up,h.hU,h.vo,h.cF,h.ag,h.rN,h.next,h.qu,h.wa,h.dn⟩
theorem Ev.uK(p:Nod){l:List Cmd}(h:p.ae <+: l):Ev p { p with ae:=l }:=⟨rfl,rfl,mT _,mT _,h,λ_ h=>h,A' _,mW _,λ_ h=>h,A' _⟩
theorem Ev.ew(p:Nod)(to:Nat)(e:Int):Ev p (p.ew to e):=by
 unfold Nod.ew;split
 .exact(Ev.refl p).bu _
 .exact .refl p
theorem Ev.count(p:Nod)(j:Nat)(v:Vt):Ev p (p.count j v):=by
 unfold Nod.count;split
 .exact .refl p
 .split
  .exact .refl p
  .exact⟨rfl,rfl,mT _,mT _,IG _ _ _,λ_ h=>h,A' _,mW _,λ_ h=>h,A' _⟩
theorem Ev.uE(p:Nod)(l:List Cmd):Ev p (p.dT l):=by
 unfold Nod.dT;split
 .exact⟨rfl,rfl,mT _,mT _,mW _,λ_ h=>h,A' _,Qu _ _,λ_ h=>h,A' _⟩
 .exact .refl p
theorem Vp{f:Nat->Bool}{i j:Nat}(h:f j=true):upN f i true j=true:=by unfold upN;split<;>first|rfl|exact h
theorem Ev.take(p:Nod)(l:Let):Ev p (p.take l):=by
 unfold Nod.take;split
 .split
  .exact .ew p _ _
  .exact(Ev.au p l.hU).bu _
 .simp only;have a:Ev p (p.lr 0 l.gC):=.uK p (oH _ _);split
  .exact a
  .exact⟨rfl,rfl,mT _,mT _,a.ag.trans (IG _ _ _),λ_ h=>Vp h,A' _,mW _,λ_ h=>h,A' _⟩
 .exact⟨rfl,rfl,mT _,Int.le_max_left _ _,mW _,λ_ h=>h,A' _,mW _,λ_ h=>h,A' _⟩
 .split
  .exact .ew p _ _
  .exact(Ev.cl p l.cl).bu _
 .exact .count p _ _
 .split
  .exact(Ev.refl p).bu _
  .exact .uK p (oH _ _)
 .simp only;split
  .exact(Ev.uE p l.gC).bu _
  .exact .uE p l.gC
 .exact .refl p
theorem Ev.cx(p:Nod):Ev p p.cx:=by
 unfold Nod.cx;split
 .exact .refl p
 .rename_i hc
  have a:p.bn.next<=p.ae.length:=by omega
  split
  .exact .refl p
  .split
   .exact .refl p
   .have h1:=Ev.cl p ⟨(p.ae.length:Int),p.bn.hU,‹Cmd›⟩;exact⟨h1.up,rfl,h1.vo,h1.cF,h1.ag,λ_ h=>h,mS a (nX _),mW _,h1.wa,h1.dn⟩
theorem Ev.fv(p:Nod)(c:Cmd):Ev p (p.fv c):=by
 unfold Nod.fv;split
 .exact⟨rfl,rfl,mT _,mT _,mW _,λ_ h=>h,A' _,mW _,λ_ h=>List.mem_of_mem_erase h,A' _⟩
 .exact .refl p
theorem Ev.jv(p:Nod)(i:Nat):Ev p (p.jv i).1:=by
 have a:Ev p { p with bN:=(Bd p.vo.p p.bN (p.av.take 40)).2 }:=⟨rfl,rfl,mT _,mT _,mW _,λ_ h=>h,A' _,mW _,λ_ h=>h,A' _⟩;unfold Nod.jv;split
 .exact a
 .split
  .exact a.trans (.uE _ _)
  .exact a
theorem Ev.ln(p:Nod)(i:Nat)(q:Pend):Ev p (p.ln i q):=by
 cases q with
 | began b vs =>
  simp only[Nod.ln];split
  .exact .refl p
  .exact⟨rfl,rfl,mT _,mT _,mW _,λ_ h=>Vp h,A' _,mW _,λ_ h=>h,A' _⟩
 | prop v=>exact .count p i v
 | _=>exact .refl p
theorem Stp.ev{c:Nat}{M N:Meet}(s:Stp wh0 c M N)(j:Nat):Ev (M.ab j) (N.ab j):=by
 have put:∀ {i:Nat} {p:Nod} {a:List Let} {b:List Tol},Ev (M.ab i) p->Ev (M.ab j) ((M.set i p a b).ab j):=λ{i p a b} h=>by
  rw[Am];split
  .rename_i e;rw[e];exact h
  .exact .refl _
 cases s with
 | take _ l hl hd hu ht=>exact put (.take _ l)
 | br _ a h hd=>exact False.elim hd
 | one _ i c hi hu hc he =>
  refine put (Ev.trans (q:={ M.ab i with ni:=doS (M.ab i).ni c,done:=(M.ab i).done+1 }) ?_ (.fv _ c));exact⟨rfl,rfl,mT _,mT _,mW _,λ_ h=>h,A' _,mW _,λ_ h=>h,nX _⟩
 | ask _ i hi hu=>exact put (.jv _ i)
 | prop _ i hi hu=>exact put (.cx _)
 | so _ i hi hu h hT=>exact put ⟨rfl,rfl,mT _,mT _,mW _,λ_ h=>h,A' _,mW _,λ_ h=>h,A' _⟩
 | run _ i hi hu q l hp hs=>exact put ((Ev.ln _ i q).bu l)
 | sg _ i hi hu hL=>exact put ⟨rfl,rfl,mT _,mT _,mW _,λ_ h=>h,A' _,mW _,λ_ h=>h,A' _⟩
 | lead _ i hi hu hL=>exact False.elim hL
 | sub _ i d hi hu hD=>exact False.elim hD
 | lp _ i k hi hu hk hC=>exact False.elim hC
 | start _ i hi hu hs=>exact False.elim hs
theorem Stp.sC{c:Nat}{M N:Meet}(s:Stp wh0 c M N){l:Let}(a:l∈M.br):l∈N.br:=by
 cases s with
 | br _ ls h hd=>exact False.elim hd
 | ask _ i hi hu=>exact mV _ a
 | run _ i hi hu q l hp hs=>exact mV _ a
 | sg _ i hi hu hL=>exact mV _ a
 | _=>exact a
structure Cm(S:Cmd->Prop)(K:Int)(B:Nat->Bal)(cov:List (Bal × Nat))(M:Meet):Prop where
 ex:∃ σ,AgI σ M/\∀ b s c,σ.W b s c->(b,s)∈cov
 kb:K<=3600/\KbI K 3600 M
 up:∀ j,j<5->(M.ab j).up=true
 hU:∀ j,j<5->(M.ab j).bn.hU=B j
 s:MtS S M
section
variable{S:Cmd->Prop}{K:Int}{B:Nat->Bal}{cov:List (Bal × Nat)}
theorem Cm.step(n:∀ j,j<5->∀ s,s<40->(B j,s)∈cov){c:Nat}{M N:Meet}(s:Stp wh0 c M N)(h:Cm S K B cov M):Cm S K B cov N:=by
 obtain⟨σ,d,f⟩:=h.ex;obtain⟨τ,o,p,k,l,m⟩:=d.step s;refine⟨⟨τ,k,λb t c g=>?_⟩,⟨h.kb.1,h.kb.2.step (λe=>e) d s h.kb.1⟩,λj a=>(s.ev j).up.trans (h.up j a),λj a=>(s.ev j).hU.trans (h.hU j a),h.s.step (λ_ _ e=>False.elim e) s⟩;rcases l b t c g with g|g
 .exact f b t c g
 .obtain⟨_,h7,i,hi,e⟩:=m b t g;rw[e,h.hU i hi];exact n i hi t h7
theorem Cm.sT{M:Meet}(h:Cm S K B cov M){j:Nat}(a:j<5):AV (M.ab j).d (M.ab j).sy:=by
 obtain⟨σ,b,_⟩:=h.ex;obtain⟨c,k⟩:=(b.nd j a).up (h.up j a);exact k.tp.sT
theorem Cm.le{M:Meet}(h:Cm S K B cov M){j:Nat}(a:j<5):(M.ab j).vo.p.key<=K:=by
 have:=(h.kb.2 j a).1;unfold Nod.pk at this
 rwa [if_pos (h.up j a)]at this
theorem Cm.len{M:Meet}(h:Cm S K B cov M){j:Nat}(a:j<5):((M.ab j).d.length:Int)<=14*K+38*(cov.length:Int):=by
 obtain⟨σ,b,c⟩:=h.ex;have e:=bF b c a (h.up j a);have:=h.le a;omega
end
section
variable{S:Cmd->Prop}{K:Int}{B:Nat->Bal}{cov:List (Bal × Nat)}{M:Meet}
theorem Cm.acc(h:Cm S K B cov M){j:Nat}(a:j<5):Ag (M.ab j).vo:=by
 obtain⟨σ,b,_⟩:=h.ex;obtain⟨c,k⟩:=(b.nd j a).up (h.up j a);rw[k.tp.vo];exact k.tp.ok.acc
theorem Cm.prom(h:Cm S K B cov M)(k:14*K+38*(cov.length:Int)<=99000){j:Nat}(a:j<5){b:Bal}(c:Ac b)(i:¬ b.lt (M.ab j).vo.p):((M.ab j).au b).2.2=0/\((M.ab j).au b).1.vo.p=b:=by
 have e:Cn (M.ab j).vo b=0:=by unfold Cn;rw[if_neg (λg=>g (h.acc a)),if_neg (λg=>g c),if_neg i]
 have f:CH (M.ab j).d (M.ab j).sy (Ac b) (Bu b)=0:=by
  have:=h.len a;unfold CH;rw[Ve (h.sT a) (by rw[Kr];omega),if_neg (λg=>g rfl),if_pos c]
 unfold Nod.au;rw[if_neg (λg=>g e)];split
 .exact⟨rfl,rfl⟩
 .rw[if_neg (λg=>g f)];exact⟨rfl,rfl⟩
theorem Cm.uj(h:Cm S K B cov M)(k:14*K+38*(cov.length:Int)<=99000){j:Nat}(a:j<5){v:Vt}(c:Ah v)(i:¬ v.b.lt (M.ab j).vo.p):((M.ab j).cl v).2=0/\((M.ab j).cl v).1.vo.p=v.b:=by
 have e:Bb (M.ab j).vo v=0:=by unfold Bb;rw[if_neg (λg=>g (h.acc a)),if_neg (λg=>g c),if_neg i]
 have f:CH (M.ab j).d (M.ab j).sy (Ah v) (Bj v)=0:=by
  have:=h.len a;unfold CH;rw[Ve (h.sT a) (by rw[GR];omega),if_neg (λg=>g rfl),if_pos c]
 unfold Nod.cl;rw[if_neg (λg=>g e)];split
 .exact⟨rfl,rfl⟩
 .rw[if_neg (λg=>g f)];exact⟨rfl,rfl⟩
end
section
variable{I J:Meet->Prop}
theorem EG(M:Meet){i j:Nat}(h:j≠i):(M.act (acN 3 (i:Int))).ab j=M.ab j:=by
 unfold Meet.act;simp only[acN];rw[if_neg (by decide),if_neg (by decide),if_pos trivial,Am,if_neg (by rw[nE];exact h)]
theorem Fv(i:∀ c M N,Stp wh1 c M N->I M->I N)(r:∀ c M N,Stp wh1 c M N->I M->J M->J N)(z:∀ M j,I M->j<5->(M.ab j).up=true/\AV (M.ab j).d (M.ab j).sy){n:Nat}{M:Meet}(v:MOk n M)(D:n+5<=1000000)(h:I M){j:Nat}(m:j<5){q:Pend}(w:q∈(M.ab j).bu)
  (x:∀ N l,I N->Ev (M.ab j) (N.ab j)->(N.ab j).bu=q::l->J (N.set j { (N.ab j).ln j q with bu:=l } (N.br++(N.ab j).sc j q) N.ed)):J (M.dc (AG 3 5)):=by
 have y:∀ k,k<=5->MOk (n+k) (M.dc (AG 3 k))/\I (M.dc (AG 3 k))/\(k<=j->(M.dc (AG 3 k)).ab j=M.ab j)/\(j<k->J (M.dc (AG 3 k))):=by
  intro k;induction k with
  | zero=>exact λ_=>⟨v,h,λ_=>rfl,λe=>absurd e (pf _)⟩
  | succ k ih =>
   intro C;obtain⟨b,f,p,u⟩:=ih (by omega);rw[BS,AL];refine⟨b.act (by omega) (FU (by omega)),Cz i b (by omega) f,λe=>by rw[EG _ (by omega)];exact p (by omega),λe=>?_⟩;by_cases t:j<k
   .exact(Cz (I:=λN=>I N/\J N) (λc A B s g=>⟨i c A B s g.1,r c A B s g.1 g.2⟩) b (by omega) ⟨f,u t⟩).2
   .obtain rfl:k=j:=by omega
    have o:=p (A' _);have a:=z _ k f m;exact Xd (I:=λN=>I N/\Ev (M.ab k) (N.ab k)) (λc A B s g=>⟨i c A B s g.1,g.2.trans (s.calm.ev k)⟩) (λc A B s g=>r c A B s g.1) b m a.1 a.2 (by rw[o];exact w) ⟨f,by rw[o];exact .refl _⟩ λN l g=>x N l g.1 g.2
 exact(y 5 (A' _)).2.2.2 m
theorem Bl(d:∀ c M N,Stp wh1 c M N->I M->I N){n:Nat}{M:Meet}(e:MOk n M)(i:n+5<=1000000)(h:I M):MOk (n+5) (M.dc (AG 3 5))/\I (M.dc (AG 3 5)):=by
 have f:∀ k,k<=5->MOk (n+k) (M.dc (AG 3 k))/\I (M.dc (AG 3 k)):=by
  intro k;induction k with
  | zero=>exact λ_=>⟨e,h⟩
  | succ k ih =>
   intro g;obtain⟨a,b⟩:=ih (by omega);rw[BS,AL];exact⟨a.act (by omega) (FU (by omega)),Cz d a (by omega) b⟩
 exact f 5 (A' _)
theorem Cr(d:∀ M N,TkS M N->I M->I N){n:Nat}{M:Meet}(b:MOk n M)(h:I M):∃ N,M.act (acN 7 0)={ N with br:=[] }/\I N/\N.br=M.br:=by
 have c:M.act (acN 7 0)={ M.br.foldl (λM l=>M.pd l) M with br:=[] }:=by
  show M.si=_;unfold Meet.si;rw[H9]
 have:=Jz d M.br (M:=M) (λm a=>⟨a,(b.br m a).src,(b.br m a).dst⟩) h;exact⟨_,c,this⟩
end
theorem Stp.uh{c:Nat}{M N:Meet}(s:Stp wh1 c M N)(j:Nat):(N.ab j).vo.p=(M.ab j).vo.p:=by
 have put:∀ {i:Nat} {p:Nod} {b:List Let} {f:List Tol},p.vo.p=(M.ab i).vo.p->((M.set i p b f).ab j).vo.p=(M.ab j).vo.p:=λ{i p b f} h=>by
  rw[Am];split
  .rename_i e;rw[e];exact h
  .rfl
 cases s with
 | take _ l a hd hu ht=>exact False.elim ht
 | br _ b h hd=>exact False.elim hd
 | one _ i c hi hu hc he=>exact put (by unfold Nod.fv;split<;>rfl)
 | ask _ i hi hu=>exact put (by
   unfold Nod.jv;split
   .rfl
   .split
    .unfold Nod.dT;split<;>rfl
    .rfl)
 | prop _ i hi hu=>exact put (by
   unfold Nod.cx;split
   .rfl
   .rename_i hc
    have a:(M.ab i).bn.hU=(M.ab i).vo.p:=by
     have:(M.ab i).leads=true:=by cases hh:(M.ab i).leads with|true=>rfl|false=>exact absurd (.inl hh) hc
     exact(nL this).2
    split
    .rfl
    .split
     .rfl
     .show((M.ab i).cl _).1.vo.p=_;unfold Nod.cl;split
      .rfl
      .split
       .exact a
       .split
        .rfl
        .exact a)
 | so _ i hi hu h hT=>exact put rfl
 | run _ i hi hu q l hp hs=>exact put (by
   show((M.ab i).ln i q).vo.p=_;cases q<;>first|rfl|(simp only[Nod.ln];split<;>rfl)|(simp only[Nod.ln,Nod.count];split<;>first|rfl|(split<;>rfl)))
 | sg _ i hi hu hL=>exact put rfl
 | lead _ i hi hu hL=>exact False.elim hL
 | sub _ i d hi hu hD=>exact False.elim hD
 | lp _ i k hi hu hk hC=>exact False.elim hC
 | start _ i hi hu hs=>exact False.elim hs
theorem MA{i:Nat}(l:Let){j k:Nat}(a:j<k)(h:j≠i):{ l with src:=i,dst:=j }∈BV i l k:=nw.2 ⟨j,pO.2 ⟨pM.2 a,O' h⟩,rfl⟩
section
variable{S:Cmd->Prop}{K:Int}{B:Nat->Bal}{cov:List (Bal × Nat)}
theorem Cm.drop{M:Meet}(h:Cm S K B cov M):Cm S K B cov { M with br:=[] }:=by
 obtain⟨σ,b,c⟩:=h.ex;exact⟨⟨σ,⟨b.gs,b.nd,λl a=>by cases a⟩,c⟩,h.kb,h.up,h.hU,⟨h.s.nd,λl a=>by cases a⟩⟩
def Gr8(K:Int)(p:Nod):Prop:=K<=5*p.cF+4\/K<=p.vo.p.key
theorem Gr8.ev{p q:Nod}(h:Gr8 K p)(e:Ev p q):Gr8 K q:=by
 have:=e.cF;have:=e.vo;unfold Gr8 at *;omega
theorem iX(Q:∀ j,j<5->∀ s,s<40->(B j,s)∈cov){n:Nat}{M:Meet}(C:MOk n M)(hn:n+12<=1000000)(h:Cm S K B cov M){i:Nat}(R:i<5){j:Nat}(f:j<5)(O:(M.ab j).vo.p.key=K){b:Bal}{vs:List Vt}(P:(M.ab i).vo.p=b)(u:Ac b)(hq:.began b vs∈(M.ab i).bu) :
  Gr8 K ((M.dc (An++An)).ab i):=by
 have X:∀ A:Meet,A.dc (An++An)=(((A.dc (AG 3 5)).act (acN 7 0)).dc (AG 3 5)).act (acN 7 0):=λA=>by
  rw[AE,show An=AG 3 5++[acN 7 0]from rfl,AL,AL]
 have a:∀ c A N,Stp wh1 c A N->Cm S K B cov A->Cm S K B cov N:=λc A N s g=>g.step Q s.calm;have d:∀ A N,TkS A N->Cm S K B cov A->Cm S K B cov N:=λA N s g=>g.step Q s.sF;have m:LacOk (acN 7 0):=by rw[<- DM];decide
 rw[X];by_cases D:Gr8 K (M.ab i)
 .-- it knows already
  have z:=Bl (I:=λN=>Cm S K B cov N/\Gr8 K (N.ab i)) (λc A N s g=>⟨a c A N s g.1,g.2.ev (s.calm.ev i)⟩) C (by omega) ⟨h,D⟩;obtain⟨N,F,x,_⟩:=Cr (I:=λN=>Cm S K B cov N/\Gr8 K (N.ab i)) (λA N s g=>⟨d A N s g.1,g.2.ev (s.sF.ev i)⟩) z.1 z.2;have t:=z.1.act (by omega) m;rw[F]at t ⊢
  have L:=Bl (I:=λN=>Cm S K B cov N/\Gr8 K (N.ab i)) (λc A N s g=>⟨a c A N s g.1,g.2.ev (s.calm.ev i)⟩) t (by omega) ⟨x.1.drop,x.2⟩;obtain⟨U,G,T,_⟩:=Cr (I:=λN=>Cm S K B cov N/\Gr8 K (N.ab i)) (λA N s g=>⟨d A N s g.1,g.2.ev (s.sF.ev i)⟩) L.1 L.2;rw[G];exact T.2
 .have hij:i≠j:=λe=>D (.inr (by rw[e,O];exact mT _));have a0:b.key<K:=by rw[<- P];unfold Gr8 at D;omega
  obtain⟨b0,o⟩:∃ b0,(M.ab j).vo.p=b0:=⟨_,rfl⟩;rw[o]at O
  have w:Ap b0:=by rw[<- o];exact(h.acc f).1
  have E:∀ A N,TkS A N->Cm S K B cov A->(A.ab j).vo.p=b0->(N.ab j).vo.p=b0:=λA N s g e=>by
   have Y:=(s.sF.ev j).vo;have h2:=(d A N s g).le f;rw[e]at Y
   exact DL ((d A N s g).acc f).1 w (by omega)
  have y:=Bl (I:=λN=>Cm S K B cov N/\(N.ab j).vo.p=b0) (λc A N s g=>⟨a c A N s g.1,(s.uh j).trans g.2⟩) C (by omega) ⟨h,o⟩;have V:=Fv (I:=λN=>Cm S K B cov N/\(N.ab i).vo.p=b) (J:=λN=>({ BC 0 with hU:=b,src:=i,dst:=j }:Let)∈N.br) (λc A N s g=>⟨a c A N s g.1,(s.uh i).trans g.2⟩) (λc A N s _ g=>s.calm.sC g) (λA k g v=>⟨g.1.up k v,g.1.sT v⟩) C (by omega) ⟨h,P⟩ R hq (λN l g _ _=>by
   refine mU _ ?_;simp only[Nod.sc];rw[if_neg (λe=>e g.2)];exact MA { BC 0 with hU:=b } f (Ne.symm hij))
  obtain⟨N,F,x,G,T⟩:=DP (I:=λN=>Cm S K B cov N/\(N.ab j).vo.p=b0) (J:=λN=>Pend.ew i b0∈(N.ab j).bu) (λA N s g=>⟨d A N s g.1,E A N s g.1 g.2⟩) (λA N s _ g=>by
   obtain⟨l,_,_,_,rfl⟩:=s;rw[Am];split
   .rename_i e;rw[<- e];exact Hl g
   .exact g) y.1 y.2 V (λN g=>g.1.up j f) (λN g _=>by
   rw[Am,if_pos rfl];have Z:Cn (N.ab j).vo b=7:=by
    unfold Cn;rw[if_neg (λe=>e (g.1.acc f)),if_neg (λe=>e u),if_pos (by rw[Fc u.pr (g.1.acc f).1,g.2];omega)]
   have h8:(N.ab j).au b=(N.ab j,[],7):=by unfold Nod.au;rw[Z,if_pos (by decide)]
   show Pend.ew i b0∈(if((N.ab j).au b).2.2≠0 then(N.ab j).ew i ((N.ab j).au b).2.2 else _).bu;rw[h8,if_pos (show(7:Int)≠0 by decide)];unfold Nod.ew;rw[if_pos rfl,<- g.2];exact mU _ (D'.2 rfl))
  have t:=y.1.act (by omega) m;rw[F]at t ⊢
  have H:=Bl (I:=Cm S K B cov) a t (by omega) x.1.drop;have W:=Fv (I:=Cm S K B cov) (J:=λN=>({ BC 2 with hU:=b0,src:=j,dst:=i }:Let)∈N.br) a (λc A N s _ g=>s.calm.sC g) (λA k g v=>⟨g.up k v,g.sT v⟩) t (by omega) x.1.drop f (q:=.ew i b0) G (λN l g _ _=>mU _ (D'.2 rfl));obtain⟨U,k5,k6,k7,_⟩:=DP (I:=Cm S K B cov) (J:=λN=>Gr8 K (N.ab i)) d (λA N s _ g=>g.ev (s.sF.ev i)) H.1 H.2 W (λN g=>g.up i R) (λN g _=>by
   rw[Am,if_pos rfl];refine .inl ?_;show K<=5*max (N.ab i).cF b0.r+4;have:b0.key<=5*b0.r+4:=by unfold Ap Ac at w;unfold Bal.key;omega
   omega)
  rw[k5];exact k7
end
def P1(i:Nat)(p:Nod):Prop:=p.bn.next=0/\∀ j,j≠i->p.bn.rN j=false
theorem P1.uQ{i:Nat}{p:Nod}(h:P1 i p):p.bn.sh=false:=by
 unfold Rnd.sh Jy;have k:=h.2;have g:∀ j,(p.bn.rN j).toNat<=if j=i then 1 else 0:=λj=>by
  split
  .cases p.bn.rN j<;>decide
  .rename_i e;rw[k j e];decide
 have a:=g 0;have b:=g 1;have c:=g 2;have d:=g 3;have f:=g 4;refine H' ?_;split at a<;>split at b<;>split at c<;>split at d<;>split at f<;>omega
theorem Stp.p1{c:Nat}{M N:Meet}(s:Stp wh1 c M N){i:Nat}(h:P1 i (M.ab i)):P1 i (N.ab i):=by
 have put:∀ {k:Nat} {p:Nod} {a:List Let} {m:List Tol},(i=k->P1 i p)->P1 i ((M.set k p a m).ab i):=λ{k p a m} g=>by
  rw[Am];split
  .rename_i e;exact g e
  .exact h
 cases s with
 | take _ l hl hd hu ht=>exact False.elim ht
 | br _ a h hd=>exact False.elim hd
 | one _ k c hi hu hc he=>exact put λe=>by subst e;unfold Nod.fv;split<;>exact h
 | ask _ k hi hu =>
  exact put λe=>by
   subst e;unfold Nod.jv;split
   .exact h
   .split
    .unfold Nod.dT;split<;>exact h
    .exact h
 | prop _ k hi hu =>
  exact put λe=>by
   subst e;unfold Nod.cx;rw[if_pos (.inr (.inl h.uQ))];exact h
 | so _ k hi hu hs hT=>exact put λe=>by subst e;exact h
 | run _ k hi hu q l hp hs =>
  exact put λe=>by
   subst e;show P1 i ((M.ab i).ln i q);cases q with
   | began b vs =>
    simp only[Nod.ln];split
    .exact h
    .exact⟨h.1,λj f=>by show upN (M.ab i).bn.rN i true j=false;rw[D2 _ _ f];exact h.2 j f⟩
   | prop v =>
    simp only[Nod.ln,Nod.count];split
    .exact h
    .split<;>exact h
   | _=>exact h
 | sg _ k hi hu hL=>exact put λe=>by subst e;exact h
 | lead _ k hi hu hL=>exact False.elim hL
 | sub _ k d hi hu hD=>exact False.elim hD
 | lp _ k x hi hu hk hC=>exact False.elim hC
 | start _ k hi hu hs=>exact False.elim hs
theorem fx{i:Nat}{p:Nod}(h:P1 i p){l:Let}(c:l.kind=1->l.src≠i->l.hU≠p.bn.hU):P1 i (p.take l):=by
 have f:∀ v,P1 i (p.cl v).1:=λv=>by
  unfold Nod.cl;split
  .exact h
  .split
   .exact h
   .split<;>exact h
 unfold Nod.take;split
 .split
  .unfold Nod.ew;split<;>exact h
  .show P1 i (p.au l.hU).1;unfold Nod.au;split
   .exact h
   .split
    .exact h
    .split<;>exact h
 .rename_i hk
  simp only;split
  .exact h
  .rename_i hc
   have b:l.hU=p.bn.hU:=nQ λe=>hc (.inr (.inl e));have d:l.src=i:=nQ λe=>c hk e b;exact⟨h.1,λj a=>by show upN p.bn.rN l.src true j=false;rw[D2 _ _ (by rw[d];exact a)];exact h.2 j a⟩
 .exact h
 .split
  .unfold Nod.ew;split<;>exact h
  .exact f _
 .unfold Nod.count;split
  .exact h
  .split<;>exact h
 .split<;>exact h
 .simp only;unfold Nod.dT;split<;>split<;>exact h
 .exact h
section
variable{S:Cmd->Prop}{K:Int}{B:Nat->Bal}{cov:List (Bal × Nat)}
theorem Cm.top(a:∀ j,j<5->∀ s,s<40->(B j,s)∈cov){c:Nat}{A N:Meet}(s:Stp wh0 c A N)(g:Cm S K B cov A){b:Bal}(h:Ap b)(k:b.key=K){j:Nat}(d:j<5)(e:(A.ab j).vo.p=b):(N.ab j).vo.p=b:=by
 have f:=(s.ev j).vo;have i:=(g.step a s).le d;rw[e]at f
 exact DL ((g.step a s).acc d).1 h (by omega)
theorem eA(D:∀ j,j<5->∀ s,s<40->(B j,s)∈cov)(hQ:14*K+38*(cov.length:Int)<=99000){n:Nat}{M:Meet}(Y:MOk n M)(hn:n+12<=1000000)(h:Cm S K B cov M){i:Nat}(L:i<5){b:Bal}(o:Ac b)(X:b.key=K)(hB:B i=b)(hv:(M.ab i).vo.p=b)(R:∀ j,j<5->j≠i->(M.ab j).vo.p.key<K){d:List Vt}(hq:.began b d∈(M.ab i).bu)(T:P1 i (M.ab i)) :
  Cm S K B cov (M.dc An)/\(∀ j,j<5->((M.dc An).ab j).vo.p=b)/\((M.dc An).ab i).bn.rN i=true/\(∀ j,j<5->j≠i->∃ d,Pend.prom i b d∈((M.dc An).ab j).bu)/\P1 i ((M.dc An).ab i)/\(M.dc An).br=[]/\MOk (n+6) (M.dc An):=by
 have v:LacOk (acN 7 0):=by rw[<- DM];decide
 have t:∀ c A N,Stp wh1 c A N->Cm S K B cov A->Cm S K B cov N:=λc A N s g=>g.step D s.calm;have u:∀ A N,TkS A N->Cm S K B cov A->Cm S K B cov N:=λA N s g=>g.step D s.sF;have U:=Bl (I:=λN=>Cm S K B cov N/\(∀ j,(N.ab j).vo.p=(M.ab j).vo.p)/\P1 i (N.ab i)) (λc A N s g=>⟨t c A N s g.1,λj=>(s.uh j).trans (g.2.1 j),s.p1 g.2.2⟩) Y (by omega) ⟨h,λ_=>rfl,T⟩;have F:=Fv (I:=λN=>Cm S K B cov N/\(N.ab i).vo.p=b) (J:=λN=>(∀ j,j<5->j≠i->({ BC 0 with hU:=b,src:=i,dst:=j }:Let)∈N.br)/\(N.ab i).bn.rN i=true) (λc A N s g=>⟨t c A N s g.1,(s.uh i).trans g.2⟩) (λc A N s _ g=>⟨λj a e=>s.calm.sC (g.1 j a e),(s.calm.ev i).rN i g.2⟩) (λA k g E=>⟨g.1.up k E,g.1.sT E⟩) Y (by omega) ⟨h,hv⟩ L hq (λN l g _ _=>by
  refine⟨λj a e=>mU _ ?_,?_⟩
  .simp only[Nod.sc];rw[if_neg (λe=>e g.2)];exact MA { BC 0 with hU:=b } a e
  .rw[Am,if_pos rfl];show((N.ab i).ln i (.began b d)).bn.rN i=true;simp only[Nod.ln];rw[if_neg (λe=>e g.2)];exact Dd _ _ _)
 rw[show An=AG 3 5++[acN 7 0]from rfl,AL];generalize M.dc (AG 3 5)=A at U F ⊢;obtain⟨z,f,r,H⟩:=U;have Q:∀ m∈A.br,m.kind=1->m.src≠i->m.hU≠b:=λm Z E hs e=>by
  obtain⟨σ,y,_⟩:=f.ex;have q:=(z.br m Z).src;have G:=((y.lt m Z).k1 E).1.le;have W:=(y.nd _ q).sV;unfold Nod.pk at W;rw[if_pos (f.up _ q),r]at W
  have h4:=R _ q hs;have h6:m.hU.key<=σ.P m.src:=G;rw[e]at h6
  omega
 obtain⟨N,k1,⟨k2,k3,k4,k5,k6⟩,k7⟩:=Cr (I:=λN=>Cm S K B cov N/\(N.ab i).vo.p=b/\P1 i (N.ab i)/\(N.ab i).bn.rN i=true/\N.br=A.br) (λC N s g=>by
  refine⟨u C N s g.1,g.1.top D s.sF o.pr X L g.2.1,?_,(s.sF.ev i).rN i g.2.2.2.1,?_⟩
  .obtain⟨l,hl,_,_,rfl⟩:=s;rw[Am];split
   .rename_i e
    rw[<- e];exact fx g.2.2.1 λy G=>by rw[g.1.hU i L,hB];exact Q l (by rw[<- g.2.2.2.2];exact hl) y G
   .exact g.2.2.1
  .obtain⟨l,hl,_,_,rfl⟩:=s;exact g.2.2.2.2) z ⟨f,(r i).trans hv,H,F.2,rfl⟩
 have a:∀ j,j<5->j≠i->((A.act (acN 7 0)).ab j).vo.p=b/\∃ d,Pend.prom i b d∈((A.act (acN 7 0)).ab j).bu:=λj a O=>by
  obtain⟨N',q1,q2,q3,_⟩:=DP (I:=Cm S K B cov) (J:=λN=>(N.ab j).vo.p=b/\∃ d,Pend.prom i b d∈(N.ab j).bu) u (λC N s g e=>⟨g.top D s.sF o.pr X a e.1,by
   obtain⟨d,V⟩:=e.2;refine⟨d,?_⟩;obtain⟨l,_,_,_,rfl⟩:=s;rw[Am];split
   .rename_i e3;rw[<- e3];exact Hl V
   .exact V⟩) z f (F.1 j a O) (λN g=>g.up j a) (λN g _=>by
   rw[Am,if_pos rfl];have a0:=g.le a;have x:=g.prom hQ a o (by rw[Fc o.pr (g.acc a).1];omega);have e:(N.ab j).take ({ BC 0 with hU:=b,src:=i,dst:=j }:Let)=((N.ab j).au b).1.wait (.prom i b ((N.ab j).au b).2.1):=by
    show(if((N.ab j).au b).2.2≠0 then _ else _)=_;rw[if_neg (λg=>g x.1)]
   rw[e];exact⟨x.2,_,mU _ (D'.2 rfl)⟩)
  rw[q1];exact q3
 have w:=z.act (by omega) v;rw[k1]at a w ⊢
 exact⟨k2.drop,λj q=>by
  by_cases e:j=i
  .rw[e];exact k3
  .exact(a j q e).1,k5,λj q e=>(a j q e).2,k4,rfl,w⟩
end
section
theorem fF(f:Cmd->Option Bal)(c:Cmd)(b:Option Bal):BW f c b c=b:=if_pos rfl
theorem Vr(f:Cmd->Option Bal){c d:Cmd}(b:Option Bal)(h:d≠c):BW f c b d=f d:=if_neg h
theorem Lp{b:Bal}(p:b≠Bf)(l:List Cmd)(f:Cmd->Option Bal):(∀ c,c∉l->(Bd b f l).2 c=f c)/\(∀ c∈l,(Bd b f l).2 c=some b)/\(∀ c∈l,f c=some b\/c∈(Bd b f l).1)/\∀ c∈(Bd b f l).1,c∈l:=by
 induction l generalizing f with
 | nil=>exact⟨λ_ _=>rfl,λ_ h=>(by cases h),λ_ h=>(by cases h),λ_ h=>(by cases h)⟩
 | cons c l ih =>
  rw[Bd];split
  .rename_i hc
   obtain⟨j,k,m,n⟩:=ih (BW f c (some b));refine⟨λd a=>?_,λd a=>?_,λd a=>?_,λd a=>?_⟩
   .show(Bd b (BW f c (some b)) l).2 d=f d;rw[j d λe=>a (I' _ e),Vr _ _ λe=>a (by rw[e];exact M')]
   .show(Bd b (BW f c (some b)) l).2 d=some b;by_cases i:d∈l
    .exact k d i
    .rcases mZ.1 a with rfl|e
     .rw[j d i,fF]
     .exact absurd e i
   .rcases mZ.1 a with rfl|e
    .exact .inr M'
    .by_cases e2:d=c
     .rw[e2];exact .inr M'
     .rcases m d e with g|g
      .rw[Vr _ _ e2]at g;exact .inl g
      .exact .inr (I' _ g)
   .rcases mZ.1 a with rfl|e
    .exact M'
    .exact I' _ (n d e)
  .rename_i hc
   have o:f c=some b:=by
    have:=mX.1 hc;cases hh:f c with
    | none=>rw[hh]at this;exact absurd this.symm p
    | some x=>rw[hh]at this;exact congrArg some this
   obtain⟨j,k,m,n⟩:=ih f;refine⟨λd a=>j d λe=>a (I' _ e),λd a=>?_,λd a=>?_,λd a=>I' _ (n d a)⟩
   .by_cases i:d∈l
    .exact k d i
    .rcases mZ.1 a with rfl|e
     .rw[j d i];exact o
     .exact absurd e i
   .rcases mZ.1 a with rfl|e
    .exact .inl o
    .exact m d e
theorem Ib(l q:List Cmd)(h:q.Nodup):(Hp q l).Nodup:=by
 induction l generalizing q with
 | nil=>exact h
 | cons c l ih =>
  rw[Hp];refine ih _ ?_;split
  .rename_i hc
   exact pA.2 ⟨h,pB.2 ⟨Q',oV⟩,λx a y b e=>hc.2 (by rw[<- D'.1 b,<- e];exact a)⟩
  .exact h
theorem Qt{C:List Cmd}(j:C.length<40)(l q:List Cmd)(g:q.Nodup)(a:∀ c∈q,c∈C)(b:∀ c∈l,c∈C):∀ c∈l,c∈Hp q l:=by
 induction l generalizing q with
 | nil=>exact λc hc=>by cases hc
 | cons d l ih =>
  have f:=La g a;have i:=b d M';intro c hc;rw[Hp];have h:d∈(if q.length<40/\d∉q then q++[d]else q):=by
   by_cases e:d∈q
   .split
    .exact mV _ e
    .exact e
   .rw[if_pos ⟨by omega,e⟩];exact mU _ (D'.2 rfl)
  rcases mZ.1 hc with rfl|hc
  .exact(Qu l _).subset h
  .refine ih _ ?_ (λx hx=>?_) (λx hx=>b x (I' _ hx)) c hc
   .exact Ib [d] q g
   .split at hx
    .rcases P'.1 hx with hx|hx
     .exact a x hx
     .rw[D'.1 hx];exact i
    .exact a x hx
structure AskI(p:Nod):Prop where
 nd:p.av.Nodup
 wa:∀ c,c∈p.av↔(p.bN c).isSome=true
 le:∀ c x,p.bN c=some x->x.key<=p.vo.p.key
 un:∀ c∈p.av,c∉p.ae.take p.done
 qn:p.bn.fa.Nodup
 dn:p.done<=p.ae.length
theorem RD{α:Type}{l m:List α}{k:Nat}(h:l <+: m)(a:k<=l.length):m.take k=l.take k:=by obtain⟨x,rfl⟩:=h;exact nv a
variable{M N:Meet}{p:Nod}
theorem AskI.nn{q:Nod}(h:AskI p)(e:Ev p q)(i:q.av=p.av/\q.bN=p.bN/\q.done=p.done)(f:q.bn.fa.Nodup):AskI q:=by
 obtain⟨a,b,d⟩:=i;refine⟨by rw[a];exact h.nd,by rw[a,b];exact h.wa,λc x g=>ny (h.le c x (by rw[<- b];exact g)) e.vo,?_,f,by rw[d];exact mS h.dn e.ag.length_le⟩;rw[a,d,RD e.ag h.dn];exact h.un
theorem AO(p:Nod)(b:Bal):((p.au b).1.av=p.av/\(p.au b).1.bN=p.bN/\(p.au b).1.done=p.done)/\(p.au b).1.bn=p.bn:=by
 unfold Nod.au;split
 .exact⟨⟨rfl,rfl,rfl⟩,rfl⟩
 .split
  .exact⟨⟨rfl,rfl,rfl⟩,rfl⟩
  .split<;>exact⟨⟨rfl,rfl,rfl⟩,rfl⟩
theorem BX(p:Nod)(v:Vt):((p.cl v).1.av=p.av/\(p.cl v).1.bN=p.bN/\(p.cl v).1.done=p.done)/\(p.cl v).1.bn=p.bn:=by
 unfold Nod.cl;split
 .exact⟨⟨rfl,rfl,rfl⟩,rfl⟩
 .split
  .exact⟨⟨rfl,rfl,rfl⟩,rfl⟩
  .split<;>exact⟨⟨rfl,rfl,rfl⟩,rfl⟩
theorem Ji(p:Nod)(l:Let)(a:p.bn.fa.Nodup):((p.take l).av=p.av/\(p.take l).bN=p.bN/\(p.take l).done=p.done)/\(p.take l).bn.fa.Nodup:=by
 unfold Nod.take;split
 .split
  .unfold Nod.ew;split<;>exact⟨⟨rfl,rfl,rfl⟩,a⟩
  .have:=AO p l.hU;exact⟨this.1,by show(p.au l.hU).1.bn.fa.Nodup;rw[this.2];exact a⟩
 .simp only;split<;>exact⟨⟨rfl,rfl,rfl⟩,a⟩
 .exact⟨⟨rfl,rfl,rfl⟩,a⟩
 .split
  .unfold Nod.ew;split<;>exact⟨⟨rfl,rfl,rfl⟩,a⟩
  .have:=BX p l.cl;exact⟨this.1,by show(p.cl l.cl).1.bn.fa.Nodup;rw[this.2];exact a⟩
 .unfold Nod.count;split
  .exact⟨⟨rfl,rfl,rfl⟩,a⟩
  .split<;>exact⟨⟨rfl,rfl,rfl⟩,a⟩
 .split<;>exact⟨⟨rfl,rfl,rfl⟩,a⟩
 .simp only;unfold Nod.dT;split<;>split<;>first|exact⟨⟨rfl,rfl,rfl⟩,a⟩|exact⟨⟨rfl,rfl,rfl⟩,Ib _ _ a⟩
 .exact⟨⟨rfl,rfl,rfl⟩,a⟩
theorem AskI.jv(h:AskI p)(i:Nat)(q:0<=p.vo.p.key):AskI (p.jv i).1:=by
 have key:∀ (l:List Cmd) (f:Cmd->Option Bal),(∀ c,c∈l->(f c).isSome=true)->(∀ c,((Bd p.vo.p f l).2 c).isSome=(f c).isSome)/\∀ c x,(Bd p.vo.p f l).2 c=some x->f c=some x\/x=p.vo.p:=by
  intro l;induction l with
  | nil=>exact λf _=>⟨λ_=>rfl,λ_ _ g=>.inl g⟩
  | cons c l ih =>
   intro f j;rw[Bd];split
   .have hu:∀ d,(BW f c (some p.vo.p) d).isSome=(f d).isSome:=λd=>by
     unfold BW;split
     .rename_i e;rw[e,j c M'];rfl
     .rfl
    obtain⟨a,k⟩:=ih (BW f c (some p.vo.p)) λd b=>by rw[hu];exact j d (I' _ b)
    refine⟨λd=>(a d).trans (hu d),λd x g=>?_⟩;rcases k d x g with g|g
    .unfold BW at g;split at g
     .exact .inr (nP g).symm
     .exact .inl g
    .exact .inr g
   .exact ih f λd b=>j d (I' _ b)
 obtain⟨n,o⟩:=key (p.av.take 40) p.bN λc m=>(h.wa c).1 (nm m);have a:AskI { p with bN:=(Bd p.vo.p p.bN (p.av.take 40)).2 }:=⟨h.nd,λc=>by show _↔((Bd p.vo.p p.bN (p.av.take 40)).2 c).isSome=true;rw[n];exact h.wa c,λc x g=>by
  rcases o c x g with g|g
  .exact h.le c x g
  .rw[g];exact mT _,h.un,h.qn,h.dn⟩
 unfold Nod.jv;split
 .exact a
 .split
  .refine a.nn (.uE _ _) ?_ ?_
   .unfold Nod.dT;split<;>exact⟨rfl,rfl,rfl⟩
   .unfold Nod.dT;split
    .exact Ib _ _ h.qn
    .exact h.qn
  .exact a
theorem AskI.one(h:AskI p){c:Cmd}(b:p.ae[p.done]?=some c)(s:Sto):AskI (Nod.fv { p with ni:=s,done:=p.done+1 } c):=by
 have f:=(V'.1 b).1;have i:p.ae.take (p.done+1)=p.ae.take p.done++[c]:=by rw[oF,b];rfl
 unfold Nod.fv;split
 .refine⟨h.nd.erase c,λd=>?_,λd x g=>?_,λd a=>?_,h.qn,f⟩
  .show d∈p.av.erase c↔(BW p.bN c none d).isSome=true;rw[h.nd.mem_erase_iff];unfold BW;split
   .rename_i e;simp[e]
   .rename_i e;rw[h.wa d];simp[e]
  .have g:BW p.bN c none d=some x:=g;unfold BW at g;split at g
   .cases g
   .exact h.le d x g
  .have a:d∈p.av.erase c:=a;rw[h.nd.mem_erase_iff]at a
   show d∉p.ae.take (p.done+1);rw[i];intro e;rcases P'.1 e with e|e
   .exact h.un d a.2 e
   .exact a.1 (D'.1 e)
 .rename_i hn
  refine⟨h.nd,h.wa,h.le,λd a=>?_,h.qn,f⟩;show d∉p.ae.take (p.done+1);rw[i];intro e;rcases P'.1 e with e|e
  .exact h.un d a e
  .rw[D'.1 e]at a
   exact hn ((h.wa c).1 a)
theorem AskI.want(h:AskI p){c:Cmd}(b:c∉p.ae.take p.done)(a:0<=p.vo.p.key):AskI (p.want c):=by
 unfold Nod.want;split
 .exact h
 .rename_i hn
  have f:c∉p.av:=λe=>hn ((h.wa c).1 e);refine⟨pA.2 ⟨h.nd,pB.2 ⟨Q',oV⟩,λx i y j e=>f (by rw[<- D'.1 j,<- e];exact i)⟩,λd=>?_,λd x g=>?_,λd hd=>?_,h.qn,h.dn⟩
  .show d∈p.av++[c]↔(BW p.bN c (some Bf) d).isSome=true;unfold BW;split
   .rename_i e;simp[e]
   .rename_i e;rw[<- h.wa d];simp[e]
  .have g:BW p.bN c (some Bf) d=some x:=g;unfold BW at g;split at g
   .rw[<- nP g];exact a
   .exact h.le d x g
  .rcases P'.1 hd with hd|hd
   .exact h.un d hd
   .rw[D'.1 hd];exact b
theorem AskI.bare(p:Nod)(u:Bool)(d:List Int)(s:Int)(a:Acc)(x:List Pend):AskI (p.bare u d s a x):=⟨oV,λc=>⟨λe=>(by cases e),λe=>(by cases e)⟩,λc x e=>(by cases e),λc e=>(by cases e),oV,A' _⟩
theorem AskI.step{D:Wh}{c:Nat}(s:Stp D c M N){σ:Gs}(g:AgI σ M)(h:∀ j,j<5->AskI (M.ab j)):∀ j,j<5->AskI (N.ab j):=by
 intro j i;have put:∀ {k:Nat} {p:Nod} {f:List Let} {o:List Tol},(k<5->AskI p)->AskI ((M.set k p f o).ab j):=λ{k p f o} e=>by
  rw[Am];split
  .rename_i e2;exact e (by omega)
  .exact h j i
 have pos:∀ {k:Nat},k<5->(M.ab k).up=true->0<=(M.ab k).vo.p.key:=λ{k} m a=>by
  obtain⟨t,q⟩:=(g.nd k m).up a;have n:=q.tp.ok.acc.1;rw[<- q.tp.vo]at n
  unfold Ap Ac at n;unfold Bal.key;omega
 cases s with
 | take _ l hl hd a ht =>
  have:=Ji (M.ab l.dst) l (h _ hd.2).qn;exact put λ_=>(h _ hd.2).nn (.take _ l) this.1 this.2
 | br _ f hl hd=>exact h j i
 | one _ k c hi a hc he=>exact put λ_=>(h k hi).one hc _
 | ask _ k hi a=>exact put λ_=>(h k hi).jv k (pos hi a)
 | prop _ k hi a =>
  refine put λ_=>(h k hi).nn (.cx _) ?_ ?_
  .unfold Nod.cx;split
   .exact⟨rfl,rfl,rfl⟩
   .split
    .exact⟨rfl,rfl,rfl⟩
    .split
     .exact⟨rfl,rfl,rfl⟩
     .exact(BX (M.ab k) _).1
  .unfold Nod.cx;split
   .exact(h k hi).qn
   .split
    .exact(h k hi).qn
    .split<;>exact(h k hi).qn
 | so _ k hi a hs hT=>exact put λ_=>⟨(h k hi).nd,(h k hi).wa,(h k hi).le,(h k hi).un,(h k hi).qn,(h k hi).dn⟩
 | run _ k hi a q l hp hs =>
  refine put λ_=>(h k hi).nn ((Ev.ln _ k q).bu l) ?_ ?_
  .show((M.ab k).ln k q).av=_/\((M.ab k).ln k q).bN=_/\((M.ab k).ln k q).done=_;cases q<;>first|exact⟨rfl,rfl,rfl⟩|(simp only[Nod.ln];split<;>exact⟨rfl,rfl,rfl⟩)|(simp only[Nod.ln,Nod.count];split<;>first|exact⟨rfl,rfl,rfl⟩|(split<;>exact⟨rfl,rfl,rfl⟩))
  .show((M.ab k).ln k q).bn.fa.Nodup;have:=(h k hi).qn;cases q<;>first|exact this|(simp only[Nod.ln];split<;>exact this)|(simp only[Nod.ln,Nod.count];split<;>first|exact this|(split<;>exact this))
 | sg _ k hi a hL=>exact put λ_=>⟨(h k hi).nd,(h k hi).wa,(h k hi).le,(h k hi).un,(h k hi).qn,(h k hi).dn⟩
 | lead _ k hi a hL =>
  refine put λ_=>?_;unfold Nod.lead;simp only;split
  .exact h k hi
  .generalize (⟨max (M.ab k).cF (M.ab k).vo.p.r+1,(k:Int)⟩:Bal)=b;have e:=AO (M.ab k) b;have q:=(h k hi).nn (.au _ b) e.1 (by rw[e.2];exact(h k hi).qn);exact⟨q.nd,q.wa,q.le,q.un,oV,q.dn⟩
 | sub _ k d hi a hD =>
  refine put λ_=>?_;unfold Nod.sj Nod.ss;split
  .exact h k hi
  .split
   .exact⟨(h k hi).nd,(h k hi).wa,(h k hi).le,(h k hi).un,(h k hi).qn,(h k hi).dn⟩
   .split
    .exact h k hi
    .rename_i hc;exact(h k hi).want hc (pos hi a)
 | lp _ k x hi a m hC =>
  refine put λ_=>?_;unfold Nod.lp;split
  .exact h k hi
  .exact .bare _ _ _ _ _ _
 | start _ k hi a hs =>
  refine put λ_=>?_;unfold Nod.start;split
  .exact h k hi
  .split<;>exact .bare _ _ _ _ _ _
theorem AskI.zero:∀ j,j<5->AskI (Ao.ab j):=λj _=>AskI.bare CY true [] 0 Em []
theorem Stp.bN{n:Nat}(s:Stp wh0 n M N){j:Nat}{c:Cmd}{x:Bal}(h:(N.ab j).bN c=some x):(M.ab j).bN c=some x\/(j<5/\N=M.set j ((M.ab j).jv j).1 (M.br++((M.ab j).jv j).2) M.ed):=by
 have put:∀ {k:Nat} {p:Nod} {a:List Let} {b:List Tol},((M.set k p a b).ab j).bN c=some x->(p.bN c=some x->(M.ab k).bN c=some x)->(M.ab j).bN c=some x:=λ{k p a b} g e=>by
  rw[Am]at g
  split at g
  .rename_i e2;rw[e2];exact e g
  .exact g
 cases s with
 | take _ l hl hd hu ht =>
  refine .inl (put h λg=>?_);rw[show((M.ab l.dst).take l).bN=(M.ab l.dst).bN from ?_]at g
  .exact g
  .unfold Nod.take;split
   .split
    .unfold Nod.ew;split<;>rfl
    .exact(AO _ _).1.2.1
   .simp only;split<;>rfl
   .rfl
   .split
    .unfold Nod.ew;split<;>rfl
    .exact(BX _ _).1.2.1
   .unfold Nod.count;split
    .rfl
    .split<;>rfl
   .split<;>rfl
   .simp only;unfold Nod.dT;split<;>split<;>rfl
   .rfl
 | br _ a hl hd=>exact False.elim hd
 | one _ k d hi hu hc he =>
  refine .inl (put h λg=>?_);unfold Nod.fv at g;split at g
  .have g:BW (M.ab k).bN d none c=some x:=g;unfold BW at g;split at g
   .cases g
   .exact g
  .exact g
 | ask _ k hi hu =>
  by_cases e:j=k
  .subst e;exact .inr ⟨hi,rfl⟩
  .rw[Am,if_neg e]at h;exact .inl h
 | prop _ k hi hu =>
  refine .inl (put h λg=>?_);unfold Nod.cx at g;split at g
  .exact g
  .split at g
   .exact g
   .split at g
    .exact g
    .have g:((M.ab k).cl _).1.bN c=some x:=g;rw[(BX _ _).1.2.1]at g;exact g
 | so _ k hi hu hs hT=>exact .inl (put h λg=>g)
 | run _ k hi hu q l hp hs =>
  refine .inl (put h λg=>?_);have g:((M.ab k).ln k q).bN c=some x:=g;rw[show((M.ab k).ln k q).bN=(M.ab k).bN from ?_]at g
  .exact g
  .cases q<;>first|rfl|(simp only[Nod.ln];split<;>rfl)|(simp only[Nod.ln,Nod.count];split<;>first|rfl|(split<;>rfl))
 | sg _ k hi hu hL=>exact .inl (put h λg=>g)
 | lead _ k hi hu hL=>exact False.elim hL
 | sub _ k d hi hu hD=>exact False.elim hD
 | lp _ k y hi hu hk hC=>exact False.elim hC
 | start _ k hi hu hs=>exact False.elim hs
end
section
variable{C:List Cmd}{K:Int}{B:Nat->Bal}{cov:List (Bal × Nat)}{i:Nat}{b:Bal}
structure PhB(C:List Cmd)(K:Int)(B:Nat->Bal)(cov:List (Bal × Nat))(i:Nat)(b:Bal)(M:Meet):Prop where
 cm:Cm (λc=>c∈C) K B cov M
 ak:∀ j,j<5->AskI (M.ab j)
 vi:(M.ab i).vo.p=b
structure PhC(C:List Cmd)(K:Int)(B:Nat->Bal)(cov:List (Bal × Nat))(i:Nat)(b:Bal):Prop where
 hc:∀ j,j<5->∀ s,s<40->(B j,s)∈cov
 hC:C.length<40
 hi:i<5
 hb:Ac b
 hn:b.n=(i:Int)
 hB:B i=b
 hK:b.key=K
theorem PhB.step(a:PhC C K B cov i b){n:Nat}{M N:Meet}(s:Stp wh0 n M N)(h:PhB C K B cov i b M):PhB C K B cov i b N:=by
 obtain⟨σ,g,_⟩:=h.cm.ex;exact⟨h.cm.step a.hc s,AskI.step s g h.ak,h.cm.top a.hc s a.hb.pr a.hK a.hi h.vi⟩
theorem PhB.leads(a:PhC C K B cov i b){M:Meet}(h:PhB C K B cov i b M):(M.ab i).leads=true:=by
 have c:=a.hb;unfold Nod.leads;refine O' ⟨?_,?_⟩
 .rw[h.cm.hU i a.hi,a.hB];intro e;rw[e]at c
  exact absurd c (by decide)
 .rw[h.cm.hU i a.hi,a.hB,h.vi]
def QA(i:Nat)(b:Bal)(M:Meet):Prop:=∀ j,j<5->∀ c,(M.ab j).bN c=some b->c∈(M.ab i).bn.fa\/∃ m∈M.br,m.kind=6/\m.dst=i/\c∈m.gC
theorem QA.step(t:PhC C K B cov i b){n:Nat}{M N:Meet}(s:Stp wh0 n M N)(h:PhB C K B cov i b M)(q:QA i b M):QA i b N:=by
 intro j x c a;have z:b≠Bf:=λe=>by have:=t.hb;rw[e]at this;exact absurd this (by decide)
 by_cases e:(M.ab j).bN c=some b
 .rcases q j x c e with g|⟨m,g1,g2⟩
  .exact .inl ((s.ev i).qu.subset g)
  .exact .inr ⟨m,s.sC g1,g2⟩
 .rcases s.bN a with g|⟨_,rfl⟩
  .exact absurd g e
  .rw[Am,if_pos rfl]at a
   have E:=h.ak j x;have y:(Bd (M.ab j).vo.p (M.ab j).bN ((M.ab j).av.take 40)).2 c=some b:=by
    unfold Nod.jv at a;split at a
    .exact a
    .split at a
     .unfold Nod.dT at a;split at a<;>exact a
     .exact a
   have r:(M.ab j).vo.p=b/\c∈(M.ab j).av.take 40:=by
    have key:∀ (l:List Cmd) (f:Cmd->Option Bal) (p:Bal),(Bd p f l).2 c=some b->f c=some b\/(p=b/\c∈l):=by
     intro l;induction l with
     | nil=>exact λf p g=>.inl g
     | cons d l ih =>
      intro f p g;rw[Bd]at g
      split at g
      .rcases ih _ p g with k|k
       .unfold BW at k;split at k
        .rename_i e;exact .inr ⟨nP k,by rw[e];exact M'⟩
        .exact .inl k
       .exact .inr ⟨k.1,I' _ k.2⟩
      .exact(ih f p g).imp id λk=>⟨k.1,I' _ k.2⟩
    exact(key _ _ _ y).resolve_left e
   obtain⟨r,H⟩:=r;have D:=Lp z ((M.ab j).av.take 40) (M.ab j).bN;have o:c∈(Bd (M.ab j).vo.p (M.ab j).bN ((M.ab j).av.take 40)).1:=by rw[r];exact(D.2.2.1 c H).resolve_left e
   have u:¬ (Bd (M.ab j).vo.p (M.ab j).bN ((M.ab j).av.take 40)).1=[]:=λg=>by rw[g]at o;cases o
   have v:∀ d∈(Bd (M.ab j).vo.p (M.ab j).bN ((M.ab j).av.take 40)).1,d∈C:=λd w=>by
    rw[r]at w
    exact(h.cm.s.nd j x).wa d (nm (D.2.2.2 d w))
   by_cases A:j=i
   .subst A;refine .inl ?_;rw[Am,if_pos rfl];unfold Nod.jv;rw[if_neg u,if_pos (by rw[r];exact t.hn)];have F:({ M.ab j with bN:=(Bd (M.ab j).vo.p (M.ab j).bN ((M.ab j).av.take 40)).2 }:Nod).leads=true:=h.leads t;unfold Nod.dT;rw[if_pos F];exact Qt t.hC _ _ E.qn (λd w=>(h.cm.s.nd j x).qu d w) v c o
   .refine .inr ?_;have G:¬ (M.ab j).vo.p.n=(j:Int):=by rw[r,t.hn];omega
    unfold Nod.jv;rw[if_neg u,if_neg G];refine⟨_,mU _ (D'.2 rfl),rfl,?_,o⟩;show(M.ab j).vo.p.n.toNat=i;rw[r,t.hn];exact nE i
theorem Rj(a:PhC C K B cov i b){n:Nat}{M:Meet}(E:MOk n M)(L:n+6<=1000000)(h:PhB C K B cov i b M)(q:QA i b M):PhB C K B cov i b (M.dc An)/\(∀ j,j<5->∀ c,((M.dc An).ab j).bN c=some b->c∈((M.dc An).ab i).bn.fa)/\(M.dc An).br=[]/\MOk (n+6) (M.dc An):=by
 have v:∀ A N,TkS A N->PhB C K B cov i b A->PhB C K B cov i b N:=λA N s g=>g.step a s.sF;have z:=Bl (I:=λN=>PhB C K B cov i b N/\QA i b N) (λc A N s g=>⟨g.1.step a s.calm,g.2.step a s.calm g.1⟩) E (by omega) ⟨h,q⟩;rw[show An=AG 3 5++[acN 7 0]from rfl,AL];generalize M.dc (AG 3 5)=A at z ⊢;obtain⟨p,k,u⟩:=z;have y:=p.act (by omega) (x:=acN 7 0) (by rw[<- DM];decide);have t:∀ j,j<5->∀ c,((A.act (acN 7 0)).ab j).bN c=some b->c∈((A.act (acN 7 0)).ab i).bn.fa:=λj G c r=>by
  obtain⟨N,f,o,_⟩:=Cr (I:=λN=>PhB C K B cov i b N/\(N.ab j).bN c=(A.ab j).bN c) (λD N s g=>⟨v D N s g.1,by
   obtain⟨l,_,w,_,rfl⟩:=s;rw[Am];split
   .rename_i e
    rw[(Ji (D.ab l.dst) l (g.1.ak _ w.2).qn).1.2.1,<- e];exact g.2
   .exact g.2⟩) p ⟨k,rfl⟩
  rw[f]at r
  have r:(N.ab j).bN c=some b:=r;rw[o.2]at r
  rcases u j G c r with g|⟨m,g1,g2,g3,g4⟩
  .obtain⟨N,f,o,_⟩:=Cr (I:=λN=>c∈(N.ab i).bn.fa) (λD N s g=>(s.sF.ev i).qu.subset g) p g;rw[f];exact o
  .obtain⟨N,f,_,k3,_⟩:=DP (I:=PhB C K B cov i b) (J:=λN=>c∈(N.ab i).bn.fa) v (λD N s _ g=>(s.sF.ev i).qu.subset g) p k g1 (λN g=>g.cm.up _ (by rw[g3];exact a.hi)) (λN g e=>by
    have F:=(g.cm.s.lt m (by rw[e];exact g1)).wh;rw[g3,Am,if_pos rfl];have H:c∈((N.ab i).dT m.gC).bn.fa:=by
     unfold Nod.dT;rw[if_pos (g.leads a)];exact Qt a.hC _ _ (g.ak i a.hi).qn (λd w=>(g.cm.s.nd i a.hi).qu d w) F c g4
    unfold Nod.take;rw[g2];simp only;split<;>exact H)
   rw[f];exact k3
 obtain⟨N,f,o,_⟩:=Cr (I:=PhB C K B cov i b) v p k;refine⟨?_,t,by rw[f],y⟩;rw[f];exact⟨o.cm.drop,o.ak,o.vi⟩
theorem WK(a:PhC C K B cov i b){n:Nat}{M:Meet}(t:MOk n M)(I:n+6<=1000000)(h:PhB C K B cov i b M){j:Nat}(y:j<5){H:List Vt}(E:Pend.prom i b H∈(M.ab j).bu):((M.dc An).ab i).bn.rN j=true:=by
 have x:∀ A N,TkS A N->PhB C K B cov i b A->PhB C K B cov i b N:=λA N s g=>g.step a s.sF;have d:∀ c A N,Stp wh1 c A N->PhB C K B cov i b A->PhB C K B cov i b N:=λc A N s g=>g.step a s.calm;have f:=Bl d t (by omega) h;have q:=Fv (J:=λN=>∃ m∈N.br,m.kind=1/\m.src=j/\m.dst=i/\m.hU=b) d (λc A N s _ ⟨m,o,p⟩=>⟨m,s.calm.sC o,p⟩) (λA k g u=>⟨g.cm.up k u,g.cm.sT u⟩) t (by omega) h y E (λN l g _ _=>⟨_,mU _ (D'.2 rfl),rfl,rfl,rfl,rfl⟩);rw[show An=AG 3 5++[acN 7 0]from rfl,AL];generalize M.dc (AG 3 5)=A at f q ⊢;obtain⟨m,o,p,v,r,w⟩:=q;obtain⟨N,F,_,G,_⟩:=DP (J:=λN=>(N.ab i).bn.rN j=true) x (λD N s _ g=>(s.sF.ev i).rN j g) f.1 f.2 o (λN g=>g.cm.up _ (by rw[r];exact a.hi)) (λN g e=>by
  rw[r,Am,if_pos rfl];have z:((N.ab i).lr 0 m.gC).leads=true:=g.leads a;unfold Nod.take;rw[p];simp only;rw[v,w];split
  .rename_i hc
   rcases hc with hc|hc|hc
   .rw[z]at hc;cases hc
   .exact absurd (show b=(N.ab i).bn.hU by rw[g.cm.hU i a.hi,a.hB]) hc
   .exact hc
  .exact Dd _ _ _)
 rw[F];exact G
end
theorem U6(i:Nat)(l:List Cmd)(p:Nod)(a:List Tol):(sq i l p a).1.bn=p.bn/\(sq i l p a).1.ae=p.ae:=by
 induction l generalizing p a with
 | nil=>exact⟨rfl,rfl⟩
 | cons c l ih =>
  rw[sq];split
  .exact⟨rfl,rfl⟩
  .have h1:=ih (Nod.fv { p with ni:=doS p.ni c,done:=p.done+1 } c) (if(p.bN c).isSome=true then a++[⟨i,c.c,c.s,doC p.ni c,doA p.ni c⟩]else a);have b:(Nod.fv { p with ni:=doS p.ni c,done:=p.done+1 } c).bn=p.bn/\(Nod.fv { p with ni:=doS p.ni c,done:=p.done+1 } c).ae=p.ae:=by unfold Nod.fv;split<;>exact⟨rfl,rfl⟩
   exact⟨h1.1.trans b.1,h1.2.trans b.2⟩
theorem Il{D:Wh}{i:Nat}(c:i<5){M:Meet}(t:(M.ab i).up=true):∃ M0,Sts D 0 M M0/\(M0.ab i).up=true/\(M0.ab i).bn=(M.ab i).bn/\(M0.ab i).ae=(M.ab i).ae /\
  ∃ M1,M1=M0.set i ((M0.ab i).jv i).1 (M0.br++((M0.ab i).jv i).2) M0.ed/\(M1.ab i).up=true/\Sts D 0 M0 M1/\Sts D 0 (M1.set i (M1.ab i).cx M1.br M1.ed) (M.act (acN 3 (i:Int))):=by
 rw[Hk t];have w:Sts D 0 M (M.set i (M.ab i) M.br M.ed):=by rw[EW];exact .nil 0 M
 obtain⟨p,h⟩:=Sts.sq c _ (M.ab i) w t rfl;have q:=U6 i ((M.ab i).ae.drop (M.ab i).done) (M.ab i) M.ed;unfold Nod.piece;simp only;generalize Go.Proofs.YthkjeoamjgnpoaaGreatDoor.sq i ((M.ab i).ae.drop (M.ab i).done) (M.ab i) M.ed=a at p h q ⊢;refine⟨_,p,by rw[Bp];exact h,by rw[Bp];exact q.1,by rw[Bp];exact q.2,?_⟩;have e:=Bp M i a.1 M.br a.2;have s:=Stp.ask (D:=D) (M.set i a.1 M.br a.2) i c (by rw[e];exact h);have l:=(Ix a.1 i).trans h;rw[e,Ck]at s
 refine⟨M.set i (a.1.jv i).1 (M.br++(a.1.jv i).2) a.2,by rw[e,Ck];rfl,by rw[Bp];exact l,s.s,?_⟩;show Sts D 0 ((M.set i (a.1.jv i).1 (M.br++(a.1.jv i).2) a.2).set i ((M.set i (a.1.jv i).1 (M.br++(a.1.jv i).2) a.2).ab i).cx (M.br++(a.1.jv i).2) a.2) _;clear e s p;generalize (a.1.jv i)=b at l ⊢;rw[Bp,Ck];have g:=(EE b.1).trans l;show Sts D 0 (M.set i b.1.cx (M.br++b.2) a.2) _;generalize b.1.cx=r at g ⊢;generalize M.br++b.2=k at ⊢;have j:Sts D 0 (M.set i r k a.2) (M.set i (r.qk i k).1 (r.qk i k).2 a.2)/\(r.qk i k).1.up=true:=by
  unfold Nod.qk;split
  .exact⟨.nil 0 _,g⟩
  .rename_i hn
   have e:=Bp M i r k a.2;unfold Nod.so;split
   .rename_i h1
    have m:Db r.d r.sy=0:=mX.1 λe=>hn ⟨h1,e⟩;have o:AV r.d r.sy:=by
     unfold Db at m;split at m
     .assumption
     .cases m
    have s:=Stp.so (D:=D) (M.set i r k a.2) i c (by rw[e];exact g) (by rw[e];exact h1) (by rw[e];exact o);rw[e,Ck]at s
    have u:Hq r.d r.sy=r.d:=if_pos o;have v:Io r.d r.sy=(r.d.length:Int):=if_pos o;rw[u,v];have:=Sts.qv (D:=D) (n:=0) (M:=M.set i r k a.2) (ls:=k) (ts:=a.2) c r.bu { r with sy:=(r.d.length:Int),bu:=[] } (by rw[Ck];exact(Sts.nil 0 _).s0 s) g rfl (rJ _);rw[Ck]at this
    exact this
   .rename_i h1
    have:=Sts.qv (D:=D) (n:=0) (M:=M.set i r k a.2) (ls:=k) (ts:=a.2) c r.bu { r with bu:=[] } (by rw[Ck];exact .nil 0 _) g rfl h1;rw[Ck]at this
    exact this
 generalize r.qk i k=f at j ⊢;unfold Nod.bw;split
 .rename_i hL
  have e:=Bp M i f.1 f.2 a.2;have s:=Stp.sg (D:=D) (M.set i f.1 f.2 a.2) i c (by rw[e];exact j.2) (by rw[e];exact hL);rw[e,Ck]at s
  exact j.1.s0 s
 .exact j.1
section
variable{C:List Cmd}{K:Int}{B:Nat->Bal}{cov:List (Bal × Nat)}{i:Nat}{b:Bal}
theorem eF(a:PhC C K B cov i b)(d:14*K+38*(cov.length:Int)<=99000){M:Meet}(h:PhB C K B cov i b M)(j:(M.ab i).bn.sh=true)(n:(M.ab i).bn.next<=(M.ab i).ae.length){c:Cmd}(f:(M.ab i).rk (M.ab i).ae.length=some c)(l:Ah ⟨((M.ab i).ae.length:Int),b,c⟩) :
  (M.ab i).cx.bn.next=(M.ab i).ae.length+1/\Pend.prop ⟨((M.ab i).ae.length:Int),b,c⟩∈(M.ab i).cx.bu:=by
 have e:(M.ab i).bn.hU=b:=(h.cm.hU i a.hi).trans a.hB;have k:=h.leads a;have m:=h.cm.uj d a.hi l (λg=>by
  have:b.lt (M.ab i).vo.p:=g;rw[h.vi]at this
  unfold Bal.lt at this;omega)
 unfold Nod.cx;rw[if_neg (λg=>by
  rcases g with g|g|g
  .rw[k]at g;cases g
  .rw[j]at g;cases g
  .omega),f]
 simp only;rw[e,if_neg (λg=>g m.1)];exact⟨rfl,mU _ (D'.2 rfl)⟩
theorem Xw(f:PhC C K B cov i b)(e:14*K+38*(cov.length:Int)<=99000){M:Meet}(h:PhB C K B cov i b M){j:Nat}(a:j<5){v:Vt}(c:Ah v)(o:v.b=b){l:Let}(k:l.kind=3)(m:l.cl=v):Pend.voted l.src v∈((M.ab j).take l).bu:=by
 have n:=h.cm.le a;have d:=h.cm.uj e a c (by rw[Fc c.2.1.pr (h.cm.acc a).1,o,f.hK];omega);unfold Nod.take;rw[k];simp only;rw[m,if_neg (λg=>g d.1)];exact mU _ (D'.2 rfl)
end
section
def NB(p:Nod):Prop:=∀ b vs,Pend.began b vs∉p.bu
variable{M N:Meet}{c j:Nat}{p q:Nod}{v:Vt}
theorem NB.snoc(h:NB p){x:Pend}(e:q.bu=p.bu++[x])(a:∀ b vs,Pend.began b vs≠x):NB q:=λb vs g=>by
 rw[e]at g
 rcases P'.1 g with g|g
 .exact h b vs g
 .exact a b vs (D'.1 g)
theorem NB.same(h:NB p)(e:q.bu=p.bu):NB q:=λb a g=>h b a (by rw[<- e];exact g)
theorem ZX(p:Nod)(b:Bal):(p.au b).1.bu=p.bu:=by
 unfold Nod.au;split
 .rfl
 .split
  .rfl
  .split<;>rfl
theorem RL(p:Nod)(v:Vt):(p.cl v).1.bu=p.bu:=by
 unfold Nod.cl;split
 .rfl
 .split
  .rfl
  .split<;>rfl
theorem iZ(p:Nod)(b:Bal):(p.au b).1.ae=p.ae:=by
 unfold Nod.au;split
 .rfl
 .split
  .rfl
  .split<;>rfl
theorem jF(p:Nod)(v:Vt):(p.cl v).1.ae=p.ae:=by
 unfold Nod.cl;split
 .rfl
 .split
  .rfl
  .split<;>rfl
theorem NB.ew(h:NB p)(to:Nat)(e:Int):NB (p.ew to e):=by
 unfold Nod.ew;split
 .exact h.snoc rfl (λ_ _ g=>by cases g)
 .exact h
theorem Sr(p:Nod)(j:Nat)(v:Vt):(p.count j v).bu=p.bu:=by
 unfold Nod.count;split
 .rfl
 .split<;>rfl
theorem Of(p:Nod)(l:List Cmd):(p.dT l).bu=p.bu:=by unfold Nod.dT;split<;>rfl
theorem NB.take(h:NB p)(l:Let):NB (p.take l):=by
 unfold Nod.take;split
 .split
  .exact h.ew _ _
  .exact h.snoc (by show(p.au l.hU).1.bu++_=_;rw[ZX]) (λ_ _ g=>by cases g)
 .simp only;split<;>exact h
 .exact h
 .split
  .exact h.ew _ _
  .exact h.snoc (by show(p.cl l.cl).1.bu++_=_;rw[RL]) (λ_ _ g=>by cases g)
 .exact h.same (Sr _ _ _)
 .split
  .exact h.snoc rfl (λ_ _ g=>by cases g)
  .exact h
 .simp only;split
  .exact h.snoc (by show((p.dT l.gC).bu)++_=_;rw[Of]) (λ_ _ g=>by cases g)
  .exact h.same (Of _ _)
 .exact h
theorem Stp.nb(s:Stp wh0 c M N){j:Nat}(h:NB (M.ab j)):NB (N.ab j):=by
 have put:∀ {i:Nat} {p:Nod} {a:List Let} {f:List Tol},(j=i->NB p)->NB ((M.set i p a f).ab j):=λ{i p a f} g=>by
  rw[Am];split
  .rename_i e;exact g e
  .exact h
 cases s with
 | take _ l hl hd hu ht=>exact put λe=>by rw[<- e];exact h.take l
 | br _ a hl hd=>exact False.elim hd
 | one _ i c hi hu hc he=>exact put λe=>(e▸h:NB (M.ab i)).same (GO _ _).1
 | ask _ i hi hu=>exact put λe=>(e▸h:NB (M.ab i)).same (Ju _ _).1
 | prop _ i hi hu =>
  refine put λe=>?_;have h:NB (M.ab i):=e▸h;unfold Nod.cx;split
  .exact h
  .split
   .exact h
   .split
    .exact h
    .exact h.snoc (by show((M.ab i).cl _).1.bu++_=_;rw[RL]) (λ_ _ g=>by cases g)
 | so _ i hi hu hs hT=>exact put λe=>(e▸h:NB (M.ab i)).same rfl
 | run _ i hi hu q l hp hs=>exact put λe b m g=>(e▸h:NB (M.ab i)) b m (by rw[hp];exact I' _ g)
 | sg _ i hi hu hL=>exact put λe=>(e▸h:NB (M.ab i)).same rfl
 | lead _ i hi hu hL=>exact False.elim hL
 | sub _ i d hi hu hD=>exact False.elim hD
 | lp _ i k hi hu hk hC=>exact False.elim hC
 | start _ i hi hu hs=>exact False.elim hs
theorem Oc{k:Nat}{u:Vt}(hv:v∈((p.count k u).bn.an j).vs):v∈(p.bn.an j).vs\/v.b=p.bn.hU:=by
 unfold Nod.count at hv;split at hv
 .exact .inl hv
 .rename_i hb
  split at hv
  .exact .inl hv
  .rename_i a
   have a:=mX.1 a;have hv:v∈(upN p.bn.an k ⟨BI (p.bn.an k) u,Br (p.bn.an k) u⟩ j).vs:=hv;unfold upN at hv;split at hv
   .rename_i e
    have hv:v∈Br (p.bn.an k) u:=hv;unfold Br at hv;rw[if_pos a,BA (Aq a).1.2.2]at hv
    rcases hv with hv|hv
    .exact .inr (by rw[hv];exact mX.1 hb)
    .exact .inl (by rw[e];exact hv.1)
   .exact .inl hv
theorem Stp.uR(s:Stp wh0 c M N){i:Nat}(m:NB (M.ab i))(n:∀ j,j<5->(M.ab i).bn.rN j=true){j:Nat}{v:Vt}(a:v∈((N.ab i).bn.an j).vs):v∈((M.ab i).bn.an j).vs\/v.b=(M.ab i).bn.hU:=by
 have put:∀ {k:Nat} {p:Nod} {f:List Let} {h:List Tol},v∈(((M.set k p f h).ab i).bn.an j).vs->(i=k->v∈(p.bn.an j).vs->v∈((M.ab i).bn.an j).vs\/v.b=(M.ab i).bn.hU)->v∈((M.ab i).bn.an j).vs\/v.b=(M.ab i).bn.hU:=λ{k p f h} g e=>by
  rw[Am]at g
  split at g
  .rename_i e2;exact e e2 g
  .exact .inl g
 cases s with
 | take _ l hl hd hu ht =>
  refine put a λe g=>?_;rw[<- e]at g
  unfold Nod.take at g;split at g
  .split at g
   .unfold Nod.ew at g;split at g<;>exact .inl g
   .have g:v∈(((M.ab i).au l.hU).1.bn.an j).vs:=g;rw[(AO _ _).2]at g;exact .inl g
  .simp only at g;split at g
   .exact .inl g
   .rename_i hc
    exact absurd (.inr (.inr (n l.src hd.1))) hc
  .exact .inl g
  .split at g
   .unfold Nod.ew at g;split at g<;>exact .inl g
   .have g:v∈(((M.ab i).cl l.cl).1.bn.an j).vs:=g;rw[(BX _ _).2]at g;exact .inl g
  .exact Oc g
  .split at g<;>exact .inl g
  .simp only at g;unfold Nod.dT at g;split at g<;>split at g<;>exact .inl g
  .exact .inl g
 | br _ f hl hd=>exact False.elim hd
 | one _ k c hi hu hc he =>
  refine put a λe g=>?_;rw[<- e]at g
  unfold Nod.fv at g;split at g<;>exact .inl g
 | ask _ k hi hu =>
  refine put a λe g=>?_;rw[<- e]at g
  unfold Nod.jv at g;split at g
  .exact .inl g
  .split at g
   .unfold Nod.dT at g;split at g<;>exact .inl g
   .exact .inl g
 | prop _ k hi hu =>
  refine put a λe g=>?_;rw[<- e]at g
  unfold Nod.cx at g;split at g
  .exact .inl g
  .split at g
   .exact .inl g
   .split at g<;>exact .inl g
 | so _ k hi hu hs hT=>exact put a λe g=>by rw[<- e]at g;exact .inl g
 | run _ k hi hu q l hp2 hs =>
  refine put a λe g=>?_;rw[<- e]at g hp2
  have g:v∈(((M.ab i).ln i q).bn.an j).vs:=g;cases q with
  | began b vs=>exact absurd (by rw[hp2];exact M') (m b vs)
  | prop u=>exact Oc g
  | _=>exact .inl g
 | sg _ k hi hu hL=>exact put a λe g=>by rw[<- e]at g;exact .inl g
 | lead _ k hi hu hL=>exact False.elim hL
 | sub _ k d hi hu hD=>exact False.elim hD
 | lp _ k y hi hu hk hC=>exact False.elim hC
 | start _ k hi hu hs=>exact False.elim hs
theorem XE{b:Bal}(l:List Cmd){f:Cmd->Option Bal}(h:∀ c∈l,f c=some b):(Bd b f l).1=[]:=by
 induction l with
 | nil=>rfl
 | cons c l ih =>
  rw[Bd,if_neg (by rw[h c M'];exact λg=>g rfl)];exact ih λd a=>h d (I' _ a)
end
section
variable{C:List Cmd}{K:Int}{B:Nat->Bal}{cov:List (Bal × Nat)}{i:Nat}{b:Bal}
structure PhE(C:List Cmd)(K:Int)(B:Nat->Bal)(cov:List (Bal × Nat))(i:Nat)(b:Bal)(M:Meet):Prop where
 pb:PhB C K B cov i b M
 va:∀ j,j<5->(M.ab j).vo.p=b
 pr:∀ j,j<5->(M.ab i).bn.rN j=true
 nb:NB (M.ab i)
 aw:∀ j,j<5->∀ c x,(M.ab j).bN c=some x->x=b
 l6:∀ m∈M.br,m.kind=6->m.gC=[]
 qw:∀ j,j<5->∀ c∈(M.ab j).av,c∈(M.ab i).bn.fa
theorem PhE.nil{M:Meet}(h:PhE C K B cov i b M){j:Nat}(a:j<5):(Bd (M.ab j).vo.p (M.ab j).bN ((M.ab j).av.take 40)).1=[]:=by
 rw[h.va j a];refine XE _ λc e=>?_;obtain⟨x,d⟩:=oA.1 (((h.pb.ak j a).wa c).1 (nm e));rw[d,h.aw j a c x d]
theorem PhE.jv{M:Meet}(h:PhE C K B cov i b M){j:Nat}(a:j<5):(M.ab j).jv j=({ M.ab j with bN:=(Bd (M.ab j).vo.p (M.ab j).bN ((M.ab j).av.take 40)).2 },[]):=by
 unfold Nod.jv;rw[if_pos (h.nil a)]
theorem DH{i:Nat}{l m:Let}{k:Nat}(h:m∈BV i l k):m.kind=l.kind/\m.gC=l.gC:=by
 unfold BV at h;obtain⟨j,_,rfl⟩:=nw.1 h;exact⟨rfl,rfl⟩
theorem PhE.step(r:PhC C K B cov i b){n:Nat}{M N:Meet}(s:Stp wh0 n M N)(h:PhE C K B cov i b M):PhE C K B cov i b N:=by
 refine⟨h.pb.step r s,λj a=>h.pb.cm.top r.hc s r.hb.pr r.hK a (h.va j a),λj a=>(s.ev i).rN j (h.pr j a),s.nb h.nb,λj a c x d=>?_,λm f o=>?_,λj a c u=>(s.ev i).qu.subset (h.qw j a c ((s.ev j).wa c u))⟩
 .rcases s.bN d with g|⟨_,rfl⟩
  .exact h.aw j a c x g
  .rw[Am,if_pos rfl,h.jv a]at d
   have d:(Bd (M.ab j).vo.p (M.ab j).bN ((M.ab j).av.take 40)).2 c=some x:=d;have t:b≠Bf:=λe=>by have:=r.hb;rw[e]at this;exact absurd this (by decide)
   rw[h.va j a]at d
   have f:=Lp t ((M.ab j).av.take 40) (M.ab j).bN;by_cases e:c∈(M.ab j).av.take 40
   .rw[f.2.1 c e]at d;exact(nP d).symm
   .rw[f.1 c e]at d;exact h.aw j a c x d
 .have old:m∈M.br->m.gC=[]:=λg=>h.l6 m g o;cases s with
  | br _ ls hl hd=>exact False.elim hd
  | ask _ k hi hu =>
   rw[h.jv hi]at f
   exact old (by simpa[Meet.set]using f)
  | run _ k hi hu q l hp hs =>
   rcases P'.1 f with g|g
   .exact old g
   .cases q with
    | began b vs =>
     unfold Nod.sc at g;simp only at g;split at g
     .cases g
     .have:=(DH g).1;rw[o]at this;cases this
    | prop v=>have:=(DH g).1;rw[o]at this;cases this
    | start=>exact(DH g).2
    | askNews to=>rw[D'.1 g];rfl
    | _=>have e:=D'.1 g;rw[e]at o;cases o
  | sg _ k hi hu hL =>
   rcases P'.1 f with g|g
   .exact old g
   .have:=(JU 5 m g).1;omega
  | _=>exact old f
end
section
variable{C:List Cmd}{K:Int}{B:Nat->Bal}{cov:List (Bal × Nat)}{i:Nat}{b:Bal}{A:List Cmd}
section
structure Fin_(i:Nat)(A:List Cmd)(M:Meet):Prop where
 ag:(M.ab i).ae=A
 nx:(M.ab i).bn.next<=A.length
 hd:A.length<40->∀ j,j<5->∀ v∈((M.ab i).bn.an j).vs,v.bt≠(A.length:Int)
 qu:A.length<40->∀ c∈(M.ab i).bn.fa,c∈A
variable{M:Meet}{k:Nat}{l:List Cmd}{σ:Gs}
theorem PhE.rd(a:PhC C K B cov i b){M:Meet}(h:PhE C K B cov i b M){σ:Gs}(g:AgI σ M):RdI σ i (M.ab i).bn/\(M.ab i).bn.hU=b:=by
 obtain⟨c,k⟩:=(g.nd i a.hi).up (h.pb.cm.up i a.hi);exact⟨k.rd,(h.pb.cm.hU i a.hi).trans a.hB⟩
theorem PhE.lt(d:PhC C K B cov i b){M:Meet}(h:PhE C K B cov i b M){σ:Gs}(g:AgI σ M){v:Vt}(a:σ.sG v)(c:v.b=b):v.bt<((M.ab i).bn.next:Int):=by
 have k:=h.rd d g;have:=k.1.next v.bt.toNat v.w (by rw[k.2,<- c];exact a.2);have:=a.1.1;omega
theorem PhE.held(a:PhC C K B cov i b){M:Meet}(h:PhE C K B cov i b M){σ:Gs}(g:AgI σ M){s:Nat}(o:(M.ab i).bn.next<=s)(m:∀ j,j<5->∀ v∈((M.ab i).bn.an j).vs,v.bt≠(s:Int)){q:Nat}(d:q<5){v:Vt}(l:σ.held q v):v.bt≠(s:Int):=by
 intro e;have k:=h.rd a g;have c:=g.gs.hv q v l;have n:=g.sV h.pb.cm.kb.2 c.1.2.1 (g.gs.w3 _ _ _ c.2);by_cases f:v.b.key<b.key
 .obtain⟨u,hu,eu,_⟩:=(k.1.prom q d (h.pr q d)).2 v l (by rw[k.2];exact f);exact m q d u hu (eu.trans e)
 .have e3:v.b=b:=DL c.1.2.1.pr a.hb.pr (by rw[a.hK]at f ⊢;omega);have:=h.lt a g c e3;omega
theorem ij(g:GsI σ){s:Nat}{c:Cmd}(h:σ.tK s c):∃ q,q<5/\∃ v,σ.held q v/\v.bt=(s:Int)/\v.w=c/\s<40:=by
 obtain⟨k,Q,d,j⟩:=h;obtain⟨q,e,a,_⟩:=G3 Q Q d d;obtain⟨v,b,f,_,i⟩:=j q e a;have:=(g.hv q v b).1.1;exact⟨q,e,v,b,f,i,by omega⟩
theorem Fin_.none(k:PhC C K B cov i b){M:Meet}(h:PhE C K B cov i b M)(f:Fin_ i A M){σ:Gs}(g:AgI σ M)(c:Cmd):¬ σ.tK A.length c:=λe=>by
 obtain⟨q,l,v,a,d,_,j⟩:=ij g.gs e;exact h.held k g f.nx (f.hd j) l a d
theorem AgL.le{a:Nat}(h:AgL σ l k)(d:∀ c,¬ σ.tK a c)(f:k<=a):k+l.length<=a:=qW λe=>by
 have b:a-k<l.length:=by omega
 exact d _ (by rw[show a=k+(a-k)by omega];exact h (a-k) _ (E' b))
theorem Fin_.le(a:PhC C K B cov i b){M:Meet}(h:PhE C K B cov i b M)(f:Fin_ i A M){j:Nat}(c:j<5):(M.ab j).ae.length<=A.length:=by
 obtain⟨σ,g,_⟩:=h.pb.cm.ex;have:=(g.nd j c).ag.le (f.none a h g) (nH _);omega
theorem Fin_.rk(f:Fin_ i A M):(M.ab i).rk (M.ab i).ae.length=Option.none:=by
 unfold Nod.rk;rw[f.ag];split
 .rfl
 .rename_i b
  have b:=mX.1 b;have k:A.length<40:=by
   unfold BZ at b;split at b
   .cases b
   .omega
  have m:Ae ((M.ab i).bn.hZ.map (·.vs)).flatten (A.length:Int)=[]:=pE.2 λv h=>by
   obtain⟨n,o⟩:=AM.1 h;obtain⟨l,s,h⟩:=pa.1 n;obtain⟨a,d,rfl⟩:=nw.1 s;unfold Rnd.hZ at d;have:∃ j,j<5/\a=(M.ab i).bn.an j:=by
    simp only[mZ,Q',or_false]at d;rcases d with e|e|e|e|e
    .exact⟨0,by omega,e⟩
    .exact⟨1,by omega,e⟩
    .exact⟨2,by omega,e⟩
    .exact⟨3,by omega,e⟩
    .exact⟨4,by omega,e⟩
   obtain⟨j,r,rfl⟩:=this;exact f.hd k j r v h o
  have p:DV ((M.ab i).bn.hZ.map (·.vs)) (A.length:Int)=false:=by
   unfold DV;rw[if_pos b];unfold Eh;rw[m];rfl
  rw[if_neg (by rw[p];decide)];exact oG.2 λc q g=>absurd (f.qu k c q) (nL g)
theorem Ow{a:List Cmd}(h:k+a.length<=l.length):l++a.drop (l.length-k)=l:=by rw[oc (by omega),nB]
theorem Zq{r:Rnd}(k:Nat)(h:CX r.hZ (l.length:Int)≠0):FG k r l=l:=by
 cases k with
 | zero=>rfl
 | succ k=>rw[FG,if_neg h]
def Un(p q:Nod):Prop:=q.ae=p.ae/\q.bn.next=p.bn.next/\q.bn.fa=p.bn.fa
theorem Fin_.count(c:PhC C K B cov i b){M:Meet}(h:PhE C K B cov i b M)(f:Fin_ i A M){σ:Gs}(g:AgI σ M){j:Nat}{v:Vt}(m:σ.held j v):Un (M.ab i) ((M.ab i).count j v):=by
 have k:=(h.rd c g).1;unfold Nod.count;split
 .exact⟨rfl,rfl,rfl⟩
 .rename_i hb
  split
  .exact⟨rfl,rfl,rfl⟩
  .rename_i he
   refine⟨Zq _ λe=>?_,rfl,rfl⟩;have e:CX (Rnd.hZ _) ((M.ab i).ae.length:Int)=0:=e;have a:=Up (λq d u l=>((k.count (mX.1 hb) (mX.1 he) m).an q d u l).1) e;rw[f.ag]at a
   exact f.none c h g _ a
theorem Fin_.same(m:PhC C K B cov i b){n:Nat}{M N:Meet}(s:Stp wh0 n M N)(h:PhE C K B cov i b M)(f:Fin_ i A M):Un (M.ab i) (N.ab i):=by
 obtain⟨σ,g,_⟩:=h.pb.cm.ex;have put:∀ {k:Nat} {p:Nod} {r:List Let} {t:List Tol},(i=k->Un (M.ab i) p)->Un (M.ab i) ((M.set k p r t).ab i):=λ{k p r t} e=>by
  rw[Am];split
  .rename_i e2;exact e e2
  .exact⟨rfl,rfl,rfl⟩
 have o:∀ {l:List Cmd} {k:Nat},AgL σ l k->k<=A.length->k+l.length<=(M.ab i).ae.length:=λa e=>by rw[f.ag];exact a.le (f.none m h g) e
 cases s with
 | take _ l hl2 hd hu ht =>
  refine put λe=>?_;rw[<- e];have lt:=g.lt l hl2;unfold Nod.take;split
  .split
   .unfold Nod.ew;split<;>exact⟨rfl,rfl,rfl⟩
   .exact⟨iZ _ _,by show(Nod.au _ _).1.bn.next=_;rw[(AO _ _).2],by show(Nod.au _ _).1.bn.fa=_;rw[(AO _ _).2]⟩
  .rename_i hk
   simp only;rw[if_pos (.inr (.inr (h.pr l.src hd.1)))];exact⟨Ow (o (lt.k1 hk).2.2 (nH _)),rfl,rfl⟩
  .exact⟨rfl,rfl,rfl⟩
  .split
   .unfold Nod.ew;split<;>exact⟨rfl,rfl,rfl⟩
   .exact⟨jF _ _,by show(Nod.cl _ _).1.bn.next=_;rw[(BX _ _).2],by show(Nod.cl _ _).1.bn.fa=_;rw[(BX _ _).2]⟩
  .rename_i hk
   exact f.count m h g (lt.k4 hk)
  .rename_i hk
   split
   .exact⟨rfl,rfl,rfl⟩
   .rename_i h5
    exact⟨Ow (o (lt.k5 hk) (by rw[f.ag]at h5;omega)),rfl,rfl⟩
  .rename_i hk
   simp only;rw[h.l6 l hl2 hk];unfold Nod.dT;split<;>split<;>exact⟨rfl,rfl,rfl⟩
  .exact⟨rfl,rfl,rfl⟩
 | br _ r o hd=>exact False.elim hd
 | one _ k c hi hu hc he=>exact put λe=>by rw[<- e];unfold Nod.fv;split<;>exact⟨rfl,rfl,rfl⟩
 | ask _ k hi hu=>exact put λe=>by rw[h.jv hi,<- e];exact⟨rfl,rfl,rfl⟩
 | prop _ k hi hu =>
  refine put λe=>?_;rw[<- e];unfold Nod.cx;split
  .exact⟨rfl,rfl,rfl⟩
  .rw[f.rk];exact⟨rfl,rfl,rfl⟩
 | so _ k hi hu hs hT=>exact put λe=>by rw[<- e];exact⟨rfl,rfl,rfl⟩
 | run _ k hi hu q l hp hs =>
  refine put λe=>?_;rw[<- e]at hp hs ⊢
  cases q with
  | began b vs=>exact absurd (by rw[hp];exact M') (h.nb b vs)
  | prop v =>
   obtain⟨u,k⟩:=(g.nd i m.hi).up (h.pb.cm.up i m.hi);have:=f.count m h g (j:=i) (v:=v) (by
    have:=k.pe (.prop v) (by rw[hp];exact M');unfold Gs.held;rw[k.tp.all hs];exact this)
   exact this
  | _=>exact⟨rfl,rfl,rfl⟩
 | sg _ k hi hu hL=>exact put λe=>by rw[<- e];exact⟨rfl,rfl,rfl⟩
 | lead _ k hi hu hL=>exact False.elim hL
 | sub _ k d hi hu hD=>exact False.elim hD
 | lp _ k y hi hu hk hC=>exact False.elim hC
 | start _ k hi hu hs=>exact False.elim hs
theorem Fin_.step(a:PhC C K B cov i b){n:Nat}{M N:Meet}(s:Stp wh0 n M N)(h:PhE C K B cov i b M)(f:Fin_ i A M):Fin_ i A N:=by
 have e:=f.same a s h;have d:=h.step a s;obtain⟨τ,g,_⟩:=d.pb.cm.ex;refine⟨e.1.trans f.ag,by rw[e.2.1];exact f.nx,λl j m v o q=>?_,λl c p=>f.qu l c (by rw[<- e.2.2];exact p)⟩;rcases s.uR h.nb h.pr o with k|k
 .exact f.hd l j m v k q
 .have:=d.lt a g (g.gs.hv j v ((d.rd a g).1.an j m v o).1) (k.trans ((h.pb.cm.hU i a.hi).trans a.hB));have:=e.2.1;have:=f.nx;omega
end
end
section
variable{j:Nat}{p:Nod}{r:Rnd}{v:Vt}
theorem ZG{l:List Vt}(h:v∈l):1<=BK (Ae l v.bt) v:=rp.2 ⟨v,AM.2 ⟨h,rfl⟩,O' rfl⟩
theorem XT(k:∀ j,j<5->Ag (r.an j)){v:Vt}(o:0<=v.bt/\v.bt<=39)(p:∀ j,j<5->v∈(r.an j).vs):CX r.hZ v.bt=0:=by
 have e:D5 r.hZ v.bt=Ae (r.an 0).vs v.bt++(Ae (r.an 1).vs v.bt++(Ae (r.an 2).vs v.bt++(Ae (r.an 3).vs v.bt++Ae (r.an 4).vs v.bt))):=by
  unfold D5 Rnd.hZ Ae;simp[List.filter_append]
 have g:∀ j,j<5->1<=BK (Ae (r.an j).vs v.bt) v:=λj l=>ZG (p j l);have n:5<2*BK (D5 r.hZ v.bt) v:=by
  rw[e,Cx,Cx,Cx,Cx];have:=g 0 (by omega);have:=g 1 (by omega);have:=g 2 (by omega);have:=g 3 (by omega);have:=g 4 (by omega);omega
 have m:v∈D5 r.hZ v.bt:=by
  obtain⟨u,b,d⟩:=rp.1 (show 0<BK (D5 r.hZ v.bt) v by omega);have c:u=v:=nL d;rw[c]at b;exact b
 have f:∀ a∈r.hZ,Ag a:=λa h=>by
  unfold Rnd.hZ at h;simp only[mZ,Q',or_false]at h;rcases h with e|e|e|e|e<;>rw[e]<;>exact k _ (by omega)
 have i:(Ho (D5 r.hZ v.bt) r.hZ.length).isSome=true:=List.find?_isSome.2 ⟨v,m,O' n⟩;unfold CX;rw[if_neg (λg=>g ⟨o,by show(1:Int)<=((5:Nat):Int)/\((5:Nat):Int)<=5;decide⟩),if_neg (λg=>g f),if_pos i]
theorem Qm(c:v.b=p.bn.hU)(a:Ag (p.bn.an j))(e:Ah v)(f:(p.bn.an j).p=p.bn.hU):v∈((p.count j v).bn.an j).vs:=by
 have d:Bb (p.bn.an j) v=0:=by
  unfold Bb;rw[if_neg (λg=>g a),if_neg (λg=>g e),if_neg];rw[f,c];unfold Bal.lt;omega
 unfold Nod.count;rw[if_neg (λg=>g c),if_neg (λg=>g d)];show v∈(upN p.bn.an j ⟨BI (p.bn.an j) v,Br (p.bn.an j) v⟩ j).vs;rw[Dd];show v∈Br (p.bn.an j) v;rw[(DK d).2,BA a.2.2];exact .inl rfl
theorem Sq{k:Nat}{u:Vt}(a:v∈(p.bn.an k).vs)(g:u.b=p.bn.hU->u.bt=v.bt->u=v):v∈((p.count j u).bn.an k).vs:=by
 unfold Nod.count;split
 .exact a
 .rename_i hb
  split
  .exact a
  .rename_i c
   have c:=mX.1 c;show v∈(upN p.bn.an j ⟨BI (p.bn.an j) u,Br (p.bn.an j) u⟩ k).vs;unfold upN;split
   .rename_i e
    show v∈Br (p.bn.an j) u;rw[(DK c).2,BA (Aq c).1.2.2];by_cases d:u.bt=v.bt
    .exact .inl (g (mX.1 hb) d).symm
    .exact .inr ⟨by rw[<- e];exact a,λf=>d f.symm⟩
   .exact a
theorem bU(h:(p.cl v).2=0):Ah v:=by
 unfold Nod.cl at h;split at h
 .rename_i h0;exact absurd h h0
 .rename_i h0;exact(Aq (mX.1 h0)).2.1
theorem Ws{l:List Cmd}(k:Nat)(h:CX r.hZ (l.length:Int)=0):l.length<(FG (k+1) r l).length:=by
 rw[FG,if_pos h];have:=(IG k r (l++[CQ r.hZ (l.length:Int)])).length_le;rw[G',nN]at this
 omega
end
section
variable{C:List Cmd}{K:Int}{B:Nat->Bal}{cov:List (Bal × Nat)}{i:Nat}{b:Bal}
theorem Stp.sX{n:Nat}{M N:Meet}(s:Stp wh0 n M N)(m:PhC C K B cov i b)(h:PhE C K B cov i b M){σ:Gs}(g:AgI σ M) :
  ((N.ab i).bn.an=(M.ab i).bn.an/\(N.ab i).bn.next=(M.ab i).bn.next)\/((N.ab i).bn.an=(M.ab i).bn.an/\(N.ab i).bn.next=(M.ab i).ae.length+1/\(M.ab i).ae.length<40)\/∃ k u,k<5/\σ.held k u/\(N.ab i).bn=((M.ab i).count k u).bn/\(N.ab i).ae=((M.ab i).count k u).ae:=by
 have put:∀ {k:Nat} {p:Nod} {f:List Let} {j:List Tol},(i=k->p.bn.an=(M.ab k).bn.an/\p.bn.next=(M.ab k).bn.next)->((M.set k p f j).ab i).bn.an=(M.ab i).bn.an/\((M.set k p f j).ab i).bn.next=(M.ab i).bn.next:=λ{k p f j} e=>by
  rw[Am];split
  .rename_i e2;rw[e2];exact e e2
  .exact⟨rfl,rfl⟩
 cases s with
 | take _ l hl hd hu ht =>
  have lt:=g.lt l hl;by_cases a:l.kind=4/\i=l.dst
  .refine .inr (.inr ⟨l.src,l.cl,hd.1,lt.k4 a.1,?_⟩);rw[Am,if_pos a.2,<- a.2];unfold Nod.take;rw[a.1];exact⟨rfl,rfl⟩
  .refine .inl (put λe=>?_);rw[<- e];unfold Nod.take;split
   .split
    .unfold Nod.ew;split<;>exact⟨rfl,rfl⟩
    .show((M.ab i).au _).1.bn.an=_/\((M.ab i).au _).1.bn.next=_;rw[(AO _ _).2];exact⟨rfl,rfl⟩
   .simp only;rw[if_pos (.inr (.inr (h.pr l.src hd.1)))];exact⟨rfl,rfl⟩
   .exact⟨rfl,rfl⟩
   .split
    .unfold Nod.ew;split<;>exact⟨rfl,rfl⟩
    .show((M.ab i).cl _).1.bn.an=_/\((M.ab i).cl _).1.bn.next=_;rw[(BX _ _).2];exact⟨rfl,rfl⟩
   .rename_i hk;exact absurd ⟨hk,e⟩ a
   .split<;>exact⟨rfl,rfl⟩
   .simp only;unfold Nod.dT;split<;>split<;>exact⟨rfl,rfl⟩
   .exact⟨rfl,rfl⟩
 | br _ f hl hd=>exact False.elim hd
 | one _ k c hi hu hc he=>exact .inl (put λe=>by unfold Nod.fv;split<;>exact⟨rfl,rfl⟩)
 | ask _ k hi hu=>exact .inl (put λe=>by rw[h.jv hi];exact⟨rfl,rfl⟩)
 | prop _ k hi hu =>
  by_cases e:i=k
  .subst e;rw[Am,if_pos rfl];unfold Nod.cx;split
   .exact .inl ⟨rfl,rfl⟩
   .split
    .exact .inl ⟨rfl,rfl⟩
    .split
     .exact .inl ⟨rfl,rfl⟩
     .rename_i he
      refine .inr (.inl ⟨rfl,rfl,?_⟩);have:=(bU (mX.1 he)).1.2;have:((M.ab i).ae.length:Int)<=39:=this;omega
  .refine .inl ?_;rw[Am,if_neg e];exact⟨rfl,rfl⟩
 | so _ k hi hu hs hT=>exact .inl (put λe=>⟨rfl,rfl⟩)
 | run _ k hi hu q l hp hs =>
  by_cases e:i=k
  .subst e;cases q with
   | began b vs=>exact absurd (by rw[hp];exact M') (h.nb b vs)
   | prop v =>
    refine .inr (.inr ⟨i,v,hi,?_,?_⟩)
    .obtain⟨rs,k⟩:=(g.nd i hi).up hu;have:=k.pe (.prop v) (by rw[hp];exact M');unfold Gs.held;rw[k.tp.all hs];exact this
    .rw[Am,if_pos rfl];exact⟨rfl,rfl⟩
   | _=>exact .inl (put λ_=>⟨rfl,rfl⟩)
  .refine .inl ?_;rw[Am,if_neg e];exact⟨rfl,rfl⟩
 | sg _ k hi hu hL=>exact .inl (put λe=>⟨rfl,rfl⟩)
 | lead _ k hi hu hL=>exact False.elim hL
 | sub _ k d hi hu hD=>exact False.elim hD
 | lp _ k y hi hu hk hC=>exact False.elim hC
 | start _ k hi hu hs=>exact False.elim hs
structure PhL(C:List Cmd)(K:Int)(B:Nat->Bal)(cov:List (Bal × Nat))(i:Nat)(b:Bal)(M:Meet):Prop where
 pe:PhE C K B cov i b M
 ld:∀ v:Vt,v.b=b->(∀ j,j<5->v∈((M.ab i).bn.an j).vs)->v.bt<((M.ab i).ae.length:Int)
 nx:(M.ab i).bn.next<=(M.ab i).ae.length+1/\(M.ab i).bn.next<=40
theorem PhE.acc(c:PhC C K B cov i b){M:Meet}(h:PhE C K B cov i b M){j:Nat}(a:j<5):Ag ((M.ab i).bn.an j)/\((M.ab i).bn.an j).p=b:=by
 obtain⟨σ,g,_⟩:=h.pb.cm.ex;have k:=h.rd c g;exact⟨(k.1.acc j a).1,((k.1.acc j a).2 (h.pr j a)).trans k.2⟩
theorem PhE.nn(m:PhC C K B cov i b){n:Nat}{M N:Meet}(s:Stp wh0 n M N)(h:PhE C K B cov i b M){v:Vt}(l:v.b=b){j:Nat}(r:j<5)(a:v∈((M.ab i).bn.an j).vs):v∈((N.ab i).bn.an j).vs:=by
 obtain⟨σ,g,_⟩:=h.pb.cm.ex;have k:=h.rd m g;rcases s.sX m h g with e|e|⟨q,u,hq,hu,e,_⟩
 .rw[e.1];exact a
 .rw[e.1];exact a
 .rw[e];refine Sq a λc d=>?_;have o:=g.gs.hv q u hu;have p:=g.gs.hv j v (k.1.an j r v a).1;have f:=o.2;rw[c,k.2,d,<- l]at f
  exact(Vt.eq_iff u v).1 ⟨d,(c.trans k.2).trans l.symm,g.gs.w1 _ _ _ _ f p.2⟩
theorem PhL.step(d:PhC C K B cov i b){n:Nat}{M N:Meet}(s:Stp wh0 n M N)(h:PhL C K B cov i b M):PhL C K B cov i b N:=by
 have f:=h.pe.step d s;have x:=(s.ev i).ag.length_le;obtain⟨σ,g,_⟩:=h.pe.pb.cm.ex;have p:(N.ab i).bn.next<=(N.ab i).ae.length+1/\(N.ab i).bn.next<=40:=by
  have:=h.nx;rcases s.sX d h.pe g with e|e|⟨q,u,hq,hu,e,_⟩
  .rw[e.2];omega
  .rw[e.2.1];omega
  .have o:((M.ab i).count q u).bn.next=(M.ab i).bn.next:=by
    unfold Nod.count;split
    .rfl
    .split<;>rfl
   rw[e,o];omega
 refine⟨f,λv t a=>?_,p⟩;by_cases l:∀ j,j<5->v∈((M.ab i).bn.an j).vs
 .have:=h.ld v t l;omega
 .obtain⟨τ,g2,_⟩:=f.pb.cm.ex;have z:=f.rd d g2;have m:=g2.gs.hv 0 v (z.1.an 0 (by omega) v (a 0 (by omega))).1;have k:=f.lt d g2 m t;rcases s.sX d h.pe g with e|e|⟨q,u,hq,hu,e,ea⟩
  .rw[e.1]at a;exact absurd a l
  .rw[e.1]at a;exact absurd a l
  .have hm:=m.1.1;rw[e]at a k
   rw[ea];have c:∀ j,j<5->Ag ((N.ab i).bn.an j):=λj y=>(f.acc d y).1;rw[e]at c
   have A:=h.nx;have o:((M.ab i).count q u).bn.next=(M.ab i).bn.next:=by
    unfold Nod.count;split
    .rfl
    .split<;>rfl
   rw[o]at k
   unfold Nod.count at a c ⊢;split at a
   .exact absurd a l
   .split at a
    .exact absurd a l
    .rename_i h3 h4
     rw[if_neg h3,if_neg h4]at c ⊢
     by_cases w:v.bt<((M.ab i).ae.length:Int)
     .exact Int.lt_of_lt_of_le w (Int.ofNat_le.2 (IG 41 _ _).length_le)
     .have e6:v.bt=((M.ab i).ae.length:Int):=by omega
      have r:=XT c hm a;rw[e6]at r ⊢
      exact Int.ofNat_lt.2 (Ws 40 r)
end
section
variable{I J:Meet->Prop}
theorem MH(j:∀ c M N,Stp wh1 c M N->I M->I N)(p:∀ c M N,Stp wh1 c M N->I M->J M->J N){n:Nat}{M:Meet}(q:MOk n M)(u:n+5<=1000000)(h:I M){i:Nat}(r:i<5)(d:∀ N m,MOk m N->m+1<=1000000->I N->N.ab i=M.ab i->J (N.act (acN 3 (i:Int)))):J (M.dc (AG 3 5)):=by
 have d:∀ k,k<=5->MOk (n+k) (M.dc (AG 3 k))/\I (M.dc (AG 3 k))/\(k<=i->(M.dc (AG 3 k)).ab i=M.ab i)/\(i<k->J (M.dc (AG 3 k))):=by
  intro k;induction k with
  | zero=>exact λ_=>⟨q,h,λ_=>rfl,λe=>absurd e (pf _)⟩
  | succ k ih =>
   intro t;obtain⟨a,b,f,o⟩:=ih (by omega);rw[BS,AL];refine⟨a.act (by omega) (FU (by omega)),Cz j a (by omega) b,λe=>by rw[EG _ (by omega)];exact f (by omega),λe=>?_⟩;by_cases l:i<k
   .exact(Cz (I:=λN=>I N/\J N) (λc A B s g=>⟨j c A B s g.1,p c A B s g.1 g.2⟩) a (by omega) ⟨b,o l⟩).2
   .obtain rfl:k=i:=by omega
    exact d _ _ a (by omega) b (f (A' _))
 exact(d 5 (A' _)).2.2.2 r
end
theorem Im(M:Meet){i:Nat}(d:i<5):∃ N:Meet,N.ab i=M.ab i/\N=M.dc (AG 3 i)/\(M.dc (AG 3 5)).ab i=(N.act (acN 3 (i:Int))).ab i:=by
 have b:∀ k,k<=i->(M.dc (AG 3 k)).ab i=M.ab i:=by
  intro k;induction k with
  | zero=>exact λ_=>rfl
  | succ k ih=>exact λa=>by rw[BS,AL,EG _ (by omega)];exact ih (by omega)
 refine⟨_,b i (A' _),rfl,?_⟩;have c:∀ k,i<k->(M.dc (AG 3 k)).ab i=((M.dc (AG 3 i)).act (acN 3 (i:Int))).ab i:=by
  intro k a;induction k with
  | zero=>exact absurd a (pf _)
  | succ k ih =>
   rw[BS,AL];by_cases e:k=i
   .rw[e]
   .rw[EG _ (Ne.symm e)];exact ih (by omega)
 exact c 5 d
theorem Stp.sN{M N:Meet}(s:Stp wh0 0 M N)(i:Nat):(N.ab i).bn.next=(M.ab i).bn.next:=by
 have put:∀ {k:Nat} {p:Nod} {a:List Let} {g:List Tol},p.bn.next=(M.ab k).bn.next->((M.set k p a g).ab i).bn.next=(M.ab i).bn.next:=λ{k p a g} e=>by
  rw[Am];split
  .rename_i e2;rw[e2];exact e
  .rfl
 have f:∀ (p:Nod) (j:Nat) (v:Vt),(p.count j v).bn.next=p.bn.next:=λp j v=>by
  unfold Nod.count;split
  .rfl
  .split<;>rfl
 cases s with
 | take _ l hl hd hu ht =>
  refine put ?_;unfold Nod.take;split
  .split
   .unfold Nod.ew;split<;>rfl
   .show((M.ab l.dst).au _).1.bn.next=_;rw[(AO _ _).2]
  .simp only;split<;>rfl
  .rfl
  .split
   .unfold Nod.ew;split<;>rfl
   .show((M.ab l.dst).cl _).1.bn.next=_;rw[(BX _ _).2]
  .exact f _ _ _
  .split<;>rfl
  .simp only;unfold Nod.dT;split<;>split<;>rfl
  .rfl
 | br _ a hl hd=>exact False.elim hd
 | one _ k c hi hu hc he=>exact put (by unfold Nod.fv;split<;>rfl)
 | ask _ k hi hu =>
  refine put ?_;unfold Nod.jv;split
  .rfl
  .split
   .unfold Nod.dT;split<;>rfl
   .rfl
 | so _ k hi hu hs hT=>exact put rfl
 | run _ k hi hu q l hp hs =>
  refine put ?_;show((M.ab k).ln k q).bn.next=_;cases q with
  | began b vs=>simp only[Nod.ln];split<;>rfl
  | prop v=>exact f _ _ _
  | _=>rfl
 | sg _ k hi hu hL=>exact put rfl
 | lead _ k hi hu hL=>exact False.elim hL
 | sub _ k d hi hu hD=>exact False.elim hD
 | lp _ k y hi hu hk hC=>exact False.elim hC
 | start _ k hi hu hs=>exact False.elim hs
theorem Sts.sN{M N:Meet}(s:Sts wh1 0 M N)(i:Nat):(N.ab i).bn.next=(M.ab i).bn.next:=by
 generalize a:0=z at s;induction s with
 | nil=>rfl
 | @snoc n c m A B E h s hm ih =>
  obtain rfl:c=0:=by omega
  exact(s.calm.sN i).trans (ih (by omega))
theorem Tj{p q:Nod}(a:q.bn=p.bn)(b:q.ae=p.ae)(s:Nat):q.rk s=p.rk s:=by unfold Nod.rk;rw[a,b]
section
variable{C:List Cmd}{K:Int}{B:Nat->Bal}{cov:List (Bal × Nat)}{i:Nat}{b:Bal}
def J3(i:Nat)(v:Vt)(N:Meet):Prop:=v∈((N.ab i).bn.an i).vs/\∀ j,j<5->j≠i->({ BC 3 with cl:=v,src:=i,dst:=j }:Let)∈N.br
theorem J3.step(a:PhC C K B cov i b){n:Nat}{M N:Meet}(s:Stp wh0 n M N)(h:PhE C K B cov i b M){v:Vt}(c:v.b=b)(k:J3 i v M):J3 i v N:=⟨h.nn a s c a.hi k.1,λj d e=>s.sC (k.2 j d e)⟩
theorem PhE.sh{M:Meet}(h:PhE C K B cov i b M):(M.ab i).bn.sh=true:=by
 unfold Rnd.sh Jy;rw[h.pr 0 (by omega),h.pr 1 (by omega),h.pr 2 (by omega),h.pr 3 (by omega),h.pr 4 (by omega)];decide
theorem OH(a:PhC C K B cov i b)(H:14*K+38*(cov.length:Int)<=99000)(q:∀ c∈C,c.e=0){M:Meet}(h:PhL C K B cov i b M)(S:(M.ab i).ae.length<40)(L:(M.ab i).bn.next<=(M.ab i).ae.length){c:Cmd}(z:(M.ab i).rk (M.ab i).ae.length=some c) :
  J3 i ⟨((M.ab i).ae.length:Int),b,c⟩ (M.act (acN 3 (i:Int)))/\((M.act (acN 3 (i:Int))).ab i).bn.next=(M.ab i).ae.length+1:=by
 have E:=h.pe.pb.cm.up i a.hi;obtain⟨R,s0,T,O,a0,n,G,Q,P,F⟩:=Il (D:=wh1) a.hi E;have r:∀ c A N,Stp wh1 c A N->PhL C K B cov i b A->PhL C K B cov i b N:=λc A N s g=>g.step a s.calm;have x:=s0.inv r h;have o:=P.inv r x;have f:(n.ab i).bn=(M.ab i).bn/\(n.ab i).ae=(M.ab i).ae:=by
  rw[G,Bp,x.pe.jv a.hi];exact⟨O,a0⟩
 have u:Ah ⟨((M.ab i).ae.length:Int),b,c⟩:=⟨by show(0:Int)<=((M.ab i).ae.length:Int)/\((M.ab i).ae.length:Int)<=39;omega,a.hb,q c (Lb (h.pe.pb.cm.s.nd i a.hi) z)⟩;generalize w:(⟨((M.ab i).ae.length:Int),b,c⟩:Vt)=v at u;have m:v.b=b:=by rw[<- w]
 have t:=eF a H o.pe.pb o.pe.sh (by rw[f.1,f.2];exact L) (c:=c) (by rw[Tj f.1 f.2,f.2];exact z) (by rw[f.2,w];exact u);rw[f.2,w]at t
 have p:=(Stp.prop (D:=wh1) n i a.hi Q).calm;have p:=o.step a p;have k:=F.inv (I:=λN=>PhL C K B cov i b N/\(Pend.prop v∈(N.ab i).bu\/J3 i v N)) (λd A N s g=>⟨r d A N s g.1,by
  rcases g.2 with g2|g2
  .rcases O5 s.calm g2 with g3|⟨l,g3,rfl⟩
   .exact .inl g3
   .refine .inr ⟨?_,λj J e=>mU _ (MA { BC 3 with cl:=v } J e)⟩;rw[Am,if_pos rfl];have ac:=g.1.pe.acc a a.hi;have y:(A.ab i).bn.hU=b:=(g.1.pe.pb.cm.hU i a.hi).trans a.hB;exact Qm (m.trans y.symm) ac.1 u (ac.2.trans y.symm)
  .exact .inr (g2.step a s.calm g.1.pe m)⟩) ⟨p,.inl (by rw[Bp];exact t.2)⟩
 refine⟨k.2.resolve_left λg=>?_,by rw[F.sN i,Bp];exact t.1⟩;rw[Hk E,Am,if_pos rfl,Ii (h.pe.pb.cm.sT a.hi)]at g
 cases g
theorem Xb(a:PhC C K B cov i b){M:Meet}(h:PhL C K B cov i b M)(m:(M.ab i).ae.length<(M.ab i).bn.next):((M.act (acN 3 (i:Int))).ab i).bn.next=(M.ab i).bn.next:=by
 have l:=h.pe.pb.cm.up i a.hi;obtain⟨p,s0,r,n,a0,e,f,t,q,o⟩:=Il (D:=wh1) a.hi l;have k:∀ c A N,Stp wh1 c A N->PhL C K B cov i b A->PhL C K B cov i b N:=λc A N s g=>g.step a s.calm;have j:=s0.inv k h;have d:(e.ab i).bn=(M.ab i).bn/\(e.ab i).ae=(M.ab i).ae:=by
  rw[f,Bp,j.pe.jv a.hi];exact⟨n,a0⟩
 rw[o.sN i,Bp];unfold Nod.cx;rw[if_pos (.inr (.inr (by rw[d.1,d.2];exact m))),d.1]
def Bz(i:Nat)(v:Vt)(N:Meet):Prop:=v∈((N.ab i).bn.an i).vs/\∀ j,j<5->j≠i->Pend.voted i v∈(N.ab j).bu
theorem PhL.drop{N:Meet}(h:PhL C K B cov i b N):PhL C K B cov i b { N with br:=[] } :=
 ⟨⟨⟨h.pe.pb.cm.drop,h.pe.pb.ak,h.pe.pb.vi⟩,h.pe.va,h.pe.pr,h.pe.nb,h.pe.aw,λm a=>(by cases a),h.pe.qw⟩,h.ld,h.nx⟩
theorem EO(M:Meet):M.dc An=(M.dc (AG 3 5)).act (acN 7 0):=by rw[show An=AG 3 5++[acN 7 0]from rfl,AL]
theorem PhL.round(f:PhC C K B cov i b){n:Nat}{M:Meet}(k:MOk n M)(m:n+6<=1000000)(h:PhL C K B cov i b M):PhL C K B cov i b (M.dc An)/\MOk (n+6) (M.dc An)/\(M.dc An).br=[]/\(∀ j,Ev (M.ab j) ((M.dc An).ab j))/\((M.dc An).ab i).bn.next=((M.dc (AG 3 5)).ab i).bn.next:=by
 have d:=Bl (I:=λN=>PhL C K B cov i b N/\∀ j,Ev (M.ab j) (N.ab j)) (λc A N s g=>⟨g.1.step f s.calm,λj=>(g.2 j).trans (s.calm.ev j)⟩) k (by omega) ⟨h,λj=>.refl _⟩;rw[EO];obtain⟨N,l,e,_⟩:=Cr (I:=λN=>PhL C K B cov i b N/\(∀ j,Ev (M.ab j) (N.ab j))/\(N.ab i).bn.next=((M.dc (AG 3 5)).ab i).bn.next) (λA N s g=>⟨g.1.step f s.sF,λj=>(g.2.1 j).trans (s.sF.ev j),(s.sF.sN i).trans g.2.2⟩) d.1 ⟨d.2.1,d.2.2,rfl⟩;have a:=d.1.act (x:=acN 7 0) (by omega) (by rw[<- DM];decide);rw[l]at a ⊢
 exact⟨e.1.drop,a,rfl,e.2.1,e.2.2⟩
theorem TJ(a:PhC C K B cov i b)(u:14*K+38*(cov.length:Int)<=99000)(f:∀ c∈C,c.e=0){n:Nat}{M:Meet}(r:MOk n M)(P:n+6<=1000000)(h:PhL C K B cov i b M)(F:(M.ab i).ae.length<40)(H:(M.ab i).bn.next<=(M.ab i).ae.length){c:Cmd}(x:(M.ab i).rk (M.ab i).ae.length=some c) :
  Bz i ⟨((M.ab i).ae.length:Int),b,c⟩ (M.dc An)/\((M.dc An).ab i).bn.next=(M.ab i).ae.length+1:=by
 have G:Ah ⟨((M.ab i).ae.length:Int),b,c⟩:=⟨by show(0:Int)<=((M.ab i).ae.length:Int)/\((M.ab i).ae.length:Int)<=39;omega,a.hb,f c (Lb (h.pe.pb.cm.s.nd i a.hi) x)⟩;have w:∀ c A N,Stp wh1 c A N->PhL C K B cov i b A->PhL C K B cov i b N:=λc A N s g=>g.step a s.calm;have E:∀ A N,TkS A N->PhL C K B cov i b A->PhL C K B cov i b N:=λA N s g=>g.step a s.sF;have Q:=h.round a r P;have q:=MH (J:=λN=>J3 i ⟨((M.ab i).ae.length:Int),b,c⟩ N) w (λd A N s g k=>k.step a s.calm g.pe rfl) r (by omega) h a.hi (λN m _ _ g e=>by
  have:=(OH a u f g (by rw[e];exact F) (by rw[e];exact H) (c:=c) (by rw[e];exact x)).1;rw[e]at this;exact this)
 obtain⟨N,t,S,T⟩:=Im M a.hi;have p:=Bl w r (by omega) h;have O:PhL C K B cov i b N:=by
  rw[S];have R:∀ k,k<=5->MOk (n+k) (M.dc (AG 3 k))/\PhL C K B cov i b (M.dc (AG 3 k)):=by
   intro k;induction k with
   | zero=>exact λ_=>⟨r,h⟩
   | succ k ih =>
    intro U;obtain⟨D,L⟩:=ih (by omega);rw[BS,AL];exact⟨D.act (by omega) (FU (by omega)),Cz w D (by omega) L⟩
  have:=a.hi;exact(R i (by omega)).2
 have z:=(OH a u f O (by rw[t];exact F) (by rw[t];exact H) (c:=c) (by rw[t];exact x)).2;refine⟨?_,by rw[Q.2.2.2.2,T,z,t]⟩;have o:(⟨((M.ab i).ae.length:Int),b,c⟩:Vt).b=b:=rfl;generalize (⟨((M.ab i).ae.length:Int),b,c⟩:Vt)=v at G q o ⊢;rw[EO];generalize M.dc (AG 3 5)=A at p q ⊢;refine⟨?_,λj y e=>?_⟩
 .obtain⟨N,k1,k2,_⟩:=Cr (I:=λN=>PhL C K B cov i b N/\v∈((N.ab i).bn.an i).vs) (λA N s g=>⟨E A N s g.1,g.1.pe.nn a s.sF o a.hi g.2⟩) p.1 ⟨p.2,q.1⟩;rw[k1];exact k2.2
 .obtain⟨N,k1,_,k3,_⟩:=DP (J:=λN=>Pend.voted i v∈(N.ab j).bu) E (λA N s _ g=>by
   obtain⟨l,_,_,_,rfl⟩:=s;rw[Am];split
   .rename_i e3;rw[<- e3];exact Hl g
   .exact g) p.1 p.2 (q.2 j y e) (λN g=>g.pe.pb.cm.up j y) (λN g _=>by
   rw[Am,if_pos rfl];exact Xw a u g.pe.pb y G o (l:={ BC 3 with cl:=v,src:=i,dst:=j }) rfl rfl)
  rw[k1];exact k3
end
theorem mM(q:Nod){i j:Nat}(b:j<5)(c:j≠i) :
  (q.ae.length<=q.bn.bw j/\(EI q i 5).bn.bw j=q.bn.bw j)\/(q.bn.bw j<q.ae.length/\(EI q i 5).bn.bw j=q.ae.length/\({ BC 5 with src:=i,dst:=j,bt:=q.bn.bw j,gC:=q.ae.drop (q.bn.bw j) }:Let)∈Dt q i 5):=by
 have hin:∀ k,j<k->MT q i j=true->({ BC 5 with src:=i,dst:=j,bt:=q.bn.bw j,gC:=q.ae.drop (q.bn.bw j) }:Let)∈Dt q i k:=by
  intro k;induction k with
  | zero=>exact λh=>absurd h (pf _)
  | succ k ih =>
   intro f a;rw[Dt];by_cases e:j=k
   .rw[<- e,a,if_pos rfl];exact mU _ (D'.2 rfl)
   .exact mV _ (ih (by omega) a)
 have d:(EI q i 5).bn.bw j=if decide (j<5)&&MT q i j then q.ae.length else q.bn.bw j:=rfl;by_cases h:q.bn.bw j<q.ae.length
 .have a:MT q i j=true:=O' ⟨c,h⟩;exact .inr ⟨h,by rw[d,a,O' b];rfl,hin 5 b a⟩
 .have a:MT q i j=false:=H' λe=>h e.2;exact .inl ⟨by omega,by rw[d,a,O' b];rfl⟩
theorem TB(p:Nod)(i:Nat)(d:List Let)(c:List Tol):∃ (q:Nod) (ks:List Let),(p.piece i d c).1=(q.bw i ks).1/\(p.piece i d c).2.1=(q.bw i ks).2/\q.bn.bw=p.bn.bw:=by
 unfold Nod.piece;simp only;have e:=U6 i (p.ae.drop p.done) p c;generalize sq i (p.ae.drop p.done) p c=a at e ⊢;have f:(a.1.jv i).1.bn.bw=a.1.bn.bw:=by
  unfold Nod.jv;split
  .rfl
  .split
   .unfold Nod.dT;split<;>rfl
   .rfl
 generalize a.1.jv i=b at f ⊢;have g:b.1.cx.bn.bw=b.1.bn.bw:=by
  unfold Nod.cx;split
  .rfl
  .split
   .rfl
   .split<;>rfl
 generalize b.1.cx=r at g ⊢;have h:(r.qk i (d++b.2)).1.bn.bw=r.bn.bw:=by
  have j:∀ (l:List Pend) (x:Nod) (k:List Let),(qv i l x k).1.bn.bw=x.bn.bw:=by
   intro l;induction l with
   | nil=>exact λx k=>rfl
   | cons y l ih =>
    intro x k;rw[qv,ih];cases y with
    | began b vs=>simp only[Nod.ln];split<;>rfl
    | prop v =>
     simp only[Nod.ln,Nod.count];split
     .rfl
     .split<;>rfl
    | _=>rfl
  unfold Nod.qk;split
  .rfl
  .rw[j];unfold Nod.so;split<;>rfl
 exact⟨_,_,rfl,rfl,by rw[h,g,f,e.1]⟩
section
variable{C:List Cmd}{K:Int}{B:Nat->Bal}{cov:List (Bal × Nat)}{i:Nat}{b:Bal}
theorem PhE.tk{M N:Meet}(s:TkS M N)(h:PhE C K B cov i b M):(N.ab i).bn.bw=(M.ab i).bn.bw:=by
 obtain⟨l,c,a,d,rfl⟩:=s;rw[Am];split
 .rename_i e
  rw[<- e];unfold Nod.take;split
  .split
   .unfold Nod.ew;split<;>rfl
   .show((M.ab i).au _).1.bn.bw=_;rw[(AO _ _).2]
  .simp only;rw[if_pos (.inr (.inr (h.pr l.src a.1)))];rfl
  .rfl
  .split
   .unfold Nod.ew;split<;>rfl
   .show((M.ab i).cl _).1.bn.bw=_;rw[(BX _ _).2]
  .unfold Nod.count;split
   .rfl
   .split<;>rfl
  .split<;>rfl
  .simp only;unfold Nod.dT;split<;>split<;>rfl
  .rfl
 .rfl
def TT0(i:Nat)(M:Meet):Prop:=∀ j,j<5->j≠i->(M.ab i).bn.bw j<=(M.ab j).ae.length
def TTx(i a0:Nat)(N:Meet):Prop:=∀ j,j<5->j≠i->a0<=(N.ab i).bn.bw j/\((N.ab i).bn.bw j<=(N.ab j).ae.length\/∃ m∈N.br,m.kind=5/\m.dst=j/\m.bt<=(N.ab j).ae.length/\(N.ab i).bn.bw j<=m.bt+m.gC.length)
theorem TZ(k:PhC C K B cov i b){n:Nat}{M:Meet}(z:MOk n M)(F:n+1<=1000000)(h:PhL C K B cov i b M)(t:TT0 i M):TTx i (M.ab i).ae.length (M.act (acN 3 (i:Int))):=by
 have E:=h.pe.pb.cm.up i k.hi;have u:=Cz (I:=λN=>PhL C K B cov i b N/\Ev (M.ab i) (N.ab i)) (λc A N s g=>⟨g.1.step k s.calm,g.2.trans (s.calm.ev i)⟩) z k.hi ⟨h,.refl _⟩;have l:=u.1.pe.pb.leads k;have d:=u.2.ag.length_le;intro j v a;have o:=EG M (i:=i) a;have f:=t j v a;have e:M.act (acN 3 (i:Int))=M.set i ((M.ab i).piece i M.br M.ed).1 ((M.ab i).piece i M.br M.ed).2.1 ((M.ab i).piece i M.br M.ed).2.2:=Hk E;obtain⟨q,w,x,y,r⟩:=TB (M.ab i) i M.br M.ed;rw[o];rw[e,Bp,x]at l d ⊢
 have D:q.leads=true:=by
  refine nQ λg=>?_;unfold Nod.bw at l;rw[if_neg g]at l
  exact g l
 have p:q.bw i w=(EI q i 5,w++Dt q i 5):=by unfold Nod.bw;rw[if_pos D]
 rw[p]at d ⊢
 have d:(M.ab i).ae.length<=q.ae.length:=d;show _<=(EI q i 5).bn.bw j/\((EI q i 5).bn.bw j<=_\/∃ m∈((M.ab i).piece i M.br M.ed).2.1,_/\_/\_/\(EI q i 5).bn.bw j<=_);rw[y,p];rcases mM q v a with⟨g1,g2⟩|⟨g1,g2,g3⟩
 .rw[g2];exact⟨by omega,.inl (by rw[r];exact f)⟩
 .rw[g2];refine⟨d,.inr ⟨_,mU _ g3,rfl,rfl,by show q.bn.bw j<=_;rw[r];exact f,?_⟩⟩;show q.ae.length<=q.bn.bw j+(q.ae.drop (q.bn.bw j)).length;rw[nc];omega
theorem MW(u:PhC C K B cov i b){n:Nat}{M:Meet}(E:MOk n M)(L:n+6<=1000000)(h:PhL C K B cov i b M)(t:TT0 i M):TT0 i (M.dc An)/\∀ j,j<5->(M.ab i).ae.length<=((M.dc An).ab j).ae.length:=by
 have G:∀ c A N,Stp wh1 c A N->PhL C K B cov i b A->PhL C K B cov i b N:=λc A N s g=>g.step u s.calm;have O:∀ k,k<=5->MOk (n+k) (M.dc (AG 3 k))/\PhL C K B cov i b (M.dc (AG 3 k))/\(∀ j,Ev (M.ab j) ((M.dc (AG 3 k)).ab j))/\(k<=i->(M.dc (AG 3 k)).ab i=M.ab i)/\(i<k->TTx i (M.ab i).ae.length (M.dc (AG 3 k))):=by
  intro k;induction k with
  | zero=>exact λ_=>⟨E,h,λj=>.refl _,λ_=>rfl,λe=>absurd e (pf _)⟩
  | succ k ih =>
   intro P;obtain⟨d,o,r,y,p⟩:=ih (by omega);rw[BS,AL];generalize M.dc (AG 3 k)=A at d o r y p ⊢;have q:=Cz (I:=λN=>(∀ j,Ev (A.ab j) (N.ab j))/\∀ m∈A.br,m∈N.br) (λc X N s g=>⟨λj=>(g.1 j).trans (s.calm.ev j),λm z=>s.calm.sC (g.2 m z)⟩) d (show k<5 by omega) ⟨λj=>.refl _,λm z=>z⟩;refine⟨d.act (by omega) (FU (by omega)),Cz G d (by omega) o,λj=>(r j).trans (q.1 j),λe=>by rw[EG _ (by omega)];exact y (by omega),λe=>?_⟩;by_cases F:i<k
   .intro j f a;obtain⟨x,l⟩:=p F j f a;rw[EG A (i:=k) (j:=i) (by omega)];have:=(q.1 j).ag.length_le;refine⟨x,?_⟩;rcases l with l|⟨m,l,g3,g4,g5,g6⟩
    .exact .inl (by omega)
    .exact .inr ⟨m,q.2 m l,g3,g4,by omega,g6⟩
   .obtain rfl:k=i:=by omega
    have D:=y (A' _);have:=TZ u d (by omega) o (λj f a=>by
     have:=(r j).ag.length_le;have:=t j f a;rw[D];omega)
    rw[D]at this;exact this
 obtain⟨d,o,r,_,p⟩:=O 5 (A' _);have p:=p u.hi;rw[EO];generalize M.dc (AG 3 5)=A at d o r p ⊢;have key:∀ j,j<5->j≠i->((A.act (acN 7 0)).ab i).bn.bw j<=((A.act (acN 7 0)).ab j).ae.length/\(M.ab i).ae.length<=((A.act (acN 7 0)).ab i).bn.bw j:=λj f a=>by
  obtain⟨x,l⟩:=p j f a;rcases l with l|⟨m,l,g3,g4,g5,g6⟩
  .obtain⟨N,w,v,_⟩:=Cr (I:=λN=>PhL C K B cov i b N/\(N.ab i).bn.bw=(A.ab i).bn.bw/\Ev (A.ab j) (N.ab j)) (λX N s g=>⟨g.1.step u s.sF,(g.1.pe.tk s).trans g.2.1,g.2.2.trans (s.sF.ev j)⟩) d ⟨o,rfl,.refl _⟩;rw[w];show(N.ab i).bn.bw j<=(N.ab j).ae.length/\_<=(N.ab i).bn.bw j;have:=v.2.2.ag.length_le;rw[v.2.1];omega
  .obtain⟨N,w,v,k3,_⟩:=DP (I:=λN=>PhL C K B cov i b N/\(N.ab i).bn.bw=(A.ab i).bn.bw/\Ev (A.ab j) (N.ab j)) (J:=λN=>(A.ab i).bn.bw j<=(N.ab j).ae.length) (λX N s g=>⟨g.1.step u s.sF,(g.1.pe.tk s).trans g.2.1,g.2.2.trans (s.sF.ev j)⟩) (λX N s g k=>by have:=(s.sF.ev j).ag.length_le;omega) d ⟨o,rfl,.refl _⟩ l (λN g=>by rw[g4];exact g.1.pe.pb.cm.up j f) (λN g _=>by
    have H:=g.2.2.ag.length_le;rw[g4,Am,if_pos rfl];unfold Nod.take;rw[g3];simp only;rw[if_neg (by omega)];show _<=((N.ab j).ae++m.gC.drop ((N.ab j).ae.length-m.bt)).length;rw[G',nc];omega)
   rw[w];show(N.ab i).bn.bw j<=(N.ab j).ae.length/\_<=(N.ab i).bn.bw j;rw[v.2.1];exact⟨k3,x⟩
 refine⟨λj f a=>(key j f a).1,λj f=>?_⟩;by_cases e:j=i
 .subst e;have:=h.round u E L;rw[EO]at this
  obtain⟨N,w,v,_⟩:=Cr (I:=λN=>Ev (A.ab j) (N.ab j)) (λX N s g=>g.trans (s.sF.ev j)) d (.refl _);rw[w];exact((r j).trans v).ag.length_le
 .have:=key j f e;omega
def K1(M:Meet):Prop:=∀ m∈M.br,m.kind=1->m.gC.length<=(M.ab m.src).ae.length
theorem K1.step{c:Nat}{M N:Meet}(s:Stp wh0 c M N)(h:K1 M):K1 N:=by
 have f:∀ m∈M.br,m.kind=1->m.gC.length<=(N.ab m.src).ae.length:=λm i a=>mS (h m i a) (s.ev m.src).ag.length_le;intro m i a;cases s with
 | br _ ls hl hd=>exact False.elim hd
 | ask _ k hi hu =>
  rcases P'.1 i with g|g
  .exact f m g a
  .unfold Nod.jv at g;split at g
   .cases g
   .split at g
    .cases g
    .rw[D'.1 g]at a;cases a
 | run _ k hi hu q l hp hs =>
  rcases P'.1 i with g|g
  .exact f m g a
  .cases q with
   | began b vs =>
    unfold Nod.sc at g;simp only at g;split at g
    .cases g
    .have:=(DH g).1;rw[a]at this;cases this
   | prop v=>have:=(DH g).1;rw[a]at this;cases this
   | start=>have:=(DH g).1;rw[a]at this;cases this
   | prom to b vs =>
    rw[D'.1 g];show(M.ab k).ae.length<=((M.set k { (M.ab k).ln k (.prom to b vs)with bu:=l } _ _).ab k).ae.length;rw[Bp];exact A' _
   | _=>have e:=D'.1 g;rw[e]at a;cases a
 | sg _ k hi hu hL =>
  rcases P'.1 i with g|g
  .exact f m g a
  .have:=(JU 5 m g).1;omega
 | lead _ k hi hu hL=>exact False.elim hL
 | sub _ k d hi hu hD=>exact False.elim hD
 | lp _ k x hi hu a hC=>exact False.elim hC
 | start _ k hi hu hs=>exact False.elim hs
 | _=>exact f m i a
end
section
variable{C:List Cmd}{K:Int}{B:Nat->Bal}{cov:List (Bal × Nat)}{i:Nat}{b:Bal}
theorem TK(a:PhC C K B cov i b){n:Nat}{M:Meet}(o:MOk n M)(O:n+6<=1000000)(h:PhL C K B cov i b M){v:Vt}(L:Ah v)(d:v.b=b)(z:Bz i v M)(Q:(M.ab i).ae.length<(M.ab i).bn.next) :
  v.bt<(((M.dc An).ab i).ae.length:Int)/\((M.dc An).ab i).bn.next=(M.ab i).bn.next:=by
 have q:∀ c A N,Stp wh1 c A N->PhL C K B cov i b A->PhL C K B cov i b N:=λc A N s g=>g.step a s.calm;have x:∀ A N,TkS A N->PhL C K B cov i b A->PhL C K B cov i b N:=λA N s g=>g.step a s.sF;have E:=h.round a o O;have m:=Bl q o (by omega) h;have t:((M.dc (AG 3 5)).ab i).bn.next=(M.ab i).bn.next:=by
  obtain⟨N,F,S,T⟩:=Im M a.hi;have H:PhL C K B cov i b N:=by
   rw[S];have P:∀ k,k<=5->MOk (n+k) (M.dc (AG 3 k))/\PhL C K B cov i b (M.dc (AG 3 k)):=by
    intro k;induction k with
    | zero=>exact λ_=>⟨o,h⟩
    | succ k ih =>
     intro r;obtain⟨w,G⟩:=ih (by omega);rw[BS,AL];exact⟨w.act (by omega) (FU (by omega)),Cz q w (by omega) G⟩
   have:=a.hi;exact(P i (by omega)).2
  rw[T,Xb a H (by rw[F];exact Q),F]
 refine⟨?_,by rw[E.2.2.2.2,t]⟩;have p:=Bl (I:=λN=>PhL C K B cov i b N/\v∈((N.ab i).bn.an i).vs) (λc A N s g=>⟨q c A N s g.1,g.1.pe.nn a s.calm d a.hi g.2⟩) o (by omega) ⟨h,z.1⟩;have D:∀ j,j<5->j≠i->({ BC 4 with cl:=v,src:=j,dst:=i }:Let)∈(M.dc (AG 3 5)).br:=λj f e =>
  Fv (J:=λN=>({ BC 4 with cl:=v,src:=j,dst:=i }:Let)∈N.br) q (λc A N s _ g=>s.calm.sC g) (λA k g r=>⟨g.pe.pb.cm.up k r,g.pe.pb.cm.sT r⟩) o (by omega) h f (z.2 j f e) λN l g _ _=>mU _ (D'.2 rfl)
 refine E.1.ld v d λj f=>?_;rw[EO];generalize M.dc (AG 3 5)=A at m D p ⊢;by_cases e:j=i
 .subst e;obtain⟨N,u,R,_⟩:=Cr (I:=λN=>PhL C K B cov j b N/\v∈((N.ab j).bn.an j).vs) (λA N s g=>⟨x A N s g.1,g.1.pe.nn a s.sF d f g.2⟩) m.1 ⟨m.2,p.2.2⟩;rw[u];exact R.2
 .obtain⟨N,u,_,k3,_⟩:=DP (J:=λN=>v∈((N.ab i).bn.an j).vs) x (λA N s g k=>g.pe.nn a s.sF d f k) m.1 m.2 (D j f e) (λN g=>g.pe.pb.cm.up i a.hi) (λN g _=>by
   rw[Am,if_pos rfl];have ac:=g.pe.acc a f;have y:(N.ab i).bn.hU=b:=(g.pe.pb.cm.hU i a.hi).trans a.hB;exact Qm (d.trans y.symm) ac.1 L (ac.2.trans y.symm))
  rw[u];exact k3
def mu(i:Nat)(M:Meet):Nat:=2*(40-(M.ab i).ae.length)+(if(M.ab i).bn.next<=(M.ab i).ae.length then 1 else 0)
def Zz(i:Nat)(b:Bal)(M:Meet):Prop:=(M.ab i).bn.next<=(M.ab i).ae.length\/∃ v:Vt,Ah v/\v.b=b/\v.bt=((M.ab i).ae.length:Int)/\Bz i v M
theorem ix(q:PhC C K B cov i b){M:Meet}(h:PhL C K B cov i b M)(x:(M.ab i).bn.next<=(M.ab i).ae.length)(d:(M.ab i).ae.length<40->(M.ab i).rk (M.ab i).ae.length=Option.none):Fin_ i (M.ab i).ae M:=by
 refine⟨rfl,x,λf j s v t e=>?_,λf c n=>nQ λe=>?_⟩
 .have d:=d f;unfold Nod.rk at d;have p:∀ l∈(M.ab i).bn.hZ.map (·.vs),∀ u∈l,Ah u:=λl o u k=>by
   obtain⟨a,f,rfl⟩:=nw.1 o;unfold Rnd.hZ at f;simp only[mZ,Q',or_false]at f;rcases f with e|e|e|e|e<;>(rw[e]at k;exact((h.pe.acc q (by omega)).1.2.1 u k).1)
  have m:BZ ((M.ab i).bn.hZ.map (·.vs)) ((M.ab i).ae.length:Int)=0:=by unfold BZ;rw[if_neg (λg=>g (by omega)),if_pos p]
  have r:DV ((M.ab i).bn.hZ.map (·.vs)) ((M.ab i).ae.length:Int)=true:=by
   unfold DV;rw[if_pos m];have:v∈Ae ((M.ab i).bn.hZ.map (·.vs)).flatten ((M.ab i).ae.length:Int):=AM.2 ⟨pa.2 ⟨((M.ab i).bn.an j).vs,nw.2 ⟨(M.ab i).bn.an j,by unfold Rnd.hZ;rcases se s with rfl|rfl|rfl|rfl|rfl<;>simp,rfl⟩,t⟩,e⟩;unfold Eh;generalize Ae _ _=l at this;have key:∀ (l:List Vt) (u:Vt),(BR l (some u)).isSome=true:=by
    intro l;induction l with
    | nil=>exact λu=>rfl
    | cons w l ih=>intro u;rw[BR];split<;>exact ih _
   cases l with
   | nil=>cases this
   | cons w l=>exact key l w
  rw[if_neg (λg=>g m),if_pos r]at d
  cases d
 .have d:=d f;unfold Nod.rk at d;have p:∀ l∈(M.ab i).bn.hZ.map (·.vs),∀ u∈l,Ah u:=λl o u k=>by
   obtain⟨a,f,rfl⟩:=nw.1 o;unfold Rnd.hZ at f;simp only[mZ,Q',or_false]at f;rcases f with e|e|e|e|e<;>(rw[e]at k;exact((h.pe.acc q (by omega)).1.2.1 u k).1)
  have m:BZ ((M.ab i).bn.hZ.map (·.vs)) ((M.ab i).ae.length:Int)=0:=by unfold BZ;rw[if_neg (λg=>g (by omega)),if_pos p]
  rw[if_neg (λg=>g m)]at d
  split at d
  .cases d
  .exact absurd (oG.1 d c n) (by simpa using e)
theorem LJ(m:Nat):An++Al m=Al (m+1):=by
 induction m with
 | zero=>rfl
 | succ m ih=>show An++(Al m++An)=Al (m+1)++An;rw[<- mY,ih]
theorem iC(a:PhC C K B cov i b)(A:14*K+38*(cov.length:Int)<=99000)(j:∀ c∈C,c.e=0)(k:Nat){n:Nat}{M:Meet}(d:MOk n M)(H:n+6*k<=999000)(h:PhL C K B cov i b M)(z:Zz i b M)(t:TT0 i M)(f:mu i M<=k) :
  ∃ m,m<=k/\Fin_ i ((M.dc (Al m)).ab i).ae (M.dc (Al m))/\PhL C K B cov i b (M.dc (Al m))/\TT0 i (M.dc (Al m))/\MOk (n+6*m) (M.dc (Al m)):=by
 induction k generalizing n M with
 | zero =>
  have:=h.nx;unfold mu at f;split at f<;>omega
 | succ k ih =>
  have F:=h.nx;have D:=(d.ab i a.hi).ag;by_cases o:(M.ab i).bn.next<=(M.ab i).ae.length
  .by_cases hf:(M.ab i).ae.length<40->(M.ab i).rk (M.ab i).ae.length=Option.none
   .exact⟨0,nH _,ix a h o hf,h,t,d⟩
   .obtain⟨ha,p⟩:=Classical.not_imp.1 hf;obtain⟨c,p⟩:=ph.1 p;have g:=h.round a d (by omega);have l:=TJ a A j d (by omega) h ha o p;have E:=(g.2.2.2.1 i).ag.length_le;have q:Ah ⟨((M.ab i).ae.length:Int),b,c⟩:=⟨by show(0:Int)<=((M.ab i).ae.length:Int)/\((M.ab i).ae.length:Int)<=39;omega,a.hb,j c (Lb (h.pe.pb.cm.s.nd i a.hi) p)⟩;obtain⟨m,y,r,u,x,w⟩:=ih (M:=M.dc An) (n:=n+6) g.2.1 (by omega) g.1 (by
     by_cases e:((M.dc An).ab i).ae.length=(M.ab i).ae.length
     .exact .inr ⟨_,q,rfl,by rw[e],l.1⟩
     .exact .inl (by rw[l.2];omega)) (MW a d (by omega) h t).1 (by
     unfold mu at f ⊢;rw[if_pos o]at f
     split<;>omega)
    refine⟨m+1,by omega,?_⟩;rw[<- LJ,AE];exact⟨r,u,x,by rw[show n+6*(m+1)=n+6+6*m by omega];exact w⟩
  .rcases z with z|⟨v,q,hvb,hs,z⟩
   .exact absurd z o
   .have g:=h.round a d (by omega);have l:=TK a d (by omega) h q hvb z (by omega);rw[hs]at l
    have G:=q.1.2;obtain⟨m,y,r,u,x,w⟩:=ih (M:=M.dc An) (n:=n+6) g.2.1 (by omega) g.1 (.inl (by rw[l.2];omega)) (MW a d (by omega) h t).1 (by
     unfold mu at f ⊢;rw[if_neg o]at f
     split<;>omega)
    refine⟨m+1,by omega,?_⟩;rw[<- LJ,AE];exact⟨r,u,x,by rw[show n+6*(m+1)=n+6+6*m by omega];exact w⟩
end
section
variable{C:List Cmd}{K:Int}{B:Nat->Bal}{cov:List (Bal × Nat)}{i:Nat}{b:Bal}
def AW(b:Bal)(j:Nat)(N:Meet):Prop:=(N.ab j).vo.p=b/\∀ c x,(N.ab j).bN c=some x->x=b
theorem Ur(d:b≠Bf){p:Nod}{j:Nat}(g:p.vo.p=b){c:Cmd}{x:Bal}(a:(p.jv j).1.bN c=some x):x=b\/(p.bN c=some x/\c∉p.av.take 40):=by
 have a:(Bd p.vo.p p.bN (p.av.take 40)).2 c=some x:=by
  unfold Nod.jv at a;split at a
  .exact a
  .split at a
   .unfold Nod.dT at a;split at a<;>exact a
   .exact a
 rw[g]at a
 have f:=Lp d (p.av.take 40) p.bN;by_cases e:c∈p.av.take 40
 .rw[f.2.1 c e]at a;exact .inl (nP a).symm
 .rw[f.1 c e]at a;exact .inr ⟨a,e⟩
theorem PhC.b0(a:PhC C K B cov i b):b≠Bf:=λe=>by have:=a.hb;rw[e]at this;exact absurd this (by decide)
theorem AW.step(d:PhC C K B cov i b){n:Nat}{M N:Meet}(s:Stp wh0 n M N)(h:PhB C K B cov i b M){j:Nat}(f:j<5)(a:AW b j M):AW b j N:=by
 refine⟨h.cm.top d.hc s d.hb.pr d.hK f a.1,λc x e=>?_⟩;rcases s.bN e with g|⟨_,rfl⟩
 .exact a.2 c x g
 .rw[Am,if_pos rfl]at e
  exact(Ur d.b0 a.1 e).elim id λg=>a.2 c x g.1
theorem fg(a:PhC C K B cov i b){M:Meet}(h:PhB C K B cov i b M){j:Nat}(d:j<5)(w:(M.ab j).vo.p=b):AW b j (M.act (acN 3 (j:Int))):=by
 have v:=h.cm.up j d;obtain⟨k,s0,J,H,a0,l,q,F,z,E⟩:=Il (D:=wh1) d v;have m:∀ c A N,Stp wh1 c A N->(PhB C K B cov i b A/\(A.ab j).vo.p=b)->PhB C K B cov i b N/\(N.ab j).vo.p=b:=λc A N s g=>⟨g.1.step a s.calm,(s.uh j).trans g.2⟩;have e:=s0.inv m ⟨h,w⟩;have f:=z.inv m e;have n:=e.1.ak j d;have G:=La n.nd λc r=>(e.1.cm.s.nd j d).wa c r;have t:=a.hC;have u:(k.ab j).av.take 40=(k.ab j).av:=nf (by omega);have y:AW b j l:=⟨f.2,λc x o=>by
  rw[q,Bp]at o
  refine(Ur a.b0 e.2 o).elim id λg=>absurd ?_ g.2;rw[u,n.wa c,g.1];rfl⟩
 have s3:=Stp.prop (D:=wh1) l j d F;exact(E.inv (I:=λN=>PhB C K B cov i b N/\AW b j N) (λc A N s g=>⟨g.1.step a s.calm,g.2.step a s.calm g.1 d⟩) ⟨f.1.step a s3.calm,y.step a s3.calm f.1 d⟩).2
def T1(i:Nat)(N:Meet):Prop:=∀ j,j<5->j≠i->(N.ab i).bn.rN j=true->(N.ab i).bn.bw j<=(N.ab j).ae.length
theorem T1.tk{M N:Meet}(s:TkS M N)(k:K1 M)(t:T1 i M):T1 i N:=by
 intro j n d f;have p:=(s.sF.ev j).ag.length_le;have a:(N.ab i).bn.bw j=(M.ab i).bn.bw j->(N.ab i).bn.rN j=(M.ab i).bn.rN j->(N.ab i).bn.bw j<=(N.ab j).ae.length:=λq h=>by
  have:=t j n d (by rw[<- h];exact f);omega
 obtain⟨l,o,r,u,rfl⟩:=s;by_cases e:i=l.dst
 .have en:((M.set l.dst ((M.ab l.dst).take l) M.br M.ed).ab i)=(M.ab i).take l:=by rw[Am,if_pos e,<- e]
  by_cases c:l.kind=1
  .rw[en]at a f ⊢
   have m:(M.ab i).take l=if((M.ab i).lr 0 l.gC).leads=false\/l.hU≠(M.ab i).bn.hU\/(M.ab i).bn.rN l.src=true then(M.ab i).lr 0 l.gC else Nod.sf { (M.ab i).lr 0 l.gC with bn:={ (M.ab i).bn.sw l.src l.mv with bw:=upN (M.ab i).bn.bw l.src l.gC.length } }:=by
    unfold Nod.take;rw[c];rfl
   rw[m]at a f ⊢
   split
   .rename_i hc
    rw[if_pos hc]at a
    exact a rfl rfl
   .rename_i hc
    rw[if_neg hc]at a
    show upN (M.ab i).bn.bw l.src l.gC.length j<=_;by_cases b:j=l.src
    .rw[<- b,Dd];have:=k l o c;rw[<- b]at this
     omega
    .rw[D2 _ _ b];have:=a (by show upN (M.ab i).bn.bw l.src l.gC.length j=_;rw[D2 _ _ b]) (by show upN (M.ab i).bn.rN l.src true j=_;rw[D2 _ _ b]);have g:upN (M.ab i).bn.bw l.src l.gC.length j<=_:=this;rw[D2 _ _ b]at g
     exact g
  .have:((M.ab i).take l).bn.bw=(M.ab i).bn.bw/\((M.ab i).take l).bn.rN=(M.ab i).bn.rN:=by
    unfold Nod.take;split
    .split
     .unfold Nod.ew;split<;>exact⟨rfl,rfl⟩
     .show((M.ab i).au _).1.bn.bw=_/\((M.ab i).au _).1.bn.rN=_;rw[(AO _ _).2];exact⟨rfl,rfl⟩
    .rename_i hk;exact absurd hk c
    .exact⟨rfl,rfl⟩
    .split
     .unfold Nod.ew;split<;>exact⟨rfl,rfl⟩
     .show((M.ab i).cl _).1.bn.bw=_/\((M.ab i).cl _).1.bn.rN=_;rw[(BX _ _).2];exact⟨rfl,rfl⟩
    .unfold Nod.count;split
     .exact⟨rfl,rfl⟩
     .split<;>exact⟨rfl,rfl⟩
    .split<;>exact⟨rfl,rfl⟩
    .simp only;unfold Nod.dT;split<;>split<;>exact⟨rfl,rfl⟩
    .exact⟨rfl,rfl⟩
   exact a (by rw[en,this.1]) (by rw[en,this.2])
 .have en:((M.set l.dst ((M.ab l.dst).take l) M.br M.ed).ab i)=M.ab i:=by rw[Am,if_neg e]
  exact a (by rw[en]) (by rw[en])
theorem eB(f:PhC C K B cov i b){n:Nat}{M:Meet}(u:MOk n M)(U:n+6<=1000000)(h:PhB C K B cov i b M)(q:QA i b M)(y:∀ j,j<5->(M.ab j).vo.p=b)(hp:(M.ab i).bn.rN i=true)(hw:∀ j,j<5->j≠i->∃ vs,Pend.prom i b vs∈(M.ab j).bu)(o:P1 i (M.ab i))(hl:M.br=[]) :
  PhL C K B cov i b (M.dc An)/\Zz i b (M.dc An)/\TT0 i (M.dc An)/\MOk (n+6) (M.dc An):=by
 have hP:∀ A N,TkS A N->PhB C K B cov i b A->PhB C K B cov i b N:=λA N s g=>g.step f s.sF;have T:∀ c A N,Stp wh1 c A N->PhB C K B cov i b A->PhB C K B cov i b N:=λc A N s g=>g.step f s.calm;have hq:=Rj f u U h q;have d:∀ j,j<5->j≠i->((M.dc An).ab i).bn.rN j=true:=λj a l=>by
  obtain⟨vs,g⟩:=hw j a l;exact WK f u U h a g
 have Q:=Bl (I:=λN=>PhB C K B cov i b N/\(∀ j,j<5->(N.ab j).vo.p=b)/\P1 i (N.ab i)/\K1 N/\(N.ab i).bn.rN i=true) (λc A N s g=>⟨T c A N s g.1,λj a=>(s.uh j).trans (g.2.1 j a),s.p1 g.2.2.1,g.2.2.2.1.step s.calm,(s.calm.ev i).rN i g.2.2.2.2⟩) u (by omega) ⟨h,y,o,λm w=>by rw[hl]at w;(cases w),hp⟩;have R:∀ j,j<5->AW b j (M.dc (AG 3 5)):=λj a=>MH (I:=λN=>PhB C K B cov i b N/\(N.ab j).vo.p=b) (J:=AW b j) (λc A N s g=>⟨T c A N s g.1,(s.uh j).trans g.2⟩) (λc A N s g k=>k.step f s.calm g.1 a) u (by omega) ⟨h,y j a⟩ a λN m _ _ g _=>fg f g.1 a g.2;have S:NB ((M.dc (AG 3 5)).ab i):=by
  obtain⟨N,W,n2,n3⟩:=Im M f.hi;rw[n3,Hk (by rw[W];exact h.cm.up i f.hi),Am,if_pos rfl];intro x vs g;rw[Ii (by rw[W];exact h.cm.sT f.hi)]at g
  cases g
 obtain⟨z,D,L,E⟩:=hq;rw[EO]at z D L E d ⊢
 generalize M.dc (AG 3 5)=A at Q R S z D L E d ⊢;obtain⟨Y,Z,a0,o,F,G⟩:=Q;obtain⟨N,k1,k2,_⟩:=Cr (I:=λN=>PhB C K B cov i b N/\(∀ j,j<5->AW b j N)/\NB (N.ab i)/\(N.ab i).bn.rN i=true/\(N.ab i).bn.next=0/\K1 N/\T1 i N) (λX N s g=>⟨hP X N s g.1,λj a=>(g.2.1 j a).step f s.sF g.1 a,s.sF.nb g.2.2.1,(s.sF.ev i).rN i g.2.2.2.1,(s.sF.sN i).trans g.2.2.2.2.1,g.2.2.2.2.2.1.step s.sF,g.2.2.2.2.2.2.tk s g.2.2.2.2.2.1⟩) Y ⟨Z,R,S,G,o.1,F,λj a l e=>by rw[o.2 j l]at e;cases e⟩;rw[k1]at z D L E d ⊢
 obtain⟨r1,O,r3,r4,P,r6,r7⟩:=k2;have d:∀ j,j<5->(N.ab i).bn.rN j=true:=λj a=>by
  by_cases e:j=i
  .rw[e];exact r4
  .exact d j a e
 have t:PhE C K B cov i b { N with br:=[] }:=⟨z,λj a=>(O j a).1,d,r3,λj a=>(O j a).2,λm w=>(by cases w),λj a c hc=>by
  have ha:=((r1.ak j a).wa c).1 hc;obtain⟨x,V⟩:=oA.1 ha;exact D j a c (by rw[show((({ N with br:=[] }:Meet).ab j).bN c)=some x from V,(O j a).2 c x V])⟩
 refine⟨⟨t,λv H y=>?_,by show(N.ab i).bn.next<=_/\(N.ab i).bn.next<=40;rw[P];omega⟩,.inl (by show(N.ab i).bn.next<=_;rw[P];exact nH _),λj a l=>r7 j a l (d j a),E⟩;obtain⟨σ,g,_⟩:=t.pb.cm.ex;have r:=g.gs.hv 0 v ((t.rd f g).1.an 0 (by omega) v (y 0 (by omega))).1;have:=t.lt f g r H;have e:(({ N with br:=[] }:Meet).ab i).bn.next=0:=P;rw[e]at this
 have:=r.1.1;omega
end
end
end Go.Proofs.YthkjeoamjgnpoaaGreatDoor
