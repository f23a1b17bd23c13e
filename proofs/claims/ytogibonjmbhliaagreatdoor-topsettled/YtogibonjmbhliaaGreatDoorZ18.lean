/- Part 18 of the walk. -/
import Derived.Test.YtogibonjmbhliaaGreatDoorZ17
set_option maxRecDepth 100000
set_option maxHeartbeats 4000000
set_option linter.unusedVariables false
namespace Go.Proofs.YtogibonjmbhliaaGreatDoor
section
variable{D:Wh}{K R:Int}{M N:Meet}{b:Bal}{c:Cmd}{cov:List (Bal × Nat)}{i j n s:Nat}{l:Let}{p:Nod}{q x:Pend}{rs:List Rk}{σ:Gs}
theorem NdI.mk'(b:p.up=true)(h:UpI σ i p rs)(a:AgL σ p.ab 0):NdI σ i p:=⟨λ_=>⟨rs,h⟩,λe=>(by rw[b]at e;cases e),a⟩
theorem AgL.nil(σ:Gs)(k:Nat):AgL σ [] k:=λs c e=>by simp at e
theorem AgL.drop{l:List Cmd}(h:AgL σ l 0)(k:Nat):AgL σ (l.drop k) k:=λs c e=>by
 rw[nJ]at e
 have:=h _ c e
 rwa [nD]at this
theorem UpI.wait(h:UpI σ i p rs)(a:PnI σ rs p.an x):UpI σ i (p.wait x) rs :=
 h.nr rfl rfl rfl h.rd rfl λy b=>(U'.1 b).imp id λe=>by rw[E'.1 e];exact a
theorem UpI.eb(h:UpI σ i p rs)(to:Nat)(e:Int):UpI σ i (p.eb to e) rs:=by
 unfold Nod.eb;split
 .exact h.wait (by show Aq p.vo.p/\p.vo.p.key<=_;rw[h.tp.vo];exact⟨h.tp.ok.acc.1,mE _⟩)
 .exact h
theorem O7(p:Nod)(to:Nat)(e:Int):(p.eb to e).ab=p.ab:=by unfold Nod.eb;split<;>rfl
theorem UpI.wrote{τ:Gs}{q:Nod}{a:List Rk}(h:UpI σ i p rs)(j:σ.le τ)(l:GsI τ)(f:τ.dr i=σ.dr i)(b:TpU q (σ.dr i) a)(m:rs <+: a)(o:∀ v,Rk.vt v∈a->τ.rU v){r:Rnd}(n:RdI τ i r)(c:p.an.fa.key<=r.fa.key)(e:r.fa.key<=q.vo.p.key)(s:PnI τ a r x)(k:q.bt=p.bt):UpI τ i (Nod.wait { q with an:=r } x) a :=
 ⟨by rw[f];exact⟨b.ok,b.pre,b.d,b.sy,b.vo,b.len⟩,o,n,e,λy t=>by
  rcases U'.1 t with g|g
  .have g:y∈q.bt:=g;rw[k]at g
   exact(h.pe y g).mono j l m b.ok c
  .rw[E'.1 g];exact s⟩
theorem FB(h:UpI σ i p rs)(l:List Cmd):UpI σ i (p.dT l) rs/\(p.dT l).ab=p.ab:=by
 unfold Nod.dT;split
 .exact⟨h.nr rfl rfl rfl ⟨h.rd.fa,h.rd.next,h.rd.own,h.rd.aj,h.rd.prom,h.rd.acc⟩ rfl λx a=>.inl a,rfl⟩
 .exact⟨h,rfl⟩
theorem QH(h:UpI σ i p rs)(a:AgL σ p.ab 0):UpI σ i p.rA rs/\AgL σ p.rA.ab 0:=⟨h.nr rfl rfl rfl h.rd rfl λx d=>.inl d,UP (λj b v c=>(h.rd.aj j b v c).1) 41 a⟩
theorem NdI.take(C:GsI σ)(h:NdI σ i p)(D:p.up=true)(u:LtI σ l)(G:l.src<5):NdI σ i (p.take l):=by
 obtain⟨f,k⟩:=h.up D;have c:=h.ag
 suffices g:∃ b,UpI σ i (p.take l) b/\AgL σ (p.take l).ab 0 by
  obtain⟨b,w,o⟩:=g;exact NdI.mk' ((congrArg Prod.fst (PO p l)).trans D) w o
 unfold Nod.take;split
 .rename_i hk
  rcases k.tp.al l.fa with⟨e,he⟩|⟨e,he,hvs,b,hp,ht,hm,hpb,hpv,d,a,hq⟩
  .rw[if_pos e];exact⟨f,k.eb _ _,by rw[O7];exact c⟩
  .rw[if_neg (λg=>g e)];have m:=Co he;refine⟨b,?_,?_⟩
   .refine k.wrote (q:=(p.al l.fa).1) (r:=(p.al l.fa).1.an) (.refl σ) C rfl ht hp (λv B=>k.rU v ((hm v).1 B)) ?_ ?_ ?_ ⟨PrmOk.of ht.ok hpb (hpv.trans hvs.symm),u.k0 hk⟩ (by rw[hq];rfl)
    .rw[hq];exact k.rd
    .rw[hq];exact mE _
    .rw[ht.vo,hpb,hq];exact mX k.bp (Bp m.2.1.pr m.1.1 m.2.2)
   .show AgL σ (p.al l.fa).1.ab 0;rw[hq];exact c
 .rename_i hk
  obtain⟨w,o,E⟩:=u.k1 hk;have y:AgL σ (p.jv 0 l.ed).ab 0:=QI c E (mY _);have s:UpI σ i (p.jv 0 l.ed) f:=k.nr rfl rfl rfl k.rd rfl λx j=>.inl j;generalize p.jv 0 l.ed=K at y s ⊢;simp only;split
  .exact⟨f,s,y⟩
  .rename_i hc
   have A:K.leads=true:=by cases hh:K.leads with|true=>rfl|false=>exact absurd (.inl hh) hc
   have t:l.fa=K.an.fa:=mI.1 λe=>hc (.inr (.inl e));have z:K.an.fa≠Bb:=(ng A).1;rw[t]at w o
   have F:=(s.rd.fa.resolve_left z).2;rw[F,nI]at o
   have n:=s.rd.rK w o;exact⟨f,QH (p:={ K with an:={ K.an.rK l.src l.lp with bu:=upN K.an.bu l.src l.ed.length } }) (s.nr rfl rfl rfl ⟨n.fa,n.next,n.own,n.aj,n.prom,n.acc⟩ rfl λx j=>.inl j) y⟩
 .exact⟨f,k.nr rfl rfl rfl k.rd rfl λx j=>.inl j,c⟩
 .rename_i hk
  rcases k.tp.bN l.bN with⟨e,he⟩|⟨e,he,b,hp,ht,hm,hpb,d,a,hq⟩
  .rw[if_pos e];exact⟨f,k.eb _ _,by rw[O7];exact c⟩
  .rw[if_neg (λg=>g e)];have m:=Ar he;refine⟨b,?_,?_⟩
   .refine k.wrote (q:=(p.bN l.bN).1) (r:=(p.bN l.bN).1.an) (.refl σ) C rfl ht hp (λv B=>((hm v).1 B).elim (λe=>by rw[e];exact u.k3 hk) (k.rU v)) ?_ ?_ ?_ ((hm _).2 (.inl rfl)) (by rw[hq];rfl)
    .rw[hq];exact k.rd
    .rw[hq];exact mE _
    .rw[ht.vo,hpb,hq];exact mX k.bp (Bp m.2.1.2.1.pr m.1.1 m.2.2)
   .show AgL σ (p.bN l.bN).1.ab 0;rw[hq];exact c
 .rename_i hk
  exact⟨f,k.count c (u.k4 hk)⟩
 .rename_i hk
  split
  .exact⟨f,k.wait trivial,c⟩
  .rename_i hlt;exact⟨f,k.nr rfl rfl rfl k.rd rfl λx j=>.inl j,QI c (u.k5 hk) (by omega)⟩
 .have:=FB k l.ed;simp only;split
  .exact⟨f,this.1.wait trivial,by show AgL σ (p.dT l.ed).ab 0;rw[this.2];exact c⟩
  .exact⟨f,this.1,by rw[this.2];exact c⟩
 .exact⟨f,k,c⟩
theorem WI(W:GsI σ)(h:RdI σ i p.an)(X:Ab p.an.fa)(Y:p.an.rD=true)(hs:p.an.next<=s)(t:p.pd s=some c):Ej σ.H σ.P s p.an.fa.key c:=by
 have h5:5<2*J9 p.an.oh:=ng Y;have m:∀ j,j<5->∀ v∈(p.an.aj j).vs,v.bn=(s:Int)->v∈Ae (p.an.gC.map (·.vs)).flatten (s:Int):=λj F v M e=>by
  refine Be.2 ⟨pg.2 ⟨(p.an.aj j).vs,mW.2 ⟨p.an.aj j,?_,rfl⟩,M⟩,e⟩;unfold Rnd.gC;rcases rk F with rfl|rfl|rfl|rfl|rfl<;>simp
 refine⟨p.an.oh,by omega,λq n o=>(h.prom q n o).1,?_⟩;unfold Nod.pd at t;split at t
 .cases t
 .rename_i d
  have d:=mI.1 d;have D:DR (p.an.gC.map (·.vs)) (s:Int)=(Gc (p.an.gC.map (·.vs)) (s:Int)).isSome:=if_pos d;have S:H7 (p.an.gC.map (·.vs)) (s:Int)=((Gc (p.an.gC.map (·.vs)) (s:Int)).map (·.w)).getD ⟨0,0,0,0,0⟩:=if_pos d;have r:∀ l∈p.an.gC.map (·.vs),∀ v∈l,Ah v:=by
   unfold Ck at d;split at d
   .cases d
   .split at d
    .assumption
    .cases d
  have L:∀ v∈Ae (p.an.gC.map (·.vs)).flatten (s:Int),Aq v.b:=λv M=>by
   obtain⟨l,k,f⟩:=pg.1 (Be.1 M).1;exact(r l k v f).2.1.pr
  rcases RW _ L with⟨h0,E⟩|⟨x,E,hx,hmax⟩
  .left;intro q n o U V ⟨v,g,R,Z,k3⟩;refine Int.not_lt.1 λz=>?_;obtain⟨u,k,f,_⟩:=(h.prom q n o).2 v g (by omega);have:=m q n u k (f.trans R);rw[h0]at this;cases this
  .right;have E:Gc (p.an.gC.map (·.vs)) (s:Int)=some x:=E;rw[E]at D S
   have D:DR (p.an.gC.map (·.vs)) (s:Int)=true:=D;rw[if_pos D]at t
   have G:c=x.w:=(nA t).symm.trans S;obtain⟨O,Q⟩:=Be.1 hx;obtain⟨j,F,N⟩:∃ j,j<5/\x∈(p.an.aj j).vs:=by
    obtain⟨l,k,f⟩:=pg.1 O;obtain⟨a,C,rfl⟩:=mW.1 k;unfold Rnd.gC at C;simp only[mN,P',or_false]at C;rcases C with rfl|rfl|rfl|rfl|rfl
    .exact⟨0,by omega,f⟩
    .exact⟨1,by omega,f⟩
    .exact⟨2,by omega,f⟩
    .exact⟨3,by omega,f⟩
    .exact⟨4,by omega,f⟩
   obtain⟨y,I,J⟩:=h.aj j F x N;have B:=W.hv j x y;have A:x.b≠p.an.fa:=λe=>by
    have k:=B.2;rw[e]at k
    have:=h.next _ _ k;omega
   have z:x.b.key<p.an.fa.key:=by
    rcases Int.lt_or_eq_of_le I with g|g
    .exact g
    .exact absurd (DB B.1.2.1.pr X.pr g) A
   have K:p.an.oh j=true:=by
    cases hh:p.an.oh j with
    | true=>rfl
    | false=>exact absurd (J hh) A
   refine⟨x.b.key,z,⟨j,F,K,x,y,Q,rfl,G.symm⟩,λq n o U V ⟨v,g,R,Z,k3⟩ T=>?_⟩;obtain⟨u,k,f,C⟩:=(h.prom q n o).2 v g (by omega);have:=hmax u (m q n u k (f.trans R));omega
def Gs.prop(σ:Gs)(b:Bal)(s:Nat)(c:Cmd):Gs:=⟨σ.dr,λb' s' c'=>σ.W b' s' c'\/(b'=b/\s'=s/\c'=c)⟩
theorem GsI.prop(h:GsI σ)(d:Ab b)(a:Ej σ.H σ.P s b.key c)(e:b.key<=σ.P b.n.toNat)(hn:∀ c',¬ σ.W b s c'):GsI (σ.prop b s c):=by
 refine⟨h.ok,h.sE,?_,?_,?_,λn v g=>⟨(h.hv n v g).1,.inl (h.hv n v g).2⟩⟩
 .rintro b' s' c1 c2 (g|⟨rfl,rfl,rfl⟩) (k|⟨e1,e2,e3⟩)
  .exact h.w1 _ _ _ _ g k
  .subst e1 e2;exact absurd g (hn _)
  .exact absurd k (hn _)
  .exact e3.symm
 .rintro b' s' c' (g|⟨rfl,rfl,rfl⟩)
  .exact h.w2 _ _ _ g
  .exact⟨d,a⟩
 .rintro b' s' c' (g|⟨rfl,rfl,rfl⟩)
  .exact h.w3 _ _ _ g
  .exact e
theorem NdI.cl(x:GsI σ)(h:NdI σ i p)(D:p.up=true):∃ τ ex,Gs.sP i σ τ/\GsI τ/\NdI τ i p.cl/\(∀ b s c,τ.W b s c->σ.W b s c\/ex=some (b,s))/\∀ b s,ex=some (b,s)->s<40/\b=p.an.fa:=by
 obtain⟨L,k⟩:=h.up D;have f:∃ τ ex,Gs.sP i σ τ/\GsI τ/\NdI τ i p/\(∀ b s c,τ.W b s c->σ.W b s c\/ex=some (b,s))/\∀ b s,ex=some (b,s)->s<40/\b=p.an.fa:=⟨σ,none,.refl i σ,x,h,λ_ _ _ h=>.inl h,λ_ _ e=>by cases e⟩;have o:=(Ey p).trans D
 revert o
 unfold Nod.cl;split
 .exact λ_=>f
 .rename_i hc
  have z:p.leads=true:=by cases hh:p.leads with|true=>rfl|false=>exact absurd (.inl hh) hc
  have n:p.an.rD=true:=by cases hh:p.an.rD with|true=>rfl|false=>exact absurd (.inr (.inl hh)) hc
  have A:p.an.next<=p.ab.length:=Nat.not_lt.1 λe=>hc (.inr (.inr e));cases hn:p.pd p.ab.length with
  | none=>exact λ_=>f
  | some c =>
   simp only;rcases k.tp.bN ⟨(p.ab.length:Int),p.an.fa,c⟩with⟨e,he⟩|⟨e,he,rs',hp,ht,hm,hpb,d,a,w⟩
   .rw[if_pos e];exact λ_=>f
   .rw[if_neg (λg=>g e)];intro o;have E:=Ar he;have y:p.an.fa≠Bb:=(ng z).1;obtain⟨C,t⟩:=k.rd.fa.resolve_left y;have G:=WI x k.rd C n A hn;have H:∀ m,¬ σ.W p.an.fa p.ab.length m:=λm g=>by have:=k.rd.next _ _ g;omega
    have I:p.an.fa.key<=σ.P i:=by
     obtain⟨q,w,F,_⟩:=IR p.an.oh p.an.oh (by have:5<2*J9 p.an.oh:=ng n;omega) (by have:5<2*J9 p.an.oh:=ng n;omega);exact k.rd.own q w F
    have l:=x.prop C G (by rw[t,nI];exact I) H;have j:Gs.sP i σ (σ.prop p.an.fa p.ab.length c):=⟨⟨λ_=>mL _,λ_ _ _ g=>.inl g⟩,λb s m g=>g.imp id λe=>by rw[e.1];exact t,λ_ _=>rfl⟩;have B:(σ.prop p.an.fa p.ab.length c).rU ⟨(p.ab.length:Int),p.an.fa,c⟩:=⟨E.2.1,.inr ⟨rfl,nI _,rfl⟩⟩;have K:=k.rd.mono (τ:=σ.prop p.an.fa p.ab.length c) (r:=p.an) j.le l;refine⟨_,some (p.an.fa,p.ab.length),j,l,NdI.mk' (rs:=rs') o ?_ ?_,λb s m g=>g.imp id λe=>by rw[e.1,e.2.1],λb s e=>?_⟩
    .refine k.wrote (q:=(p.bN ⟨(p.ab.length:Int),p.an.fa,c⟩).1) (r:={ p.an with next:=p.ab.length+1 }) j.le l rfl ht hp (λv J=>((hm v).1 J).elim (λe=>by rw[e];exact B) λg=>j.le.rU (k.rU v g)) ?_ (mE _) ?_ ((hm _).2 (.inl rfl)) (by rw[w];rfl)
     .have g:=k.rd;refine RdI.mono (σ:=σ) j.le l (r:={ p.an with next:=p.ab.length+1 }) ⟨g.fa,λs m u=>j' (g.next s m u) (by show p.an.next<=p.ab.length+1;omega),g.own,g.aj,g.prom,g.acc⟩ λs m u=>?_;rcases u with u|⟨_,rfl,_⟩
      .exact j' (g.next s m u) (by show p.an.next<=p.ab.length+1;omega)
      .exact Nat.lt_succ_self _
     .rw[ht.vo,hpb];exact mE _
    .show AgL _ (p.bN ⟨(p.ab.length:Int),p.an.fa,c⟩).1.ab 0;rw[w];exact h.ag.mono j.le
    .cases e;have:=E.2.1.1.2;exact⟨by simp only at this;omega,rfl⟩
theorem LtI.none(h:l.kind=6):LtI σ l:=⟨λe=>by omega,λe=>by omega,λe=>by omega,λe=>by omega,λe=>by omega,λe=>by omega⟩
theorem LtI.news(h:l.kind=5)(a:AgL σ l.ed l.bn):LtI σ l:=⟨λe=>by omega,λe=>by omega,λe=>by omega,λe=>by omega,λe=>by omega,λ_=>a⟩
theorem NdI.run(D:GsI σ)(I:i<5)(h:NdI σ i p)(j:p.up=true){l:List Pend}(B:p.bt=q::l)(F:¬ p.sy<(p.d.length:Int)):NdI σ i { p.ln i q with bt:=l }/\∀ m∈p.rz i q,LtI σ m:=by
 obtain⟨C,k⟩:=h.up j;have f:=k.tp.all F;have c:=k.pe q (by rw[B];exact O');have t:∀ x∈l,x∈p.bt:=λx u=>by rw[B];exact I' _ u
 have o:∀ {w:Nod},UpI σ i w C->w.bt=p.bt->UpI σ i { w with bt:=l } C:=λ{w} g e=>g.nr rfl rfl rfl g.rd rfl λx u=>.inl (by rw[e];exact t x u);cases q with
 | began b vs =>
  unfold Nod.ln Nod.rz;simp only;split
  .exact⟨NdI.mk' j (o k rfl) h.ag,λm a=>by cases a⟩
  .rename_i e
   have e:=mI.1 e;obtain⟨y,H⟩:=c;have r:=k.tp.ok.acc;rw[<- k.tp.vo]at r
   have A:=k.bp;have z:p.an.fa=b:=by
    rw[<- e];refine DB ?_ r.1 (by rw[e]at A ⊢;omega);rcases k.rd.fa with g|g
    .rw[g];exact .inr ⟨rfl,rfl⟩
    .exact g.1.pr
   have s:b.key<=σ.P i:=by have:=y.le;rw[<- f]at this;exact this
   rw[<- f,<- z]at y
   rw[<- z]at s
   refine⟨NdI.mk' j (o (w:={ p with an:=p.an.rK i vs }) (k.nr rfl rfl rfl (k.rd.rK y s) rfl λx u=>.inl u) rfl) h.ag,λm a=>?_⟩;obtain⟨to,_,rfl⟩:=CI a;refine⟨λ_=>?_,λe=>(by cases e),λe=>(by cases e),λe=>(by cases e),λe=>(by cases e),λe=>(by cases e)⟩;show b.key<=σ.P b.n.toNat;rw[<- z];rcases k.rd.fa with g|g
   .rw[g];have G:=(D.ok (Bb.n.toNat)).acc.1;have:0<=σ.P (Bb.n.toNat):=by
     unfold Aq Ab at G;unfold Gs.P Bal.key;omega
    exact this
   .rw[g.2,nI];exact s
 | prom to b vs =>
  refine⟨NdI.mk' j (o k rfl) h.ag,λm a=>?_⟩;rw[E'.1 a];refine⟨λe=>(by cases e),λ_=>⟨?_,c.2,h.ag⟩,λe=>(by cases e),λe=>(by cases e),λe=>(by cases e),λe=>(by cases e)⟩;show PrmOk (σ.dr i) b vs;rw[f];exact c.1
 | voted to v =>
  refine⟨NdI.mk' j (o k rfl) h.ag,λm a=>?_⟩;rw[E'.1 a];refine⟨λe=>(by cases e),λe=>(by cases e),λe=>(by cases e),λe=>(by cases e),λ_=>?_,λe=>(by cases e)⟩;show Rk.vt v∈σ.dr i;rw[f];exact c
 | eb to b =>
  refine⟨NdI.mk' j (o k rfl) h.ag,λm a=>?_⟩;rw[E'.1 a];refine⟨λe=>(by cases e),λe=>(by cases e),λ_=>?_,λe=>(by cases e),λe=>(by cases e),λe=>(by cases e)⟩;show Aq b/\b.key<=(BD (σ.dr i)).p.key;rw[f];exact c
 | prop v =>
  have E:σ.held i v:=by show Rk.vt v∈σ.dr i;rw[f];exact c
  have g:=k.count h.ag E;refine⟨NdI.mk' ((congrArg Prod.fst (LI p i v)).trans j) (o g.1 (D6 p i (.prop v)).1) g.2,λm a=>?_⟩;obtain⟨to,_,rfl⟩:=CI a;exact⟨λe=>(by cases e),λe=>(by cases e),λe=>(by cases e),λ_=>k.rU v c,λe=>(by cases e),λe=>(by cases e)⟩
 | askNews to=>exact⟨NdI.mk' j (o k rfl) h.ag,λm a=>by rw[E'.1 a];exact LtI.none rfl⟩
 | start=>exact⟨NdI.mk' j (o k rfl) h.ag,λm a=>by obtain⟨to,_,rfl⟩:=CI a;exact LtI.none rfl⟩
 | tell to bn=>exact⟨NdI.mk' j (o k rfl) h.ag,λm a=>by rw[E'.1 a];exact LtI.news rfl (h.ag.drop bn)⟩
theorem NdI.lead(w:GsI σ)(E:i<5)(h:NdI σ i p)(y:p.up=true):NdI σ i (p.lead i):=by
 obtain⟨F,k⟩:=h.up y;have f:(p.lead i).up=true:=(congrArg Prod.fst (UM p i)).trans y
 revert f
 unfold Nod.lead;simp only;generalize m:(⟨max p.cn p.vo.p.r+1,(i:Int)⟩:Bal)=b;rcases k.tp.al b with⟨e,he⟩|⟨e,he,hvs,rs',hp,ht,hm,hpb,hpv,d,a,hq⟩
 .rw[if_pos e];exact λ_=>h
 .rw[if_neg (λg=>g e)];intro f;have A:=Co he;have C:p.vo.p.key<b.key:=by
   have:=A.1.1;rw[<- m];unfold Aq Ab at this;show 5*p.vo.p.r+p.vo.p.n<5*(max p.cn p.vo.p.r+1)+(i:Int);omega
  refine NdI.mk' (rs:=rs') f ?_ ?_
  .refine k.wrote (q:=(p.al b).1) (r:=⟨b,λ_=>false,λ_=>DV,λ_=>p.ab.length,0,[]⟩) (.refl σ) w rfl ht hp (λv o=>k.rU v ((hm v).1 o)) ?_ ?_ ?_ ⟨PrmOk.of ht.ok hpb (hpv.trans hvs.symm),mE _⟩ (by rw[hq];rfl)
   .refine⟨.inr ⟨A.2.1,by rw[<- m]⟩,λs c B=>?_,λj _ e=>(by cases e),λj _ v o=>(by cases o),λj _ e=>(by cases e),λj _=>⟨Li,λe=>(by cases e)⟩⟩;have l:=w.w3 _ _ _ B;rw[show b.n.toNat=i by rw[<- m];exact nI i]at l
    obtain⟨x,z⟩:=k.tp.pre;have t:=k.tp.ok;rw[<- z]at t
    have u:=(D5 t).1;rw[z,<- k.tp.vo]at u
    have D:σ.P i<=p.vo.p.key:=u;have l:b.key<=σ.P i:=l;omega
   .have:=k.bp;show _<=b.key;omega
   .rw[ht.vo,hpb];exact mE _
  .show AgL σ (p.al b).1.ab 0;rw[hq];exact h.ag
theorem JZ(k:Nat):∀ m∈Dp p i k,m.kind=5/\m.ed=p.ab.drop m.bn:=by
 induction k with
 | zero=>intro m hm;cases hm
 | succ k ih =>
  intro m hm;rw[Dp]at hm
  rcases U'.1 hm with hm|hm
  .exact ih m hm
  .split at hm
   .rw[E'.1 hm];exact⟨rfl,rfl⟩
   .cases hm
theorem AgI.step(h:AgI σ M)(s:Stp D n M N):∃ τ ex,σ.le τ/\AgI τ N/\(∀ b s c,τ.W b s c->σ.W b s c\/ex=some (b,s))/\∀ b s,ex=some (b,s)->n=1/\s<40/\∃ i,i<5/\b=(M.ae i).an.fa:=by
 have t:=h.gs;have done:∀ {i:Nat} {p:Nod} {H:List Let} {O:List Tol},NdI σ i p->(∀ l∈H,l∈M.br\/LtI σ l)->∃ τ ex,σ.le τ/\AgI τ (M.set i p H O)/\(∀ b s c,τ.W b s c->σ.W b s c\/ex=some (b,s))/\∀ b s,ex=some (b,s)->n=1/\s<40/\∃ i,i<5/\b=(M.ae i).an.fa:=λ{i p H O} F f=>⟨σ,none,.refl σ,h.set (.refl _ σ) t F f O,λ_ _ _ h=>.inl h,λ_ _ e=>by cases e⟩;have same:∀ l∈M.br,l∈M.br\/LtI σ l:=λl f=>.inl f;have app:∀ {ms:List Let},(∀ m∈ms,LtI σ m)->∀ l∈M.br++ms,l∈M.br\/LtI σ l:=λg l f=>(U'.1 f).imp id (g l);cases s with
 | take _ l f hd hu _=>exact done ((h.nd _ hd.2).take t hu (h.lt l f) hd.1) same
 | br _ H f _=>exact⟨σ,none,.refl σ,⟨t,h.nd,λl g=>h.lt l (f l g)⟩,λ_ _ _ h=>.inl h,λ_ _ e=>by cases e⟩
 | one _ i c hi hu hc he =>
  refine done ?_ same;obtain⟨r,k⟩:=(h.nd i hi).up hu;have R:=DN { M.ae i with lr:=doS (M.ae i).lr c,done:=(M.ae i).done+1 } c;refine NdI.mk' (R.1.trans hu) (rs:=r) ?_ (by rw[R.2.1];exact(h.nd i hi).ag);unfold Nod.fv;split<;>exact k.nr rfl rfl rfl k.rd rfl λx a=>.inl a
 | ask _ i hi hu =>
  obtain⟨r,k⟩:=(h.nd i hi).up hu;have A:=(h.nd i hi).ag;have E:=(I7 (M.ae i) i).trans hu;generalize F:M.ae i=p at k A E ⊢;refine done (NdI.mk' (rs:=r) E ?_ ?_) (app ?_)
  .unfold Nod.hZ;split
   .exact k.nr rfl rfl rfl k.rd rfl λx a=>.inl a
   .split
    .exact(FB (p:={ p with bw:=(AZ p.vo.p p.bw (p.au.take 40)).2 }) (k.nr rfl rfl rfl k.rd rfl λx a=>.inl a) _).1
    .exact k.nr rfl rfl rfl k.rd rfl λx a=>.inl a
  .unfold Nod.hZ;split
   .exact A
   .split
    .show AgL σ (Nod.dT _ _).ab 0;rw[(FB (p:={ p with bw:=(AZ p.vo.p p.bw (p.au.take 40)).2 }) (k.nr rfl rfl rfl k.rd rfl λx a=>.inl a) _).2];exact A
    .exact A
  .intro m w;unfold Nod.hZ at w;split at w
   .cases w
   .split at w
    .cases w
    .rw[E'.1 w];exact LtI.none rfl
 | prop _ i hi hu =>
  obtain⟨τ,ex,o,z,X,Y,P⟩:=(h.nd i hi).cl t hu;exact⟨τ,ex,o.le,h.set o z X (λl f=>.inl f) _,Y,λb s e=>⟨rfl,(P b s e).1,i,hi,(P b s e).2⟩⟩
 | rF _ i hi hu hlt I =>
  obtain⟨r,k⟩:=(h.nd i hi).up hu;obtain⟨x,a⟩:=k.tp.pre;have z:=t.ext (i:=i) x (by rw[a];exact k.tp.ok) λv u=>k.rU v (by rw[<- a];exact mG _ u);have o:=Pg σ i x;refine⟨σ.ext i x,none,o.le,h.set o z (NdI.mk' (p:={ M.ae i with sy:=((M.ae i).d.length:Int) }) (rs:=r) hu ⟨?_,λv u=>o.le.rU (k.rU v u),k.rd.mono o.le z λs c J=>k.rd.next s c J,k.bp,λq G=>(k.pe q G).mono o.le z (mL _) k.tp.ok (mE _)⟩ ((h.nd i hi).ag.mono o.le)) (λl f=>.inl f) _,λ_ _ _ h=>.inl h,λ_ _ e=>by cases e⟩;rw[Ii,a];exact k.tp.rF
 | run _ i hi hu q l F hs =>
  have g:=(h.nd i hi).run t hi hu F hs;exact done g.1 (app g.2)
 | rC _ i hi hu hL =>
  obtain⟨r,k⟩:=(h.nd i hi).up hu;refine done (NdI.mk' (rs:=r) hu (k.nr rfl rfl rfl ⟨k.rd.fa,k.rd.next,k.rd.own,k.rd.aj,k.rd.prom,k.rd.acc⟩ rfl λx a=>.inl a) (h.nd i hi).ag) (app λm w=>?_);obtain⟨U,V⟩:=JZ 5 m w;exact LtI.news U (by rw[V];exact(h.nd i hi).ag.drop _)
 | lead _ i hi hu _=>exact done ((h.nd i hi).lead t hi hu) same
 | sub _ i d hi hu Q =>
  obtain⟨r,k⟩:=(h.nd i hi).up hu;have A:=(h.nd i hi).ag;refine done ?_ same;unfold Nod.rN Nod.rO;split
  .exact h.nd i hi
  .split
   .exact NdI.mk' (rs:=r) hu (k.nr rfl rfl rfl k.rd rfl λx a=>.inl a) A
   .split
    .exact h.nd i hi
    .show NdI σ i (Nod.want _ _);unfold Nod.want;split
     .exact h.nd i hi
     .exact NdI.mk' (rs:=r) hu (k.nr rfl rfl rfl k.rd rfl λx a=>.inl a) A
 | kc _ i c hi hu hc _ =>
  obtain⟨r,k⟩:=(h.nd i hi).up hu;obtain⟨T,⟨x,a⟩,⟨y,S⟩,Q⟩:=k.tp.kc hc;have z:=t.ext (i:=i) x (k.tp.ok.pre ⟨y,by rw[a];exact S⟩) λv u=>k.rU v (by rw[<- S,<- a];exact mJ _ (mG _ u));have o:=Pg σ i x;have B:=IC (p:=M.ae i) k.tp.si hc;exact⟨σ.ext i x,none,o.le,h.set o z ⟨λe=>(by rw[B.2.1]at e;cases e),λ_=>(by rw[Ii,a];exact Q),by rw[B.2.2.2];exact AgL.nil _ _⟩ (λl f=>.inl f) _,λ_ _ _ h=>.inl h,λ_ _ e=>by cases e⟩
 | start _ i hi hu _ =>
  have k:=(h.nd i hi).dn hu;have I:AP (M.ae i).d (M.ae i).sy:=⟨k.len,by rw[k.sy];omega,by rw[k.sy];omega⟩;have C:=GH (p:=M.ae i) I;have L:=k.start;have K:(M.ae i).start.an=eY/\(M.ae i).start.bt=[.start]:=by
   unfold Nod.start;rw[if_neg (λe=>e (if_pos I))];split<;>exact⟨rfl,rfl⟩
  refine done (NdI.mk' (rs:=σ.dr i) C.2.1 ⟨L,λv u=>t.hv i v u,?_,?_,λq G=>?_⟩ (by rw[C.2.2.2];exact AgL.nil _ _)) same
  .rw[K.1];exact⟨.inl rfl,λs c J=>absurd (t.w2 _ _ _ J).1 (by decide),λj _ e=>(by cases e),λj _ v u=>(by cases u),λj _ e=>(by cases e),λj _=>⟨Li,λe=>(by cases e)⟩⟩
  .rw[K.1,L.vo];have Z:=L.ok.acc.1;show(0:Int)<=_;unfold Aq Ab at Z;unfold Bal.key;omega
  .rw[K.2]at G
   rw[E'.1 G];trivial
theorem AgI.steps(s:Sts D n M N)(h:AgI σ M):∃ (τ:Gs) (ex:List (Bal × Nat)),σ.le τ/\AgI τ N/\ex.length<=n/\∀ b s c,τ.W b s c->σ.W b s c\/(b,s)∈ex:=by
 induction s with
 | nil=>exact⟨σ,[],.refl σ,h,mY _,λ_ _ _ h=>.inl h⟩
 | snoc _ s hm ih =>
  obtain⟨τ,ex,a,l,o,i⟩:=ih h;obtain⟨υ,k,d,f,j,m⟩:=l.step s;cases k with
  | none=>exact⟨υ,ex,a.trans d,f,by omega,λb s c g=>(j b s c g).elim (i b s c) λe=>by cases e⟩
  | some x=>exact⟨υ,x::ex,a.trans d,f,by have:=(m x.1 x.2 rfl).1;rw[nc];omega,λb s c g=>(j b s c g).elim (λg=>(i b s c g).imp id (I' _)) λe=>.inr (by cases e;exact O')⟩
theorem AgI.zero:AgI ⟨λ_=>[],λ_ _ _=>False⟩ Au :=
 ⟨⟨λ_=>AO.nil,⟨λn s b c ⟨v,g,_⟩=>(by cases g),λn k s b c h ⟨v,g,_⟩=>(by cases g),λn s b c ⟨v,g,_⟩=>(by cases g)⟩,λ_ _ _ _ g=>g.elim,λ_ _ _ g=>g.elim,λ_ _ _ g=>g.elim,λn v g=>(by cases g)⟩,
  λi _=>NdI.mk' (rs:=[]) rfl ⟨TpU.zero,λv g=>(by cases g),⟨.inl rfl,λ_ _ g=>g.elim,λj _ e=>(by cases e),λj _ v f=>(by cases f),λj _ e=>(by cases e),λj _=>⟨Li,λe=>(by cases e)⟩⟩,mE _,λq d=>(by cases d)⟩ (AgL.nil _ _),λl a=>by cases a⟩
theorem agree{L K:List Lac}(k:∀ x∈L++K,LacOk x)(q:(L++K).length<=100000)(o:i<5)(p:j<5){d:Cmd}(m:((Au.dW L).ae i).ab[s]?=some c)(n:((Au.dW (L++K)).ae j).ab[s]?=some d):c=d:=by
 rw[H']at q
 have a:∀ x∈L,LacOk x:=λx b=>k x (mJ _ b);have r:Sts whT L.length Au (Au.dW L):=Ff L MOk.zero (by omega) λx b=>⟨a x b,Jv x⟩;have t:Sts whT K.length (Au.dW L) (Au.dW (L++K)):=by
  rw[AG];exact Ff K (I6 L a (by omega)) (by omega) λx b=>⟨k x (mG _ b),Jv x⟩
 obtain⟨σ,_,_,g,_⟩:=AgI.zero.steps r;obtain⟨τ,_,l,h,_⟩:=g.steps t;have e:=l.sL ((g.nd i o).ag s c m);have f:=(h.nd j p).ag s d n;obtain⟨u,e⟩:=e;obtain⟨v,f⟩:=f;exact h.gs.sE.agree e f
theorem Pp{α:Type}[DecidableEq α]{l m:List α}(hn:l.Nodup)(h:∀ x∈l,x∈m):l.length<=m.length:=by
 induction l generalizing m with
 | nil=>exact mY _
 | cons x l ih =>
  obtain⟨c,d⟩:=oX.1 hn;have a:=h x O';have:=ih d (m:=m.erase x) λy b=>(List.mem_erase_of_ne (λe=>c (by rw[<- e];exact b))).2 (h y (I' _ b));rw[List.length_erase_of_mem a]at this
  have:=List.length_pos_of_mem a;rw[nc];omega
def prc:List Rk->Nat
 | []=>0
 | .pr _::l=>prc l+1
 | .vt _::l=>prc l
def vts:List Rk->List Vt
 | []=>[]
 | .pr _::l=>vts l
 | .vt v::l=>v::vts l
theorem eI(l m:List Rk):prc (l++m)=prc l+prc m:=by
 induction l with
 | nil=>simp[prc]
 | cons r l ih=>cases r<;>simp[prc,ih];omega
theorem fY(l m:List Rk):vts (l++m)=vts l++vts m:=by
 induction l with
 | nil=>rfl
 | cons r l ih=>cases r<;>simp[vts,ih]
theorem Vy{l:List Rk}{v:Vt}:v∈vts l↔Rk.vt v∈l:=by
 induction l with
 | nil=>simp[vts]
 | cons r l ih=>cases r<;>simp[vts,ih]
theorem dx(rs:List Rk):(fl rs).length=14*prc rs+38*(vts rs).length:=by
 induction rs with
 | nil=>rfl
 | cons r l ih =>
  have e:fl (r::l)=AM r.body++fl l:=rfl;rw[e,H',Bh,ih];cases r with
  | pr b=>show(Bv b).length+5+_=14*(prc l+1)+38*(vts l).length;rw[K3];omega
  | vt v=>show(Bj v).length+5+_=14*prc l+38*((vts l).length+1);rw[GO];omega
theorem iY(h:AO rs):(prc rs:Int)<=(BD rs).p.key:=h.ind (P:=λrs=>(prc rs:Int)<=(BD rs).p.key) (by decide) λrs r f a g=>by
 have c:=Rk.sB f.acc a.err;rw[eI,BY];cases r with
 | pr b =>
  have d:=Co a.1;have:(BD rs).p.key≠b.key:=λe=>a.2 (DB d.1.1 d.2.1.pr e);have c:(BD rs).p.key<=b.key:=c;show((prc rs+1:Nat):Int)<=b.key;omega
 | vt v=>show((prc rs+0:Nat):Int)<=_;exact mX (by omega) c
theorem X2(q:GsI σ)(h:AO rs)(a:∀ v,Rk.vt v∈rs->σ.rU v):(vts rs).Nodup:=by
 revert a
 refine h.ind (P:=λrs=>(∀ v,Rk.vt v∈rs->σ.rU v)->(vts rs).Nodup) (λ_=>oA) λrs r f l i a=>?_;have i:=i λv g=>a v (mJ _ g);rw[fY];cases r with
 | pr b=>show(vts rs++[]).Nodup;rw[na];exact i
 | vt v =>
  show(vts rs++[v]).Nodup;refine oW.2 ⟨i,oX.2 ⟨P',oA⟩,λx w y z e=>?_⟩;rw[E'.1 z]at e
  subst e;obtain⟨A,u,d,k,B⟩:=Rv f x (Vy.1 w);have o:=Ar l.1;have t:=f.acc.le d;have s:=Bp o.2.1.2.1.pr f.acc.1 o.2.2;have m:=a u (mJ _ (Jh f u d));have c:=a x (mG _ O');have j:u.b=x.b:=DB m.1.2.1.pr c.1.2.1.pr (by omega);have n:=m.2;rw[j,k]at n
  have p:=q.w1 _ _ _ _ n c.2;have:u=x:=(Vt.eq_iff u x).1 ⟨k,j,p⟩;rw[this]at d
  exact l.2 d
theorem fZ(o:GsI σ)(h:AO rs)(d:∀ v,Rk.vt v∈rs->σ.rU v)(z:∀ b s c,σ.W b s c->(b,s)∈cov):(vts rs).length<=cov.length:=by
 have p:=X2 o h d;have f:∀ v∈vts rs,σ.rU v:=λv g=>d v (Vy.1 g);have:((vts rs).map λv=>(v.b,v.bn.toNat)).Nodup:=by
  clear h d;generalize vts rs=q at p f ⊢;induction q with
  | nil=>exact oA
  | cons v l ih =>
   obtain⟨w,y⟩:=oX.1 p;refine oX.2 ⟨λg=>?_,ih y λu a=>f u (I' _ a)⟩;obtain⟨u,a,e⟩:=mW.1 g;have j:=f u (I' _ a);have k:=f v O';have i:u.b=v.b:=congrArg Prod.fst e;have r:u.bn.toNat=v.bn.toNat:=congrArg Prod.snd e;have n:=j.2;rw[i,r]at n
   have t:=o.w1 _ _ _ _ n k.2;have:u=v:=(Vt.eq_iff u v).1 ⟨by have:=j.1.1;have:=k.1.1;omega,i,t⟩;rw[this]at a;exact w a
 have:=Pp this (m:=cov) λx A=>by
  obtain⟨v,d,rfl⟩:=mW.1 A;exact z _ _ _ (f v d).2
 rwa [mV]at this
theorem bQ(h:AgI σ M)(a:∀ b s c,σ.W b s c->(b,s)∈cov)(e:j<5)(f:(M.ae j).up=true):((M.ae j).d.length:Int)<=14*(M.ae j).vo.p.key+38*(cov.length:Int):=by
 obtain⟨l,k⟩:=(h.nd j e).up f;have g:=fZ h.gs k.tp.ok k.rU a;have i:=iY k.tp.ok;rw[k.tp.d,dx,k.tp.vo];omega
def Nod.pk(p:Nod):Int:=if p.up then p.vo.p.key else(Eb p.d).2.p.key
def KbI(K R:Int)(M:Meet):Prop:=∀ j,j<5->(M.ae j).pk<=K/\5*(M.ae j).cn<=R
theorem NdI.so(h:NdI σ j p):σ.P j<=p.pk:=by
 unfold Nod.pk;split
 .rename_i hu
  obtain⟨c,k⟩:=h.up hu;obtain⟨x,b⟩:=k.tp.pre;have a:=k.tp.ok;rw[<- b]at a
  have:=(D5 a).1;rw[b,<- k.tp.vo]at this
  exact this
 .rename_i hu
  rw[(h.dn (by simpa using hu)).sQ];exact mE _
theorem AgI.so(h:AgI σ M)(c:KbI K R M)(d:Ab b)(e:b.key<=σ.P b.n.toNat):b.key<=K:=by
 have a:b.n.toNat<5:=by unfold Ab at d;omega
 exact mX e (mX (h.nd _ a).so (c _ a).1)
theorem Zd(h:Aq b):5*b.r<=b.key:=by unfold Aq Ab at h;unfold Bal.key;omega
theorem KbI.set(h:KbI K R M)(b:p.pk<=K/\5*p.cn<=R)(ls:List Let)(ts:List Tol):KbI K R (M.set i p ls ts):=λj a=>by
 show(upN M.ae i p j).pk<=K/\5*(upN M.ae i p j).cn<=R;unfold upN;split
 .exact b
 .exact h j a
theorem KbI.step(P:¬ D.ld)(h:AgI σ M)(s:Stp D n M N)(Q:K<=R)(m:KbI K R M):KbI K R N:=by
 have nr:∀ {i:Nat} {p:Nod},i<5->(M.ae i).up=true->p.up=true->p.vo.p.key<=(M.ae i).vo.p.key\/p.vo.p.key<=K->p.cn=(M.ae i).cn->p.pk<=K/\5*p.cn<=R:=λ{i p} j f z S A=>by
  have o:=m i j;unfold Nod.pk at o ⊢;rw[if_pos f]at o
  rw[if_pos z,A];exact⟨S.elim (λg=>mX g o.1) id,o.2⟩
 cases s with
 | take _ l hl hd f _ =>
  have w:=h.lt l hl;obtain⟨O,k⟩:=(h.nd _ hd.2).up f;have b:=(congrArg Prod.fst (PO (M.ae l.dst) l)).trans f;refine m.set ?_ _ _
  revert b
  unfold Nod.take;split
  .rename_i u
   rcases k.tp.al l.fa with⟨e,he⟩|⟨e,he,hvs,rs',z,v,hm,hpb,hpv,d,a,hq⟩
   .rw[if_pos e];intro b;refine nr hd.2 f b (.inl ?_) ?_<;>(unfold Nod.eb;split)<;>first|exact mE _|rfl
   .rw[if_neg (λg=>g e)];intro b;refine nr hd.2 f b (.inr ?_) (by show((M.ae l.dst).al l.fa).1.cn=_;rw[hq];rfl);show((M.ae l.dst).al l.fa).1.vo.p.key<=K;rw[v.vo,hpb];exact h.so m (Co he).2.1 (w.k0 u)
  .simp only;split<;>exact λb=>nr hd.2 f b (.inl (mE _)) rfl
  .rename_i u
   intro b;have o:=nr (p:=M.ae l.dst) hd.2 f f (.inl (mE _)) rfl;refine⟨o.1,?_⟩;have B:=mX (w.k2 u).2 (mX (h.nd _ hd.1).so (m _ hd.1).1);have J:5*l.fa.r<=K:=mX (Zd (w.k2 u).1) B;show 5*max (M.ae l.dst).cn l.fa.r<=R;have:=o.2;omega
  .rename_i u
   rcases k.tp.bN l.bN with⟨e,he⟩|⟨e,he,rs',z,v,hm,hpb,d,a,hq⟩
   .rw[if_pos e];intro b;refine nr hd.2 f b (.inl ?_) ?_<;>(unfold Nod.eb;split)<;>first|exact mE _|rfl
   .rw[if_neg (λg=>g e)];intro b;refine nr hd.2 f b (.inr ?_) (by show((M.ae l.dst).bN l.bN).1.cn=_;rw[hq];rfl);show((M.ae l.dst).bN l.bN).1.vo.p.key<=K;rw[v.vo,hpb];exact h.so m (Ar he).2.1.2.1 (h.gs.w3 _ _ _ (w.k3 u).2)
  .unfold Nod.count;split
   .exact λb=>nr hd.2 f b (.inl (mE _)) rfl
   .split<;>exact λb=>nr hd.2 f b (.inl (mE _)) rfl
  .split<;>exact λb=>nr hd.2 f b (.inl (mE _)) rfl
  .simp only;unfold Nod.dT;split<;>split<;>exact λb=>nr hd.2 f b (.inl (mE _)) rfl
  .exact λb=>nr hd.2 f b (.inl (mE _)) rfl
 | br _ ls hl _=>exact m
 | one _ i c j f hc he =>
  refine m.set (nr j f ((DN { M.ae i with lr:=doS (M.ae i).lr c,done:=(M.ae i).done+1 } c).1.trans f) (.inl ?_) ?_) _ _<;>(unfold Nod.fv;split)<;>first|exact mE _|rfl
 | ask _ i j f =>
  refine m.set (nr j f ((I7 _ i).trans f) (.inl ?_) ?_) _ _<;>(unfold Nod.hZ;split)<;>first|exact mE _|rfl|(split<;>first|exact mE _|rfl|(unfold Nod.dT;split<;>first|exact mE _|rfl))
 | prop _ i j f =>
  refine m.set (nr j f ((Ey _).trans f) (.inl ?_) ?_) _ _
  .obtain⟨O,k⟩:=(h.nd i j).up f;unfold Nod.cl;split
   .exact mE _
   .rename_i hc
    have G:(M.ae i).leads=true:=by cases hh:(M.ae i).leads with|true=>rfl|false=>exact absurd (.inl hh) hc
    cases hn:(M.ae i).pd (M.ae i).ab.length with
    | none=>exact mE _
    | some c =>
     simp only;rcases k.tp.bN ⟨((M.ae i).ab.length:Int),(M.ae i).an.fa,c⟩with⟨e,he⟩|⟨e,he,rs',z,v,hm,hpb,d,a,hq⟩
     .rw[if_pos e];exact mE _
     .rw[if_neg (λg=>g e)];show((M.ae i).bN _).1.vo.p.key<=_;rw[v.vo,hpb,(ng G).2];exact mE _
  .unfold Nod.cl;split
   .rfl
   .split
    .rfl
    .split
     .rfl
     .show((M.ae i).bN _).1.cn=_;unfold Nod.bN;split
      .rfl
      .split
       .rfl
       .split<;>rfl
 | rF _ i j f hlt E=>exact m.set (nr (p:={ M.ae i with sy:=((M.ae i).d.length:Int) }) j f f (.inl (mE _)) rfl) _ _
 | run _ i j f q l z hs =>
  have u:=D6 (M.ae i) i q;refine m.set (nr (p:={ (M.ae i).ln i q with bt:=l }) j f (u.2.1.trans f) (.inl ?_) ?_) _ _<;>(cases q<;>first|exact mE _|rfl|(simp only[Nod.ln];split<;>first|exact mE _|rfl)|(simp only[Nod.ln,Nod.count];split<;>first|exact mE _|rfl|(split<;>first|exact mE _|rfl)))
 | rC _ i j f w=>exact m.set (nr (p:=E6 (M.ae i) i 5) j f f (.inl (mE _)) rfl) _ _
 | lead _ i j f w=>exact absurd w P
 | sub _ i d j f hd =>
  have b:((M.ae i).rN i d M.eo).1.up=true:=by
   unfold Nod.rN Nod.rO;split
   .exact f
   .split
    .exact f
    .split
     .exact f
     .show(Nod.want _ _).up=true;unfold Nod.want;split<;>exact f
  refine m.set (nr j f b (.inl ?_) ?_) _ _<;>(unfold Nod.rN Nod.rO;split)<;>first|exact mE _|rfl|(split<;>first|exact mE _|rfl|(split<;>first|exact mE _|rfl|(simp only[Nod.want];split<;>first|exact mE _|rfl)))
 | kc _ i c j f hc hC =>
  obtain⟨O,k⟩:=(h.nd i j).up f;obtain⟨x,_,⟨y,L⟩,C⟩:=k.tp.kc hc;have F:=IC (p:=M.ae i) k.tp.si hc;have A:((M.ae i).kc c).cn=0:=by
   unfold Nod.kc;rw[if_neg]
   .rfl
   .intro e;exact e (by unfold Gn;rw[if_neg (λe=>e k.tp.si),if_neg (by omega)])
  have t:=(m i j).1;unfold Nod.pk at t;rw[if_pos f]at t
  have o:=k.tp.ok;rw[<- L]at o
  have B:=(D5 o).1;rw[L,<- k.tp.vo]at B
  have I:=(AO.left o).acc.1;have J:0<=(BD x).p.key:=by unfold Aq Ab at I;unfold Bal.key;omega
  refine m.set ⟨?_,by rw[A];omega⟩ _ _;unfold Nod.pk;rw[if_neg (by rw[F.2.1];decide),C.sQ];show(BD x).p.key<=K;omega
 | start _ i j f _ =>
  have k:=(h.nd i j).dn f;have v:=k.start;have E:AP (M.ae i).d (M.ae i).sy:=⟨k.len,by rw[k.sy];omega,by rw[k.sy];omega⟩;have H:=GH (p:=M.ae i) E;have A:(M.ae i).start.cn=0:=by
   unfold Nod.start;rw[if_neg (λe=>e (if_pos E))];split<;>rfl
  have t:=(m i j).1;unfold Nod.pk at t;rw[if_neg (by rw[f];decide),k.sQ]at t
  have t:(BD (σ.dr i)).p.key<=K:=t;have I:=v.ok.acc.1;have J:0<=(BD (σ.dr i)).p.key:=by unfold Aq Ab at I;unfold Bal.key;omega
  refine m.set ⟨?_,by rw[A];omega⟩ _ _;unfold Nod.pk;rw[if_pos H.2.1,v.vo];exact t
def wh1:Wh:=⟨λ_ _=>False,False,False,False,False,False⟩
def wh0:Wh:=⟨λ_ _=>False,False,False,False,True,False⟩
theorem Stp.calm{c:Nat}(h:Stp wh1 c M N):Stp wh0 c M N:=by
 cases h with
 | take _ l hl hd hu ht=>exact .take M l hl hd hu trivial
 | br _ ls h hd=>exact False.elim hd
 | one _ i c hi hu hc he=>exact .one M i c hi hu hc he
 | ask _ i hi hu=>exact .ask M i hi hu
 | prop _ i hi hu=>exact .prop M i hi hu
 | rF _ i hi hu h hT=>exact .rF M i hi hu h hT
 | run _ i hi hu q l hp hs=>exact .run M i hi hu q l hp hs
 | rC _ i hi hu hL=>exact .rC M i hi hu hL
 | lead _ i hi hu hL=>exact False.elim hL
 | sub _ i d hi hu hD=>exact False.elim hD
 | kc _ i k hi hu hk hC=>exact False.elim hC
 | start _ i hi hu hs=>exact False.elim hs
theorem K6{to:Nat}{e:Int}(a:q∈p.bt):q∈(p.eb to e).bt:=by
 unfold Nod.eb;split
 .exact mJ _ a
 .exact a
theorem Hg(a:q∈p.bt):q∈(p.take l).bt:=by
 unfold Nod.take;split
 .split
  .exact K6 a
  .exact mJ _ (by rw[FO];exact a)
 .simp only;split<;>exact a
 .exact a
 .split
  .exact K6 a
  .exact mJ _ (by rw[Hh];exact a)
 .unfold Nod.count;split
  .exact a
  .split<;>exact a
 .split
  .exact mJ _ a
  .exact a
 .simp only;unfold Nod.dT;split<;>split<;>first|exact a|exact mJ _ a
 .exact a
theorem P5(a:q∈p.bt):q∈p.cl.bt:=by
 unfold Nod.cl;split
 .exact a
 .split
  .exact a
  .split
   .exact a
   .exact mJ _ (by rw[Hh];exact a)
theorem J0(p:Nod)(i:Nat):(p.hZ i).1.bt=p.bt/\(p.hZ i).1.d=p.d/\(p.hZ i).1.sy=p.sy:=by
 unfold Nod.hZ;split
 .exact⟨rfl,rfl,rfl⟩
 .split
  .unfold Nod.dT;split<;>exact⟨rfl,rfl,rfl⟩
  .exact⟨rfl,rfl,rfl⟩
theorem GL(p:Nod)(c:Cmd):(p.fv c).bt=p.bt/\(p.fv c).d=p.d/\(p.fv c).sy=p.sy:=by unfold Nod.fv;split<;>exact⟨rfl,rfl,rfl⟩
theorem Yt(i:Nat)(l:List Cmd)(p:Nod)(ts:List Tol):(rG i l p ts).1.d=p.d/\(rG i l p ts).1.sy=p.sy:=by
 induction l generalizing p ts with
 | nil=>exact⟨rfl,rfl⟩
 | cons c l ih =>
  rw[rG];split
  .exact⟨rfl,rfl⟩
  .have h1:=ih (Nod.fv { p with lr:=doS p.lr c,done:=p.done+1 } c) (if(p.bw c).isSome=true then ts++[⟨i,c.c,c.s,doC p.lr c,doA p.lr c⟩]else ts);have a:=GL { p with lr:=doS p.lr c,done:=p.done+1 } c;exact⟨h1.1.trans a.2.1,h1.2.trans a.2.2⟩
theorem S5(i:Nat)(l:List Pend)(p:Nod)(ls:List Let):(nn i l p ls).1.bt=p.bt:=by
 induction l generalizing p ls with
 | nil=>rfl
 | cons q l ih=>rw[nn,ih];exact(D6 p i q).1
theorem Is(h:AP p.d p.sy)(i:Nat)(ls:List Let)(ts:List Tol):(p.piece i ls ts).1.bt=[]:=by
 unfold Nod.piece;simp only;have g:=Yt i (p.ab.drop p.done) p ts;generalize rG i (p.ab.drop p.done) p ts=a at g ⊢;have j:=J0 a.1 i;generalize a.1.hZ i=b at j ⊢;have c:b.1.tp:=by show AP b.1.d b.1.sy;rw[j.2.1,j.2.2,g.1,g.2];exact h
 have k:b.1.cl.tp:=by
  unfold Nod.cl;split
  .exact c
  .split
   .exact c
   .split
    .exact c
    .exact PT c _
 generalize b.1.cl=r at k ⊢;have l:(r.mv i (ls++b.2)).1.bt=[]:=by
  unfold Nod.mv;rw[if_neg (λe=>e.2 (if_pos k)),S5]
 generalize r.mv i (ls++b.2)=f at l ⊢;unfold Nod.bu;split<;>exact l
theorem An(M:Meet)(i:Nat)(p:Nod)(ls:List Let)(ts:List Tol)(j:Nat):(M.set i p ls ts).ae j=if j=i then p else M.ae j:=rfl
theorem O5{c:Nat}(s:Stp wh0 c M N)(hq:q∈(M.ae i).bt):q∈(N.ae i).bt\/∃ l,(M.ae i).bt=q::l/\N=M.set i { (M.ae i).ln i q with bt:=l } (M.br++(M.ae i).rz i q) M.eo:=by
 have put:∀ {j:Nat} {p:Nod} {a:List Let} {b:List Tol},(j=i->q∈p.bt)->q∈((M.set j p a b).ae i).bt:=λ{j p a b} h=>by
  rw[An];split
  .rename_i e;exact h e.symm
  .exact hq
 cases s with
 | take _ l hl hd hu ht=>exact .inl (put λe=>Hg (by rw[e];exact hq))
 | br _ a h hd=>exact False.elim hd
 | one _ j c hi hu hc he=>exact .inl (put λe=>by rw[(GL _ c).1,e];exact hq)
 | ask _ j hi hu=>exact .inl (put λe=>by rw[(J0 _ j).1,e];exact hq)
 | prop _ j hi hu=>exact .inl (put λe=>P5 (by rw[e];exact hq))
 | rF _ j hi hu h hT=>exact .inl (put λe=>by subst e;exact hq)
 | run _ j hi hu x l hp hs =>
  by_cases e:j=i
  .subst e;rw[hp]at hq
   rcases mN.1 hq with rfl|hq
   .exact .inr ⟨l,hp,rfl⟩
   .exact .inl (by rw[An,if_pos rfl];exact hq)
  .exact .inl (put λf=>absurd f e)
 | rC _ j hi hu hL=>exact .inl (put λe=>by subst e;exact hq)
 | lead _ j hi hu hL=>exact False.elim hL
 | sub _ j d hi hu hD=>exact False.elim hD
 | kc _ j k hi hu hk hC=>exact False.elim hC
 | start _ j hi hu hs=>exact False.elim hs
theorem Hf(a:(M.ae i).up=true):M.act (acN 3 (i:Int))=M.set i ((M.ae i).piece i M.br M.eo).1 ((M.ae i).piece i M.br M.eo).2.1 ((M.ae i).piece i M.br M.eo).2.2:=by
 unfold Meet.act;simp[acN,a]
theorem FT(a:i<5):LacOk (acN 3 (i:Int)):=ET ⟨.inr (.inl rfl),by omega,by omega⟩
theorem bk(i:Nat):wh1.may (acN 3 (i:Int)):=⟨λe=>absurd e (by show(3:Int)≠1;decide),λe=>absurd e (by show(3:Int)≠2;decide),λe=>absurd e (by show(3:Int)≠8;decide),λe=>absurd e (by show ¬ ((3:Int)=4\/(3:Int)=5\/(3:Int)=6\/(3:Int)=7);decide),λe=>absurd e (by show(3:Int)≠9;decide)⟩
end
section
variable{I J:Meet->Prop}
section
variable{M:Meet}{i n:Nat}
theorem CA(a:∀ c M N,Stp wh1 c M N->I M->I N)(b:MOk n M)(d:i<5)(h:I M):I (M.act (acN 3 (i:Int))):=(OU (D:=wh1) b (FT d) (bk i)).inv a h
theorem Xb(a:∀ c M N,Stp wh1 c M N->I M->I N)(b:∀ c M N,Stp wh1 c M N->I M->J M->J N)(e:MOk n M)(f:i<5)(p:(M.ae i).up=true)(o:AP (M.ae i).d (M.ae i).sy){q:Pend}(j:q∈(M.ae i).bt)(h:I M)(m:∀ N l,I N->(N.ae i).bt=q::l->J (N.set i { (N.ae i).ln i q with bt:=l } (N.br++(N.ae i).rz i q) N.eo)):J (M.act (acN 3 (i:Int))):=by
 have k:=CA (I:=λN=>I N/\(q∈(N.ae i).bt\/J N)) (λc A B s g=>⟨a c A B s g.1,by
  rcases g.2 with g2|g2
  .rcases O5 s.calm g2 with g3|⟨l,g3,rfl⟩
   .exact .inl g3
   .exact .inr (m A l g.1 g3)
  .exact .inr (b c A B s g.1 g2)⟩) e f ⟨h,.inl j⟩
 refine k.2.resolve_left λg=>?_;rw[Hf p,An,if_pos rfl,Is o]at g
 cases g
def TkS(M N:Meet):Prop:=∃ l,l∈M.br/\(l.src<5/\l.dst<5)/\(M.ae l.dst).up=true/\N=M.set l.dst ((M.ae l.dst).take l) M.br M.eo
theorem TkS.rQ{N:Meet}(h:TkS M N):Stp wh0 0 M N:=by obtain⟨l,a,b,c,rfl⟩:=h;exact .take M l a b c trivial
theorem JA(e:∀ M N,TkS M N->I M->I N)(l:List Let)(a:∀ m∈l,m∈M.br/\m.src<5/\m.dst<5)(h:I M):I (l.foldl (λM l=>M.ni l) M)/\(l.foldl (λM l=>M.ni l) M).br=M.br:=by
 induction l generalizing M with
 | nil=>exact⟨h,rfl⟩
 | cons x l ih =>
  obtain⟨b,c⟩:=a x O';have d:I (M.ni x):=by
   unfold Meet.ni;split
   .rename_i hu;exact e M _ ⟨x,b,c,hu,rfl⟩ h
   .exact h
  have:=ih (M:=M.ni x) (λm f=>by rw[Ee];exact a m (I' _ f)) d;exact⟨this.1,this.2.trans (Ee M x)⟩
theorem DG(f:∀ M N,TkS M N->I M->I N)(t:∀ M N,TkS M N->I M->J M->J N)(o:MOk n M)(h:I M){l:Let}(k:l∈M.br)(q:∀ N,I N->(N.ae l.dst).up=true)(u:∀ N,I N->N.br=M.br->J (N.set l.dst ((N.ae l.dst).take l) N.br N.eo)):∃ N,M.act (acN 7 0)={ N with br:=[] }/\I N/\J N/\N.br=M.br:=by
 have j:∀ m∈M.br,m.src<5/\m.dst<5:=λm d=>⟨(o.br m d).src,(o.br m d).dst⟩;obtain⟨a,b,e⟩:=List.append_of_mem k;have r:M.act (acN 7 0)={ M.br.foldl (λM l=>M.ni l) M with br:=[] }:=by
  show M.rE=_;unfold Meet.rE;rw[If]
 refine⟨_,r,?_⟩;have c:=JA f a (M:=M) (λm d=>by have:m∈M.br:=by rw[e];exact mJ _ d
                                                exact⟨this,j m this⟩) h
 rw[show M.br.foldl (λM l=>M.ni l) M=b.foldl (λM l=>M.ni l) ((a.foldl (λM l=>M.ni l) M).ni l)by rw[e,pC];rfl];generalize a.foldl (λM l=>M.ni l) M=A at c ⊢;have p:A.ni l=A.set l.dst ((A.ae l.dst).take l) A.br A.eo:=by unfold Meet.ni;rw[if_pos (q A c.1)];rfl
 have s:TkS A (A.ni l):=⟨l,by rw[c.2];exact k,j l k,q A c.1,p⟩;have i:=JA (I:=λN=>I N/\J N) (λA B s g=>⟨f A B s g.1,t A B s g.1 g.2⟩) b (M:=A.ni l) (λm d=>by
  have:m∈M.br:=by rw[e];exact mG _ (I' _ d)
  exact⟨by rw[Ee,c.2];exact this,j m this⟩) ⟨f _ _ s c.1,by rw[p];exact u A c.1 c.2⟩
 exact⟨i.1.1,i.1.2,by rw[i.2,Ee,c.2]⟩
end
end
section
variable{K R:Int}{M:Meet}{n:Nat}{σ:Gs}
theorem KbI.mono{K' a:Int}(h:KbI K R M)(c:K<=K')(d:R<=a):KbI K' a M:=λj b=>⟨mX (h j b).1 c,mX (h j b).2 d⟩
theorem TK{D:Wh}(l:¬ D.ld){N:Meet}(s:Sts D n M N)(h:AgI σ M)(a:K<=R)(f:KbI K R M):∃ (τ:Gs) (ex:List (Bal × Nat)),σ.le τ/\AgI τ N/\KbI K R N/\ex.length<=n/\∀ b s c,τ.W b s c->σ.W b s c\/(b,s)∈ex:=by
 induction s with
 | nil=>exact⟨σ,[],.refl σ,h,f,mY _,λ_ _ _ g=>.inl g⟩
 | snoc _ s hm ih =>
  obtain⟨τ,ex,i,d,j,r,k⟩:=ih h f;obtain⟨υ,e,m,o,p,q⟩:=d.step s;refine⟨υ,ex++e.toList,i.trans m,o,j.step l d s a,?_,λb s c g=>?_⟩
  .cases e with
   | none=>simp;omega
   | some x=>have:=(q x.1 x.2 rfl).1;simp;omega
  .rcases p b s c g with g|g
   .exact(k b s c g).imp id λg=>mJ _ g
   .exact .inr (mG _ (by rw[g];exact E'.2 rfl))
theorem KbI.lead(h:AgI σ M)(l:KbI R R M){i:Nat}(m:i<5)(j:(M.ae i).up=true)(ls:List Let)(ts:List Tol):KbI (R+9) (R+9) (M.set i ((M.ae i).lead i) ls ts):=by
 obtain⟨q,k⟩:=(h.nd i m).up j;have f:=l i m;have c:=f.1;unfold Nod.pk at c;rw[if_pos j]at c
 have o:=Zd (b:=(M.ae i).vo.p) (by rw[k.tp.vo];exact k.tp.ok.acc.1);refine(l.mono (by omega) (by omega)).set ?_ _ _;unfold Nod.lead;simp only;generalize n:(⟨max (M.ae i).cn (M.ae i).vo.p.r+1,(i:Int)⟩:Bal)=b;rcases k.tp.al b with⟨e,he⟩|⟨e,he,hvs,rs',hp,ht,hm,hpb,hpv,d,a,hq⟩
 .rw[if_pos e];exact⟨by have:=f.1;omega,by have:=f.2;omega⟩
 .rw[if_neg (λg=>g e)];refine⟨?_,?_⟩
  .show(if((M.ae i).al b).1.up=true then((M.ae i).al b).1.vo.p.key else(Eb ((M.ae i).al b).1.d).2.p.key)<=_;rw[if_pos (by rw[hq];exact j),ht.vo,hpb,<- n];show 5*(max (M.ae i).cn (M.ae i).vo.p.r+1)+(i:Int)<=_;omega
  .show 5*((M.ae i).al b).1.cn<=_;rw[hq];show 5*(M.ae i).cn<=_;omega
def whL:Wh:=⟨λ_ _=>True,False,True,True,True,True⟩
def lds(L:List Lac):Nat:=L.countP λx=>decide (x.k=2)
theorem WR(L:List Lac)(w:MOk n M)(hn:n+L.length<=1000000)(v:∀ x∈L,LacOk x)(h:AgI σ M)(l:KbI R R M){cov:List (Bal × Nat)}(m:∀ b s c,σ.W b s c->(b,s)∈cov) :
  ∃ (τ:Gs) (cov':List (Bal × Nat)),σ.le τ/\AgI τ (M.dW L)/\KbI (R+9*(lds L:Int)) (R+9*(lds L:Int)) (M.dW L)/\cov'.length<=cov.length+L.length/\∀ b s c,τ.W b s c->(b,s)∈cov':=by
 induction L generalizing n M σ R cov with
 | nil=>exact⟨σ,cov,.refl σ,h,l.mono (by simp[lds]) (by simp[lds]),A' _,m⟩
 | cons x L ih =>
  rw[nc]at hn
  have t:=v x O';have r:lds (x::L)=lds L+if x.k=2 then 1 else 0:=by unfold lds;rw[pF];simp
  have one:∃ (τ:Gs) (cov':List (Bal × Nat)),σ.le τ/\AgI τ (M.act x)/\KbI (R+if x.k=2 then 9 else 0) (R+if x.k=2 then 9 else 0) (M.act x)/\cov'.length<=cov.length+1/\∀ b s c,τ.W b s c->(b,s)∈cov':=by
   by_cases d:x.k=2
   .rw[if_pos d];have z:x.n.toNat<5:=by have:=t.n (by rw[d];rfl);omega
    have e:M.act x=M.set x.n.toNat (if(M.ae x.n.toNat).up then(M.ae x.n.toNat).lead x.n.toNat else M.ae x.n.toNat) M.br M.eo:=by
     unfold Meet.act;simp only;rw[if_neg (by omega),if_pos d]
    by_cases o:(M.ae x.n.toNat).up=true
    .rw[if_pos o]at e
     obtain⟨τ,u,f,i,j,p⟩:=h.step (D:=whT) (.lead M _ z o trivial);refine⟨τ,cov,f,by rw[e];exact i,by rw[e];exact l.lead h z o _ _,by omega,λb s c g=>?_⟩;rcases j b s c g with g|g
     .exact m b s c g
     .exact absurd (p b s g).1 (by decide)
    .rw[if_neg o,EM]at e
     rw[e];exact⟨σ,cov,.refl σ,h,l.mono (by omega) (by omega),by omega,m⟩
   .rw[if_neg d,Int.add_zero];obtain⟨τ,u,f,i,j,p,q⟩:=TK (D:=whL) (λe=>e) (OU w t ⟨λ_=>trivial,λe=>d e,λ_=>trivial,λ_=>⟨trivial,trivial⟩,λ_=>trivial⟩) h (mE R) l;refine⟨τ,cov++u,f,i,j,by rw[H'];omega,λb s c g=>?_⟩;exact(q b s c g).elim (λg=>mJ _ (m b s c g)) λg=>mG _ g
  obtain⟨τ,cov',f,i,j,p,q⟩:=one;obtain⟨υ,a,C,E,A,G,F⟩:=ih (w.act (by omega) t) (by omega) (λy B=>v y (I' _ B)) i j q;have e:R+(if x.k=2 then 9 else 0)+9*(lds L:Int)=R+9*(lds (x::L):Int):=by
   rw[r];split<;>omega
  rw[e]at A
  exact⟨υ,a,f.trans C,E,A,by rw[nc];omega,F⟩
theorem KbI.zero:KbI 0 0 Au:=λj a=>⟨by show CZ.pk<=0;decide,by show 5*CZ.cn<=0;decide⟩
end
section
variable{S:Cmd->Prop}
section
def VsS(S:Cmd->Prop)(l:List Vt):Prop:=∀ v∈l,S v.w
def RsS(S:Cmd->Prop)(rs:List Rk):Prop:=∀ v,Rk.vt v∈rs->S v.w
def PnS(S:Cmd->Prop):Pend->Prop
 | .began _ vs=>VsS S vs
 | .prom _ _ vs=>VsS S vs
 | .voted _ v=>S v.w
 | .prop v=>S v.w
 | _=>True
structure NdS(S:Cmd->Prop)(p:Nod):Prop where
 up:p.up=true->∃ dr rs,TpU p dr rs/\RsS S rs
 dn:p.up=false->∃ dr,TpD p dr/\RsS S dr
 ag:∀ c∈p.ab,S c
 wa:∀ c∈p.au,S c
 qu:∀ c∈p.an.ew,S c
 he:∀ j,j<5->VsS S (p.an.aj j).vs
 pe:∀ q∈p.bt,PnS S q
structure LtS(S:Cmd->Prop)(l:Let):Prop where
 vs:VsS S l.lp
 wh:∀ c∈l.ed,S c
 vt:l.kind=3\/l.kind=4->S l.bN.w
variable{M:Meet}{a:Acc}{dr:List Rk}{i:Nat}{l:List Cmd}{p q:Nod}{r:Rnd}{s:Int}{v:Vt}
theorem NdS.tape(h:NdS S p)(i:q.up=p.up)(a:q.d=p.d)(f:q.sy=p.sy)(n:q.vo=p.vo)(l:∀ c∈q.ab,S c)(t:∀ c∈q.au,S c)(r:∀ c∈q.an.ew,S c)(m:∀ j,j<5->VsS S (q.an.aj j).vs)(o:∀ x∈q.bt,PnS S x):NdS S q :=
 ⟨λe=>by
  obtain⟨b,s,k,g⟩:=h.up (i▸e);exact⟨b,s,⟨k.ok,k.pre,a.trans k.d,f.trans k.sy,n.trans k.vo,by rw[a];exact k.len⟩,g⟩,λe=>by
  obtain⟨b,k,g⟩:=h.dn (i▸e);exact⟨b,⟨k.ok,by rw[a];exact k.sQ,by rw[a];exact k.tk,by rw[f,a];exact k.sy,by rw[a];exact k.len⟩,g⟩,l,t,r,m,o⟩
theorem NdS.wait(h:NdS S p){x:Pend}(a:PnS S x):NdS S (p.wait x) :=
 h.tape rfl rfl rfl rfl h.ag h.wa h.qu h.he λy b=>(U'.1 b).elim (h.pe y) λe=>by rw[E'.1 e];exact a
theorem NdS.eb(h:NdS S p)(to:Nat)(e:Int):NdS S (p.eb to e):=by
 unfold Nod.eb;split
 .exact h.wait trivial
 .exact h
theorem NdS.wrote(h:NdS S p){b:List Rk}(i:TpU q dr b)(g:RsS S b)(j:p.up=true){d:List Int}(f:q=p.tv d p.sy a)(k:∀ c∈q.ab,S c):NdS S q:=by
 subst f;exact⟨λ_=>⟨dr,b,i,g⟩,λe=>(by rw[show(p.tv d p.sy a).up=p.up from rfl,j]at e;cases e),h.ag,h.wa,h.qu,h.he,h.pe⟩
theorem gJ(h:∀ j,j<5->VsS S (r.aj j).vs)(b:a∈r.gC):VsS S a.vs:=by
 unfold Rnd.gC at b;simp only[mN,P',or_false]at b;rcases b with rfl|rfl|rfl|rfl|rfl
 .exact h 0 (by omega)
 .exact h 1 (by omega)
 .exact h 2 (by omega)
 .exact h 3 (by omega)
 .exact h 4 (by omega)
theorem YD(h:∀ j,j<5->VsS S (r.aj j).vs)(e:v∈Ae (r.gC.map (·.vs)).flatten s):S v.w:=by
 obtain⟨l,b,c⟩:=pg.1 (Be.1 e).1;obtain⟨a,d,rfl⟩:=mW.1 b;exact gJ h d v c
theorem ij(h:∀ j,j<5->VsS S (r.aj j).vs)(a:CY r.gC s=0):S (CQ r.gC s):=by
 have c:CQ r.gC s=((Hi (Dx r.gC s) r.gC.length).map (·.w)).getD ⟨0,0,0,0,0⟩:=if_pos a;unfold CY at a;split at a
 .cases a
 .split at a
  .cases a
  .split at a
   .rename_i hO
    obtain⟨v,b⟩:=nS.1 hO;rw[c,b];exact YD h (qD b)
   .cases a
theorem iL(h:∀ j,j<5->VsS S (r.aj j).vs)(k:Nat)(a:∀ c∈l,S c):∀ c∈FE k r l,S c:=by
 induction k generalizing l with
 | zero=>exact a
 | succ k ih =>
  rw[FE];split
  .rename_i he;exact ih λc b=>(U'.1 b).elim (a c) λe=>by rw[E'.1 e];exact ij h he
  .exact a
theorem NdS.rA(h:NdS S p):NdS S p.rA:=h.tape rfl rfl rfl rfl (iL h.he 41 h.ag) h.wa h.qu h.he h.pe
theorem dG(a:Acc)(l:List Vt)(d:VsS S a.vs)(e:VsS S l):VsS S (Dh a l).vs:=by
 induction l generalizing a with
 | nil=>exact d
 | cons u l ih =>
  rw[Dh];refine ih _ ?_ λv b=>e v (I' _ b);by_cases c:AX a u=0
  .rw[if_pos c];intro v b;have b:v∈Bu a u:=b;rw[(DA c).2]at b
   rcases(BH (Ar c).1.2.2).1 b with rfl|⟨b,_⟩
   .exact e v O'
   .exact d v b
  .rw[if_neg c];exact d
theorem YR(h:∀ j,j<5->VsS S (r.aj j).vs)(j:Nat)(a:j<5){vs:List Vt}(c:VsS S vs):∀ k,k<5->VsS S ((r.rK j vs).aj k).vs:=λk b=>by
 show VsS S (upN r.aj j _ k).vs;unfold upN;split
 .exact dG ⟨r.fa,vs⟩ _ c (h j a)
 .exact h k b
theorem NdS.count(h:NdS S p){j:Nat}(c:j<5)(e:S v.w):NdS S (p.count j v):=by
 unfold Nod.count;split
 .exact h
 .split
  .exact h
  .rename_i b
   have b:=mI.1 b;refine NdS.rA (h.tape rfl rfl rfl rfl h.ag h.wa h.qu (λk d=>?_) h.pe);show VsS S (upN p.an.aj j _ k).vs;unfold upN;split
   .intro u a;have a:u∈Bu (p.an.aj j) v:=a;rw[(DA b).2]at a
    rcases(BH (Ar b).1.2.2).1 a with rfl|⟨a,_⟩
    .exact e
    .exact h.he j c u a
   .exact h.he k d
theorem iy(q l:List Cmd)(b:∀ c∈q,S c)(f:∀ c∈l,S c):∀ c∈Hj q l,S c:=by
 induction l generalizing q with
 | nil=>exact b
 | cons d l ih =>
  rw[Hj];refine ih _ ?_ λc a=>f c (I' _ a);split
  .exact λc a=>(U'.1 a).elim (b c) λe=>by rw[E'.1 e];exact f d O'
  .exact b
theorem NdS.dT(h:NdS S p)(a:∀ c∈l,S c):NdS S (p.dT l):=by
 unfold Nod.dT;split
 .exact h.tape rfl rfl rfl rfl h.ag h.wa (iy _ _ h.qu a) h.he h.pe
 .exact h
theorem NdS.jv(h:NdS S p)(bn:Nat)(b:∀ c∈l,S c):NdS S (p.jv bn l) :=
 h.tape rfl rfl rfl rfl (λc a=>(U'.1 a).elim (h.ag c) λg=>b c (oH g)) h.wa h.qu h.he h.pe
theorem TpU.uc{rs:List Rk}(h:TpU p dr rs)(a:RsS S rs):VsS S p.vo.vs:=λv b=>a v (Jh h.ok v (by rw[<- h.vo];exact b))
theorem NdS.take(h:NdS S p)(f:p.up=true){l:Let}(b:LtS S l)(j:l.src<5):NdS S (p.take l):=by
 obtain⟨m,n,k,c⟩:=h.up f;unfold Nod.take;split
 .rcases k.al l.fa with⟨e,he⟩|⟨e,he,hvs,rs',hp,ht,hm,hpb,hpv,d,a,hq⟩
  .rw[if_pos e];exact h.eb _ _
  .rw[if_neg (λg=>g e)];exact(h.wrote ht (λv i=>c v ((hm v).1 i)) f hq (by rw[hq];exact h.ag)).wait (by show VsS S _;rw[hvs];exact k.uc c)
 .have hL:=h.jv 0 b.wh;generalize p.jv 0 l.ed=K at hL ⊢;simp only;split
  .exact hL
  .exact NdS.rA (hL.tape rfl rfl rfl rfl hL.ag hL.wa hL.qu (YR hL.he _ j b.vs) hL.pe)
 .exact h.tape rfl rfl rfl rfl h.ag h.wa h.qu h.he h.pe
 .rename_i hk
  rcases k.bN l.bN with⟨e,he⟩|⟨e,he,rs',hp,ht,hm,hpb,d,a,hq⟩
  .rw[if_pos e];exact h.eb _ _
  .rw[if_neg (λg=>g e)];exact(h.wrote ht (λv i=>((hm v).1 i).elim (λe=>by rw[e];exact b.vt (.inl hk)) (c v)) f hq (by rw[hq];exact h.ag)).wait (b.vt (.inl hk))
 .rename_i hk;exact h.count j (b.vt (.inr hk))
 .split
  .exact h.wait trivial
  .exact h.jv _ b.wh
 .simp only;split
  .exact(h.dT b.wh).wait trivial
  .exact h.dT b.wh
 .exact h
theorem Lo(h:NdS S p){s:Nat}{c:Cmd}(b:p.pd s=some c):S c:=by
 unfold Nod.pd at b;split at b
 .cases b
 .rename_i a
  have a:=mI.1 a;split at b
  .rename_i hF
   have f:H7 (p.an.gC.map (·.vs)) (s:Int)=((Gc (p.an.gC.map (·.vs)) (s:Int)).map (·.w)).getD ⟨0,0,0,0,0⟩:=if_pos a;have d:DR (p.an.gC.map (·.vs)) (s:Int)=(Gc (p.an.gC.map (·.vs)) (s:Int)).isSome:=if_pos a;rw[hF]at d
   obtain⟨x,i⟩:=nS.1 d.symm;rw[i]at f
   rw[<- nA b,f];refine YD h.he (s:=(s:Int)) ?_;have:∀ (l:List Vt) (o:Option Vt) (x:Vt),BW l o=some x->x∈l\/o=some x:=by
    intro l;induction l with
    | nil=>intro o x e;exact .inr e
    | cons v l ih =>
     intro o x e;cases o with
     | none =>
      rw[BW]at e
      rcases ih _ _ e with g|g
      .exact .inl (I' _ g)
      .left;cases g;exact O'
     | some u =>
      rw[BW]at e
      split at e
      .rcases ih _ _ e with g|g
       .exact .inl (I' _ g)
       .left;cases g;exact O'
      .rcases ih _ _ e with g|g
       .exact .inl (I' _ g)
       .exact .inr g
   exact(this _ _ _ i).resolve_right λe=>by cases e
  .exact h.qu c (qD b)
theorem NdS.cl(h:NdS S p)(f:p.up=true):NdS S p.cl:=by
 obtain⟨l,m,k,i⟩:=h.up f;unfold Nod.cl;split
 .exact h
 .cases hn:p.pd p.ab.length with
  | none=>exact h
  | some c =>
   have b:=Lo h hn;simp only;rcases k.bN ⟨(p.ab.length:Int),p.an.fa,c⟩with⟨e,he⟩|⟨e,he,rs',hp,ht,hm,hpb,d,a,hq⟩
   .rw[if_pos e];exact h
   .rw[if_neg (λg=>g e)];have g:=h.wrote ht (λv j=>((hm v).1 j).elim (λe=>by rw[e];exact b) (i v)) f hq (by rw[hq];exact h.ag);exact NdS.wait (p:={ (p.bN ⟨(p.ab.length:Int),p.an.fa,c⟩).1 with an:={ p.an with next:=p.ab.length+1 } }) (g.tape rfl rfl rfl rfl g.ag g.wa h.qu h.he g.pe) b
theorem NdS.run(o:i<5)(h:NdS S p){q:Pend}{l:List Pend}(r:p.bt=q::l):NdS S { p.ln i q with bt:=l }/\∀ m∈p.rz i q,LtS S m:=by
 have f:=h.pe q (by rw[r];exact O');have j:∀ {n:Nod},NdS S n->n.bt=p.bt->NdS S { n with bt:=l }:=λ{n} g e=>g.tape rfl rfl rfl rfl g.ag g.wa g.qu g.he λx s=>g.pe x (by rw[e,r];exact I' _ s);have none:∀ c∈([]:List Cmd),S c:=λc k=>by cases k
 have a:VsS S []:=λc k=>by cases k
 cases q with
 | began b vs =>
  unfold Nod.ln Nod.rz;simp only;split
  .exact⟨j h rfl,λm d=>(by cases d)⟩
  .refine⟨j (n:={ p with an:=p.an.rK i vs }) (h.tape rfl rfl rfl rfl h.ag h.wa h.qu (YR h.he i o f) h.pe) rfl,λm d=>?_⟩;obtain⟨to,_,rfl⟩:=CI d;exact⟨a,none,λe=>e.elim (λg=>by cases g) λg=>(by cases g)⟩
 | prom to b vs=>exact⟨j h rfl,λm d=>by rw[E'.1 d];exact⟨f,h.ag,λe=>e.elim (λg=>by cases g) λg=>(by cases g)⟩⟩
 | voted to v=>exact⟨j h rfl,λm d=>by rw[E'.1 d];exact⟨a,none,λ_=>f⟩⟩
 | eb to b=>exact⟨j h rfl,λm d=>by rw[E'.1 d];exact⟨a,none,λe=>e.elim (λg=>by cases g) λg=>(by cases g)⟩⟩
 | prop v =>
  refine⟨j (h.count o f) (D6 p i (.prop v)).1,λm d=>?_⟩;obtain⟨to,_,rfl⟩:=CI d;exact⟨a,none,λ_=>f⟩
 | askNews to=>exact⟨j h rfl,λm d=>by rw[E'.1 d];exact⟨a,none,λe=>e.elim (λg=>by cases g) λg=>(by cases g)⟩⟩
 | start =>
  refine⟨j h rfl,λm d=>?_⟩;obtain⟨to,_,rfl⟩:=CI d;exact⟨a,none,λe=>e.elim (λg=>by cases g) λg=>(by cases g)⟩
 | tell to bn=>exact⟨j h rfl,λm d=>by rw[E'.1 d];exact⟨a,λc k=>h.ag c (oH k),λe=>e.elim (λg=>by cases g) λg=>(by cases g)⟩⟩
theorem NdS.lead(h:NdS S p)(m:p.up=true):NdS S (p.lead i):=by
 obtain⟨o,q,k,l⟩:=h.up m;unfold Nod.lead;simp only;generalize (⟨max p.cn p.vo.p.r+1,(i:Int)⟩:Bal)=b;rcases k.al b with⟨e,he⟩|⟨e,he,hvs,rs',hp,ht,hm,hpb,hpv,d,a,hq⟩
 .rw[if_pos e];exact h
 .rw[if_neg (λg=>g e)];have g:=h.wrote ht (λv f=>l v ((hm v).1 f)) m hq (by rw[hq];exact h.ag);exact NdS.wait (p:={ (p.al b).1 with an:=⟨b,λ_=>false,λ_=>DV,λ_=>p.ab.length,0,[]⟩ }) (x:=.began b (p.al b).2.1) (g.tape rfl rfl rfl rfl g.ag g.wa (λc n=>by cases n) (λj _ v f=>by cases f) g.pe) (by show VsS S _;rw[hvs];exact k.uc l)
theorem gY(b:Bal)(f:Cmd->Option Bal)(l:List Cmd)(h:∀ c∈l,S c):∀ c∈(AZ b f l).1,S c:=by
 induction l generalizing f with
 | nil=>intro c a;cases a
 | cons d l g =>
  have g:=λf=>g f λc a=>h c (I' _ a);rw[AZ];split
  .exact λc a=>(mN.1 a).elim (λe=>by rw[e];exact h d O') (g _ c)
  .exact g f
structure MtS(S:Cmd->Prop)(M:Meet):Prop where
 nd:∀ i,i<5->NdS S (M.ae i)
 lt:∀ l∈M.br,LtS S l
theorem MtS.set(h:MtS S M)(d:NdS S p){ls:List Let}(b:∀ l∈ls,l∈M.br\/LtS S l)(ts:List Tol):MtS S (M.set i p ls ts) :=
 ⟨λj a=>by
  show NdS S (upN M.ae i p j);unfold upN;split
  .exact d
  .exact h.nd j a,λl c=>(b l c).elim (h.lt l) id⟩
theorem MtS.step{D:Wh}(x:∀ i d,D.d i d->∀ now:Nat,opE d (now:Int)=0->S (Ho d (now:Int))){n:Nat}{N:Meet}(s:Stp D n M N)(h:MtS S M):MtS S N:=by
 have same:∀ l∈M.br,l∈M.br\/LtS S l:=λl o=>.inl o;have app:∀ {ms:List Let},(∀ m∈ms,LtS S m)->∀ l∈M.br++ms,l∈M.br\/LtS S l:=λg l o=>(U'.1 o).imp id (g l);cases s with
 | take _ l o hd hu _=>exact h.set ((h.nd _ hd.2).take hu (h.lt l o) hd.1) same _
 | br _ ls o _=>exact⟨h.nd,λl g=>h.lt l (o l g)⟩
 | one _ i c hi hu a he =>
  refine h.set ?_ same _;have k:=h.nd i hi;unfold Nod.fv;split
  .exact k.tape rfl rfl rfl rfl k.ag (λc a=>k.wa c (List.mem_of_mem_erase a)) k.qu k.he k.pe
  .exact k.tape rfl rfl rfl rfl k.ag k.wa k.qu k.he k.pe
 | ask _ i hi hu =>
  have k:=h.nd i hi;have E:=gY (M.ae i).vo.p (M.ae i).bw ((M.ae i).au.take 40) λc a=>k.wa c (mT a);have B:NdS S { M.ae i with bw:=(AZ (M.ae i).vo.p (M.ae i).bw ((M.ae i).au.take 40)).2 }:=k.tape rfl rfl rfl rfl k.ag k.wa k.qu k.he k.pe;refine h.set ?_ (app ?_) _
  .unfold Nod.hZ;split
   .exact B
   .split
    .exact B.dT E
    .exact B
  .intro m hm;unfold Nod.hZ at hm;split at hm
   .cases hm
   .split at hm
    .cases hm
    .rw[E'.1 hm];exact⟨λv f=>(by cases f),E,λe=>e.elim (λg=>by cases g) λg=>(by cases g)⟩
 | prop _ i hi hu=>exact h.set ((h.nd i hi).cl hu) same _
 | rF _ i hi hu hlt y =>
  have k:=h.nd i hi;obtain⟨u,C,g,r⟩:=k.up hu;exact h.set (p:={ M.ae i with sy:=((M.ae i).d.length:Int) }) ⟨λ_=>⟨C,C,g.rF,r⟩,λe=>(by rw[show _=(M.ae i).up from rfl,hu]at e;cases e),k.ag,k.wa,k.qu,k.he,k.pe⟩ same _
 | run _ i hi hu q l hp hs =>
  have g:=(h.nd i hi).run hi hp;exact h.set g.1 (app g.2) _
 | rC _ i hi hu hL =>
  have k:=h.nd i hi;refine h.set (p:=E6 (M.ae i) i 5) (k.tape rfl rfl rfl rfl k.ag k.wa k.qu k.he k.pe) (app ?_) _;have:∀ n,∀ m∈Dp (M.ae i) i n,LtS S m:=by
   intro n;induction n with
   | zero=>intro m hm;cases hm
   | succ n ih =>
    intro m hm;rw[Dp]at hm
    rcases U'.1 hm with hm|hm
    .exact ih m hm
    .split at hm
     .rw[E'.1 hm];exact⟨λv f=>(by cases f),λc a=>k.ag c (oH a),λe=>e.elim (λg=>by cases g) λg=>(by cases g)⟩
     .cases hm
  exact this 5
 | lead _ i hi hu _=>exact h.set ((h.nd i hi).lead hu) same _
 | sub _ i d hi hu hd =>
  have k:=h.nd i hi;refine h.set ?_ same _;unfold Nod.rN Nod.rO;split
  .exact k
  .split
   .exact k.tape rfl rfl rfl rfl k.ag k.wa k.qu k.he k.pe
   .rename_i he
    split
    .exact k
    .show NdS S (Nod.want _ _);unfold Nod.want;split
     .exact k
     .exact k.tape rfl rfl rfl rfl k.ag (λc a=>(U'.1 a).elim (k.wa c) λe=>by rw[E'.1 e];exact x i d hd _ (mI.1 he)) k.qu k.he k.pe
 | kc _ i c hi hu a _ =>
  have k:=h.nd i hi;obtain⟨u,C,g,r⟩:=k.up hu;obtain⟨w,_,G,x⟩:=g.kc a;have z:Gn (M.ae i).d (M.ae i).sy c=0:=by unfold Gn;rw[if_neg (λe=>e g.si),if_neg (by omega)]
  have A:=IC (p:=M.ae i) g.si a;refine h.set ⟨λe=>(by rw[A.2.1]at e;cases e),λ_=>⟨w,x,λv f=>r v (G.subset f)⟩,?_,?_,?_,?_,?_⟩ same _<;>(unfold Nod.kc;rw[if_neg (λe=>e z)])
  .exact λc a=>by cases a
  .exact λc a=>by cases a
  .exact λc a=>by cases a
  .exact λj _ v f=>by cases f
  .exact λc a=>by cases a
 | start _ i hi hu _ =>
  obtain⟨u,g,r⟩:=(h.nd i hi).dn hu;have y:AP (M.ae i).d (M.ae i).sy:=⟨g.len,by rw[g.sy];omega,by rw[g.sy];omega⟩;have t:=GH (p:=M.ae i) y;have b:(M.ae i).start.an=eY/\(M.ae i).start.bt=[.start]/\(M.ae i).start.au=[]:=by
   unfold Nod.start;rw[if_neg (λe=>e (if_pos y))];split<;>exact⟨rfl,rfl,rfl⟩
  refine h.set ⟨λ_=>⟨u,u,g.start,r⟩,λe=>(by rw[t.2.1]at e;cases e),?_,?_,?_,?_,?_⟩ same _
  .rw[t.2.2.2];exact λc a=>by cases a
  .rw[b.2.2];exact λc a=>by cases a
  .rw[b.1];exact λc a=>by cases a
  .rw[b.1];exact λj _ v f=>by cases f
  .rw[b.2.1];exact λq F=>by rw[E'.1 F];trivial
theorem MtS.zero:MtS S Au:=⟨λi _=>⟨λ_=>⟨[],[],TpU.zero,λv b=>(by cases b)⟩,λe=>(by cases e),λc a=>(by cases a),λc a=>(by cases a),λc a=>(by cases a),λj _ v b=>(by cases b),λc a=>(by cases a)⟩,λl d=>(by cases d)⟩
theorem gO(L:List Lac)(f:∀ x∈L,LacOk x)(n:L.length<=100000)(j:∀ x∈L,x.k=1->∀ now:Nat,opE x.d (now:Int)=0->S (Ho x.d (now:Int))):MtS S (Au.dW L):=by
 have s:Sts ⟨λ_ d=>∃ x∈L,x.k=1/\x.d=d,True,True,True,True,True⟩ L.length Au (Au.dW L):=Ff L MOk.zero (by omega) λx a=>⟨f x a,λe=>⟨x,a,e,rfl⟩,λ_=>trivial,λ_=>trivial,λ_=>⟨trivial,trivial⟩,λ_=>trivial⟩;exact s.inv (λ_ M N h g=>g.step (λi d l now m=>by obtain⟨x,b,c,rfl⟩:=l;exact j x b c now m) h) MtS.zero
end
end
structure Ev(p q:Nod):Prop where
 up:q.up=p.up
 fa:q.an.fa=p.an.fa
 vo:p.vo.p.key<=q.vo.p.key
 cn:p.cn<=q.cn
 ag:p.ab <+: q.ab
 oh:∀ j,p.an.oh j=true->q.an.oh j=true
 next:p.an.next<=q.an.next
 qu:p.an.ew <+: q.an.ew
 wa:∀ c∈q.au,c∈p.au
 dn:p.done<=q.done
theorem Ev.refl(p:Nod):Ev p p:=⟨rfl,rfl,mE _,mE _,mL _,λ_ h=>h,A' _,mL _,λ_ h=>h,A' _⟩
theorem Ev.trans{p q r:Nod}(h:Ev p q)(k:Ev q r):Ev p r:=⟨k.up.trans h.up,k.fa.trans h.fa,mX h.vo k.vo,mX h.cn k.cn,h.ag.trans k.ag,λj g=>k.oh j (h.oh j g),mF h.next k.next,h.qu.trans k.qu,λc g=>h.wa c (k.wa c g),mF h.dn k.dn⟩
theorem IQ(k:Nat)(r:Rnd)(l:List Cmd):l <+: FE k r l:=by
 induction k generalizing l with
 | zero=>exact mL _
 | succ k ih =>
  rw[FE];split
  .exact(nZ _ _).trans (ih _)
  .exact mL _
theorem Qz(l q:List Cmd):q <+: Hj q l:=by
 induction l generalizing q with
 | nil=>exact mL _
 | cons c l ih =>
  rw[Hj];split
  .exact(nZ _ _).trans (ih _)
  .exact ih _
theorem Ev.al(p:Nod)(b:Bal):Ev p (p.al b).1:=by
 unfold Nod.al;split
 .exact .refl p
 .rename_i h
  have a:=Co (mI.1 h);have c:p.vo.p.key<=b.key:=Bp a.2.1.pr a.1.1 a.2.2;split
  .exact⟨rfl,rfl,c,mE _,mL _,λ_ h=>h,A' _,mL _,λ_ h=>h,A' _⟩
  .split
   .exact .refl p
   .exact⟨rfl,rfl,c,mE _,mL _,λ_ h=>h,A' _,mL _,λ_ h=>h,A' _⟩
theorem Ev.bN(p:Nod)(v:Vt):Ev p (p.bN v).1:=by
 unfold Nod.bN;split
 .exact .refl p
 .rename_i h
  have a:=Ar (mI.1 h);have c:p.vo.p.key<=v.b.key:=Bp a.2.1.2.1.pr a.1.1 a.2.2;split
  .exact⟨rfl,rfl,c,mE _,mL _,λ_ h=>h,A' _,mL _,λ_ h=>h,A' _⟩
  .split
   .exact .refl p
   .exact⟨rfl,rfl,c,mE _,mL _,λ_ h=>h,A' _,mL _,λ_ h=>h,A' _⟩
theorem Ev.bt{p q:Nod}(h:Ev p q)(x:List Pend):Ev p { q with bt:=x }:=⟨h.up,h.fa,h.vo,h.cn,h.ag,h.oh,h.next,h.qu,h.wa,h.dn⟩
theorem Ev.ue(p:Nod){l:List Cmd}(h:p.ab <+: l):Ev p { p with ab:=l }:=⟨rfl,rfl,mE _,mE _,h,λ_ h=>h,A' _,mL _,λ_ h=>h,A' _⟩
theorem Ev.eb(p:Nod)(to:Nat)(e:Int):Ev p (p.eb to e):=by
 unfold Nod.eb;split
 .exact(Ev.refl p).bt _
 .exact .refl p
theorem Ev.count(p:Nod)(j:Nat)(v:Vt):Ev p (p.count j v):=by
 unfold Nod.count;split
 .exact .refl p
 .split
  .exact .refl p
  .exact⟨rfl,rfl,mE _,mE _,IQ _ _ _,λ_ h=>h,A' _,mL _,λ_ h=>h,A' _⟩
theorem Ev.tO(p:Nod)(l:List Cmd):Ev p (p.dT l):=by
 unfold Nod.dT;split
 .exact⟨rfl,rfl,mE _,mE _,mL _,λ_ h=>h,A' _,Qz _ _,λ_ h=>h,A' _⟩
 .exact .refl p
theorem Vo{f:Nat->Bool}{i j:Nat}(h:f j=true):upN f i true j=true:=by unfold upN;split<;>first|rfl|exact h
theorem Ev.take(p:Nod)(l:Let):Ev p (p.take l):=by
 unfold Nod.take;split
 .split
  .exact .eb p _ _
  .exact(Ev.al p l.fa).bt _
 .simp only;have a:Ev p (p.jv 0 l.ed):=.ue p (nZ _ _);split
  .exact a
  .exact⟨rfl,rfl,mE _,mE _,a.ag.trans (IQ _ _ _),λ_ h=>Vo h,A' _,mL _,λ_ h=>h,A' _⟩
 .exact⟨rfl,rfl,mE _,Int.le_max_left _ _,mL _,λ_ h=>h,A' _,mL _,λ_ h=>h,A' _⟩
 .split
  .exact .eb p _ _
  .exact(Ev.bN p l.bN).bt _
 .exact .count p _ _
 .split
  .exact(Ev.refl p).bt _
  .exact .ue p (nZ _ _)
 .simp only;split
  .exact(Ev.tO p l.ed).bt _
  .exact .tO p l.ed
 .exact .refl p
theorem Ev.cl(p:Nod):Ev p p.cl:=by
 unfold Nod.cl;split
 .exact .refl p
 .rename_i hc
  have a:p.an.next<=p.ab.length:=by omega
  split
  .exact .refl p
  .split
   .exact .refl p
   .have h1:=Ev.bN p ⟨(p.ab.length:Int),p.an.fa,‹Cmd›⟩;exact⟨h1.up,rfl,h1.vo,h1.cn,h1.ag,λ_ h=>h,mF a (nR _),mL _,h1.wa,h1.dn⟩
theorem Ev.fv(p:Nod)(c:Cmd):Ev p (p.fv c):=by
 unfold Nod.fv;split
 .exact⟨rfl,rfl,mE _,mE _,mL _,λ_ h=>h,A' _,mL _,λ_ h=>List.mem_of_mem_erase h,A' _⟩
 .exact .refl p
theorem Ev.hZ(p:Nod)(i:Nat):Ev p (p.hZ i).1:=by
 have a:Ev p { p with bw:=(AZ p.vo.p p.bw (p.au.take 40)).2 }:=⟨rfl,rfl,mE _,mE _,mL _,λ_ h=>h,A' _,mL _,λ_ h=>h,A' _⟩;unfold Nod.hZ;split
 .exact a
 .split
  .exact a.trans (.tO _ _)
  .exact a
theorem Ev.ln(p:Nod)(i:Nat)(q:Pend):Ev p (p.ln i q):=by
 cases q with
 | began b vs =>
  simp only[Nod.ln];split
  .exact .refl p
  .exact⟨rfl,rfl,mE _,mE _,mL _,λ_ h=>Vo h,A' _,mL _,λ_ h=>h,A' _⟩
 | prop v=>exact .count p i v
 | _=>exact .refl p
theorem Stp.ev{c:Nat}{M N:Meet}(s:Stp wh0 c M N)(j:Nat):Ev (M.ae j) (N.ae j):=by
 have put:∀ {i:Nat} {p:Nod} {a:List Let} {b:List Tol},Ev (M.ae i) p->Ev (M.ae j) ((M.set i p a b).ae j):=λ{i p a b} h=>by
  rw[An];split
  .rename_i e;rw[e];exact h
  .exact .refl _
 cases s with
 | take _ l hl hd hu ht=>exact put (.take _ l)
 | br _ a h hd=>exact False.elim hd
 | one _ i c hi hu hc he =>
  refine put (Ev.trans (q:={ M.ae i with lr:=doS (M.ae i).lr c,done:=(M.ae i).done+1 }) ?_ (.fv _ c));exact⟨rfl,rfl,mE _,mE _,mL _,λ_ h=>h,A' _,mL _,λ_ h=>h,nR _⟩
 | ask _ i hi hu=>exact put (.hZ _ i)
 | prop _ i hi hu=>exact put (.cl _)
 | rF _ i hi hu h hT=>exact put ⟨rfl,rfl,mE _,mE _,mL _,λ_ h=>h,A' _,mL _,λ_ h=>h,A' _⟩
 | run _ i hi hu q l hp hs=>exact put ((Ev.ln _ i q).bt l)
 | rC _ i hi hu hL=>exact put ⟨rfl,rfl,mE _,mE _,mL _,λ_ h=>h,A' _,mL _,λ_ h=>h,A' _⟩
 | lead _ i hi hu hL=>exact False.elim hL
 | sub _ i d hi hu hD=>exact False.elim hD
 | kc _ i k hi hu hk hC=>exact False.elim hC
 | start _ i hi hu hs=>exact False.elim hs
theorem Stp.rM{c:Nat}{M N:Meet}(s:Stp wh0 c M N){l:Let}(a:l∈M.br):l∈N.br:=by
 cases s with
 | br _ ls h hd=>exact False.elim hd
 | ask _ i hi hu=>exact mJ _ a
 | run _ i hi hu q l hp hs=>exact mJ _ a
 | rC _ i hi hu hL=>exact mJ _ a
 | _=>exact a
structure Cm(S:Cmd->Prop)(K:Int)(B:Nat->Bal)(cov:List (Bal × Nat))(M:Meet):Prop where
 ex:∃ σ,AgI σ M/\∀ b s c,σ.W b s c->(b,s)∈cov
 kb:K<=3600/\KbI K 3600 M
 up:∀ j,j<5->(M.ae j).up=true
 fa:∀ j,j<5->(M.ae j).an.fa=B j
 s:MtS S M
section
variable{S:Cmd->Prop}{K:Int}{B:Nat->Bal}{cov:List (Bal × Nat)}
section
variable{M:Meet}{j:Nat}
theorem Cm.step(n:∀ j,j<5->∀ s,s<40->(B j,s)∈cov){c:Nat}{N:Meet}(s:Stp wh0 c M N)(h:Cm S K B cov M):Cm S K B cov N:=by
 obtain⟨σ,d,f⟩:=h.ex;obtain⟨τ,o,p,k,l,m⟩:=d.step s;refine⟨⟨τ,k,λb t c g=>?_⟩,⟨h.kb.1,h.kb.2.step (λe=>e) d s h.kb.1⟩,λj a=>(s.ev j).up.trans (h.up j a),λj a=>(s.ev j).fa.trans (h.fa j a),h.s.step (λ_ _ e=>False.elim e) s⟩;rcases l b t c g with g|g
 .exact f b t c g
 .obtain⟨_,h7,i,hi,e⟩:=m b t g;rw[e,h.fa i hi];exact n i hi t h7
theorem Cm.si(h:Cm S K B cov M)(a:j<5):AP (M.ae j).d (M.ae j).sy:=by
 obtain⟨σ,b,_⟩:=h.ex;obtain⟨c,k⟩:=(b.nd j a).up (h.up j a);exact k.tp.si
theorem Cm.le(h:Cm S K B cov M)(a:j<5):(M.ae j).vo.p.key<=K:=by
 have:=(h.kb.2 j a).1;unfold Nod.pk at this
 rwa [if_pos (h.up j a)]at this
theorem Cm.len(h:Cm S K B cov M)(a:j<5):((M.ae j).d.length:Int)<=14*K+38*(cov.length:Int):=by
 obtain⟨σ,b,c⟩:=h.ex;have e:=bQ b c a (h.up j a);have:=h.le a;omega
end
end
section
variable{S:Cmd->Prop}{K:Int}{B:Nat->Bal}{cov:List (Bal × Nat)}{M:Meet}
theorem Cm.acc(h:Cm S K B cov M){j:Nat}(a:j<5):Ag (M.ae j).vo:=by
 obtain⟨σ,b,_⟩:=h.ex;obtain⟨c,k⟩:=(b.nd j a).up (h.up j a);rw[k.tp.vo];exact k.tp.ok.acc
theorem Cm.prom(h:Cm S K B cov M)(k:14*K+38*(cov.length:Int)<=99000){j:Nat}(a:j<5){b:Bal}(c:Ab b)(i:¬ b.lt (M.ae j).vo.p):((M.ae j).al b).2.2=0/\((M.ae j).al b).1.vo.p=b:=by
 have e:Cl (M.ae j).vo b=0:=by unfold Cl;rw[if_neg (λg=>g (h.acc a)),if_neg (λg=>g c),if_neg i]
 have f:CJ (M.ae j).d (M.ae j).sy (Ab b) (Bv b)=0:=by
  have:=h.len a;unfold CJ;rw[Ve (h.si a) (by rw[K3];omega),if_neg (λg=>g rfl),if_pos c]
 unfold Nod.al;rw[if_neg (λg=>g e)];split
 .exact⟨rfl,rfl⟩
 .rw[if_neg (λg=>g f)];exact⟨rfl,rfl⟩
theorem Cm.te(h:Cm S K B cov M)(k:14*K+38*(cov.length:Int)<=99000){j:Nat}(a:j<5){v:Vt}(c:Ah v)(i:¬ v.b.lt (M.ae j).vo.p):((M.ae j).bN v).2=0/\((M.ae j).bN v).1.vo.p=v.b:=by
 have e:AX (M.ae j).vo v=0:=by unfold AX;rw[if_neg (λg=>g (h.acc a)),if_neg (λg=>g c),if_neg i]
 have f:CJ (M.ae j).d (M.ae j).sy (Ah v) (Bj v)=0:=by
  have:=h.len a;unfold CJ;rw[Ve (h.si a) (by rw[GO];omega),if_neg (λg=>g rfl),if_pos c]
 unfold Nod.bN;rw[if_neg (λg=>g e)];split
 .exact⟨rfl,rfl⟩
 .rw[if_neg (λg=>g f)];exact⟨rfl,rfl⟩
end
section
variable{I J:Meet->Prop}
section
variable{M:Meet}{j n:Nat}
theorem E4(M:Meet){i:Nat}(h:j≠i):(M.act (acN 3 (i:Int))).ae j=M.ae j:=by
 unfold Meet.act;simp only[acN];rw[if_neg (by decide),if_neg (by decide),if_pos trivial,An,if_neg (by rw[nI];exact h)]
theorem Fv(i:∀ c M N,Stp wh1 c M N->I M->I N)(r:∀ c M N,Stp wh1 c M N->I M->J M->J N)(z:∀ M j,I M->j<5->(M.ae j).up=true/\AP (M.ae j).d (M.ae j).sy)(v:MOk n M)(hn:n+5<=1000000)(h:I M)(m:j<5){q:Pend}(w:q∈(M.ae j).bt)(x:∀ N l,I N->Ev (M.ae j) (N.ae j)->(N.ae j).bt=q::l->J (N.set j { (N.ae j).ln j q with bt:=l } (N.br++(N.ae j).rz j q) N.eo)):J (M.dW (AC 3 5)):=by
 have y:∀ k,k<=5->MOk (n+k) (M.dW (AC 3 k))/\I (M.dW (AC 3 k))/\(k<=j->(M.dW (AC 3 k)).ae j=M.ae j)/\(j<k->J (M.dW (AC 3 k))):=by
  intro k;induction k with
  | zero=>exact λ_=>⟨v,h,λ_=>rfl,λe=>absurd e (oJ _)⟩
  | succ k ih =>
   intro C;obtain⟨b,f,p,u⟩:=ih (by omega);rw[BX,AJ];refine⟨b.act (by omega) (FT (by omega)),CA i b (by omega) f,λe=>by rw[E4 _ (by omega)];exact p (by omega),λe=>?_⟩;by_cases t:j<k
   .exact(CA (I:=λN=>I N/\J N) (λc A B s g=>⟨i c A B s g.1,r c A B s g.1 g.2⟩) b (by omega) ⟨f,u t⟩).2
   .obtain rfl:k=j:=by omega
    have o:=p (A' _);have a:=z _ k f m;exact Xb (I:=λN=>I N/\Ev (M.ae k) (N.ae k)) (λc A B s g=>⟨i c A B s g.1,g.2.trans (s.calm.ev k)⟩) (λc A B s g=>r c A B s g.1) b m a.1 a.2 (by rw[o];exact w) ⟨f,by rw[o];exact .refl _⟩ λN l g=>x N l g.1 g.2
 exact(y 5 (A' _)).2.2.2 m
theorem Bl(d:∀ c M N,Stp wh1 c M N->I M->I N)(e:MOk n M)(hn:n+5<=1000000)(h:I M):MOk (n+5) (M.dW (AC 3 5))/\I (M.dW (AC 3 5)):=by
 have f:∀ k,k<=5->MOk (n+k) (M.dW (AC 3 k))/\I (M.dW (AC 3 k)):=by
  intro k;induction k with
  | zero=>exact λ_=>⟨e,h⟩
  | succ k ih =>
   intro g;obtain⟨a,b⟩:=ih (by omega);rw[BX,AJ];exact⟨a.act (by omega) (FT (by omega)),CA d a (by omega) b⟩
 exact f 5 (A' _)
theorem Cu(d:∀ M N,TkS M N->I M->I N)(b:MOk n M)(h:I M):∃ N,M.act (acN 7 0)={ N with br:=[] }/\I N/\N.br=M.br:=by
 have c:M.act (acN 7 0)={ M.br.foldl (λM l=>M.ni l) M with br:=[] }:=by
  show M.rE=_;unfold Meet.rE;rw[If]
 have:=JA d M.br (M:=M) (λm a=>⟨a,(b.br m a).src,(b.br m a).dst⟩) h;exact⟨_,c,this⟩
end
end
theorem Stp.td{c:Nat}{M N:Meet}(s:Stp wh1 c M N)(j:Nat):(N.ae j).vo.p=(M.ae j).vo.p:=by
 have put:∀ {i:Nat} {p:Nod} {b:List Let} {f:List Tol},p.vo.p=(M.ae i).vo.p->((M.set i p b f).ae j).vo.p=(M.ae j).vo.p:=λ{i p b f} h=>by
  rw[An];split
  .rename_i e;rw[e];exact h
  .rfl
 cases s with
 | take _ l a hd hu ht=>exact False.elim ht
 | br _ b h hd=>exact False.elim hd
 | one _ i c hi hu hc he=>exact put (by unfold Nod.fv;split<;>rfl)
 | ask _ i hi hu=>exact put (by
   unfold Nod.hZ;split
   .rfl
   .split
    .unfold Nod.dT;split<;>rfl
    .rfl)
 | prop _ i hi hu=>exact put (by
   unfold Nod.cl;split
   .rfl
   .rename_i hc
    have a:(M.ae i).an.fa=(M.ae i).vo.p:=by
     have:(M.ae i).leads=true:=by cases hh:(M.ae i).leads with|true=>rfl|false=>exact absurd (.inl hh) hc
     exact(ng this).2
    split
    .rfl
    .split
     .rfl
     .show((M.ae i).bN _).1.vo.p=_;unfold Nod.bN;split
      .rfl
      .split
       .exact a
       .split
        .rfl
        .exact a)
 | rF _ i hi hu h hT=>exact put rfl
 | run _ i hi hu q l hp hs=>exact put (by
   show((M.ae i).ln i q).vo.p=_;cases q<;>first|rfl|(simp only[Nod.ln];split<;>rfl)|(simp only[Nod.ln,Nod.count];split<;>first|rfl|(split<;>rfl)))
 | rC _ i hi hu hL=>exact put rfl
 | lead _ i hi hu hL=>exact False.elim hL
 | sub _ i d hi hu hD=>exact False.elim hD
 | kc _ i k hi hu hk hC=>exact False.elim hC
 | start _ i hi hu hs=>exact False.elim hs
theorem MG{i:Nat}(l:Let){j k:Nat}(a:j<k)(h:j≠i):{ l with src:=i,dst:=j }∈BZ i l k:=mW.2 ⟨j,pR.2 ⟨ou.2 a,M' h⟩,rfl⟩
section
variable{S:Cmd->Prop}{K:Int}{B:Nat->Bal}{cov:List (Bal × Nat)}
theorem Cm.drop{M:Meet}(h:Cm S K B cov M):Cm S K B cov { M with br:=[] }:=by
 obtain⟨σ,b,c⟩:=h.ex;exact⟨⟨σ,⟨b.gs,b.nd,λl a=>by cases a⟩,c⟩,h.kb,h.up,h.fa,⟨h.s.nd,λl a=>by cases a⟩⟩
def Gr8(K:Int)(p:Nod):Prop:=K<=5*p.cn+4\/K<=p.vo.p.key
theorem Gr8.ev{p q:Nod}(h:Gr8 K p)(e:Ev p q):Gr8 K q:=by
 have:=e.cn;have:=e.vo;unfold Gr8 at *;omega
theorem iX(P:∀ j,j<5->∀ s,s<40->(B j,s)∈cov){n:Nat}{M:Meet}(C:MOk n M)(hn:n+12<=1000000)(h:Cm S K B cov M){i:Nat}(Q:i<5){j:Nat}(f:j<5)(L:(M.ae j).vo.p.key=K){b:Bal}{vs:List Vt}(O:(M.ae i).vo.p=b)(u:Ab b)(hq:.began b vs∈(M.ae i).bt) :
  Gr8 K ((M.dW (Ao++Ao)).ae i):=by
 have W:∀ A:Meet,A.dW (Ao++Ao)=(((A.dW (AC 3 5)).act (acN 7 0)).dW (AC 3 5)).act (acN 7 0):=λA=>by
  rw[AG,show Ao=AC 3 5++[acN 7 0]from rfl,AJ,AJ]
 have a:∀ c A N,Stp wh1 c A N->Cm S K B cov A->Cm S K B cov N:=λc A N s g=>g.step P s.calm;have d:∀ A N,TkS A N->Cm S K B cov A->Cm S K B cov N:=λA N s g=>g.step P s.rQ;have m:LacOk (acN 7 0):=by rw[<- DC];decide
 rw[W];by_cases D:Gr8 K (M.ae i)
 .-- it knows already
  have z:=Bl (I:=λN=>Cm S K B cov N/\Gr8 K (N.ae i)) (λc A N s g=>⟨a c A N s g.1,g.2.ev (s.calm.ev i)⟩) C (by omega) ⟨h,D⟩;obtain⟨N,F,x,_⟩:=Cu (I:=λN=>Cm S K B cov N/\Gr8 K (N.ae i)) (λA N s g=>⟨d A N s g.1,g.2.ev (s.rQ.ev i)⟩) z.1 z.2;have t:=z.1.act (by omega) m;rw[F]at t ⊢
  have H:=Bl (I:=λN=>Cm S K B cov N/\Gr8 K (N.ae i)) (λc A N s g=>⟨a c A N s g.1,g.2.ev (s.calm.ev i)⟩) t (by omega) ⟨x.1.drop,x.2⟩;obtain⟨T,G,R,_⟩:=Cu (I:=λN=>Cm S K B cov N/\Gr8 K (N.ae i)) (λA N s g=>⟨d A N s g.1,g.2.ev (s.rQ.ev i)⟩) H.1 H.2;rw[G];exact R.2
 .have hij:i≠j:=λe=>D (.inr (by rw[e,L];exact mE _));have a0:b.key<K:=by rw[<- O];unfold Gr8 at D;omega
  obtain⟨b0,o⟩:∃ b0,(M.ae j).vo.p=b0:=⟨_,rfl⟩;rw[o]at L
  have w:Aq b0:=by rw[<- o];exact(h.acc f).1
  have E:∀ A N,TkS A N->Cm S K B cov A->(A.ae j).vo.p=b0->(N.ae j).vo.p=b0:=λA N s g e=>by
   have X:=(s.rQ.ev j).vo;have h2:=(d A N s g).le f;rw[e]at X
   exact DB ((d A N s g).acc f).1 w (by omega)
  have y:=Bl (I:=λN=>Cm S K B cov N/\(N.ae j).vo.p=b0) (λc A N s g=>⟨a c A N s g.1,(s.td j).trans g.2⟩) C (by omega) ⟨h,o⟩;have U:=Fv (I:=λN=>Cm S K B cov N/\(N.ae i).vo.p=b) (J:=λN=>({ BJ 0 with fa:=b,src:=i,dst:=j }:Let)∈N.br) (λc A N s g=>⟨a c A N s g.1,(s.td i).trans g.2⟩) (λc A N s _ g=>s.calm.rM g) (λA k g v=>⟨g.1.up k v,g.1.si v⟩) C (by omega) ⟨h,O⟩ Q hq (λN l g _ _=>by
   refine mG _ ?_;simp only[Nod.rz];rw[if_neg (λe=>e g.2)];exact MG { BJ 0 with fa:=b } f (Ne.symm hij))
  obtain⟨N,F,x,G,R⟩:=DG (I:=λN=>Cm S K B cov N/\(N.ae j).vo.p=b0) (J:=λN=>Pend.eb i b0∈(N.ae j).bt) (λA N s g=>⟨d A N s g.1,E A N s g.1 g.2⟩) (λA N s _ g=>by
   obtain⟨l,_,_,_,rfl⟩:=s;rw[An];split
   .rename_i e;rw[<- e];exact Hg g
   .exact g) y.1 y.2 U (λN g=>g.1.up j f) (λN g _=>by
   rw[An,if_pos rfl];have Y:Cl (N.ae j).vo b=7:=by
    unfold Cl;rw[if_neg (λe=>e (g.1.acc f)),if_neg (λe=>e u),if_pos (by rw[EZ u.pr (g.1.acc f).1,g.2];omega)]
   have Z:(N.ae j).al b=(N.ae j,[],7):=by unfold Nod.al;rw[Y,if_pos (by decide)]
   show Pend.eb i b0∈(if((N.ae j).al b).2.2≠0 then(N.ae j).eb i ((N.ae j).al b).2.2 else _).bt;rw[Z,if_pos (show(7:Int)≠0 by decide)];unfold Nod.eb;rw[if_pos rfl,<- g.2];exact mG _ (E'.2 rfl))
  have t:=y.1.act (by omega) m;rw[F]at t ⊢
  have c1:=Bl (I:=Cm S K B cov) a t (by omega) x.1.drop;have V:=Fv (I:=Cm S K B cov) (J:=λN=>({ BJ 2 with fa:=b0,src:=j,dst:=i }:Let)∈N.br) a (λc A N s _ g=>s.calm.rM g) (λA k g v=>⟨g.up k v,g.si v⟩) t (by omega) x.1.drop f (q:=.eb i b0) G (λN l g _ _=>mG _ (E'.2 rfl));obtain⟨T,k5,k6,k7,_⟩:=DG (I:=Cm S K B cov) (J:=λN=>Gr8 K (N.ae i)) d (λA N s _ g=>g.ev (s.rQ.ev i)) c1.1 c1.2 V (λN g=>g.up i Q) (λN g _=>by
   rw[An,if_pos rfl];refine .inl ?_;show K<=5*max (N.ae i).cn b0.r+4;have:b0.key<=5*b0.r+4:=by unfold Aq Ab at w;unfold Bal.key;omega
   omega)
  rw[k5];exact k7
end
def P1(i:Nat)(p:Nod):Prop:=p.an.next=0/\∀ j,j≠i->p.an.oh j=false
theorem P1.uf{i:Nat}{p:Nod}(h:P1 i p):p.an.rD=false:=by
 unfold Rnd.rD J9;have k:=h.2;have g:∀ j,(p.an.oh j).toNat<=if j=i then 1 else 0:=λj=>by
  split
  .cases p.an.oh j<;>decide
  .rename_i e;rw[k j e];decide
 have a:=g 0;have b:=g 1;have c:=g 2;have d:=g 3;have f:=g 4;refine D' ?_;split at a<;>split at b<;>split at c<;>split at d<;>split at f<;>omega
theorem Stp.p1{c:Nat}{M N:Meet}(s:Stp wh1 c M N){i:Nat}(h:P1 i (M.ae i)):P1 i (N.ae i):=by
 have put:∀ {k:Nat} {p:Nod} {a:List Let} {m:List Tol},(i=k->P1 i p)->P1 i ((M.set k p a m).ae i):=λ{k p a m} g=>by
  rw[An];split
  .rename_i e;exact g e
  .exact h
 cases s with
 | take _ l hl hd hu ht=>exact False.elim ht
 | br _ a h hd=>exact False.elim hd
 | one _ k c hi hu hc he=>exact put λe=>by subst e;unfold Nod.fv;split<;>exact h
 | ask _ k hi hu =>
  exact put λe=>by
   subst e;unfold Nod.hZ;split
   .exact h
   .split
    .unfold Nod.dT;split<;>exact h
    .exact h
 | prop _ k hi hu =>
  exact put λe=>by
   subst e;unfold Nod.cl;rw[if_pos (.inr (.inl h.uf))];exact h
 | rF _ k hi hu hs hT=>exact put λe=>by subst e;exact h
 | run _ k hi hu q l hp hs =>
  exact put λe=>by
   subst e;show P1 i ((M.ae i).ln i q);cases q with
   | began b vs =>
    simp only[Nod.ln];split
    .exact h
    .exact⟨h.1,λj f=>by show upN (M.ae i).an.oh i true j=false;rw[Du _ _ f];exact h.2 j f⟩
   | prop v =>
    simp only[Nod.ln,Nod.count];split
    .exact h
    .split<;>exact h
   | _=>exact h
 | rC _ k hi hu hL=>exact put λe=>by subst e;exact h
 | lead _ k hi hu hL=>exact False.elim hL
 | sub _ k d hi hu hD=>exact False.elim hD
 | kc _ k x hi hu hk hC=>exact False.elim hC
 | start _ k hi hu hs=>exact False.elim hs
theorem fG{i:Nat}{p:Nod}(h:P1 i p){l:Let}(c:l.kind=1->l.src≠i->l.fa≠p.an.fa):P1 i (p.take l):=by
 have f:∀ v,P1 i (p.bN v).1:=λv=>by
  unfold Nod.bN;split
  .exact h
  .split
   .exact h
   .split<;>exact h
 unfold Nod.take;split
 .split
  .unfold Nod.eb;split<;>exact h
  .show P1 i (p.al l.fa).1;unfold Nod.al;split
   .exact h
   .split
    .exact h
    .split<;>exact h
 .rename_i hk
  simp only;split
  .exact h
  .rename_i hc
   have b:l.fa=p.an.fa:=nz λe=>hc (.inr (.inl e));have d:l.src=i:=nz λe=>c hk e b;exact⟨h.1,λj a=>by show upN p.an.oh l.src true j=false;rw[Du _ _ (by rw[d];exact a)];exact h.2 j a⟩
 .exact h
 .split
  .unfold Nod.eb;split<;>exact h
  .exact f _
 .unfold Nod.count;split
  .exact h
  .split<;>exact h
 .split<;>exact h
 .simp only;unfold Nod.dT;split<;>split<;>exact h
 .exact h
section
variable{S:Cmd->Prop}{K:Int}{B:Nat->Bal}{cov:List (Bal × Nat)}
theorem Cm.top(a:∀ j,j<5->∀ s,s<40->(B j,s)∈cov){c:Nat}{A N:Meet}(s:Stp wh0 c A N)(g:Cm S K B cov A){b:Bal}(h:Aq b)(k:b.key=K){j:Nat}(d:j<5)(e:(A.ae j).vo.p=b):(N.ae j).vo.p=b:=by
 have f:=(s.ev j).vo;have i:=(g.step a s).le d;rw[e]at f
 exact DB ((g.step a s).acc d).1 h (by omega)
theorem eG(z:∀ j,j<5->∀ s,s<40->(B j,s)∈cov)(hQ:14*K+38*(cov.length:Int)<=99000){n:Nat}{M:Meet}(X:MOk n M)(hn:n+12<=1000000)(h:Cm S K B cov M){i:Nat}(H:i<5){b:Bal}(f:Ab b)(W:b.key=K)(hB:B i=b)(Z:(M.ae i).vo.p=b)(Q:∀ j,j<5->j≠i->(M.ae j).vo.p.key<K){vs:List Vt}(hq:.began b vs∈(M.ae i).bt)(R:P1 i (M.ae i)) :
  Cm S K B cov (M.dW Ao)/\(∀ j,j<5->((M.dW Ao).ae j).vo.p=b)/\((M.dW Ao).ae i).an.oh i=true/\(∀ j,j<5->j≠i->∃ vs,Pend.prom i b vs∈((M.dW Ao).ae j).bt)/\P1 i ((M.dW Ao).ae i)/\(M.dW Ao).br=[]/\MOk (n+6) (M.dW Ao):=by
 have u:LacOk (acN 7 0):=by rw[<- DC];decide
 have r:∀ c A N,Stp wh1 c A N->Cm S K B cov A->Cm S K B cov N:=λc A N s g=>g.step z s.calm;have t:∀ A N,TkS A N->Cm S K B cov A->Cm S K B cov N:=λA N s g=>g.step z s.rQ;have T:=Bl (I:=λN=>Cm S K B cov N/\(∀ j,(N.ae j).vo.p=(M.ae j).vo.p)/\P1 i (N.ae i)) (λc A N s g=>⟨r c A N s g.1,λj=>(s.td j).trans (g.2.1 j),s.p1 g.2.2⟩) X (by omega) ⟨h,λ_=>rfl,R⟩;have E:=Fv (I:=λN=>Cm S K B cov N/\(N.ae i).vo.p=b) (J:=λN=>(∀ j,j<5->j≠i->({ BJ 0 with fa:=b,src:=i,dst:=j }:Let)∈N.br)/\(N.ae i).an.oh i=true) (λc A N s g=>⟨r c A N s g.1,(s.td i).trans g.2⟩) (λc A N s _ g=>⟨λj a e=>s.calm.rM (g.1 j a e),(s.calm.ev i).oh i g.2⟩) (λA k g D=>⟨g.1.up k D,g.1.si D⟩) X (by omega) ⟨h,Z⟩ H hq (λN l g _ _=>by
  refine⟨λj a e=>mG _ ?_,?_⟩
  .simp only[Nod.rz];rw[if_neg (λe=>e g.2)];exact MG { BJ 0 with fa:=b } a e
  .rw[An,if_pos rfl];show((N.ae i).ln i (.began b vs)).an.oh i=true;simp only[Nod.ln];rw[if_neg (λe=>e g.2)];exact De _ _ _)
 rw[show Ao=AC 3 5++[acN 7 0]from rfl,AJ];generalize M.dW (AC 3 5)=A at T E ⊢;obtain⟨y,d,q,G⟩:=T;have O:∀ m∈A.br,m.kind=1->m.src≠i->m.fa≠b:=λm Y D hs e=>by
  obtain⟨σ,x,_⟩:=d.ex;have o:=(y.br m Y).src;have F:=((x.lt m Y).k1 D).1.le;have V:=(x.nd _ o).so;unfold Nod.pk at V;rw[if_pos (d.up _ o),q]at V
  have h4:=Q _ o hs;have h6:m.fa.key<=σ.P m.src:=F;rw[e]at h6
  omega
 obtain⟨N,k1,⟨k2,k3,k4,k5,k6⟩,k7⟩:=Cu (I:=λN=>Cm S K B cov N/\(N.ae i).vo.p=b/\P1 i (N.ae i)/\(N.ae i).an.oh i=true/\N.br=A.br) (λC N s g=>by
  refine⟨t C N s g.1,g.1.top z s.rQ f.pr W H g.2.1,?_,(s.rQ.ev i).oh i g.2.2.2.1,?_⟩
  .obtain⟨l,hl,_,_,rfl⟩:=s;rw[An];split
   .rename_i e
    rw[<- e];exact fG g.2.2.1 λx F=>by rw[g.1.fa i H,hB];exact O l (by rw[<- g.2.2.2.2];exact hl) x F
   .exact g.2.2.1
  .obtain⟨l,hl,_,_,rfl⟩:=s;exact g.2.2.2.2) y ⟨d,(q i).trans Z,G,E.2,rfl⟩
 have a:∀ j,j<5->j≠i->((A.act (acN 7 0)).ae j).vo.p=b/\∃ vs,Pend.prom i b vs∈((A.act (acN 7 0)).ae j).bt:=λj a L=>by
  obtain⟨N',q1,q2,q3,_⟩:=DG (I:=Cm S K B cov) (J:=λN=>(N.ae j).vo.p=b/\∃ vs,Pend.prom i b vs∈(N.ae j).bt) t (λC N s g e=>⟨g.top z s.rQ f.pr W a e.1,by
   obtain⟨vs,U⟩:=e.2;refine⟨vs,?_⟩;obtain⟨l,_,_,_,rfl⟩:=s;rw[An];split
   .rename_i e3;rw[<- e3];exact Hg U
   .exact U⟩) y d (E.1 j a L) (λN g=>g.up j a) (λN g _=>by
   rw[An,if_pos rfl];have a0:=g.le a;have w:=g.prom hQ a f (by rw[EZ f.pr (g.acc a).1];omega);have e:(N.ae j).take ({ BJ 0 with fa:=b,src:=i,dst:=j }:Let)=((N.ae j).al b).1.wait (.prom i b ((N.ae j).al b).2.1):=by
    show(if((N.ae j).al b).2.2≠0 then _ else _)=_;rw[if_neg (λg=>g w.1)]
   rw[e];exact⟨w.2,_,mG _ (E'.2 rfl)⟩)
  rw[q1];exact q3
 have v:=y.act (by omega) u;rw[k1]at a v ⊢
 exact⟨k2.drop,λj o=>by
  by_cases e:j=i
  .rw[e];exact k3
  .exact(a j o e).1,k5,λj o e=>(a j o e).2,k4,rfl,v⟩
end
section
theorem fM(f:Cmd->Option Bal)(c:Cmd)(b:Option Bal):Ca f c b c=b:=if_pos rfl
variable{M N:Meet}{c:Cmd}{p:Nod}
theorem Vq(f:Cmd->Option Bal){d:Cmd}(b:Option Bal)(h:d≠c):Ca f c b d=f d:=if_neg h
theorem L2{b:Bal}(p:b≠Bb)(l:List Cmd)(f:Cmd->Option Bal):(∀ c,c∉l->(AZ b f l).2 c=f c)/\(∀ c∈l,(AZ b f l).2 c=some b)/\(∀ c∈l,f c=some b\/c∈(AZ b f l).1)/\∀ c∈(AZ b f l).1,c∈l:=by
 induction l generalizing f with
 | nil=>exact⟨λ_ _=>rfl,λ_ h=>(by cases h),λ_ h=>(by cases h),λ_ h=>(by cases h)⟩
 | cons c l ih =>
  rw[AZ];split
  .rename_i hc
   obtain⟨j,k,m,n⟩:=ih (Ca f c (some b));refine⟨λd a=>?_,λd a=>?_,λd a=>?_,λd a=>?_⟩
   .show(AZ b (Ca f c (some b)) l).2 d=f d;rw[j d λe=>a (I' _ e),Vq _ _ λe=>a (by rw[e];exact O')]
   .show(AZ b (Ca f c (some b)) l).2 d=some b;by_cases i:d∈l
    .exact k d i
    .rcases mN.1 a with rfl|e
     .rw[j d i,fM]
     .exact absurd e i
   .rcases mN.1 a with rfl|e
    .exact .inr O'
    .by_cases e2:d=c
     .rw[e2];exact .inr O'
     .rcases m d e with g|g
      .rw[Vq _ _ e2]at g;exact .inl g
      .exact .inr (I' _ g)
   .rcases mN.1 a with rfl|e
    .exact O'
    .exact I' _ (n d e)
  .rename_i hc
   have o:f c=some b:=by
    have:=mI.1 hc;cases hh:f c with
    | none=>rw[hh]at this;exact absurd this.symm p
    | some x=>rw[hh]at this;exact congrArg some this
   obtain⟨j,k,m,n⟩:=ih f;refine⟨λd a=>j d λe=>a (I' _ e),λd a=>?_,λd a=>?_,λd a=>I' _ (n d a)⟩
   .by_cases i:d∈l
    .exact k d i
    .rcases mN.1 a with rfl|e
     .rw[j d i];exact o
     .exact absurd e i
   .rcases mN.1 a with rfl|e
    .exact .inl o
    .exact m d e
theorem Ih(l q:List Cmd)(h:q.Nodup):(Hj q l).Nodup:=by
 induction l generalizing q with
 | nil=>exact h
 | cons c l ih =>
  rw[Hj];refine ih _ ?_;split
  .rename_i hc
   exact oW.2 ⟨h,oX.2 ⟨P',oA⟩,λx a y b e=>hc.2 (by rw[<- E'.1 b,<- e];exact a)⟩
  .exact h
theorem Qy{C:List Cmd}(j:C.length<40)(l q:List Cmd)(g:q.Nodup)(a:∀ c∈q,c∈C)(b:∀ c∈l,c∈C):∀ c∈l,c∈Hj q l:=by
 induction l generalizing q with
 | nil=>exact λc hc=>by cases hc
 | cons d l ih =>
  have f:=Pp g a;have i:=b d O';intro c hc;rw[Hj];have h:d∈(if q.length<40/\d∉q then q++[d]else q):=by
   by_cases e:d∈q
   .split
    .exact mJ _ e
    .exact e
   .rw[if_pos ⟨by omega,e⟩];exact mG _ (E'.2 rfl)
  rcases mN.1 hc with rfl|hc
  .exact(Qz l _).subset h
  .refine ih _ ?_ (λx hx=>?_) (λx hx=>b x (I' _ hx)) c hc
   .exact Ih [d] q g
   .split at hx
    .rcases U'.1 hx with hx|hx
     .exact a x hx
     .rw[E'.1 hx];exact i
    .exact a x hx
structure AskI(p:Nod):Prop where
 nd:p.au.Nodup
 wa:∀ c,c∈p.au↔(p.bw c).isSome=true
 le:∀ c x,p.bw c=some x->x.key<=p.vo.p.key
 un:∀ c∈p.au,c∉p.ab.take p.done
 qn:p.an.ew.Nodup
 dn:p.done<=p.ab.length
theorem RF{α:Type}{l m:List α}{k:Nat}(h:l <+: m)(a:k<=l.length):m.take k=l.take k:=by obtain⟨x,rfl⟩:=h;exact nt a
theorem AskI.nr{q:Nod}(h:AskI p)(e:Ev p q)(i:q.au=p.au/\q.bw=p.bw/\q.done=p.done)(f:q.an.ew.Nodup):AskI q:=by
 obtain⟨a,b,d⟩:=i;refine⟨by rw[a];exact h.nd,by rw[a,b];exact h.wa,λc x g=>mX (h.le c x (by rw[<- b];exact g)) e.vo,?_,f,by rw[d];exact mF h.dn e.ag.length_le⟩;rw[a,d,RF e.ag h.dn];exact h.un
theorem Bi(p:Nod)(b:Bal):((p.al b).1.au=p.au/\(p.al b).1.bw=p.bw/\(p.al b).1.done=p.done)/\(p.al b).1.an=p.an:=by
 unfold Nod.al;split
 .exact⟨⟨rfl,rfl,rfl⟩,rfl⟩
 .split
  .exact⟨⟨rfl,rfl,rfl⟩,rfl⟩
  .split<;>exact⟨⟨rfl,rfl,rfl⟩,rfl⟩
theorem CD(p:Nod)(v:Vt):((p.bN v).1.au=p.au/\(p.bN v).1.bw=p.bw/\(p.bN v).1.done=p.done)/\(p.bN v).1.an=p.an:=by
 unfold Nod.bN;split
 .exact⟨⟨rfl,rfl,rfl⟩,rfl⟩
 .split
  .exact⟨⟨rfl,rfl,rfl⟩,rfl⟩
  .split<;>exact⟨⟨rfl,rfl,rfl⟩,rfl⟩
theorem RE(p:Nod)(l:Let)(a:p.an.ew.Nodup):((p.take l).au=p.au/\(p.take l).bw=p.bw/\(p.take l).done=p.done)/\(p.take l).an.ew.Nodup:=by
 unfold Nod.take;split
 .split
  .unfold Nod.eb;split<;>exact⟨⟨rfl,rfl,rfl⟩,a⟩
  .have:=Bi p l.fa;exact⟨this.1,by show(p.al l.fa).1.an.ew.Nodup;rw[this.2];exact a⟩
 .simp only;split<;>exact⟨⟨rfl,rfl,rfl⟩,a⟩
 .exact⟨⟨rfl,rfl,rfl⟩,a⟩
 .split
  .unfold Nod.eb;split<;>exact⟨⟨rfl,rfl,rfl⟩,a⟩
  .have:=CD p l.bN;exact⟨this.1,by show(p.bN l.bN).1.an.ew.Nodup;rw[this.2];exact a⟩
 .unfold Nod.count;split
  .exact⟨⟨rfl,rfl,rfl⟩,a⟩
  .split<;>exact⟨⟨rfl,rfl,rfl⟩,a⟩
 .split<;>exact⟨⟨rfl,rfl,rfl⟩,a⟩
 .simp only;unfold Nod.dT;split<;>split<;>first|exact⟨⟨rfl,rfl,rfl⟩,a⟩|exact⟨⟨rfl,rfl,rfl⟩,Ih _ _ a⟩
 .exact⟨⟨rfl,rfl,rfl⟩,a⟩
theorem AskI.hZ(h:AskI p)(i:Nat)(q:0<=p.vo.p.key):AskI (p.hZ i).1:=by
 have key:∀ (l:List Cmd) (f:Cmd->Option Bal),(∀ c,c∈l->(f c).isSome=true)->(∀ c,((AZ p.vo.p f l).2 c).isSome=(f c).isSome)/\∀ c x,(AZ p.vo.p f l).2 c=some x->f c=some x\/x=p.vo.p:=by
  intro l;induction l with
  | nil=>exact λf _=>⟨λ_=>rfl,λ_ _ g=>.inl g⟩
  | cons c l ih =>
   intro f j;rw[AZ];split
   .have hu:∀ d,(Ca f c (some p.vo.p) d).isSome=(f d).isSome:=λd=>by
     unfold Ca;split
     .rename_i e;rw[e,j c O'];rfl
     .rfl
    obtain⟨a,k⟩:=ih (Ca f c (some p.vo.p)) λd b=>by rw[hu];exact j d (I' _ b)
    refine⟨λd=>(a d).trans (hu d),λd x g=>?_⟩;rcases k d x g with g|g
    .unfold Ca at g;split at g
     .exact .inr (nA g).symm
     .exact .inl g
    .exact .inr g
   .exact ih f λd b=>j d (I' _ b)
 obtain⟨n,o⟩:=key (p.au.take 40) p.bw λc m=>(h.wa c).1 (mT m);have a:AskI { p with bw:=(AZ p.vo.p p.bw (p.au.take 40)).2 }:=⟨h.nd,λc=>by show _↔((AZ p.vo.p p.bw (p.au.take 40)).2 c).isSome=true;rw[n];exact h.wa c,λc x g=>by
  rcases o c x g with g|g
  .exact h.le c x g
  .rw[g];exact mE _,h.un,h.qn,h.dn⟩
 unfold Nod.hZ;split
 .exact a
 .split
  .refine a.nr (.tO _ _) ?_ ?_
   .unfold Nod.dT;split<;>exact⟨rfl,rfl,rfl⟩
   .unfold Nod.dT;split
    .exact Ih _ _ h.qn
    .exact h.qn
  .exact a
theorem AskI.one(h:AskI p)(b:p.ab[p.done]?=some c)(s:Sto):AskI (Nod.fv { p with lr:=s,done:=p.done+1 } c):=by
 have f:=(V'.1 b).1;have i:p.ab.take (p.done+1)=p.ab.take p.done++[c]:=by rw[pB,b];rfl
 unfold Nod.fv;split
 .refine⟨h.nd.erase c,λd=>?_,λd x g=>?_,λd a=>?_,h.qn,f⟩
  .show d∈p.au.erase c↔(Ca p.bw c none d).isSome=true;rw[h.nd.mem_erase_iff];unfold Ca;split
   .rename_i e;simp[e]
   .rename_i e;rw[h.wa d];simp[e]
  .have g:Ca p.bw c none d=some x:=g;unfold Ca at g;split at g
   .cases g
   .exact h.le d x g
  .have a:d∈p.au.erase c:=a;rw[h.nd.mem_erase_iff]at a
   show d∉p.ab.take (p.done+1);rw[i];intro e;rcases U'.1 e with e|e
   .exact h.un d a.2 e
   .exact a.1 (E'.1 e)
 .rename_i hn
  refine⟨h.nd,h.wa,h.le,λd a=>?_,h.qn,f⟩;show d∉p.ab.take (p.done+1);rw[i];intro e;rcases U'.1 e with e|e
  .exact h.un d a e
  .rw[E'.1 e]at a
   exact hn ((h.wa c).1 a)
theorem AskI.want(h:AskI p)(b:c∉p.ab.take p.done)(a:0<=p.vo.p.key):AskI (p.want c):=by
 unfold Nod.want;split
 .exact h
 .rename_i hn
  have f:c∉p.au:=λe=>hn ((h.wa c).1 e);refine⟨oW.2 ⟨h.nd,oX.2 ⟨P',oA⟩,λx i y j e=>f (by rw[<- E'.1 j,<- e];exact i)⟩,λd=>?_,λd x g=>?_,λd hd=>?_,h.qn,h.dn⟩
  .show d∈p.au++[c]↔(Ca p.bw c (some Bb) d).isSome=true;unfold Ca;split
   .rename_i e;simp[e]
   .rename_i e;rw[<- h.wa d];simp[e]
  .have g:Ca p.bw c (some Bb) d=some x:=g;unfold Ca at g;split at g
   .rw[<- nA g];exact a
   .exact h.le d x g
  .rcases U'.1 hd with hd|hd
   .exact h.un d hd
   .rw[E'.1 hd];exact b
theorem AskI.bare(p:Nod)(u:Bool)(d:List Int)(s:Int)(a:Acc)(x:List Pend):AskI (p.bare u d s a x):=⟨oA,λc=>⟨λe=>(by cases e),λe=>(by cases e)⟩,λc x e=>(by cases e),λc e=>(by cases e),oA,A' _⟩
theorem AskI.step{D:Wh}{c:Nat}(s:Stp D c M N){σ:Gs}(g:AgI σ M)(h:∀ j,j<5->AskI (M.ae j)):∀ j,j<5->AskI (N.ae j):=by
 intro j i;have put:∀ {k:Nat} {p:Nod} {f:List Let} {o:List Tol},(k<5->AskI p)->AskI ((M.set k p f o).ae j):=λ{k p f o} e=>by
  rw[An];split
  .rename_i e2;exact e (by omega)
  .exact h j i
 have pos:∀ {k:Nat},k<5->(M.ae k).up=true->0<=(M.ae k).vo.p.key:=λ{k} m a=>by
  obtain⟨t,q⟩:=(g.nd k m).up a;have n:=q.tp.ok.acc.1;rw[<- q.tp.vo]at n
  unfold Aq Ab at n;unfold Bal.key;omega
 cases s with
 | take _ l hl hd a ht =>
  have:=RE (M.ae l.dst) l (h _ hd.2).qn;exact put λ_=>(h _ hd.2).nr (.take _ l) this.1 this.2
 | br _ f hl hd=>exact h j i
 | one _ k c hi a hc he=>exact put λ_=>(h k hi).one hc _
 | ask _ k hi a=>exact put λ_=>(h k hi).hZ k (pos hi a)
 | prop _ k hi a =>
  refine put λ_=>(h k hi).nr (.cl _) ?_ ?_
  .unfold Nod.cl;split
   .exact⟨rfl,rfl,rfl⟩
   .split
    .exact⟨rfl,rfl,rfl⟩
    .split
     .exact⟨rfl,rfl,rfl⟩
     .exact(CD (M.ae k) _).1
  .unfold Nod.cl;split
   .exact(h k hi).qn
   .split
    .exact(h k hi).qn
    .split<;>exact(h k hi).qn
 | rF _ k hi a hs hT=>exact put λ_=>⟨(h k hi).nd,(h k hi).wa,(h k hi).le,(h k hi).un,(h k hi).qn,(h k hi).dn⟩
 | run _ k hi a q l hp hs =>
  refine put λ_=>(h k hi).nr ((Ev.ln _ k q).bt l) ?_ ?_
  .show((M.ae k).ln k q).au=_/\((M.ae k).ln k q).bw=_/\((M.ae k).ln k q).done=_;cases q<;>first|exact⟨rfl,rfl,rfl⟩|(simp only[Nod.ln];split<;>exact⟨rfl,rfl,rfl⟩)|(simp only[Nod.ln,Nod.count];split<;>first|exact⟨rfl,rfl,rfl⟩|(split<;>exact⟨rfl,rfl,rfl⟩))
  .show((M.ae k).ln k q).an.ew.Nodup;have:=(h k hi).qn;cases q<;>first|exact this|(simp only[Nod.ln];split<;>exact this)|(simp only[Nod.ln,Nod.count];split<;>first|exact this|(split<;>exact this))
 | rC _ k hi a hL=>exact put λ_=>⟨(h k hi).nd,(h k hi).wa,(h k hi).le,(h k hi).un,(h k hi).qn,(h k hi).dn⟩
 | lead _ k hi a hL =>
  refine put λ_=>?_;unfold Nod.lead;simp only;split
  .exact h k hi
  .generalize (⟨max (M.ae k).cn (M.ae k).vo.p.r+1,(k:Int)⟩:Bal)=b;have e:=Bi (M.ae k) b;have q:=(h k hi).nr (.al _ b) e.1 (by rw[e.2];exact(h k hi).qn);exact⟨q.nd,q.wa,q.le,q.un,oA,q.dn⟩
 | sub _ k d hi a hD =>
  refine put λ_=>?_;unfold Nod.rN Nod.rO;split
  .exact h k hi
  .split
   .exact⟨(h k hi).nd,(h k hi).wa,(h k hi).le,(h k hi).un,(h k hi).qn,(h k hi).dn⟩
   .split
    .exact h k hi
    .rename_i hc;exact(h k hi).want hc (pos hi a)
 | kc _ k x hi a m hC =>
  refine put λ_=>?_;unfold Nod.kc;split
  .exact h k hi
  .exact .bare _ _ _ _ _ _
 | start _ k hi a hs =>
  refine put λ_=>?_;unfold Nod.start;split
  .exact h k hi
  .split<;>exact .bare _ _ _ _ _ _
theorem AskI.zero:∀ j,j<5->AskI (Au.ae j):=λj _=>AskI.bare CZ true [] 0 DV []
theorem Stp.bw{n:Nat}(s:Stp wh0 n M N){j:Nat}{x:Bal}(h:(N.ae j).bw c=some x):(M.ae j).bw c=some x\/(j<5/\N=M.set j ((M.ae j).hZ j).1 (M.br++((M.ae j).hZ j).2) M.eo):=by
 have put:∀ {k:Nat} {p:Nod} {a:List Let} {b:List Tol},((M.set k p a b).ae j).bw c=some x->(p.bw c=some x->(M.ae k).bw c=some x)->(M.ae j).bw c=some x:=λ{k p a b} g e=>by
  rw[An]at g
  split at g
  .rename_i e2;rw[e2];exact e g
  .exact g
 cases s with
 | take _ l hl hd hu ht =>
  refine .inl (put h λg=>?_);rw[show((M.ae l.dst).take l).bw=(M.ae l.dst).bw from ?_]at g
  .exact g
  .unfold Nod.take;split
   .split
    .unfold Nod.eb;split<;>rfl
    .exact(Bi _ _).1.2.1
   .simp only;split<;>rfl
   .rfl
   .split
    .unfold Nod.eb;split<;>rfl
    .exact(CD _ _).1.2.1
   .unfold Nod.count;split
    .rfl
    .split<;>rfl
   .split<;>rfl
   .simp only;unfold Nod.dT;split<;>split<;>rfl
   .rfl
 | br _ a hl hd=>exact False.elim hd
 | one _ k d hi hu hc he =>
  refine .inl (put h λg=>?_);unfold Nod.fv at g;split at g
  .have g:Ca (M.ae k).bw d none c=some x:=g;unfold Ca at g;split at g
   .cases g
   .exact g
  .exact g
 | ask _ k hi hu =>
  by_cases e:j=k
  .subst e;exact .inr ⟨hi,rfl⟩
  .rw[An,if_neg e]at h;exact .inl h
 | prop _ k hi hu =>
  refine .inl (put h λg=>?_);unfold Nod.cl at g;split at g
  .exact g
  .split at g
   .exact g
   .split at g
    .exact g
    .have g:((M.ae k).bN _).1.bw c=some x:=g;rw[(CD _ _).1.2.1]at g;exact g
 | rF _ k hi hu hs hT=>exact .inl (put h λg=>g)
 | run _ k hi hu q l hp hs =>
  refine .inl (put h λg=>?_);have g:((M.ae k).ln k q).bw c=some x:=g;rw[show((M.ae k).ln k q).bw=(M.ae k).bw from ?_]at g
  .exact g
  .cases q<;>first|rfl|(simp only[Nod.ln];split<;>rfl)|(simp only[Nod.ln,Nod.count];split<;>first|rfl|(split<;>rfl))
 | rC _ k hi hu hL=>exact .inl (put h λg=>g)
 | lead _ k hi hu hL=>exact False.elim hL
 | sub _ k d hi hu hD=>exact False.elim hD
 | kc _ k y hi hu hk hC=>exact False.elim hC
 | start _ k hi hu hs=>exact False.elim hs
end
section
variable{C:List Cmd}{K:Int}{B:Nat->Bal}{cov:List (Bal × Nat)}{i:Nat}{b:Bal}
section
structure PhB(C:List Cmd)(K:Int)(B:Nat->Bal)(cov:List (Bal × Nat))(i:Nat)(b:Bal)(M:Meet):Prop where
 cm:Cm (λc=>c∈C) K B cov M
 ak:∀ j,j<5->AskI (M.ae j)
 vi:(M.ae i).vo.p=b
structure PhC(C:List Cmd)(K:Int)(B:Nat->Bal)(cov:List (Bal × Nat))(i:Nat)(b:Bal):Prop where
 hc:∀ j,j<5->∀ s,s<40->(B j,s)∈cov
 hC:C.length<40
 hi:i<5
 hb:Ab b
 hn:b.n=(i:Int)
 hB:B i=b
 hK:b.key=K
variable{M N:Meet}{n:Nat}
theorem PhB.step(a:PhC C K B cov i b)(s:Stp wh0 n M N)(h:PhB C K B cov i b M):PhB C K B cov i b N:=by
 obtain⟨σ,g,_⟩:=h.cm.ex;exact⟨h.cm.step a.hc s,AskI.step s g h.ak,h.cm.top a.hc s a.hb.pr a.hK a.hi h.vi⟩
theorem PhB.leads(a:PhC C K B cov i b)(h:PhB C K B cov i b M):(M.ae i).leads=true:=by
 have c:=a.hb;unfold Nod.leads;refine M' ⟨?_,?_⟩
 .rw[h.cm.fa i a.hi,a.hB];intro e;rw[e]at c
  exact absurd c (by decide)
 .rw[h.cm.fa i a.hi,a.hB,h.vi]
def QA(i:Nat)(b:Bal)(M:Meet):Prop:=∀ j,j<5->∀ c,(M.ae j).bw c=some b->c∈(M.ae i).an.ew\/∃ m∈M.br,m.kind=6/\m.dst=i/\c∈m.ed
theorem QA.step(t:PhC C K B cov i b)(s:Stp wh0 n M N)(h:PhB C K B cov i b M)(q:QA i b M):QA i b N:=by
 intro j x c a;have z:b≠Bb:=λe=>by have:=t.hb;rw[e]at this;exact absurd this (by decide)
 by_cases e:(M.ae j).bw c=some b
 .rcases q j x c e with g|⟨m,g1,g2⟩
  .exact .inl ((s.ev i).qu.subset g)
  .exact .inr ⟨m,s.rM g1,g2⟩
 .rcases s.bw a with g|⟨_,rfl⟩
  .exact absurd g e
  .rw[An,if_pos rfl]at a
   have E:=h.ak j x;have y:(AZ (M.ae j).vo.p (M.ae j).bw ((M.ae j).au.take 40)).2 c=some b:=by
    unfold Nod.hZ at a;split at a
    .exact a
    .split at a
     .unfold Nod.dT at a;split at a<;>exact a
     .exact a
   have r:(M.ae j).vo.p=b/\c∈(M.ae j).au.take 40:=by
    have key:∀ (l:List Cmd) (f:Cmd->Option Bal) (p:Bal),(AZ p f l).2 c=some b->f c=some b\/(p=b/\c∈l):=by
     intro l;induction l with
     | nil=>exact λf p g=>.inl g
     | cons d l ih =>
      intro f p g;rw[AZ]at g
      split at g
      .rcases ih _ p g with k|k
       .unfold Ca at k;split at k
        .rename_i e;exact .inr ⟨nA k,by rw[e];exact O'⟩
        .exact .inl k
       .exact .inr ⟨k.1,I' _ k.2⟩
      .exact(ih f p g).imp id λk=>⟨k.1,I' _ k.2⟩
    exact(key _ _ _ y).resolve_left e
   obtain⟨r,H⟩:=r;have D:=L2 z ((M.ae j).au.take 40) (M.ae j).bw;have o:c∈(AZ (M.ae j).vo.p (M.ae j).bw ((M.ae j).au.take 40)).1:=by rw[r];exact(D.2.2.1 c H).resolve_left e
   have u:¬ (AZ (M.ae j).vo.p (M.ae j).bw ((M.ae j).au.take 40)).1=[]:=λg=>by rw[g]at o;cases o
   have v:∀ d∈(AZ (M.ae j).vo.p (M.ae j).bw ((M.ae j).au.take 40)).1,d∈C:=λd w=>by
    rw[r]at w
    exact(h.cm.s.nd j x).wa d (mT (D.2.2.2 d w))
   by_cases A:j=i
   .subst A;refine .inl ?_;rw[An,if_pos rfl];unfold Nod.hZ;rw[if_neg u,if_pos (by rw[r];exact t.hn)];have F:({ M.ae j with bw:=(AZ (M.ae j).vo.p (M.ae j).bw ((M.ae j).au.take 40)).2 }:Nod).leads=true:=h.leads t;unfold Nod.dT;rw[if_pos F];exact Qy t.hC _ _ E.qn (λd w=>(h.cm.s.nd j x).qu d w) v c o
   .refine .inr ?_;have G:¬ (M.ae j).vo.p.n=(j:Int):=by rw[r,t.hn];omega
    unfold Nod.hZ;rw[if_neg u,if_neg G];refine⟨_,mG _ (E'.2 rfl),rfl,?_,o⟩;show(M.ae j).vo.p.n.toNat=i;rw[r,t.hn];exact nI i
theorem Rn(a:PhC C K B cov i b)(E:MOk n M)(hn:n+6<=1000000)(h:PhB C K B cov i b M)(q:QA i b M):PhB C K B cov i b (M.dW Ao)/\(∀ j,j<5->∀ c,((M.dW Ao).ae j).bw c=some b->c∈((M.dW Ao).ae i).an.ew)/\(M.dW Ao).br=[]/\MOk (n+6) (M.dW Ao):=by
 have v:∀ A N,TkS A N->PhB C K B cov i b A->PhB C K B cov i b N:=λA N s g=>g.step a s.rQ;have z:=Bl (I:=λN=>PhB C K B cov i b N/\QA i b N) (λc A N s g=>⟨g.1.step a s.calm,g.2.step a s.calm g.1⟩) E (by omega) ⟨h,q⟩;rw[show Ao=AC 3 5++[acN 7 0]from rfl,AJ];generalize M.dW (AC 3 5)=A at z ⊢;obtain⟨p,k,u⟩:=z;have y:=p.act (by omega) (x:=acN 7 0) (by rw[<- DC];decide);have t:∀ j,j<5->∀ c,((A.act (acN 7 0)).ae j).bw c=some b->c∈((A.act (acN 7 0)).ae i).an.ew:=λj G c r=>by
  obtain⟨N,f,o,_⟩:=Cu (I:=λN=>PhB C K B cov i b N/\(N.ae j).bw c=(A.ae j).bw c) (λD N s g=>⟨v D N s g.1,by
   obtain⟨l,_,w,_,rfl⟩:=s;rw[An];split
   .rename_i e
    rw[(RE (D.ae l.dst) l (g.1.ak _ w.2).qn).1.2.1,<- e];exact g.2
   .exact g.2⟩) p ⟨k,rfl⟩
  rw[f]at r
  have r:(N.ae j).bw c=some b:=r;rw[o.2]at r
  rcases u j G c r with g|⟨m,g1,g2,g3,g4⟩
  .obtain⟨N,f,o,_⟩:=Cu (I:=λN=>c∈(N.ae i).an.ew) (λD N s g=>(s.rQ.ev i).qu.subset g) p g;rw[f];exact o
  .obtain⟨N,f,_,k3,_⟩:=DG (I:=PhB C K B cov i b) (J:=λN=>c∈(N.ae i).an.ew) v (λD N s _ g=>(s.rQ.ev i).qu.subset g) p k g1 (λN g=>g.cm.up _ (by rw[g3];exact a.hi)) (λN g e=>by
    have F:=(g.cm.s.lt m (by rw[e];exact g1)).wh;rw[g3,An,if_pos rfl];have H:c∈((N.ae i).dT m.ed).an.ew:=by
     unfold Nod.dT;rw[if_pos (g.leads a)];exact Qy a.hC _ _ (g.ak i a.hi).qn (λd w=>(g.cm.s.nd i a.hi).qu d w) F c g4
    unfold Nod.take;rw[g2];simp only;split<;>exact H)
   rw[f];exact k3
 obtain⟨N,f,o,_⟩:=Cu (I:=PhB C K B cov i b) v p k;refine⟨?_,t,by rw[f],y⟩;rw[f];exact⟨o.cm.drop,o.ak,o.vi⟩
theorem WH(a:PhC C K B cov i b)(t:MOk n M)(hn:n+6<=1000000)(h:PhB C K B cov i b M){j:Nat}(y:j<5){vs:List Vt}(E:Pend.prom i b vs∈(M.ae j).bt):((M.dW Ao).ae i).an.oh j=true:=by
 have x:∀ A N,TkS A N->PhB C K B cov i b A->PhB C K B cov i b N:=λA N s g=>g.step a s.rQ;have d:∀ c A N,Stp wh1 c A N->PhB C K B cov i b A->PhB C K B cov i b N:=λc A N s g=>g.step a s.calm;have f:=Bl d t (by omega) h;have q:=Fv (J:=λN=>∃ m∈N.br,m.kind=1/\m.src=j/\m.dst=i/\m.fa=b) d (λc A N s _ ⟨m,o,p⟩=>⟨m,s.calm.rM o,p⟩) (λA k g u=>⟨g.cm.up k u,g.cm.si u⟩) t (by omega) h y E (λN l g _ _=>⟨_,mG _ (E'.2 rfl),rfl,rfl,rfl,rfl⟩);rw[show Ao=AC 3 5++[acN 7 0]from rfl,AJ];generalize M.dW (AC 3 5)=A at f q ⊢;obtain⟨m,o,p,v,r,w⟩:=q;obtain⟨N,F,_,G,_⟩:=DG (J:=λN=>(N.ae i).an.oh j=true) x (λD N s _ g=>(s.rQ.ev i).oh j g) f.1 f.2 o (λN g=>g.cm.up _ (by rw[r];exact a.hi)) (λN g e=>by
  rw[r,An,if_pos rfl];have z:((N.ae i).jv 0 m.ed).leads=true:=g.leads a;unfold Nod.take;rw[p];simp only;rw[v,w];split
  .rename_i hc
   rcases hc with hc|hc|hc
   .rw[z]at hc;cases hc
   .exact absurd (show b=(N.ae i).an.fa by rw[g.cm.fa i a.hi,a.hB]) hc
   .exact hc
  .exact De _ _ _)
 rw[F];exact G
end
end
theorem U9(i:Nat)(l:List Cmd)(p:Nod)(ts:List Tol):(rG i l p ts).1.an=p.an/\(rG i l p ts).1.ab=p.ab:=by
 induction l generalizing p ts with
 | nil=>exact⟨rfl,rfl⟩
 | cons c l ih =>
  rw[rG];split
  .exact⟨rfl,rfl⟩
  .have h1:=ih (Nod.fv { p with lr:=doS p.lr c,done:=p.done+1 } c) (if(p.bw c).isSome=true then ts++[⟨i,c.c,c.s,doC p.lr c,doA p.lr c⟩]else ts);have a:(Nod.fv { p with lr:=doS p.lr c,done:=p.done+1 } c).an=p.an/\(Nod.fv { p with lr:=doS p.lr c,done:=p.done+1 } c).ab=p.ab:=by unfold Nod.fv;split<;>exact⟨rfl,rfl⟩
   exact⟨h1.1.trans a.1,h1.2.trans a.2⟩
theorem Ix{D:Wh}{i:Nat}(c:i<5){M:Meet}(t:(M.ae i).up=true):∃ M0,Sts D 0 M M0/\(M0.ae i).up=true/\(M0.ae i).an=(M.ae i).an/\(M0.ae i).ab=(M.ae i).ab /\
  ∃ M1,M1=M0.set i ((M0.ae i).hZ i).1 (M0.br++((M0.ae i).hZ i).2) M0.eo/\(M1.ae i).up=true/\Sts D 0 M0 M1/\Sts D 0 (M1.set i (M1.ae i).cl M1.br M1.eo) (M.act (acN 3 (i:Int))):=by
 rw[Hf t];have w:Sts D 0 M (M.set i (M.ae i) M.br M.eo):=by rw[EM];exact .nil 0 M
 obtain⟨p,h⟩:=Sts.rG c _ (M.ae i) w t rfl;have q:=U9 i ((M.ae i).ab.drop (M.ae i).done) (M.ae i) M.eo;unfold Nod.piece;simp only;generalize Go.Proofs.YtogibonjmbhliaaGreatDoor.rG i ((M.ae i).ab.drop (M.ae i).done) (M.ae i) M.eo=a at p h q ⊢;refine⟨_,p,by rw[B1];exact h,by rw[B1];exact q.1,by rw[B1];exact q.2,?_⟩;have e:=B1 M i a.1 M.br a.2;have s:=Stp.ask (D:=D) (M.set i a.1 M.br a.2) i c (by rw[e];exact h);have l:=(I7 a.1 i).trans h;rw[e,Cj]at s
 refine⟨M.set i (a.1.hZ i).1 (M.br++(a.1.hZ i).2) a.2,by rw[e,Cj];rfl,by rw[B1];exact l,s.s,?_⟩;show Sts D 0 ((M.set i (a.1.hZ i).1 (M.br++(a.1.hZ i).2) a.2).set i ((M.set i (a.1.hZ i).1 (M.br++(a.1.hZ i).2) a.2).ae i).cl (M.br++(a.1.hZ i).2) a.2) _;clear e s p;generalize (a.1.hZ i)=b at l ⊢;rw[B1,Cj];have g:=(Ey b.1).trans l;show Sts D 0 (M.set i b.1.cl (M.br++b.2) a.2) _;generalize b.1.cl=r at g ⊢;generalize M.br++b.2=k at ⊢;have j:Sts D 0 (M.set i r k a.2) (M.set i (r.mv i k).1 (r.mv i k).2 a.2)/\(r.mv i k).1.up=true:=by
  unfold Nod.mv;split
  .exact⟨.nil 0 _,g⟩
  .rename_i hn
   have e:=B1 M i r k a.2;unfold Nod.rF;split
   .rename_i h1
    have m:Dc r.d r.sy=0:=mI.1 λe=>hn ⟨h1,e⟩;have o:AP r.d r.sy:=by
     unfold Dc at m;split at m
     .assumption
     .cases m
    have s:=Stp.rF (D:=D) (M.set i r k a.2) i c (by rw[e];exact g) (by rw[e];exact h1) (by rw[e];exact o);rw[e,Cj]at s
    have u:Hr r.d r.sy=r.d:=if_pos o;have v:I0 r.d r.sy=(r.d.length:Int):=if_pos o;rw[u,v];have:=Sts.nn (D:=D) (n:=0) (M:=M.set i r k a.2) (ls:=k) (ts:=a.2) c r.bt { r with sy:=(r.d.length:Int),bt:=[] } (by rw[Cj];exact(Sts.nil 0 _).s0 s) g rfl (qJ _);rw[Cj]at this
    exact this
   .rename_i h1
    have:=Sts.nn (D:=D) (n:=0) (M:=M.set i r k a.2) (ls:=k) (ts:=a.2) c r.bt { r with bt:=[] } (by rw[Cj];exact .nil 0 _) g rfl h1;rw[Cj]at this
    exact this
 generalize r.mv i k=f at j ⊢;unfold Nod.bu;split
 .rename_i hL
  have e:=B1 M i f.1 f.2 a.2;have s:=Stp.rC (D:=D) (M.set i f.1 f.2 a.2) i c (by rw[e];exact j.2) (by rw[e];exact hL);rw[e,Cj]at s
  exact j.1.s0 s
 .exact j.1
section
variable{C:List Cmd}{K:Int}{B:Nat->Bal}{cov:List (Bal × Nat)}{i:Nat}{b:Bal}
theorem eL(a:PhC C K B cov i b)(d:14*K+38*(cov.length:Int)<=99000){M:Meet}(h:PhB C K B cov i b M)(j:(M.ae i).an.rD=true)(hn:(M.ae i).an.next<=(M.ae i).ab.length){c:Cmd}(f:(M.ae i).pd (M.ae i).ab.length=some c)(l:Ah ⟨((M.ae i).ab.length:Int),b,c⟩) :
  (M.ae i).cl.an.next=(M.ae i).ab.length+1/\Pend.prop ⟨((M.ae i).ab.length:Int),b,c⟩∈(M.ae i).cl.bt:=by
 have e:(M.ae i).an.fa=b:=(h.cm.fa i a.hi).trans a.hB;have k:=h.leads a;have m:=h.cm.te d a.hi l (λg=>by
  have:b.lt (M.ae i).vo.p:=g;rw[h.vi]at this
  unfold Bal.lt at this;omega)
 unfold Nod.cl;rw[if_neg (λg=>by
  rcases g with g|g|g
  .rw[k]at g;cases g
  .rw[j]at g;cases g
  .omega),f]
 simp only;rw[e,if_neg (λg=>g m.1)];exact⟨rfl,mG _ (E'.2 rfl)⟩
theorem X1(f:PhC C K B cov i b)(e:14*K+38*(cov.length:Int)<=99000){M:Meet}(h:PhB C K B cov i b M){j:Nat}(a:j<5){v:Vt}(c:Ah v)(o:v.b=b){l:Let}(k:l.kind=3)(m:l.bN=v):Pend.voted l.src v∈((M.ae j).take l).bt:=by
 have n:=h.cm.le a;have d:=h.cm.te e a c (by rw[EZ c.2.1.pr (h.cm.acc a).1,o,f.hK];omega);unfold Nod.take;rw[k];simp only;rw[m,if_neg (λg=>g d.1)];exact mG _ (E'.2 rfl)
end
section
def NB(p:Nod):Prop:=∀ b vs,Pend.began b vs∉p.bt
variable{M N:Meet}{c j:Nat}{p q:Nod}{v:Vt}
theorem NB.snoc(h:NB p){x:Pend}(e:q.bt=p.bt++[x])(a:∀ b vs,Pend.began b vs≠x):NB q:=λb vs g=>by
 rw[e]at g
 rcases U'.1 g with g|g
 .exact h b vs g
 .exact a b vs (E'.1 g)
theorem NB.same(h:NB p)(e:q.bt=p.bt):NB q:=λb a g=>h b a (by rw[<- e];exact g)
theorem ai(p:Nod)(b:Bal):(p.al b).1.bt=p.bt:=by
 unfold Nod.al;split
 .rfl
 .split
  .rfl
  .split<;>rfl
theorem RM(p:Nod)(v:Vt):(p.bN v).1.bt=p.bt:=by
 unfold Nod.bN;split
 .rfl
 .split
  .rfl
  .split<;>rfl
theorem ja(p:Nod)(b:Bal):(p.al b).1.ab=p.ab:=by
 unfold Nod.al;split
 .rfl
 .split
  .rfl
  .split<;>rfl
theorem jA(p:Nod)(v:Vt):(p.bN v).1.ab=p.ab:=by
 unfold Nod.bN;split
 .rfl
 .split
  .rfl
  .split<;>rfl
theorem NB.eb(h:NB p)(to:Nat)(e:Int):NB (p.eb to e):=by
 unfold Nod.eb;split
 .exact h.snoc rfl (λ_ _ g=>by cases g)
 .exact h
theorem Sw(p:Nod)(j:Nat)(v:Vt):(p.count j v).bt=p.bt:=by
 unfold Nod.count;split
 .rfl
 .split<;>rfl
theorem Oi(p:Nod)(l:List Cmd):(p.dT l).bt=p.bt:=by unfold Nod.dT;split<;>rfl
theorem NB.take(h:NB p)(l:Let):NB (p.take l):=by
 unfold Nod.take;split
 .split
  .exact h.eb _ _
  .exact h.snoc (by show(p.al l.fa).1.bt++_=_;rw[ai]) (λ_ _ g=>by cases g)
 .simp only;split<;>exact h
 .exact h
 .split
  .exact h.eb _ _
  .exact h.snoc (by show(p.bN l.bN).1.bt++_=_;rw[RM]) (λ_ _ g=>by cases g)
 .exact h.same (Sw _ _ _)
 .split
  .exact h.snoc rfl (λ_ _ g=>by cases g)
  .exact h
 .simp only;split
  .exact h.snoc (by show((p.dT l.ed).bt)++_=_;rw[Oi]) (λ_ _ g=>by cases g)
  .exact h.same (Oi _ _)
 .exact h
theorem Stp.nb(s:Stp wh0 c M N)(h:NB (M.ae j)):NB (N.ae j):=by
 have put:∀ {i:Nat} {p:Nod} {a:List Let} {f:List Tol},(j=i->NB p)->NB ((M.set i p a f).ae j):=λ{i p a f} g=>by
  rw[An];split
  .rename_i e;exact g e
  .exact h
 cases s with
 | take _ l hl hd hu ht=>exact put λe=>by rw[<- e];exact h.take l
 | br _ a hl hd=>exact False.elim hd
 | one _ i c hi hu hc he=>exact put λe=>(e▸h:NB (M.ae i)).same (GL _ _).1
 | ask _ i hi hu=>exact put λe=>(e▸h:NB (M.ae i)).same (J0 _ _).1
 | prop _ i hi hu =>
  refine put λe=>?_;have h:NB (M.ae i):=e▸h;unfold Nod.cl;split
  .exact h
  .split
   .exact h
   .split
    .exact h
    .exact h.snoc (by show((M.ae i).bN _).1.bt++_=_;rw[RM]) (λ_ _ g=>by cases g)
 | rF _ i hi hu hs hT=>exact put λe=>(e▸h:NB (M.ae i)).same rfl
 | run _ i hi hu q l hp hs=>exact put λe b m g=>(e▸h:NB (M.ae i)) b m (by rw[hp];exact I' _ g)
 | rC _ i hi hu hL=>exact put λe=>(e▸h:NB (M.ae i)).same rfl
 | lead _ i hi hu hL=>exact False.elim hL
 | sub _ i d hi hu hD=>exact False.elim hD
 | kc _ i k hi hu hk hC=>exact False.elim hC
 | start _ i hi hu hs=>exact False.elim hs
theorem Og{k:Nat}{u:Vt}(hv:v∈((p.count k u).an.aj j).vs):v∈(p.an.aj j).vs\/v.b=p.an.fa:=by
 unfold Nod.count at hv;split at hv
 .exact .inl hv
 .rename_i hb
  split at hv
  .exact .inl hv
  .rename_i a
   have a:=mI.1 a;have hv:v∈(upN p.an.aj k ⟨BN (p.an.aj k) u,Bu (p.an.aj k) u⟩ j).vs:=hv;unfold upN at hv;split at hv
   .rename_i e
    have hv:v∈Bu (p.an.aj k) u:=hv;unfold Bu at hv;rw[if_pos a,BH (Ar a).1.2.2]at hv
    rcases hv with hv|hv
    .exact .inr (by rw[hv];exact mI.1 hb)
    .exact .inl (by rw[e];exact hv.1)
   .exact .inl hv
theorem Stp.ui(s:Stp wh0 c M N){i:Nat}(m:NB (M.ae i))(n:∀ j,j<5->(M.ae i).an.oh j=true)(a:v∈((N.ae i).an.aj j).vs):v∈((M.ae i).an.aj j).vs\/v.b=(M.ae i).an.fa:=by
 have put:∀ {k:Nat} {p:Nod} {f:List Let} {h:List Tol},v∈(((M.set k p f h).ae i).an.aj j).vs->(i=k->v∈(p.an.aj j).vs->v∈((M.ae i).an.aj j).vs\/v.b=(M.ae i).an.fa)->v∈((M.ae i).an.aj j).vs\/v.b=(M.ae i).an.fa:=λ{k p f h} g e=>by
  rw[An]at g
  split at g
  .rename_i e2;exact e e2 g
  .exact .inl g
 cases s with
 | take _ l hl hd hu ht =>
  refine put a λe g=>?_;rw[<- e]at g
  unfold Nod.take at g;split at g
  .split at g
   .unfold Nod.eb at g;split at g<;>exact .inl g
   .have g:v∈(((M.ae i).al l.fa).1.an.aj j).vs:=g;rw[(Bi _ _).2]at g;exact .inl g
  .simp only at g;split at g
   .exact .inl g
   .rename_i hc
    exact absurd (.inr (.inr (n l.src hd.1))) hc
  .exact .inl g
  .split at g
   .unfold Nod.eb at g;split at g<;>exact .inl g
   .have g:v∈(((M.ae i).bN l.bN).1.an.aj j).vs:=g;rw[(CD _ _).2]at g;exact .inl g
  .exact Og g
  .split at g<;>exact .inl g
  .simp only at g;unfold Nod.dT at g;split at g<;>split at g<;>exact .inl g
  .exact .inl g
 | br _ f hl hd=>exact False.elim hd
 | one _ k c hi hu hc he =>
  refine put a λe g=>?_;rw[<- e]at g
  unfold Nod.fv at g;split at g<;>exact .inl g
 | ask _ k hi hu =>
  refine put a λe g=>?_;rw[<- e]at g
  unfold Nod.hZ at g;split at g
  .exact .inl g
  .split at g
   .unfold Nod.dT at g;split at g<;>exact .inl g
   .exact .inl g
 | prop _ k hi hu =>
  refine put a λe g=>?_;rw[<- e]at g
  unfold Nod.cl at g;split at g
  .exact .inl g
  .split at g
   .exact .inl g
   .split at g<;>exact .inl g
 | rF _ k hi hu hs hT=>exact put a λe g=>by rw[<- e]at g;exact .inl g
 | run _ k hi hu q l hp2 hs =>
  refine put a λe g=>?_;rw[<- e]at g hp2
  have g:v∈(((M.ae i).ln i q).an.aj j).vs:=g;cases q with
  | began b vs=>exact absurd (by rw[hp2];exact O') (m b vs)
  | prop u=>exact Og g
  | _=>exact .inl g
 | rC _ k hi hu hL=>exact put a λe g=>by rw[<- e]at g;exact .inl g
 | lead _ k hi hu hL=>exact False.elim hL
 | sub _ k d hi hu hD=>exact False.elim hD
 | kc _ k y hi hu hk hC=>exact False.elim hC
 | start _ k hi hu hs=>exact False.elim hs
theorem XM{b:Bal}(l:List Cmd){f:Cmd->Option Bal}(h:∀ c∈l,f c=some b):(AZ b f l).1=[]:=by
 induction l with
 | nil=>rfl
 | cons c l ih =>
  rw[AZ,if_neg (by rw[h c O'];exact λg=>g rfl)];exact ih λd a=>h d (I' _ a)
end
section
variable{C:List Cmd}{K:Int}{B:Nat->Bal}{cov:List (Bal × Nat)}{i:Nat}{b:Bal}
structure PhE(C:List Cmd)(K:Int)(B:Nat->Bal)(cov:List (Bal × Nat))(i:Nat)(b:Bal)(M:Meet):Prop where
 pb:PhB C K B cov i b M
 va:∀ j,j<5->(M.ae j).vo.p=b
 pr:∀ j,j<5->(M.ae i).an.oh j=true
 nb:NB (M.ae i)
 aw:∀ j,j<5->∀ c x,(M.ae j).bw c=some x->x=b
 l6:∀ m∈M.br,m.kind=6->m.ed=[]
 qw:∀ j,j<5->∀ c∈(M.ae j).au,c∈(M.ae i).an.ew
theorem PhE.nil{M:Meet}(h:PhE C K B cov i b M){j:Nat}(a:j<5):(AZ (M.ae j).vo.p (M.ae j).bw ((M.ae j).au.take 40)).1=[]:=by
 rw[h.va j a];refine XM _ λc e=>?_;obtain⟨x,d⟩:=nS.1 (((h.pb.ak j a).wa c).1 (mT e));rw[d,h.aw j a c x d]
theorem PhE.hZ{M:Meet}(h:PhE C K B cov i b M){j:Nat}(a:j<5):(M.ae j).hZ j=({ M.ae j with bw:=(AZ (M.ae j).vo.p (M.ae j).bw ((M.ae j).au.take 40)).2 },[]):=by
 unfold Nod.hZ;rw[if_pos (h.nil a)]
theorem D7{i:Nat}{l m:Let}{k:Nat}(h:m∈BZ i l k):m.kind=l.kind/\m.ed=l.ed:=by
 unfold BZ at h;obtain⟨j,_,rfl⟩:=mW.1 h;exact⟨rfl,rfl⟩
theorem PhE.step(r:PhC C K B cov i b){n:Nat}{M N:Meet}(s:Stp wh0 n M N)(h:PhE C K B cov i b M):PhE C K B cov i b N:=by
 refine⟨h.pb.step r s,λj a=>h.pb.cm.top r.hc s r.hb.pr r.hK a (h.va j a),λj a=>(s.ev i).oh j (h.pr j a),s.nb h.nb,λj a c x d=>?_,λm f o=>?_,λj a c u=>(s.ev i).qu.subset (h.qw j a c ((s.ev j).wa c u))⟩
 .rcases s.bw d with g|⟨_,rfl⟩
  .exact h.aw j a c x g
  .rw[An,if_pos rfl,h.hZ a]at d
   have d:(AZ (M.ae j).vo.p (M.ae j).bw ((M.ae j).au.take 40)).2 c=some x:=d;have t:b≠Bb:=λe=>by have:=r.hb;rw[e]at this;exact absurd this (by decide)
   rw[h.va j a]at d
   have f:=L2 t ((M.ae j).au.take 40) (M.ae j).bw;by_cases e:c∈(M.ae j).au.take 40
   .rw[f.2.1 c e]at d;exact(nA d).symm
   .rw[f.1 c e]at d;exact h.aw j a c x d
 .have old:m∈M.br->m.ed=[]:=λg=>h.l6 m g o;cases s with
  | br _ ls hl hd=>exact False.elim hd
  | ask _ k hi hu =>
   rw[h.hZ hi]at f
   exact old (by simpa[Meet.set]using f)
  | run _ k hi hu q l hp hs =>
   rcases U'.1 f with g|g
   .exact old g
   .cases q with
    | began b vs =>
     unfold Nod.rz at g;simp only at g;split at g
     .cases g
     .have:=(D7 g).1;rw[o]at this;cases this
    | prop v=>have:=(D7 g).1;rw[o]at this;cases this
    | start=>exact(D7 g).2
    | askNews to=>rw[E'.1 g];rfl
    | _=>have e:=E'.1 g;rw[e]at o;cases o
  | rC _ k hi hu hL =>
   rcases U'.1 f with g|g
   .exact old g
   .have:=(JZ 5 m g).1;omega
  | _=>exact old f
end
section
variable{C:List Cmd}{K:Int}{B:Nat->Bal}{cov:List (Bal × Nat)}{i:Nat}{b:Bal}{A:List Cmd}
section
structure Fin_(i:Nat)(A:List Cmd)(M:Meet):Prop where
 ag:(M.ae i).ab=A
 nx:(M.ae i).an.next<=A.length
 hd:A.length<40->∀ j,j<5->∀ v∈((M.ae i).an.aj j).vs,v.bn≠(A.length:Int)
 qu:A.length<40->∀ c∈(M.ae i).an.ew,c∈A
variable{M N:Meet}{j k n s:Nat}{l:List Cmd}{v:Vt}{σ:Gs}
theorem PhE.rd(a:PhC C K B cov i b)(h:PhE C K B cov i b M)(g:AgI σ M):RdI σ i (M.ae i).an/\(M.ae i).an.fa=b:=by
 obtain⟨c,k⟩:=(g.nd i a.hi).up (h.pb.cm.up i a.hi);exact⟨k.rd,(h.pb.cm.fa i a.hi).trans a.hB⟩
theorem PhE.lt(d:PhC C K B cov i b)(h:PhE C K B cov i b M)(g:AgI σ M)(a:σ.rU v)(c:v.b=b):v.bn<((M.ae i).an.next:Int):=by
 have k:=h.rd d g;have:=k.1.next v.bn.toNat v.w (by rw[k.2,<- c];exact a.2);have:=a.1.1;omega
theorem PhE.held(a:PhC C K B cov i b)(h:PhE C K B cov i b M)(g:AgI σ M)(hn:(M.ae i).an.next<=s)(m:∀ j,j<5->∀ v∈((M.ae i).an.aj j).vs,v.bn≠(s:Int)){q:Nat}(d:q<5)(l:σ.held q v):v.bn≠(s:Int):=by
 intro e;have k:=h.rd a g;have c:=g.gs.hv q v l;have n:=g.so h.pb.cm.kb.2 c.1.2.1 (g.gs.w3 _ _ _ c.2);by_cases f:v.b.key<b.key
 .obtain⟨u,hu,eu,_⟩:=(k.1.prom q d (h.pr q d)).2 v l (by rw[k.2];exact f);exact m q d u hu (eu.trans e)
 .have e3:v.b=b:=DB c.1.2.1.pr a.hb.pr (by rw[a.hK]at f ⊢;omega);have:=h.lt a g c e3;omega
theorem il(g:GsI σ){c:Cmd}(h:σ.sL s c):∃ q,q<5/\∃ v,σ.held q v/\v.bn=(s:Int)/\v.w=c/\s<40:=by
 obtain⟨k,Q,d,j⟩:=h;obtain⟨q,e,a,_⟩:=IR Q Q d d;obtain⟨v,b,f,_,i⟩:=j q e a;have:=(g.hv q v b).1.1;exact⟨q,e,v,b,f,i,by omega⟩
theorem Fin_.none(k:PhC C K B cov i b)(h:PhE C K B cov i b M)(f:Fin_ i A M)(g:AgI σ M)(c:Cmd):¬ σ.sL A.length c:=λe=>by
 obtain⟨q,l,v,a,d,_,j⟩:=il g.gs e;exact h.held k g f.nx (f.hd j) l a d
theorem AgL.le{a:Nat}(h:AgL σ l k)(hn:∀ c,¬ σ.sL a c)(d:k<=a):k+l.length<=a:=qk λe=>by
 have b:a-k<l.length:=by omega
 exact hn _ (by rw[show a=k+(a-k)by omega];exact h (a-k) _ (G' b))
theorem Fin_.le(a:PhC C K B cov i b)(h:PhE C K B cov i b M)(f:Fin_ i A M)(c:j<5):(M.ae j).ab.length<=A.length:=by
 obtain⟨σ,g,_⟩:=h.pb.cm.ex;have:=(g.nd j c).ag.le (f.none a h g) (mY _);omega
theorem Fin_.pd(f:Fin_ i A M):(M.ae i).pd (M.ae i).ab.length=Option.none:=by
 unfold Nod.pd;rw[f.ag];split
 .rfl
 .rename_i b
  have b:=mI.1 b;have k:A.length<40:=by
   unfold Ck at b;split at b
   .cases b
   .omega
  have m:Ae ((M.ae i).an.gC.map (·.vs)).flatten (A.length:Int)=[]:=qg.2 λv h=>by
   obtain⟨n,o⟩:=Be.1 h;obtain⟨l,s,h⟩:=pg.1 n;obtain⟨a,d,rfl⟩:=mW.1 s;unfold Rnd.gC at d;have:∃ j,j<5/\a=(M.ae i).an.aj j:=by
    simp only[mN,P',or_false]at d;rcases d with e|e|e|e|e
    .exact⟨0,by omega,e⟩
    .exact⟨1,by omega,e⟩
    .exact⟨2,by omega,e⟩
    .exact⟨3,by omega,e⟩
    .exact⟨4,by omega,e⟩
   obtain⟨j,r,rfl⟩:=this;exact f.hd k j r v h o
  have p:DR ((M.ae i).an.gC.map (·.vs)) (A.length:Int)=false:=by
   unfold DR;rw[if_pos b];unfold Gc;rw[m];rfl
  rw[if_neg (by rw[p];decide)];exact nY.2 λc q g=>absurd (f.qu k c q) (ng g)
theorem Ox{ed:List Cmd}(h:k+ed.length<=l.length):l++ed.drop (l.length-k)=l:=by rw[nw (by omega),na]
theorem Zu{r:Rnd}(k:Nat)(h:CY r.gC (l.length:Int)≠0):FE k r l=l:=by
 cases k with
 | zero=>rfl
 | succ k=>rw[FE,if_neg h]
def Uo(p q:Nod):Prop:=q.ab=p.ab/\q.an.next=p.an.next/\q.an.ew=p.an.ew
theorem Fin_.count(a:PhC C K B cov i b)(h:PhE C K B cov i b M)(f:Fin_ i A M)(g:AgI σ M)(l:σ.held j v):Uo (M.ae i) ((M.ae i).count j v):=by
 have k:=(h.rd a g).1;unfold Nod.count;split
 .exact⟨rfl,rfl,rfl⟩
 .rename_i hb
  split
  .exact⟨rfl,rfl,rfl⟩
  .rename_i he
   refine⟨Zu _ λe=>?_,rfl,rfl⟩;have e:CY (Rnd.gC _) ((M.ae i).ab.length:Int)=0:=e;have c1:=Uq (λq c u d=>((k.count (mI.1 hb) (mI.1 he) l).aj q c u d).1) e;rw[f.ag]at c1
   exact f.none a h g _ c1
theorem Fin_.same(m:PhC C K B cov i b)(s:Stp wh0 n M N)(h:PhE C K B cov i b M)(f:Fin_ i A M):Uo (M.ae i) (N.ae i):=by
 obtain⟨σ,g,_⟩:=h.pb.cm.ex;have put:∀ {k:Nat} {p:Nod} {r:List Let} {t:List Tol},(i=k->Uo (M.ae i) p)->Uo (M.ae i) ((M.set k p r t).ae i):=λ{k p r t} e=>by
  rw[An];split
  .rename_i e2;exact e e2
  .exact⟨rfl,rfl,rfl⟩
 have o:∀ {l:List Cmd} {k:Nat},AgL σ l k->k<=A.length->k+l.length<=(M.ae i).ab.length:=λa e=>by rw[f.ag];exact a.le (f.none m h g) e
 cases s with
 | take _ l hl2 hd hu ht =>
  refine put λe=>?_;rw[<- e];have lt:=g.lt l hl2;unfold Nod.take;split
  .split
   .unfold Nod.eb;split<;>exact⟨rfl,rfl,rfl⟩
   .exact⟨ja _ _,by show(Nod.al _ _).1.an.next=_;rw[(Bi _ _).2],by show(Nod.al _ _).1.an.ew=_;rw[(Bi _ _).2]⟩
  .rename_i hk
   simp only;rw[if_pos (.inr (.inr (h.pr l.src hd.1)))];exact⟨Ox (o (lt.k1 hk).2.2 (mY _)),rfl,rfl⟩
  .exact⟨rfl,rfl,rfl⟩
  .split
   .unfold Nod.eb;split<;>exact⟨rfl,rfl,rfl⟩
   .exact⟨jA _ _,by show(Nod.bN _ _).1.an.next=_;rw[(CD _ _).2],by show(Nod.bN _ _).1.an.ew=_;rw[(CD _ _).2]⟩
  .rename_i hk
   exact f.count m h g (lt.k4 hk)
  .rename_i hk
   split
   .exact⟨rfl,rfl,rfl⟩
   .rename_i h5
    exact⟨Ox (o (lt.k5 hk) (by rw[f.ag]at h5;omega)),rfl,rfl⟩
  .rename_i hk
   simp only;rw[h.l6 l hl2 hk];unfold Nod.dT;split<;>split<;>exact⟨rfl,rfl,rfl⟩
  .exact⟨rfl,rfl,rfl⟩
 | br _ r o hd=>exact False.elim hd
 | one _ k c hi hu hc he=>exact put λe=>by rw[<- e];unfold Nod.fv;split<;>exact⟨rfl,rfl,rfl⟩
 | ask _ k hi hu=>exact put λe=>by rw[h.hZ hi,<- e];exact⟨rfl,rfl,rfl⟩
 | prop _ k hi hu =>
  refine put λe=>?_;rw[<- e];unfold Nod.cl;split
  .exact⟨rfl,rfl,rfl⟩
  .rw[f.pd];exact⟨rfl,rfl,rfl⟩
 | rF _ k hi hu hs hT=>exact put λe=>by rw[<- e];exact⟨rfl,rfl,rfl⟩
 | run _ k hi hu q l hp hs =>
  refine put λe=>?_;rw[<- e]at hp hs ⊢
  cases q with
  | began b vs=>exact absurd (by rw[hp];exact O') (h.nb b vs)
  | prop v =>
   obtain⟨u,k⟩:=(g.nd i m.hi).up (h.pb.cm.up i m.hi);have:=f.count m h g (j:=i) (v:=v) (by
    have:=k.pe (.prop v) (by rw[hp];exact O');unfold Gs.held;rw[k.tp.all hs];exact this)
   exact this
  | _=>exact⟨rfl,rfl,rfl⟩
 | rC _ k hi hu hL=>exact put λe=>by rw[<- e];exact⟨rfl,rfl,rfl⟩
 | lead _ k hi hu hL=>exact False.elim hL
 | sub _ k d hi hu hD=>exact False.elim hD
 | kc _ k y hi hu hk hC=>exact False.elim hC
 | start _ k hi hu hs=>exact False.elim hs
theorem Fin_.step(a:PhC C K B cov i b)(s:Stp wh0 n M N)(h:PhE C K B cov i b M)(f:Fin_ i A M):Fin_ i A N:=by
 have e:=f.same a s h;have d:=h.step a s;obtain⟨τ,g,_⟩:=d.pb.cm.ex;refine⟨e.1.trans f.ag,by rw[e.2.1];exact f.nx,λl j m v o q=>?_,λl c p=>f.qu l c (by rw[<- e.2.2];exact p)⟩;rcases s.ui h.nb h.pr o with k|k
 .exact f.hd l j m v k q
 .have:=d.lt a g (g.gs.hv j v ((d.rd a g).1.aj j m v o).1) (k.trans ((h.pb.cm.fa i a.hi).trans a.hB));have:=e.2.1;have:=f.nx;omega
end
end
section
variable{j:Nat}{p:Nod}{r:Rnd}{v:Vt}
theorem ZI{l:List Vt}(h:v∈l):1<=BQ (Ae l v.bn) v:=qq.2 ⟨v,Be.2 ⟨h,rfl⟩,M' rfl⟩
theorem Ya(k:∀ j,j<5->Ag (r.aj j))(o:0<=v.bn/\v.bn<=39)(p:∀ j,j<5->v∈(r.aj j).vs):CY r.gC v.bn=0:=by
 have e:Dx r.gC v.bn=Ae (r.aj 0).vs v.bn++(Ae (r.aj 1).vs v.bn++(Ae (r.aj 2).vs v.bn++(Ae (r.aj 3).vs v.bn++Ae (r.aj 4).vs v.bn))):=by
  unfold Dx Rnd.gC Ae;simp[List.filter_append]
 have g:∀ j,j<5->1<=BQ (Ae (r.aj j).vs v.bn) v:=λj l=>ZI (p j l);have n:5<2*BQ (Dx r.gC v.bn) v:=by
  rw[e,C1,C1,C1,C1];have:=g 0 (by omega);have:=g 1 (by omega);have:=g 2 (by omega);have:=g 3 (by omega);have:=g 4 (by omega);omega
 have m:v∈Dx r.gC v.bn:=by
  obtain⟨u,b,d⟩:=qq.1 (show 0<BQ (Dx r.gC v.bn) v by omega);have c:u=v:=ng d;rw[c]at b;exact b
 have f:∀ a∈r.gC,Ag a:=λa h=>by
  unfold Rnd.gC at h;simp only[mN,P',or_false]at h;rcases h with e|e|e|e|e<;>rw[e]<;>exact k _ (by omega)
 have i:(Hi (Dx r.gC v.bn) r.gC.length).isSome=true:=List.find?_isSome.2 ⟨v,m,M' n⟩;unfold CY;rw[if_neg (λg=>g ⟨o,by show(1:Int)<=((5:Nat):Int)/\((5:Nat):Int)<=5;decide⟩),if_neg (λg=>g f),if_pos i]
theorem Qr(c:v.b=p.an.fa)(a:Ag (p.an.aj j))(e:Ah v)(f:(p.an.aj j).p=p.an.fa):v∈((p.count j v).an.aj j).vs:=by
 have d:AX (p.an.aj j) v=0:=by
  unfold AX;rw[if_neg (λg=>g a),if_neg (λg=>g e),if_neg];rw[f,c];unfold Bal.lt;omega
 unfold Nod.count;rw[if_neg (λg=>g c),if_neg (λg=>g d)];show v∈(upN p.an.aj j ⟨BN (p.an.aj j) v,Bu (p.an.aj j) v⟩ j).vs;rw[De];show v∈Bu (p.an.aj j) v;rw[(DA d).2,BH a.2.2];exact .inl rfl
theorem Su{k:Nat}{u:Vt}(a:v∈(p.an.aj k).vs)(g:u.b=p.an.fa->u.bn=v.bn->u=v):v∈((p.count j u).an.aj k).vs:=by
 unfold Nod.count;split
 .exact a
 .rename_i hb
  split
  .exact a
  .rename_i c
   have c:=mI.1 c;show v∈(upN p.an.aj j ⟨BN (p.an.aj j) u,Bu (p.an.aj j) u⟩ k).vs;unfold upN;split
   .rename_i e
    show v∈Bu (p.an.aj j) u;rw[(DA c).2,BH (Ar c).1.2.2];by_cases d:u.bn=v.bn
    .exact .inl (g (mI.1 hb) d).symm
    .exact .inr ⟨by rw[<- e];exact a,λf=>d f.symm⟩
   .exact a
theorem ce(h:(p.bN v).2=0):Ah v:=by
 unfold Nod.bN at h;split at h
 .rename_i h0;exact absurd h h0
 .rename_i h0;exact(Ar (mI.1 h0)).2.1
theorem Wo{l:List Cmd}(k:Nat)(h:CY r.gC (l.length:Int)=0):l.length<(FE (k+1) r l).length:=by
 rw[FE,if_pos h];have:=(IQ k r (l++[CQ r.gC (l.length:Int)])).length_le;rw[H',nL]at this
 omega
end
section
variable{C:List Cmd}{K:Int}{B:Nat->Bal}{cov:List (Bal × Nat)}{i:Nat}{b:Bal}
section
variable{M N:Meet}{j n:Nat}
theorem Stp.sm(s:Stp wh0 n M N)(m:PhC C K B cov i b)(h:PhE C K B cov i b M){σ:Gs}(g:AgI σ M) :
  ((N.ae i).an.aj=(M.ae i).an.aj/\(N.ae i).an.next=(M.ae i).an.next)\/((N.ae i).an.aj=(M.ae i).an.aj/\(N.ae i).an.next=(M.ae i).ab.length+1/\(M.ae i).ab.length<40)\/∃ k u,k<5/\σ.held k u/\(N.ae i).an=((M.ae i).count k u).an/\(N.ae i).ab=((M.ae i).count k u).ab:=by
 have put:∀ {k:Nat} {p:Nod} {f:List Let} {j:List Tol},(i=k->p.an.aj=(M.ae k).an.aj/\p.an.next=(M.ae k).an.next)->((M.set k p f j).ae i).an.aj=(M.ae i).an.aj/\((M.set k p f j).ae i).an.next=(M.ae i).an.next:=λ{k p f j} e=>by
  rw[An];split
  .rename_i e2;rw[e2];exact e e2
  .exact⟨rfl,rfl⟩
 cases s with
 | take _ l hl hd hu ht =>
  have lt:=g.lt l hl;by_cases a:l.kind=4/\i=l.dst
  .refine .inr (.inr ⟨l.src,l.bN,hd.1,lt.k4 a.1,?_⟩);rw[An,if_pos a.2,<- a.2];unfold Nod.take;rw[a.1];exact⟨rfl,rfl⟩
  .refine .inl (put λe=>?_);rw[<- e];unfold Nod.take;split
   .split
    .unfold Nod.eb;split<;>exact⟨rfl,rfl⟩
    .show((M.ae i).al _).1.an.aj=_/\((M.ae i).al _).1.an.next=_;rw[(Bi _ _).2];exact⟨rfl,rfl⟩
   .simp only;rw[if_pos (.inr (.inr (h.pr l.src hd.1)))];exact⟨rfl,rfl⟩
   .exact⟨rfl,rfl⟩
   .split
    .unfold Nod.eb;split<;>exact⟨rfl,rfl⟩
    .show((M.ae i).bN _).1.an.aj=_/\((M.ae i).bN _).1.an.next=_;rw[(CD _ _).2];exact⟨rfl,rfl⟩
   .rename_i hk;exact absurd ⟨hk,e⟩ a
   .split<;>exact⟨rfl,rfl⟩
   .simp only;unfold Nod.dT;split<;>split<;>exact⟨rfl,rfl⟩
   .exact⟨rfl,rfl⟩
 | br _ f hl hd=>exact False.elim hd
 | one _ k c hi hu hc he=>exact .inl (put λe=>by unfold Nod.fv;split<;>exact⟨rfl,rfl⟩)
 | ask _ k hi hu=>exact .inl (put λe=>by rw[h.hZ hi];exact⟨rfl,rfl⟩)
 | prop _ k hi hu =>
  by_cases e:i=k
  .subst e;rw[An,if_pos rfl];unfold Nod.cl;split
   .exact .inl ⟨rfl,rfl⟩
   .split
    .exact .inl ⟨rfl,rfl⟩
    .split
     .exact .inl ⟨rfl,rfl⟩
     .rename_i he
      refine .inr (.inl ⟨rfl,rfl,?_⟩);have:=(ce (mI.1 he)).1.2;have:((M.ae i).ab.length:Int)<=39:=this;omega
  .refine .inl ?_;rw[An,if_neg e];exact⟨rfl,rfl⟩
 | rF _ k hi hu hs hT=>exact .inl (put λe=>⟨rfl,rfl⟩)
 | run _ k hi hu q l hp hs =>
  by_cases e:i=k
  .subst e;cases q with
   | began b vs=>exact absurd (by rw[hp];exact O') (h.nb b vs)
   | prop v =>
    refine .inr (.inr ⟨i,v,hi,?_,?_⟩)
    .obtain⟨rs,k⟩:=(g.nd i hi).up hu;have:=k.pe (.prop v) (by rw[hp];exact O');unfold Gs.held;rw[k.tp.all hs];exact this
    .rw[An,if_pos rfl];exact⟨rfl,rfl⟩
   | _=>exact .inl (put λ_=>⟨rfl,rfl⟩)
  .refine .inl ?_;rw[An,if_neg e];exact⟨rfl,rfl⟩
 | rC _ k hi hu hL=>exact .inl (put λe=>⟨rfl,rfl⟩)
 | lead _ k hi hu hL=>exact False.elim hL
 | sub _ k d hi hu hD=>exact False.elim hD
 | kc _ k y hi hu hk hC=>exact False.elim hC
 | start _ k hi hu hs=>exact False.elim hs
structure PhL(C:List Cmd)(K:Int)(B:Nat->Bal)(cov:List (Bal × Nat))(i:Nat)(b:Bal)(M:Meet):Prop where
 pe:PhE C K B cov i b M
 ld:∀ v:Vt,v.b=b->(∀ j,j<5->v∈((M.ae i).an.aj j).vs)->v.bn<((M.ae i).ab.length:Int)
 nx:(M.ae i).an.next<=(M.ae i).ab.length+1/\(M.ae i).an.next<=40
theorem PhE.acc(c:PhC C K B cov i b)(h:PhE C K B cov i b M)(a:j<5):Ag ((M.ae i).an.aj j)/\((M.ae i).an.aj j).p=b:=by
 obtain⟨σ,g,_⟩:=h.pb.cm.ex;have k:=h.rd c g;exact⟨(k.1.acc j a).1,((k.1.acc j a).2 (h.pr j a)).trans k.2⟩
theorem PhE.nr(m:PhC C K B cov i b)(s:Stp wh0 n M N)(h:PhE C K B cov i b M){v:Vt}(l:v.b=b)(r:j<5)(a:v∈((M.ae i).an.aj j).vs):v∈((N.ae i).an.aj j).vs:=by
 obtain⟨σ,g,_⟩:=h.pb.cm.ex;have k:=h.rd m g;rcases s.sm m h g with e|e|⟨q,u,hq,hu,e,_⟩
 .rw[e.1];exact a
 .rw[e.1];exact a
 .rw[e];refine Su a λc d=>?_;have o:=g.gs.hv q u hu;have p:=g.gs.hv j v (k.1.aj j r v a).1;have f:=o.2;rw[c,k.2,d,<- l]at f
  exact(Vt.eq_iff u v).1 ⟨d,(c.trans k.2).trans l.symm,g.gs.w1 _ _ _ _ f p.2⟩
theorem PhL.step(d:PhC C K B cov i b)(s:Stp wh0 n M N)(h:PhL C K B cov i b M):PhL C K B cov i b N:=by
 have f:=h.pe.step d s;have x:=(s.ev i).ag.length_le;obtain⟨σ,g,_⟩:=h.pe.pb.cm.ex;have p:(N.ae i).an.next<=(N.ae i).ab.length+1/\(N.ae i).an.next<=40:=by
  have:=h.nx;rcases s.sm d h.pe g with e|e|⟨q,u,hq,hu,e,_⟩
  .rw[e.2];omega
  .rw[e.2.1];omega
  .have o:((M.ae i).count q u).an.next=(M.ae i).an.next:=by
    unfold Nod.count;split
    .rfl
    .split<;>rfl
   rw[e,o];omega
 refine⟨f,λv t a=>?_,p⟩;by_cases l:∀ j,j<5->v∈((M.ae i).an.aj j).vs
 .have:=h.ld v t l;omega
 .obtain⟨τ,g2,_⟩:=f.pb.cm.ex;have z:=f.rd d g2;have m:=g2.gs.hv 0 v (z.1.aj 0 (by omega) v (a 0 (by omega))).1;have k:=f.lt d g2 m t;rcases s.sm d h.pe g with e|e|⟨q,u,hq,hu,e,ea⟩
  .rw[e.1]at a;exact absurd a l
  .rw[e.1]at a;exact absurd a l
  .have hm:=m.1.1;rw[e]at a k
   rw[ea];have c:∀ j,j<5->Ag ((N.ae i).an.aj j):=λj y=>(f.acc d y).1;rw[e]at c
   have A:=h.nx;have o:((M.ae i).count q u).an.next=(M.ae i).an.next:=by
    unfold Nod.count;split
    .rfl
    .split<;>rfl
   rw[o]at k
   unfold Nod.count at a c ⊢;split at a
   .exact absurd a l
   .split at a
    .exact absurd a l
    .rename_i h3 h4
     rw[if_neg h3,if_neg h4]at c ⊢
     by_cases w:v.bn<((M.ae i).ab.length:Int)
     .exact Int.lt_of_lt_of_le w (Int.ofNat_le.2 (IQ 41 _ _).length_le)
     .have e6:v.bn=((M.ae i).ab.length:Int):=by omega
      have r:=Ya c hm a;rw[e6]at r ⊢
      exact Int.ofNat_lt.2 (Wo 40 r)
end
end
end Go.Proofs.YtogibonjmbhliaaGreatDoor
