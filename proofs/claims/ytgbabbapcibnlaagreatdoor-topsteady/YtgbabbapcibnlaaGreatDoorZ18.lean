/- Part 18 of the walk. -/
import Derived.Test.YtgbabbapcibnlaaGreatDoorZ17
set_option maxRecDepth 100000
set_option maxHeartbeats 4000000
set_option linter.unusedVariables false
namespace Go.Proofs.YtgbabbapcibnlaaGreatDoor
section
theorem Pn{α:Type}[DecidableEq α]{l m:List α}(f:l.Nodup)(h:∀ x∈l,x∈m):l.length<=m.length:=by
 induction l generalizing m with
 | nil=>exact mW _
 | cons x l ih =>
  obtain⟨c,d⟩:=oO.1 f;have a:=h x M';have:=ih d (m:=m.erase x) λy b=>(List.mem_erase_of_ne (λe=>c (by rw[<- e];exact b))).2 (h y (I' _ b));rw[List.length_erase_of_mem a]at this
  have:=List.length_pos_of_mem a;rw[m7];omega
def prc:List Rk->Nat
 | []=>0
 | .pr _::l=>prc l+1
 | .vt _::l=>prc l
def vts:List Rk->List Vt
 | []=>[]
 | .pr _::l=>vts l
 | .vt v::l=>v::vts l
theorem eA(l m:List Rk):prc (l++m)=prc l+prc m:=by
 induction l with
 | nil=>simp[prc]
 | cons r l ih=>cases r<;>simp[prc,ih];omega
theorem fQ(l m:List Rk):vts (l++m)=vts l++vts m:=by
 induction l with
 | nil=>rfl
 | cons r l ih=>cases r<;>simp[vts,ih]
theorem Vs{l:List Rk}{v:Vt}:v∈vts l↔Rk.vt v∈l:=by
 induction l with
 | nil=>simp[vts]
 | cons r l ih=>cases r<;>simp[vts,ih]
theorem dk(a:List Rk):(fl a).length=14*prc a+38*(vts a).length:=by
 induction a with
 | nil=>rfl
 | cons r l ih =>
  have e:fl (r::l)=AL r.body++fl l:=rfl;rw[e,H',Bi,ih];cases r with
  | pr b=>show(Bv b).length+5+_=14*(prc l+1)+38*(vts l).length;rw[Kv];omega
  | vt v=>show(Bk v).length+5+_=14*prc l+38*((vts l).length+1);rw[GO];omega
variable{K R:Int}{M N:Meet}{b:Bal}{c i j:Nat}{p:Nod}{q:Pend}{rs:List Rk}{σ:Gs}
theorem iU(h:AN rs):(prc rs:Int)<=(BD rs).p.key:=h.ind (P:=λrs=>(prc rs:Int)<=(BD rs).p.key) (by decide) λrs r f a g=>by
 have c:=Rk.ss f.acc a.err;rw[eA,BZ];cases r with
 | pr b =>
  have d:=Cp a.1;have:(BD rs).p.key≠b.key:=λe=>a.2 (DB d.1.1 d.2.1.pr e);have c:(BD rs).p.key<=b.key:=c;show((prc rs+1:Nat):Int)<=b.key;omega
 | vt v=>show((prc rs+0:Nat):Int)<=_;exact mT (by omega) c
theorem Xw(s:GsI σ){a:List Rk}(h:AN a)(c:∀ v,Rk.vt v∈a->σ.rO v):(vts a).Nodup:=by
 revert c
 refine h.ind (P:=λa=>(∀ v,Rk.vt v∈a->σ.rO v)->(vts a).Nodup) (λ_=>og) λa r i m j c=>?_;have j:=j λv g=>c v (mG _ g);rw[fQ];cases r with
 | pr b=>show(vts a++[]).Nodup;rw[mV];exact j
 | vt v =>
  show(vts a++[v]).Nodup;refine oN.2 ⟨j,oO.2 ⟨P',og⟩,λx z y A e=>?_⟩;rw[D'.1 A]at e
  subst e;obtain⟨B,u,f,l,C⟩:=Rr i x (Vs.1 z);have p:=Ar m.1;have w:=i.acc.le f;have t:=Bq p.2.1.2.1.pr i.acc.1 p.2.2;have n:=c u (mG _ (Jf i u f));have d:=c x (mD _ M');have k:u.b=x.b:=DB n.1.2.1.pr d.1.2.1.pr (by omega);have o:=n.2;rw[k,l]at o
  have q:=s.w1 _ _ _ _ o d.2;have:u=x:=(Vt.eq_iff u x).1 ⟨l,k,q⟩;rw[this]at f
  exact m.2 f
theorem fR(r:GsI σ){d:List Rk}(h:AN d)(i:∀ v,Rk.vt v∈d->σ.rO v){a:List (Bal × Nat)}(B:∀ b s c,σ.W b s c->(b,s)∈a):(vts d).length<=a.length:=by
 have t:=Xw r h i;have j:∀ v∈vts d,σ.rO v:=λv g=>i v (Vs.1 g);have:((vts d).map λv=>(v.b,v.bt.toNat)).Nodup:=by
  clear h i;generalize vts d=q at t j ⊢;induction q with
  | nil=>exact og
  | cons v l ih =>
   obtain⟨z,A⟩:=oO.1 t;refine oO.2 ⟨λg=>?_,ih A λu f=>j u (I' _ f)⟩;obtain⟨u,f,e⟩:=mS.1 g;have n:=j u (I' _ f);have o:=j v M';have k:u.b=v.b:=congrArg Prod.fst e;have w:u.bt.toNat=v.bt.toNat:=congrArg Prod.snd e;have p:=n.2;rw[k,w]at p
   have y:=r.w1 _ _ _ _ p o.2;have:u=v:=(Vt.eq_iff u v).1 ⟨by have:=n.1.1;have:=o.1.1;omega,k,y⟩;rw[this]at f;exact z f
 have:=Pn this (m:=a) λx C=>by
  obtain⟨v,i,rfl⟩:=mS.1 C;exact B _ _ _ (j v i).2
 rwa [mR]at this
theorem bI(h:AgI σ M){a:List (Bal × Nat)}(e:∀ b s c,σ.W b s c->(b,s)∈a){j:Nat}(f:j<5)(g:(M.ae j).up=true):((M.ae j).d.length:Int)<=14*(M.ae j).vo.p.key+38*(a.length:Int):=by
 obtain⟨m,k⟩:=(h.nd j f).up g;have i:=fR h.gs k.tp.ok k.rO e;have l:=iU k.tp.ok;rw[k.tp.d,dk,k.tp.vo];omega
def Nod.pk(p:Nod):Int:=if p.up then p.vo.p.key else(Ea p.d).2.p.key
def KbI(K R:Int)(M:Meet):Prop:=∀ j,j<5->(M.ae j).pk<=K/\5*(M.ae j).cF<=R
theorem NdI.sh(h:NdI σ j p):σ.P j<=p.pk:=by
 unfold Nod.pk;split
 .rename_i hu
  obtain⟨c,k⟩:=h.up hu;obtain⟨x,b⟩:=k.tp.pre;have a:=k.tp.ok;rw[<- b]at a
  have:=(D5 a).1;rw[b,<- k.tp.vo]at this
  exact this
 .rename_i hu
  rw[(h.dn (by simpa using hu)).sK];exact mA _
theorem AgI.sh(h:AgI σ M){K R:Int}(c:KbI K R M){b:Bal}(d:Ab b)(e:b.key<=σ.P b.n.toNat):b.key<=K:=by
 have a:b.n.toNat<5:=by unfold Ab at d;omega
 exact mT e (mT (h.nd _ a).sh (c _ a).1)
theorem YV(h:Aq b):5*b.r<=b.key:=by unfold Aq Ab at h;unfold Bal.key;omega
theorem KbI.set(h:KbI K R M){i:Nat}{p:Nod}(b:p.pk<=K/\5*p.cF<=R)(ls:List Let)(ts:List Tol):KbI K R (M.set i p ls ts):=λj a=>by
 show(upN M.ae i p j).pk<=K/\5*(upN M.ae i p j).cF<=R;unfold upN;split
 .exact b
 .exact h j a
theorem KbI.step{D:Wh}(P:¬ D.ld){n:Nat}{σ:Gs}{M N:Meet}(h:AgI σ M)(s:Stp D n M N){K R:Int}(Q:K<=R)(m:KbI K R M):KbI K R N:=by
 have pd:∀ {i:Nat} {p:Nod},i<5->(M.ae i).up=true->p.up=true->p.vo.p.key<=(M.ae i).vo.p.key\/p.vo.p.key<=K->p.cF=(M.ae i).cF->p.pk<=K/\5*p.cF<=R:=λ{i p} j f z S A=>by
  have o:=m i j;unfold Nod.pk at o ⊢;rw[if_pos f]at o
  rw[if_pos z,A];exact⟨S.elim (λg=>mT g o.1) id,o.2⟩
 cases s with
 | take _ l hl hd f _ =>
  have w:=h.lt l hl;obtain⟨O,k⟩:=(h.nd _ hd.2).up f;have b:=(congrArg Prod.fst (PJ (M.ae l.dst) l)).trans f;refine m.set ?_ _ _
  revert b
  unfold Nod.take;split
  .rename_i u
   rcases k.tp.au l.gC with⟨e,he⟩|⟨e,he,hvs,rs',z,v,hm,hpb,hpv,d,a,hq⟩
   .rw[if_pos e];intro b;refine pd hd.2 f b (.inl ?_) ?_<;>(unfold Nod.ed;split)<;>first|exact mA _|rfl
   .rw[if_neg (λg=>g e)];intro b;refine pd hd.2 f b (.inr ?_) (by show((M.ae l.dst).au l.gC).1.cF=_;rw[hq];rfl);show((M.ae l.dst).au l.gC).1.vo.p.key<=K;rw[v.vo,hpb];exact h.sh m (Cp he).2.1 (w.k0 u)
  .simp only;split<;>exact λb=>pd hd.2 f b (.inl (mA _)) rfl
  .rename_i u
   intro b;have o:=pd (p:=M.ae l.dst) hd.2 f f (.inl (mA _)) rfl;refine⟨o.1,?_⟩;have B:=mT (w.k2 u).2 (mT (h.nd _ hd.1).sh (m _ hd.1).1);have J:5*l.gC.r<=K:=mT (YV (w.k2 u).1) B;show 5*max (M.ae l.dst).cF l.gC.r<=R;have:=o.2;omega
  .rename_i u
   rcases k.tp.cl l.cl with⟨e,he⟩|⟨e,he,rs',z,v,hm,hpb,d,a,hq⟩
   .rw[if_pos e];intro b;refine pd hd.2 f b (.inl ?_) ?_<;>(unfold Nod.ed;split)<;>first|exact mA _|rfl
   .rw[if_neg (λg=>g e)];intro b;refine pd hd.2 f b (.inr ?_) (by show((M.ae l.dst).cl l.cl).1.cF=_;rw[hq];rfl);show((M.ae l.dst).cl l.cl).1.vo.p.key<=K;rw[v.vo,hpb];exact h.sh m (Ar he).2.1.2.1 (h.gs.w3 _ _ _ (w.k3 u).2)
  .unfold Nod.count;split
   .exact λb=>pd hd.2 f b (.inl (mA _)) rfl
   .split<;>exact λb=>pd hd.2 f b (.inl (mA _)) rfl
  .split<;>exact λb=>pd hd.2 f b (.inl (mA _)) rfl
  .simp only;unfold Nod.dT;split<;>split<;>exact λb=>pd hd.2 f b (.inl (mA _)) rfl
  .exact λb=>pd hd.2 f b (.inl (mA _)) rfl
 | br _ ls hl _=>exact m
 | one _ i c j f hc he =>
  refine m.set (pd j f ((DN { M.ae i with ni:=doS (M.ae i).ni c,done:=(M.ae i).done+1 } c).1.trans f) (.inl ?_) ?_) _ _<;>(unfold Nod.hZ;split)<;>first|exact mA _|rfl
 | ask _ i j f =>
  refine m.set (pd j f ((I7 _ i).trans f) (.inl ?_) ?_) _ _<;>(unfold Nod.kc;split)<;>first|exact mA _|rfl|(split<;>first|exact mA _|rfl|(unfold Nod.dT;split<;>first|exact mA _|rfl))
 | prop _ i j f =>
  refine m.set (pd j f ((Ex _).trans f) (.inl ?_) ?_) _ _
  .obtain⟨O,k⟩:=(h.nd i j).up f;unfold Nod.cn;split
   .exact mA _
   .rename_i hc
    have G:(M.ae i).leads=true:=by cases hh:(M.ae i).leads with|true=>rfl|false=>exact absurd (.inl hh) hc
    cases hn:(M.ae i).rj (M.ae i).ab.length with
    | none=>exact mA _
    | some c =>
     simp only;rcases k.tp.cl ⟨((M.ae i).ab.length:Int),(M.ae i).av.gC,c⟩with⟨e,he⟩|⟨e,he,rs',z,v,hm,hpb,d,a,hq⟩
     .rw[if_pos e];exact mA _
     .rw[if_neg (λg=>g e)];show((M.ae i).cl _).1.vo.p.key<=_;rw[v.vo,hpb,(mZ G).2];exact mA _
  .unfold Nod.cn;split
   .rfl
   .split
    .rfl
    .split
     .rfl
     .show((M.ae i).cl _).1.cF=_;unfold Nod.cl;split
      .rfl
      .split
       .rfl
       .split<;>rfl
 | rC _ i j f hlt E=>exact m.set (pd (p:={ M.ae i with sy:=((M.ae i).d.length:Int) }) j f f (.inl (mA _)) rfl) _ _
 | run _ i j f q l z hs =>
  have u:=D6 (M.ae i) i q;refine m.set (pd (p:={ (M.ae i).lr i q with bu:=l }) j f (u.2.1.trans f) (.inl ?_) ?_) _ _<;>(cases q<;>first|exact mA _|rfl|(simp only[Nod.lr];split<;>first|exact mA _|rfl)|(simp only[Nod.lr,Nod.count];split<;>first|exact mA _|rfl|(split<;>first|exact mA _|rfl)))
 | ry _ i j f w=>exact m.set (pd (p:=E5 (M.ae i) i 5) j f f (.inl (mA _)) rfl) _ _
 | lead _ i j f w=>exact absurd w P
 | sub _ i d j f hd =>
  have b:((M.ae i).rK i d M.ew).1.up=true:=by
   unfold Nod.rK Nod.rL;split
   .exact f
   .split
    .exact f
    .split
     .exact f
     .show(Nod.want _ _).up=true;unfold Nod.want;split<;>exact f
  refine m.set (pd j f b (.inl ?_) ?_) _ _<;>(unfold Nod.rK Nod.rL;split)<;>first|exact mA _|rfl|(split<;>first|exact mA _|rfl|(split<;>first|exact mA _|rfl|(simp only[Nod.want];split<;>first|exact mA _|rfl)))
 | lp _ i c j f hc hC =>
  obtain⟨O,k⟩:=(h.nd i j).up f;obtain⟨x,_,⟨y,L⟩,C⟩:=k.tp.lp hc;have F:=IC (p:=M.ae i) k.tp.sg hc;have A:((M.ae i).lp c).cF=0:=by
   unfold Nod.lp;rw[if_neg]
   .rfl
   .intro e;exact e (by unfold Gq;rw[if_neg (λe=>e k.tp.sg),if_neg (by omega)])
  have t:=(m i j).1;unfold Nod.pk at t;rw[if_pos f]at t
  have o:=k.tp.ok;rw[<- L]at o
  have B:=(D5 o).1;rw[L,<- k.tp.vo]at B
  have I:=(AN.left o).acc.1;have J:0<=(BD x).p.key:=by unfold Aq Ab at I;unfold Bal.key;omega
  refine m.set ⟨?_,by rw[A];omega⟩ _ _;unfold Nod.pk;rw[if_neg (by rw[F.2.1];decide),C.sK];show(BD x).p.key<=K;omega
 | start _ i j f _ =>
  have k:=(h.nd i j).dn f;have v:=k.start;have E:AO (M.ae i).d (M.ae i).sy:=⟨k.len,by rw[k.sy];omega,by rw[k.sy];omega⟩;have H:=GI (p:=M.ae i) E;have A:(M.ae i).start.cF=0:=by
   unfold Nod.start;rw[if_neg (λe=>e (if_pos E))];split<;>rfl
  have t:=(m i j).1;unfold Nod.pk at t;rw[if_neg (by rw[f];decide),k.sK]at t
  have t:(BD (σ.dr i)).p.key<=K:=t;have I:=v.ok.acc.1;have J:0<=(BD (σ.dr i)).p.key:=by unfold Aq Ab at I;unfold Bal.key;omega
  refine m.set ⟨?_,by rw[A];omega⟩ _ _;unfold Nod.pk;rw[if_pos H.2.1,v.vo];exact t
def wh1:Wh:=⟨λ_ _=>False,False,False,False,False,False⟩
def wh0:Wh:=⟨λ_ _=>False,False,False,False,True,False⟩
theorem Stp.calm(h:Stp wh1 c M N):Stp wh0 c M N:=by
 cases h with
 | take _ l hl hd hu ht=>exact .take M l hl hd hu trivial
 | br _ ls h hd=>exact False.elim hd
 | one _ i c hi hu hc he=>exact .one M i c hi hu hc he
 | ask _ i hi hu=>exact .ask M i hi hu
 | prop _ i hi hu=>exact .prop M i hi hu
 | rC _ i hi hu h hT=>exact .rC M i hi hu h hT
 | run _ i hi hu q l hp hs=>exact .run M i hi hu q l hp hs
 | ry _ i hi hu hL=>exact .ry M i hi hu hL
 | lead _ i hi hu hL=>exact False.elim hL
 | sub _ i d hi hu hD=>exact False.elim hD
 | lp _ i k hi hu hk hC=>exact False.elim hC
 | start _ i hi hu hs=>exact False.elim hs
theorem Ky{to:Nat}{e:Int}(a:q∈p.bu):q∈(p.ed to e).bu:=by
 unfold Nod.ed;split
 .exact mG _ a
 .exact a
theorem Hh{l:Let}(a:q∈p.bu):q∈(p.take l).bu:=by
 unfold Nod.take;split
 .split
  .exact Ky a
  .exact mG _ (by rw[FP];exact a)
 .simp only;split<;>exact a
 .exact a
 .split
  .exact Ky a
  .exact mG _ (by rw[Hi];exact a)
 .unfold Nod.count;split
  .exact a
  .split<;>exact a
 .split
  .exact mG _ a
  .exact a
 .simp only;unfold Nod.dT;split<;>split<;>first|exact a|exact mG _ a
 .exact a
theorem P3(a:q∈p.bu):q∈p.cn.bu:=by
 unfold Nod.cn;split
 .exact a
 .split
  .exact a
  .split
   .exact a
   .exact mG _ (by rw[Hi];exact a)
theorem Jw(p:Nod)(i:Nat):(p.kc i).1.bu=p.bu/\(p.kc i).1.d=p.d/\(p.kc i).1.sy=p.sy:=by
 unfold Nod.kc;split
 .exact⟨rfl,rfl,rfl⟩
 .split
  .unfold Nod.dT;split<;>exact⟨rfl,rfl,rfl⟩
  .exact⟨rfl,rfl,rfl⟩
theorem GL(p:Nod)(c:Cmd):(p.hZ c).bu=p.bu/\(p.hZ c).d=p.d/\(p.hZ c).sy=p.sy:=by unfold Nod.hZ;split<;>exact⟨rfl,rfl,rfl⟩
theorem Yl(i:Nat)(l:List Cmd)(p:Nod)(a:List Tol):(rD i l p a).1.d=p.d/\(rD i l p a).1.sy=p.sy:=by
 induction l generalizing p a with
 | nil=>exact⟨rfl,rfl⟩
 | cons c l ih =>
  rw[rD];split
  .exact⟨rfl,rfl⟩
  .have h1:=ih (Nod.hZ { p with ni:=doS p.ni c,done:=p.done+1 } c) (if(p.bN c).isSome=true then a++[⟨i,c.c,c.s,doC p.ni c,doA p.ni c⟩]else a);have b:=GL { p with ni:=doS p.ni c,done:=p.done+1 } c;exact⟨h1.1.trans b.2.1,h1.2.trans b.2.2⟩
theorem S1(i:Nat)(l:List Pend)(p:Nod)(a:List Let):(ov i l p a).1.bu=p.bu:=by
 induction l generalizing p a with
 | nil=>rfl
 | cons q l ih=>rw[ov,ih];exact(D6 p i q).1
theorem Ir(h:AO p.d p.sy)(i:Nat)(k:List Let)(l:List Tol):(p.piece i k l).1.bu=[]:=by
 unfold Nod.piece;simp only;have g:=Yl i (p.ab.drop p.done) p l;generalize rD i (p.ab.drop p.done) p l=a at g ⊢;have j:=Jw a.1 i;generalize a.1.kc i=b at j ⊢;have c:b.1.tp:=by show AO b.1.d b.1.sy;rw[j.2.1,j.2.2,g.1,g.2];exact h
 have m:b.1.cn.tp:=by
  unfold Nod.cn;split
  .exact c
  .split
   .exact c
   .split
    .exact c
    .exact PO c _
 generalize b.1.cn=r at m ⊢;have n:(r.nr i (k++b.2)).1.bu=[]:=by
  unfold Nod.nr;rw[if_neg (λe=>e.2 (if_pos m)),S1]
 generalize r.nr i (k++b.2)=f at n ⊢;unfold Nod.bw;split<;>exact n
theorem An(M:Meet)(i:Nat)(p:Nod)(a:List Let)(b:List Tol)(j:Nat):(M.set i p a b).ae j=if j=i then p else M.ae j:=rfl
theorem O5(s:Stp wh0 c M N){i:Nat}{q:Pend}(hq:q∈(M.ae i).bu):q∈(N.ae i).bu\/∃ l,(M.ae i).bu=q::l/\N=M.set i { (M.ae i).lr i q with bu:=l } (M.br++(M.ae i).rm i q) M.ew:=by
 have put:∀ {j:Nat} {p:Nod} {a:List Let} {b:List Tol},(j=i->q∈p.bu)->q∈((M.set j p a b).ae i).bu:=λ{j p a b} h=>by
  rw[An];split
  .rename_i e;exact h e.symm
  .exact hq
 cases s with
 | take _ l hl hd hu ht=>exact .inl (put λe=>Hh (by rw[e];exact hq))
 | br _ a h hd=>exact False.elim hd
 | one _ j c hi hu hc he=>exact .inl (put λe=>by rw[(GL _ c).1,e];exact hq)
 | ask _ j hi hu=>exact .inl (put λe=>by rw[(Jw _ j).1,e];exact hq)
 | prop _ j hi hu=>exact .inl (put λe=>P3 (by rw[e];exact hq))
 | rC _ j hi hu h hT=>exact .inl (put λe=>by subst e;exact hq)
 | run _ j hi hu x l hp hs =>
  by_cases e:j=i
  .subst e;rw[hp]at hq
   rcases mJ.1 hq with rfl|hq
   .exact .inr ⟨l,hp,rfl⟩
   .exact .inl (by rw[An,if_pos rfl];exact hq)
  .exact .inl (put λf=>absurd f e)
 | ry _ j hi hu hL=>exact .inl (put λe=>by subst e;exact hq)
 | lead _ j hi hu hL=>exact False.elim hL
 | sub _ j d hi hu hD=>exact False.elim hD
 | lp _ j k hi hu hk hC=>exact False.elim hC
 | start _ j hi hu hs=>exact False.elim hs
theorem Hg(a:(M.ae i).up=true):M.act (acN 3 (i:Int))=M.set i ((M.ae i).piece i M.br M.ew).1 ((M.ae i).piece i M.br M.ew).2.1 ((M.ae i).piece i M.br M.ew).2.2:=by
 unfold Meet.act;simp[acN,a]
theorem FU(a:i<5):LacOk (acN 3 (i:Int)):=ET ⟨.inr (.inl rfl),by omega,by omega⟩
theorem aX(i:Nat):wh1.may (acN 3 (i:Int)):=⟨λe=>absurd e (by show(3:Int)≠1;decide),λe=>absurd e (by show(3:Int)≠2;decide),λe=>absurd e (by show(3:Int)≠8;decide),λe=>absurd e (by show ¬ ((3:Int)=4\/(3:Int)=5\/(3:Int)=6\/(3:Int)=7);decide),λe=>absurd e (by show(3:Int)≠9;decide)⟩
end
section
variable{I J:Meet->Prop}
theorem CB(a:∀ c M N,Stp wh1 c M N->I M->I N){n:Nat}{M:Meet}(b:MOk n M){i:Nat}(d:i<5)(h:I M):I (M.act (acN 3 (i:Int))):=(OT (D:=wh1) b (FU d) (aX i)).inv a h
theorem WV(a:∀ c M N,Stp wh1 c M N->I M->I N)(b:∀ c M N,Stp wh1 c M N->I M->J M->J N){n:Nat}{M:Meet}(e:MOk n M){i:Nat}(f:i<5)(p:(M.ae i).up=true)(o:AO (M.ae i).d (M.ae i).sy){q:Pend}(j:q∈(M.ae i).bu)(h:I M)
  (m:∀ N l,I N->(N.ae i).bu=q::l->J (N.set i { (N.ae i).lr i q with bu:=l } (N.br++(N.ae i).rm i q) N.ew)):J (M.act (acN 3 (i:Int))):=by
 have k:=CB (I:=λN=>I N/\(q∈(N.ae i).bu\/J N)) (λc A B s g=>⟨a c A B s g.1,by
  rcases g.2 with g2|g2
  .rcases O5 s.calm g2 with g3|⟨l,g3,rfl⟩
   .exact .inl g3
   .exact .inr (m A l g.1 g3)
  .exact .inr (b c A B s g.1 g2)⟩) e f ⟨h,.inl j⟩
 refine k.2.resolve_left λg=>?_;rw[Hg p,An,if_pos rfl,Ir o]at g
 cases g
def TkS(M N:Meet):Prop:=∃ l,l∈M.br/\(l.src<5/\l.dst<5)/\(M.ae l.dst).up=true/\N=M.set l.dst ((M.ae l.dst).take l) M.br M.ew
theorem TkS.rN{M N:Meet}(h:TkS M N):Stp wh0 0 M N:=by obtain⟨l,a,b,c,rfl⟩:=h;exact .take M l a b c trivial
theorem J6(e:∀ M N,TkS M N->I M->I N)(l:List Let){M:Meet}(a:∀ m∈l,m∈M.br/\m.src<5/\m.dst<5)(h:I M):I (l.foldl (λM l=>M.oh l) M)/\(l.foldl (λM l=>M.oh l) M).br=M.br:=by
 induction l generalizing M with
 | nil=>exact⟨h,rfl⟩
 | cons x l ih =>
  obtain⟨b,c⟩:=a x M';have d:I (M.oh x):=by
   unfold Meet.oh;split
   .rename_i hu;exact e M _ ⟨x,b,c,hu,rfl⟩ h
   .exact h
  have:=ih (M:=M.oh x) (λm f=>by rw[Ed];exact a m (I' _ f)) d;exact⟨this.1,this.2.trans (Ed M x)⟩
theorem DG(hI:∀ M N,TkS M N->I M->I N)(hJ:∀ M N,TkS M N->I M->J M->J N){n:Nat}{M:Meet}(hM:MOk n M)(h:I M){l:Let}(hl:l∈M.br)(hu:∀ N,I N->(N.ae l.dst).up=true)
  (hT:∀ N,I N->N.br=M.br->J (N.set l.dst ((N.ae l.dst).take l) N.br N.ew)):∃ N,M.act (acN 7 0)={ N with br:=[] }/\I N/\J N/\N.br=M.br:=by
 have hd:∀ m∈M.br,m.src<5/\m.dst<5:=λm hm=>⟨(hM.br m hm).src,(hM.br m hm).dst⟩;obtain⟨a,b,e⟩:=List.append_of_mem hl;have e2:M.act (acN 7 0)={ M.br.foldl (λM l=>M.oh l) M with br:=[] }:=by
  show M.rA=_;unfold Meet.rA;rw[Ie]
 refine⟨_,e2,?_⟩;have ha:=J6 hI a (M:=M) (λm hm=>by have:m∈M.br:=(by rw[e];exact mG _ hm);exact⟨this,hd m this⟩) h
 rw[show M.br.foldl (λM l=>M.oh l) M=b.foldl (λM l=>M.oh l) ((a.foldl (λM l=>M.oh l) M).oh l)by rw[e,po];rfl];generalize a.foldl (λM l=>M.oh l) M=A at ha ⊢;have hc:A.oh l=A.set l.dst ((A.ae l.dst).take l) A.br A.ew:=by unfold Meet.oh;rw[if_pos (hu A ha.1)];rfl
 have s:TkS A (A.oh l):=⟨l,by rw[ha.2];exact hl,hd l hl,hu A ha.1,hc⟩;have hb:=J6 (I:=λN=>I N/\J N) (λA B s g=>⟨hI A B s g.1,hJ A B s g.1 g.2⟩) b (M:=A.oh l) (λm hm=>by
  have:m∈M.br:=by rw[e];exact mD _ (I' _ hm)
  exact⟨by rw[Ed,ha.2];exact this,hd m this⟩) ⟨hI _ _ s ha.1,by rw[hc];exact hT A ha.1 ha.2⟩
 exact⟨hb.1.1,hb.1.2,by rw[hb.2,Ed,ha.2]⟩
end
theorem KbI.mono{K R a b:Int}{M:Meet}(h:KbI K R M)(d:K<=a)(e:R<=b):KbI a b M:=λj c=>⟨mT (h j c).1 d,mT (h j c).2 e⟩
theorem TG{D:Wh}(l:¬ D.ld){n:Nat}{M N:Meet}(s:Sts D n M N){σ:Gs}(h:AgI σ M){K R:Int}(a:K<=R)(f:KbI K R M):∃ (τ:Gs) (ex:List (Bal × Nat)),σ.le τ/\AgI τ N/\KbI K R N/\ex.length<=n/\∀ b s c,τ.W b s c->σ.W b s c\/(b,s)∈ex:=by
 induction s with
 | nil=>exact⟨σ,[],.refl σ,h,f,mW _,λ_ _ _ g=>.inl g⟩
 | snoc _ s hm ih =>
  obtain⟨τ,ex,i,d,j,r,k⟩:=ih h f;obtain⟨υ,e,m,o,p,q⟩:=d.step s;refine⟨υ,ex++e.toList,i.trans m,o,j.step l d s a,?_,λb s c g=>?_⟩
  .cases e with
   | none=>simp;omega
   | some x=>have:=(q x.1 x.2 rfl).1;simp;omega
  .rcases p b s c g with g|g
   .exact(k b s c g).imp id λg=>mG _ g
   .exact .inr (mD _ (by rw[g];exact D'.2 rfl))
theorem KbI.lead{σ:Gs}{M:Meet}(h:AgI σ M){R:Int}(l:KbI R R M){i:Nat}(m:i<5)(j:(M.ae i).up=true)(o:List Let)(q:List Tol):KbI (R+9) (R+9) (M.set i ((M.ae i).lead i) o q):=by
 obtain⟨t,k⟩:=(h.nd i m).up j;have f:=l i m;have c:=f.1;unfold Nod.pk at c;rw[if_pos j]at c
 have s:=YV (b:=(M.ae i).vo.p) (by rw[k.tp.vo];exact k.tp.ok.acc.1);refine(l.mono (by omega) (by omega)).set ?_ _ _;unfold Nod.lead;simp only;generalize n:(⟨max (M.ae i).cF (M.ae i).vo.p.r+1,(i:Int)⟩:Bal)=b;rcases k.tp.au b with⟨e,he⟩|⟨e,he,hvs,rs',hp,ht,hm,hpb,hpv,d,a,hq⟩
 .rw[if_pos e];exact⟨by have:=f.1;omega,by have:=f.2;omega⟩
 .rw[if_neg (λg=>g e)];refine⟨?_,?_⟩
  .show(if((M.ae i).au b).1.up=true then((M.ae i).au b).1.vo.p.key else(Ea ((M.ae i).au b).1.d).2.p.key)<=_;rw[if_pos (by rw[hq];exact j),ht.vo,hpb,<- n];show 5*(max (M.ae i).cF (M.ae i).vo.p.r+1)+(i:Int)<=_;omega
  .show 5*((M.ae i).au b).1.cF<=_;rw[hq];show 5*(M.ae i).cF<=_;omega
def whL:Wh:=⟨λ_ _=>True,False,True,True,True,True⟩
def lds(L:List Lac):Nat:=L.countP λx=>decide (x.k=2)
theorem WK(L:List Lac){n:Nat}{M:Meet}(w:MOk n M)(B:n+L.length<=1000000)(v:∀ x∈L,LacOk x){σ:Gs}(h:AgI σ M){R:Int}(l:KbI R R M){cov:List (Bal × Nat)}(m:∀ b s c,σ.W b s c->(b,s)∈cov) :
  ∃ (τ:Gs) (cov':List (Bal × Nat)),σ.le τ/\AgI τ (M.eb L)/\KbI (R+9*(lds L:Int)) (R+9*(lds L:Int)) (M.eb L)/\cov'.length<=cov.length+L.length/\∀ b s c,τ.W b s c->(b,s)∈cov':=by
 induction L generalizing n M σ R cov with
 | nil=>exact⟨σ,cov,.refl σ,h,l.mono (by simp[lds]) (by simp[lds]),A' _,m⟩
 | cons x L ih =>
  rw[m7]at B
  have t:=v x M';have r:lds (x::L)=lds L+if x.k=2 then 1 else 0:=by unfold lds;rw[px];simp
  have one:∃ (τ:Gs) (cov':List (Bal × Nat)),σ.le τ/\AgI τ (M.act x)/\KbI (R+if x.k=2 then 9 else 0) (R+if x.k=2 then 9 else 0) (M.act x)/\cov'.length<=cov.length+1/\∀ b s c,τ.W b s c->(b,s)∈cov':=by
   by_cases d:x.k=2
   .rw[if_pos d];have z:x.n.toNat<5:=by have:=t.n (by rw[d];rfl);omega
    have e:M.act x=M.set x.n.toNat (if(M.ae x.n.toNat).up then(M.ae x.n.toNat).lead x.n.toNat else M.ae x.n.toNat) M.br M.ew:=by
     unfold Meet.act;simp only;rw[if_neg (by omega),if_pos d]
    by_cases o:(M.ae x.n.toNat).up=true
    .rw[if_pos o]at e
     obtain⟨τ,u,f,i,j,p⟩:=h.step (D:=whT) (.lead M _ z o trivial);refine⟨τ,cov,f,by rw[e];exact i,by rw[e];exact l.lead h z o _ _,by omega,λb s c g=>?_⟩;rcases j b s c g with g|g
     .exact m b s c g
     .exact absurd (p b s g).1 (by decide)
    .rw[if_neg o,EL]at e
     rw[e];exact⟨σ,cov,.refl σ,h,l.mono (by omega) (by omega),by omega,m⟩
   .rw[if_neg d,Int.add_zero];obtain⟨τ,u,f,i,j,p,q⟩:=TG (D:=whL) (λe=>e) (OT w t ⟨λ_=>trivial,λe=>d e,λ_=>trivial,λ_=>⟨trivial,trivial⟩,λ_=>trivial⟩) h (mA R) l;refine⟨τ,cov++u,f,i,j,by rw[H'];omega,λb s c g=>?_⟩;exact(q b s c g).elim (λg=>mG _ (m b s c g)) λg=>mD _ g
  obtain⟨τ,cov',f,i,j,p,q⟩:=one;obtain⟨υ,a,E,F,A,H,G⟩:=ih (w.act (by omega) t) (by omega) (λy C=>v y (I' _ C)) i j q;have e:R+(if x.k=2 then 9 else 0)+9*(lds L:Int)=R+9*(lds (x::L):Int):=by
   rw[r];split<;>omega
  rw[e]at A
  exact⟨υ,a,f.trans E,F,A,by rw[m7];omega,G⟩
theorem KbI.zero:KbI 0 0 AH:=λj a=>⟨by show Da.pk<=0;decide,by show 5*Da.cF<=0;decide⟩
section
variable{S:Cmd->Prop}
section
def VsS(S:Cmd->Prop)(l:List Vt):Prop:=∀ v∈l,S v.w
def RsS(S:Cmd->Prop)(rs:List Rk):Prop:=∀ v,Rk.vt v∈rs->S v.w
def PnS(S:Cmd->Prop):Pend->Prop
 | .began _ vs=>VsS S vs
 | .prom _ _ vs=>VsS S vs
 | .voted _ v=>S v.w
 | .prop v=>S v.w
 | _=>True
structure NdS(S:Cmd->Prop)(p:Nod):Prop where
 up:p.up=true->∃ dr rs,TpU p dr rs/\RsS S rs
 dn:p.up=false->∃ dr,TpD p dr/\RsS S dr
 ag:∀ c∈p.ab,S c
 wa:∀ c∈p.bn,S c
 qu:∀ c∈p.av.fa,S c
 he:∀ j,j<5->VsS S (p.av.an j).vs
 pe:∀ q∈p.bu,PnS S q
structure LtS(S:Cmd->Prop)(l:Let):Prop where
 vs:VsS S l.mv
 wh:∀ c∈l.fv,S c
 vt:l.kind=3\/l.kind=4->S l.cl.w
variable{M:Meet}{dr:List Rk}{i:Nat}{p q:Nod}{r:Rnd}
theorem NdS.tape(h:NdS S p){q:Nod}(i:q.up=p.up)(a:q.d=p.d)(f:q.sy=p.sy)(n:q.vo=p.vo)(l:∀ c∈q.ab,S c)(t:∀ c∈q.bn,S c)(r:∀ c∈q.av.fa,S c)(m:∀ j,j<5->VsS S (q.av.an j).vs)(o:∀ x∈q.bu,PnS S x):NdS S q :=
 ⟨λe=>by
  obtain⟨b,s,k,g⟩:=h.up (i▸e);exact⟨b,s,⟨k.ok,k.pre,a.trans k.d,f.trans k.sy,n.trans k.vo,by rw[a];exact k.len⟩,g⟩,λe=>by
  obtain⟨b,k,g⟩:=h.dn (i▸e);exact⟨b,⟨k.ok,by rw[a];exact k.sK,by rw[a];exact k.tk,by rw[f,a];exact k.sy,by rw[a];exact k.len⟩,g⟩,l,t,r,m,o⟩
theorem NdS.wait(h:NdS S p){x:Pend}(a:PnS S x):NdS S (p.wait x) :=
 h.tape rfl rfl rfl rfl h.ag h.wa h.qu h.he λy b=>(U'.1 b).elim (h.pe y) λe=>by rw[D'.1 e];exact a
theorem NdS.ed(h:NdS S p)(to:Nat)(e:Int):NdS S (p.ed to e):=by
 unfold Nod.ed;split
 .exact h.wait trivial
 .exact h
theorem NdS.wrote(h:NdS S p){f b:List Rk}(j:TpU q f b)(i:RsS S b)(k:p.up=true){d:List Int}{a:Acc}(g:q=p.tv d p.sy a)(l:∀ c∈q.ab,S c):NdS S q:=by
 subst g;exact⟨λ_=>⟨f,b,j,i⟩,λe=>(by rw[show(p.tv d p.sy a).up=p.up from rfl,k]at e;cases e),h.ag,h.wa,h.qu,h.he,h.pe⟩
theorem gD(h:∀ j,j<5->VsS S (r.an j).vs){a:Acc}(b:a∈r.jv):VsS S a.vs:=by
 unfold Rnd.jv at b;simp only[mJ,P',or_false]at b;rcases b with rfl|rfl|rfl|rfl|rfl
 .exact h 0 (by omega)
 .exact h 1 (by omega)
 .exact h 2 (by omega)
 .exact h 3 (by omega)
 .exact h 4 (by omega)
theorem Y5(h:∀ j,j<5->VsS S (r.an j).vs){s:Int}{v:Vt}(e:v∈Ae (r.jv.map (·.vs)).flatten s):S v.w:=by
 obtain⟨l,b,c⟩:=oX.1 (Bd.1 e).1;obtain⟨a,d,rfl⟩:=mS.1 b;exact gD h d v c
theorem ic(h:∀ j,j<5->VsS S (r.an j).vs){s:Int}(a:CZ r.jv s=0):S (CR r.jv s):=by
 have c:CR r.jv s=((Hj (Dy r.jv s) r.jv.length).map (·.w)).getD ⟨0,0,0,0,0⟩:=if_pos a;unfold CZ at a;split at a
 .cases a
 .split at a
  .cases a
  .split at a
   .rename_i hO
    obtain⟨v,b⟩:=nL.1 hO;rw[c,b];exact Y5 h (qr b)
   .cases a
theorem iH(h:∀ j,j<5->VsS S (r.an j).vs)(k:Nat){l:List Cmd}(a:∀ c∈l,S c):∀ c∈FF k r l,S c:=by
 induction k generalizing l with
 | zero=>exact a
 | succ k ih =>
  rw[FF];split
  .rename_i he;exact ih λc b=>(U'.1 b).elim (a c) λe=>by rw[D'.1 e];exact ic h he
  .exact a
theorem NdS.rp(h:NdS S p):NdS S p.rp:=h.tape rfl rfl rfl rfl (iH h.he 41 h.ag) h.wa h.qu h.he h.pe
theorem d8(a:Acc)(l:List Vt)(d:VsS S a.vs)(e:VsS S l):VsS S (Dj a l).vs:=by
 induction l generalizing a with
 | nil=>exact d
 | cons u l ih =>
  rw[Dj];refine ih _ ?_ λv b=>e v (I' _ b);by_cases c:AV a u=0
  .rw[if_pos c];intro v b;have b:v∈Bu a u:=b;rw[(DA c).2]at b
   rcases(BH (Ar c).1.2.2).1 b with rfl|⟨b,_⟩
   .exact e v M'
   .exact d v b
  .rw[if_neg c];exact d
theorem YJ(h:∀ j,j<5->VsS S (r.an j).vs)(j:Nat)(b:j<5){a:List Vt}(d:VsS S a):∀ k,k<5->VsS S ((r.rG j a).an k).vs:=λk c=>by
 show VsS S (upN r.an j _ k).vs;unfold upN;split
 .exact d8 ⟨r.gC,a⟩ _ d (h j b)
 .exact h k c
theorem NdS.count(h:NdS S p){j:Nat}(c:j<5){v:Vt}(e:S v.w):NdS S (p.count j v):=by
 unfold Nod.count;split
 .exact h
 .split
  .exact h
  .rename_i b
   have b:=mE.1 b;refine NdS.rp (h.tape rfl rfl rfl rfl h.ag h.wa h.qu (λk d=>?_) h.pe);show VsS S (upN p.av.an j _ k).vs;unfold upN;split
   .intro u a;have a:u∈Bu (p.av.an j) v:=a;rw[(DA b).2]at a
    rcases(BH (Ar b).1.2.2).1 a with rfl|⟨a,_⟩
    .exact e
    .exact h.he j c u a
   .exact h.he k d
theorem ir(q l:List Cmd)(b:∀ c∈q,S c)(f:∀ c∈l,S c):∀ c∈Hk q l,S c:=by
 induction l generalizing q with
 | nil=>exact b
 | cons d l ih =>
  rw[Hk];refine ih _ ?_ λc a=>f c (I' _ a);split
  .exact λc a=>(U'.1 a).elim (b c) λe=>by rw[D'.1 e];exact f d M'
  .exact b
theorem NdS.dT(h:NdS S p){l:List Cmd}(a:∀ c∈l,S c):NdS S (p.dT l):=by
 unfold Nod.dT;split
 .exact h.tape rfl rfl rfl rfl h.ag h.wa (ir _ _ h.qu a) h.he h.pe
 .exact h
theorem NdS.ln(h:NdS S p)(bt:Nat){l:List Cmd}(b:∀ c∈l,S c):NdS S (p.ln bt l) :=
 h.tape rfl rfl rfl rfl (λc a=>(U'.1 a).elim (h.ag c) λg=>b c (oA g)) h.wa h.qu h.he h.pe
theorem TpU.tZ{a:List Rk}(h:TpU p dr a)(b:RsS S a):VsS S p.vo.vs:=λv c=>b v (Jf h.ok v (by rw[<- h.vo];exact c))
theorem NdS.take(h:NdS S p)(f:p.up=true){l:Let}(b:LtS S l)(j:l.src<5):NdS S (p.take l):=by
 obtain⟨m,n,k,c⟩:=h.up f;unfold Nod.take;split
 .rcases k.au l.gC with⟨e,he⟩|⟨e,he,hvs,rs',hp,ht,hm,hpb,hpv,d,a,hq⟩
  .rw[if_pos e];exact h.ed _ _
  .rw[if_neg (λg=>g e)];exact(h.wrote ht (λv i=>c v ((hm v).1 i)) f hq (by rw[hq];exact h.ag)).wait (by show VsS S _;rw[hvs];exact k.tZ c)
 .have hL:=h.ln 0 b.wh;generalize p.ln 0 l.fv=K at hL ⊢;simp only;split
  .exact hL
  .exact NdS.rp (hL.tape rfl rfl rfl rfl hL.ag hL.wa hL.qu (YJ hL.he _ j b.vs) hL.pe)
 .exact h.tape rfl rfl rfl rfl h.ag h.wa h.qu h.he h.pe
 .rename_i hk
  rcases k.cl l.cl with⟨e,he⟩|⟨e,he,rs',hp,ht,hm,hpb,d,a,hq⟩
  .rw[if_pos e];exact h.ed _ _
  .rw[if_neg (λg=>g e)];exact(h.wrote ht (λv i=>((hm v).1 i).elim (λe=>by rw[e];exact b.vt (.inl hk)) (c v)) f hq (by rw[hq];exact h.ag)).wait (b.vt (.inl hk))
 .rename_i hk;exact h.count j (b.vt (.inr hk))
 .split
  .exact h.wait trivial
  .exact h.ln _ b.wh
 .simp only;split
  .exact(h.dT b.wh).wait trivial
  .exact h.dT b.wh
 .exact h
theorem Lk(h:NdS S p){s:Nat}{c:Cmd}(b:p.rj s=some c):S c:=by
 unfold Nod.rj at b;split at b
 .cases b
 .rename_i a
  have a:=mE.1 a;split at b
  .rename_i hF
   have f:H6 (p.av.jv.map (·.vs)) (s:Int)=((Ge (p.av.jv.map (·.vs)) (s:Int)).map (·.w)).getD ⟨0,0,0,0,0⟩:=if_pos a;have d:DR (p.av.jv.map (·.vs)) (s:Int)=(Ge (p.av.jv.map (·.vs)) (s:Int)).isSome:=if_pos a;rw[hF]at d
   obtain⟨x,i⟩:=nL.1 d.symm;rw[i]at f
   rw[<- nh b,f];refine Y5 h.he (s:=(s:Int)) ?_;have:∀ (l:List Vt) (o:Option Vt) (x:Vt),BW l o=some x->x∈l\/o=some x:=by
    intro l;induction l with
    | nil=>intro o x e;exact .inr e
    | cons v l ih =>
     intro o x e;cases o with
     | none =>
      rw[BW]at e
      rcases ih _ _ e with g|g
      .exact .inl (I' _ g)
      .left;cases g;exact M'
     | some u =>
      rw[BW]at e
      split at e
      .rcases ih _ _ e with g|g
       .exact .inl (I' _ g)
       .left;cases g;exact M'
      .rcases ih _ _ e with g|g
       .exact .inl (I' _ g)
       .exact .inr g
   exact(this _ _ _ i).resolve_right λe=>by cases e
  .exact h.qu c (qr b)
theorem NdS.cn(h:NdS S p)(f:p.up=true):NdS S p.cn:=by
 obtain⟨l,m,k,i⟩:=h.up f;unfold Nod.cn;split
 .exact h
 .cases hn:p.rj p.ab.length with
  | none=>exact h
  | some c =>
   have b:=Lk h hn;simp only;rcases k.cl ⟨(p.ab.length:Int),p.av.gC,c⟩with⟨e,he⟩|⟨e,he,rs',hp,ht,hm,hpb,d,a,hq⟩
   .rw[if_pos e];exact h
   .rw[if_neg (λg=>g e)];have g:=h.wrote ht (λv j=>((hm v).1 j).elim (λe=>by rw[e];exact b) (i v)) f hq (by rw[hq];exact h.ag);exact NdS.wait (p:={ (p.cl ⟨(p.ab.length:Int),p.av.gC,c⟩).1 with av:={ p.av with next:=p.ab.length+1 } }) (g.tape rfl rfl rfl rfl g.ag g.wa h.qu h.he g.pe) b
theorem NdS.run(n:i<5){p:Nod}(h:NdS S p){q:Pend}{l:List Pend}(o:p.bu=q::l):NdS S { p.lr i q with bu:=l }/\∀ m∈p.rm i q,LtS S m:=by
 have f:=h.pe q (by rw[o];exact M');have j:∀ {p':Nod},NdS S p'->p'.bu=p.bu->NdS S { p' with bu:=l }:=λ{p'} g e=>g.tape rfl rfl rfl rfl g.ag g.wa g.qu g.he λx r=>g.pe x (by rw[e,o];exact I' _ r);have none:∀ c∈([]:List Cmd),S c:=λc k=>by cases k
 have a:VsS S []:=λc k=>by cases k
 cases q with
 | began b vs =>
  unfold Nod.lr Nod.rm;simp only;split
  .exact⟨j h rfl,λm d=>(by cases d)⟩
  .refine⟨j (p':={ p with av:=p.av.rG i vs }) (h.tape rfl rfl rfl rfl h.ag h.wa h.qu (YJ h.he i n f) h.pe) rfl,λm d=>?_⟩;obtain⟨to,_,rfl⟩:=CJ d;exact⟨a,none,λe=>e.elim (λg=>by cases g) λg=>(by cases g)⟩
 | prom to b vs=>exact⟨j h rfl,λm d=>by rw[D'.1 d];exact⟨f,h.ag,λe=>e.elim (λg=>by cases g) λg=>(by cases g)⟩⟩
 | voted to v=>exact⟨j h rfl,λm d=>by rw[D'.1 d];exact⟨a,none,λ_=>f⟩⟩
 | ed to b=>exact⟨j h rfl,λm d=>by rw[D'.1 d];exact⟨a,none,λe=>e.elim (λg=>by cases g) λg=>(by cases g)⟩⟩
 | prop v =>
  refine⟨j (h.count n f) (D6 p i (.prop v)).1,λm d=>?_⟩;obtain⟨to,_,rfl⟩:=CJ d;exact⟨a,none,λ_=>f⟩
 | askNews to=>exact⟨j h rfl,λm d=>by rw[D'.1 d];exact⟨a,none,λe=>e.elim (λg=>by cases g) λg=>(by cases g)⟩⟩
 | start =>
  refine⟨j h rfl,λm d=>?_⟩;obtain⟨to,_,rfl⟩:=CJ d;exact⟨a,none,λe=>e.elim (λg=>by cases g) λg=>(by cases g)⟩
 | tell to bt=>exact⟨j h rfl,λm d=>by rw[D'.1 d];exact⟨a,λc k=>h.ag c (oA k),λe=>e.elim (λg=>by cases g) λg=>(by cases g)⟩⟩
theorem NdS.lead(h:NdS S p)(m:p.up=true):NdS S (p.lead i):=by
 obtain⟨o,q,k,l⟩:=h.up m;unfold Nod.lead;simp only;generalize (⟨max p.cF p.vo.p.r+1,(i:Int)⟩:Bal)=b;rcases k.au b with⟨e,he⟩|⟨e,he,hvs,rs',hp,ht,hm,hpb,hpv,d,a,hq⟩
 .rw[if_pos e];exact h
 .rw[if_neg (λg=>g e)];have g:=h.wrote ht (λv f=>l v ((hm v).1 f)) m hq (by rw[hq];exact h.ag);exact NdS.wait (p:={ (p.au b).1 with av:=⟨b,λ_=>false,λ_=>DU,λ_=>p.ab.length,0,[]⟩ }) (x:=.began b (p.au b).2.1) (g.tape rfl rfl rfl rfl g.ag g.wa (λc n=>by cases n) (λj _ v f=>by cases f) g.pe) (by show VsS S _;rw[hvs];exact k.tZ l)
theorem gU(b:Bal)(f:Cmd->Option Bal)(l:List Cmd)(h:∀ c∈l,S c):∀ c∈(AY b f l).1,S c:=by
 induction l generalizing f with
 | nil=>intro c a;cases a
 | cons d l g =>
  have g:=λf=>g f λc a=>h c (I' _ a);rw[AY];split
  .exact λc a=>(mJ.1 a).elim (λe=>by rw[e];exact h d M') (g _ c)
  .exact g f
structure MtS(S:Cmd->Prop)(M:Meet):Prop where
 nd:∀ i,i<5->NdS S (M.ae i)
 lt:∀ l∈M.br,LtS S l
theorem MtS.set(h:MtS S M){i:Nat}{p:Nod}(d:NdS S p){ls:List Let}(b:∀ l∈ls,l∈M.br\/LtS S l)(ts:List Tol):MtS S (M.set i p ls ts) :=
 ⟨λj a=>by
  show NdS S (upN M.ae i p j);unfold upN;split
  .exact d
  .exact h.nd j a,λl c=>(b l c).elim (h.lt l) id⟩
theorem MtS.step{D:Wh}(x:∀ i d,D.d i d->∀ now:Nat,opE d (now:Int)=0->S (Hp d (now:Int))){n:Nat}{M N:Meet}(s:Stp D n M N)(h:MtS S M):MtS S N:=by
 have same:∀ l∈M.br,l∈M.br\/LtS S l:=λl o=>.inl o;have app:∀ {ms:List Let},(∀ m∈ms,LtS S m)->∀ l∈M.br++ms,l∈M.br\/LtS S l:=λg l o=>(U'.1 o).imp id (g l);cases s with
 | take _ l o hd hu _=>exact h.set ((h.nd _ hd.2).take hu (h.lt l o) hd.1) same _
 | br _ ls o _=>exact⟨h.nd,λl g=>h.lt l (o l g)⟩
 | one _ i c hi hu a he =>
  refine h.set ?_ same _;have k:=h.nd i hi;unfold Nod.hZ;split
  .exact k.tape rfl rfl rfl rfl k.ag (λc a=>k.wa c (List.mem_of_mem_erase a)) k.qu k.he k.pe
  .exact k.tape rfl rfl rfl rfl k.ag k.wa k.qu k.he k.pe
 | ask _ i hi hu =>
  have k:=h.nd i hi;have E:=gU (M.ae i).vo.p (M.ae i).bN ((M.ae i).bn.take 40) λc a=>k.wa c (mP a);have B:NdS S { M.ae i with bN:=(AY (M.ae i).vo.p (M.ae i).bN ((M.ae i).bn.take 40)).2 }:=k.tape rfl rfl rfl rfl k.ag k.wa k.qu k.he k.pe;refine h.set ?_ (app ?_) _
  .unfold Nod.kc;split
   .exact B
   .split
    .exact B.dT E
    .exact B
  .intro m hm;unfold Nod.kc at hm;split at hm
   .cases hm
   .split at hm
    .cases hm
    .rw[D'.1 hm];exact⟨λv f=>(by cases f),E,λe=>e.elim (λg=>by cases g) λg=>(by cases g)⟩
 | prop _ i hi hu=>exact h.set ((h.nd i hi).cn hu) same _
 | rC _ i hi hu hlt y =>
  have k:=h.nd i hi;obtain⟨u,C,g,r⟩:=k.up hu;exact h.set (p:={ M.ae i with sy:=((M.ae i).d.length:Int) }) ⟨λ_=>⟨C,C,g.rC,r⟩,λe=>(by rw[show _=(M.ae i).up from rfl,hu]at e;cases e),k.ag,k.wa,k.qu,k.he,k.pe⟩ same _
 | run _ i hi hu q l hp hs =>
  have g:=(h.nd i hi).run hi hp;exact h.set g.1 (app g.2) _
 | ry _ i hi hu hL =>
  have k:=h.nd i hi;refine h.set (p:=E5 (M.ae i) i 5) (k.tape rfl rfl rfl rfl k.ag k.wa k.qu k.he k.pe) (app ?_) _;have:∀ n,∀ m∈Dq (M.ae i) i n,LtS S m:=by
   intro n;induction n with
   | zero=>intro m hm;cases hm
   | succ n ih =>
    intro m hm;rw[Dq]at hm
    rcases U'.1 hm with hm|hm
    .exact ih m hm
    .split at hm
     .rw[D'.1 hm];exact⟨λv f=>(by cases f),λc a=>k.ag c (oA a),λe=>e.elim (λg=>by cases g) λg=>(by cases g)⟩
     .cases hm
  exact this 5
 | lead _ i hi hu _=>exact h.set ((h.nd i hi).lead hu) same _
 | sub _ i d hi hu hd =>
  have k:=h.nd i hi;refine h.set ?_ same _;unfold Nod.rK Nod.rL;split
  .exact k
  .split
   .exact k.tape rfl rfl rfl rfl k.ag k.wa k.qu k.he k.pe
   .rename_i he
    split
    .exact k
    .show NdS S (Nod.want _ _);unfold Nod.want;split
     .exact k
     .exact k.tape rfl rfl rfl rfl k.ag (λc a=>(U'.1 a).elim (k.wa c) λe=>by rw[D'.1 e];exact x i d hd _ (mE.1 he)) k.qu k.he k.pe
 | lp _ i c hi hu a _ =>
  have k:=h.nd i hi;obtain⟨u,C,g,r⟩:=k.up hu;obtain⟨w,_,G,x⟩:=g.lp a;have z:Gq (M.ae i).d (M.ae i).sy c=0:=by unfold Gq;rw[if_neg (λe=>e g.sg),if_neg (by omega)]
  have A:=IC (p:=M.ae i) g.sg a;refine h.set ⟨λe=>(by rw[A.2.1]at e;cases e),λ_=>⟨w,x,λv f=>r v (G.subset f)⟩,?_,?_,?_,?_,?_⟩ same _<;>(unfold Nod.lp;rw[if_neg (λe=>e z)])
  .exact λc a=>by cases a
  .exact λc a=>by cases a
  .exact λc a=>by cases a
  .exact λj _ v f=>by cases f
  .exact λc a=>by cases a
 | start _ i hi hu _ =>
  obtain⟨u,g,r⟩:=(h.nd i hi).dn hu;have y:AO (M.ae i).d (M.ae i).sy:=⟨g.len,by rw[g.sy];omega,by rw[g.sy];omega⟩;have t:=GI (p:=M.ae i) y;have b:(M.ae i).start.av=eM/\(M.ae i).start.bu=[.start]/\(M.ae i).start.bn=[]:=by
   unfold Nod.start;rw[if_neg (λe=>e (if_pos y))];split<;>exact⟨rfl,rfl,rfl⟩
  refine h.set ⟨λ_=>⟨u,u,g.start,r⟩,λe=>(by rw[t.2.1]at e;cases e),?_,?_,?_,?_,?_⟩ same _
  .rw[t.2.2.2];exact λc a=>by cases a
  .rw[b.2.2];exact λc a=>by cases a
  .rw[b.1];exact λc a=>by cases a
  .rw[b.1];exact λj _ v f=>by cases f
  .rw[b.2.1];exact λq F=>by rw[D'.1 F];trivial
theorem MtS.zero:MtS S AH:=⟨λi _=>⟨λ_=>⟨[],[],TpU.zero,λv b=>(by cases b)⟩,λe=>(by cases e),λc a=>(by cases a),λc a=>(by cases a),λc a=>(by cases a),λj _ v b=>(by cases b),λc a=>(by cases a)⟩,λl d=>(by cases d)⟩
theorem gJ(L:List Lac)(f:∀ x∈L,LacOk x)(n:L.length<=100000)(j:∀ x∈L,x.k=1->∀ now:Nat,opE x.d (now:Int)=0->S (Hp x.d (now:Int))):MtS S (AH.eb L):=by
 have s:Sts ⟨λ_ d=>∃ x∈L,x.k=1/\x.d=d,True,True,True,True,True⟩ L.length AH (AH.eb L):=PV L MOk.zero (by omega) λx a=>⟨f x a,λe=>⟨x,a,e,rfl⟩,λ_=>trivial,λ_=>trivial,λ_=>⟨trivial,trivial⟩,λ_=>trivial⟩;exact s.inv (λ_ M N h g=>g.step (λi d l now m=>by obtain⟨x,b,c,rfl⟩:=l;exact j x b c now m) h) MtS.zero
end
end
structure Ev(p q:Nod):Prop where
 up:q.up=p.up
 gC:q.av.gC=p.av.gC
 vo:p.vo.p.key<=q.vo.p.key
 cF:p.cF<=q.cF
 ag:p.ab <+: q.ab
 rh:∀ j,p.av.rh j=true->q.av.rh j=true
 next:p.av.next<=q.av.next
 qu:p.av.fa <+: q.av.fa
 wa:∀ c∈q.bn,c∈p.bn
 dn:p.done<=q.done
theorem Ev.refl(p:Nod):Ev p p:=⟨rfl,rfl,mA _,mA _,mH _,λ_ h=>h,A' _,mH _,λ_ h=>h,A' _⟩
theorem Ev.trans{p q r:Nod}(h:Ev p q)(k:Ev q r):Ev p r:=⟨k.up.trans h.up,k.gC.trans h.gC,mT h.vo k.vo,mT h.cF k.cF,h.ag.trans k.ag,λj g=>k.rh j (h.rh j g),mB h.next k.next,h.qu.trans k.qu,λc g=>h.wa c (k.wa c g),mB h.dn k.dn⟩
theorem IP(k:Nat)(r:Rnd)(l:List Cmd):l <+: FF k r l:=by
 induction k generalizing l with
 | zero=>exact mH _
 | succ k ih =>
  rw[FF];split
  .exact(nS _ _).trans (ih _)
  .exact mH _
theorem Qw(l q:List Cmd):q <+: Hk q l:=by
 induction l generalizing q with
 | nil=>exact mH _
 | cons c l ih =>
  rw[Hk];split
  .exact(nS _ _).trans (ih _)
  .exact ih _
theorem Ev.au(p:Nod)(b:Bal):Ev p (p.au b).1:=by
 unfold Nod.au;split
 .exact .refl p
 .rename_i h
  have a:=Cp (mE.1 h);have c:p.vo.p.key<=b.key:=Bq a.2.1.pr a.1.1 a.2.2;split
  .exact⟨rfl,rfl,c,mA _,mH _,λ_ h=>h,A' _,mH _,λ_ h=>h,A' _⟩
  .split
   .exact .refl p
   .exact⟨rfl,rfl,c,mA _,mH _,λ_ h=>h,A' _,mH _,λ_ h=>h,A' _⟩
theorem Ev.cl(p:Nod)(v:Vt):Ev p (p.cl v).1:=by
 unfold Nod.cl;split
 .exact .refl p
 .rename_i h
  have a:=Ar (mE.1 h);have c:p.vo.p.key<=v.b.key:=Bq a.2.1.2.1.pr a.1.1 a.2.2;split
  .exact⟨rfl,rfl,c,mA _,mH _,λ_ h=>h,A' _,mH _,λ_ h=>h,A' _⟩
  .split
   .exact .refl p
   .exact⟨rfl,rfl,c,mA _,mH _,λ_ h=>h,A' _,mH _,λ_ h=>h,A' _⟩
theorem Ev.bu{p q:Nod}(h:Ev p q)(x:List Pend):Ev p { q with bu:=x }:=⟨h.up,h.gC,h.vo,h.cF,h.ag,h.rh,h.next,h.qu,h.wa,h.dn⟩
theorem Ev.tQ(p:Nod){l:List Cmd}(h:p.ab <+: l):Ev p { p with ab:=l }:=⟨rfl,rfl,mA _,mA _,h,λ_ h=>h,A' _,mH _,λ_ h=>h,A' _⟩
theorem Ev.ed(p:Nod)(to:Nat)(e:Int):Ev p (p.ed to e):=by
 unfold Nod.ed;split
 .exact(Ev.refl p).bu _
 .exact .refl p
theorem Ev.count(p:Nod)(j:Nat)(v:Vt):Ev p (p.count j v):=by
 unfold Nod.count;split
 .exact .refl p
 .split
  .exact .refl p
  .exact⟨rfl,rfl,mA _,mA _,IP _ _ _,λ_ h=>h,A' _,mH _,λ_ h=>h,A' _⟩
theorem Ev.tJ(p:Nod)(l:List Cmd):Ev p (p.dT l):=by
 unfold Nod.dT;split
 .exact⟨rfl,rfl,mA _,mA _,mH _,λ_ h=>h,A' _,Qw _ _,λ_ h=>h,A' _⟩
 .exact .refl p
theorem Vj{f:Nat->Bool}{i j:Nat}(h:f j=true):upN f i true j=true:=by unfold upN;split<;>first|rfl|exact h
theorem Ev.take(p:Nod)(l:Let):Ev p (p.take l):=by
 unfold Nod.take;split
 .split
  .exact .ed p _ _
  .exact(Ev.au p l.gC).bu _
 .simp only;have a:Ev p (p.ln 0 l.fv):=.tQ p (nS _ _);split
  .exact a
  .exact⟨rfl,rfl,mA _,mA _,a.ag.trans (IP _ _ _),λ_ h=>Vj h,A' _,mH _,λ_ h=>h,A' _⟩
 .exact⟨rfl,rfl,mA _,Int.le_max_left _ _,mH _,λ_ h=>h,A' _,mH _,λ_ h=>h,A' _⟩
 .split
  .exact .ed p _ _
  .exact(Ev.cl p l.cl).bu _
 .exact .count p _ _
 .split
  .exact(Ev.refl p).bu _
  .exact .tQ p (nS _ _)
 .simp only;split
  .exact(Ev.tJ p l.fv).bu _
  .exact .tJ p l.fv
 .exact .refl p
theorem Ev.cn(p:Nod):Ev p p.cn:=by
 unfold Nod.cn;split
 .exact .refl p
 .rename_i hc
  have a:p.av.next<=p.ab.length:=by omega
  split
  .exact .refl p
  .split
   .exact .refl p
   .have h1:=Ev.cl p ⟨(p.ab.length:Int),p.av.gC,‹Cmd›⟩;exact⟨h1.up,rfl,h1.vo,h1.cF,h1.ag,λ_ h=>h,mB a (nK _),mH _,h1.wa,h1.dn⟩
theorem Ev.hZ(p:Nod)(c:Cmd):Ev p (p.hZ c):=by
 unfold Nod.hZ;split
 .exact⟨rfl,rfl,mA _,mA _,mH _,λ_ h=>h,A' _,mH _,λ_ h=>List.mem_of_mem_erase h,A' _⟩
 .exact .refl p
theorem Ev.kc(p:Nod)(i:Nat):Ev p (p.kc i).1:=by
 have a:Ev p { p with bN:=(AY p.vo.p p.bN (p.bn.take 40)).2 }:=⟨rfl,rfl,mA _,mA _,mH _,λ_ h=>h,A' _,mH _,λ_ h=>h,A' _⟩;unfold Nod.kc;split
 .exact a
 .split
  .exact a.trans (.tJ _ _)
  .exact a
theorem Ev.lr(p:Nod)(i:Nat)(q:Pend):Ev p (p.lr i q):=by
 cases q with
 | began b vs =>
  simp only[Nod.lr];split
  .exact .refl p
  .exact⟨rfl,rfl,mA _,mA _,mH _,λ_ h=>Vj h,A' _,mH _,λ_ h=>h,A' _⟩
 | prop v=>exact .count p i v
 | _=>exact .refl p
theorem Stp.ev{c:Nat}{M N:Meet}(s:Stp wh0 c M N)(j:Nat):Ev (M.ae j) (N.ae j):=by
 have put:∀ {i:Nat} {p:Nod} {a:List Let} {b:List Tol},Ev (M.ae i) p->Ev (M.ae j) ((M.set i p a b).ae j):=λ{i p a b} h=>by
  rw[An];split
  .rename_i e;rw[e];exact h
  .exact .refl _
 cases s with
 | take _ l hl hd hu ht=>exact put (.take _ l)
 | br _ a h hd=>exact False.elim hd
 | one _ i c hi hu hc he =>
  refine put (Ev.trans (q:={ M.ae i with ni:=doS (M.ae i).ni c,done:=(M.ae i).done+1 }) ?_ (.hZ _ c));exact⟨rfl,rfl,mA _,mA _,mH _,λ_ h=>h,A' _,mH _,λ_ h=>h,nK _⟩
 | ask _ i hi hu=>exact put (.kc _ i)
 | prop _ i hi hu=>exact put (.cn _)
 | rC _ i hi hu h hT=>exact put ⟨rfl,rfl,mA _,mA _,mH _,λ_ h=>h,A' _,mH _,λ_ h=>h,A' _⟩
 | run _ i hi hu q l hp hs=>exact put ((Ev.lr _ i q).bu l)
 | ry _ i hi hu hL=>exact put ⟨rfl,rfl,mA _,mA _,mH _,λ_ h=>h,A' _,mH _,λ_ h=>h,A' _⟩
 | lead _ i hi hu hL=>exact False.elim hL
 | sub _ i d hi hu hD=>exact False.elim hD
 | lp _ i k hi hu hk hC=>exact False.elim hC
 | start _ i hi hu hs=>exact False.elim hs
theorem Stp.rJ{c:Nat}{M N:Meet}(s:Stp wh0 c M N){l:Let}(a:l∈M.br):l∈N.br:=by
 cases s with
 | br _ ls h hd=>exact False.elim hd
 | ask _ i hi hu=>exact mG _ a
 | run _ i hi hu q l hp hs=>exact mG _ a
 | ry _ i hi hu hL=>exact mG _ a
 | _=>exact a
structure Cm(S:Cmd->Prop)(K:Int)(B:Nat->Bal)(cov:List (Bal × Nat))(M:Meet):Prop where
 ex:∃ σ,AgI σ M/\∀ b s c,σ.W b s c->(b,s)∈cov
 kb:K<=3600/\KbI K 3600 M
 up:∀ j,j<5->(M.ae j).up=true
 gC:∀ j,j<5->(M.ae j).av.gC=B j
 s:MtS S M
section
variable{S:Cmd->Prop}{K:Int}{B:Nat->Bal}{cov:List (Bal × Nat)}
theorem Cm.step(n:∀ j,j<5->∀ s,s<40->(B j,s)∈cov){c:Nat}{M N:Meet}(s:Stp wh0 c M N)(h:Cm S K B cov M):Cm S K B cov N:=by
 obtain⟨σ,d,f⟩:=h.ex;obtain⟨τ,o,p,k,l,m⟩:=d.step s;refine⟨⟨τ,k,λb t c g=>?_⟩,⟨h.kb.1,h.kb.2.step (λe=>e) d s h.kb.1⟩,λj a=>(s.ev j).up.trans (h.up j a),λj a=>(s.ev j).gC.trans (h.gC j a),h.s.step (λ_ _ e=>False.elim e) s⟩;rcases l b t c g with g|g
 .exact f b t c g
 .obtain⟨_,h7,i,hi,e⟩:=m b t g;rw[e,h.gC i hi];exact n i hi t h7
theorem Cm.sg{M:Meet}(h:Cm S K B cov M){j:Nat}(a:j<5):AO (M.ae j).d (M.ae j).sy:=by
 obtain⟨σ,b,_⟩:=h.ex;obtain⟨c,k⟩:=(b.nd j a).up (h.up j a);exact k.tp.sg
theorem Cm.le{M:Meet}(h:Cm S K B cov M){j:Nat}(a:j<5):(M.ae j).vo.p.key<=K:=by
 have:=(h.kb.2 j a).1;unfold Nod.pk at this
 rwa [if_pos (h.up j a)]at this
theorem Cm.len{M:Meet}(h:Cm S K B cov M){j:Nat}(a:j<5):((M.ae j).d.length:Int)<=14*K+38*(cov.length:Int):=by
 obtain⟨σ,b,c⟩:=h.ex;have e:=bI b c a (h.up j a);have:=h.le a;omega
end
section
variable{S:Cmd->Prop}{K:Int}{B:Nat->Bal}{cov:List (Bal × Nat)}{M:Meet}
theorem Cm.acc(h:Cm S K B cov M){j:Nat}(a:j<5):Ag (M.ae j).vo:=by
 obtain⟨σ,b,_⟩:=h.ex;obtain⟨c,k⟩:=(b.nd j a).up (h.up j a);rw[k.tp.vo];exact k.tp.ok.acc
theorem Cm.prom(h:Cm S K B cov M)(k:14*K+38*(cov.length:Int)<=99000){j:Nat}(a:j<5){b:Bal}(c:Ab b)(i:¬ b.lt (M.ae j).vo.p):((M.ae j).au b).2.2=0/\((M.ae j).au b).1.vo.p=b:=by
 have e:Cn (M.ae j).vo b=0:=by unfold Cn;rw[if_neg (λg=>g (h.acc a)),if_neg (λg=>g c),if_neg i]
 have f:CK (M.ae j).d (M.ae j).sy (Ab b) (Bv b)=0:=by
  have:=h.len a;unfold CK;rw[UZ (h.sg a) (by rw[Kv];omega),if_neg (λg=>g rfl),if_pos c]
 unfold Nod.au;rw[if_neg (λg=>g e)];split
 .exact⟨rfl,rfl⟩
 .rw[if_neg (λg=>g f)];exact⟨rfl,rfl⟩
theorem Cm.sY(h:Cm S K B cov M)(k:14*K+38*(cov.length:Int)<=99000){j:Nat}(a:j<5){v:Vt}(c:Ah v)(i:¬ v.b.lt (M.ae j).vo.p):((M.ae j).cl v).2=0/\((M.ae j).cl v).1.vo.p=v.b:=by
 have e:AV (M.ae j).vo v=0:=by unfold AV;rw[if_neg (λg=>g (h.acc a)),if_neg (λg=>g c),if_neg i]
 have f:CK (M.ae j).d (M.ae j).sy (Ah v) (Bk v)=0:=by
  have:=h.len a;unfold CK;rw[UZ (h.sg a) (by rw[GO];omega),if_neg (λg=>g rfl),if_pos c]
 unfold Nod.cl;rw[if_neg (λg=>g e)];split
 .exact⟨rfl,rfl⟩
 .rw[if_neg (λg=>g f)];exact⟨rfl,rfl⟩
end
section
variable{I J:Meet->Prop}
theorem E3(M:Meet){i j:Nat}(h:j≠i):(M.act (acN 3 (i:Int))).ae j=M.ae j:=by
 unfold Meet.act;simp only[acN];rw[if_neg (by decide),if_neg (by decide),if_pos trivial,An,if_neg (by rw[nz];exact h)]
theorem Fw(i:∀ c M N,Stp wh1 c M N->I M->I N)(r:∀ c M N,Stp wh1 c M N->I M->J M->J N)(z:∀ M j,I M->j<5->(M.ae j).up=true/\AO (M.ae j).d (M.ae j).sy){n:Nat}{M:Meet}(v:MOk n M)(D:n+5<=1000000)(h:I M){j:Nat}(m:j<5){q:Pend}(w:q∈(M.ae j).bu)
  (x:∀ N l,I N->Ev (M.ae j) (N.ae j)->(N.ae j).bu=q::l->J (N.set j { (N.ae j).lr j q with bu:=l } (N.br++(N.ae j).rm j q) N.ew)):J (M.eb (AC 3 5)):=by
 have y:∀ k,k<=5->MOk (n+k) (M.eb (AC 3 k))/\I (M.eb (AC 3 k))/\(k<=j->(M.eb (AC 3 k)).ae j=M.ae j)/\(j<k->J (M.eb (AC 3 k))):=by
  intro k;induction k with
  | zero=>exact λ_=>⟨v,h,λ_=>rfl,λe=>absurd e (oC _)⟩
  | succ k ih =>
   intro C;obtain⟨b,f,p,u⟩:=ih (by omega);rw[BX,AI];refine⟨b.act (by omega) (FU (by omega)),CB i b (by omega) f,λe=>by rw[E3 _ (by omega)];exact p (by omega),λe=>?_⟩;by_cases t:j<k
   .exact(CB (I:=λN=>I N/\J N) (λc A B s g=>⟨i c A B s g.1,r c A B s g.1 g.2⟩) b (by omega) ⟨f,u t⟩).2
   .obtain rfl:k=j:=by omega
    have o:=p (A' _);have a:=z _ k f m;exact WV (I:=λN=>I N/\Ev (M.ae k) (N.ae k)) (λc A B s g=>⟨i c A B s g.1,g.2.trans (s.calm.ev k)⟩) (λc A B s g=>r c A B s g.1) b m a.1 a.2 (by rw[o];exact w) ⟨f,by rw[o];exact .refl _⟩ λN l g=>x N l g.1 g.2
 exact(y 5 (A' _)).2.2.2 m
theorem Bm(d:∀ c M N,Stp wh1 c M N->I M->I N){n:Nat}{M:Meet}(e:MOk n M)(i:n+5<=1000000)(h:I M):MOk (n+5) (M.eb (AC 3 5))/\I (M.eb (AC 3 5)):=by
 have f:∀ k,k<=5->MOk (n+k) (M.eb (AC 3 k))/\I (M.eb (AC 3 k)):=by
  intro k;induction k with
  | zero=>exact λ_=>⟨e,h⟩
  | succ k ih =>
   intro g;obtain⟨a,b⟩:=ih (by omega);rw[BX,AI];exact⟨a.act (by omega) (FU (by omega)),CB d a (by omega) b⟩
 exact f 5 (A' _)
theorem Cv(d:∀ M N,TkS M N->I M->I N){n:Nat}{M:Meet}(b:MOk n M)(h:I M):∃ N,M.act (acN 7 0)={ N with br:=[] }/\I N/\N.br=M.br:=by
 have c:M.act (acN 7 0)={ M.br.foldl (λM l=>M.oh l) M with br:=[] }:=by
  show M.rA=_;unfold Meet.rA;rw[Ie]
 have:=J6 d M.br (M:=M) (λm a=>⟨a,(b.br m a).src,(b.br m a).dst⟩) h;exact⟨_,c,this⟩
end
theorem Stp.sX{c:Nat}{M N:Meet}(s:Stp wh1 c M N)(j:Nat):(N.ae j).vo.p=(M.ae j).vo.p:=by
 have put:∀ {i:Nat} {p:Nod} {b:List Let} {f:List Tol},p.vo.p=(M.ae i).vo.p->((M.set i p b f).ae j).vo.p=(M.ae j).vo.p:=λ{i p b f} h=>by
  rw[An];split
  .rename_i e;rw[e];exact h
  .rfl
 cases s with
 | take _ l a hd hu ht=>exact False.elim ht
 | br _ b h hd=>exact False.elim hd
 | one _ i c hi hu hc he=>exact put (by unfold Nod.hZ;split<;>rfl)
 | ask _ i hi hu=>exact put (by
   unfold Nod.kc;split
   .rfl
   .split
    .unfold Nod.dT;split<;>rfl
    .rfl)
 | prop _ i hi hu=>exact put (by
   unfold Nod.cn;split
   .rfl
   .rename_i hc
    have a:(M.ae i).av.gC=(M.ae i).vo.p:=by
     have:(M.ae i).leads=true:=by cases hh:(M.ae i).leads with|true=>rfl|false=>exact absurd (.inl hh) hc
     exact(mZ this).2
    split
    .rfl
    .split
     .rfl
     .show((M.ae i).cl _).1.vo.p=_;unfold Nod.cl;split
      .rfl
      .split
       .exact a
       .split
        .rfl
        .exact a)
 | rC _ i hi hu h hT=>exact put rfl
 | run _ i hi hu q l hp hs=>exact put (by
   show((M.ae i).lr i q).vo.p=_;cases q<;>first|rfl|(simp only[Nod.lr];split<;>rfl)|(simp only[Nod.lr,Nod.count];split<;>first|rfl|(split<;>rfl)))
 | ry _ i hi hu hL=>exact put rfl
 | lead _ i hi hu hL=>exact False.elim hL
 | sub _ i d hi hu hD=>exact False.elim hD
 | lp _ i k hi hu hk hC=>exact False.elim hC
 | start _ i hi hu hs=>exact False.elim hs
theorem ME{i:Nat}(l:Let){j k:Nat}(a:j<k)(h:j≠i):{ l with src:=i,dst:=j }∈Ca i l k:=mS.2 ⟨j,pK.2 ⟨oc.2 a,O' h⟩,rfl⟩
section
variable{S:Cmd->Prop}{K:Int}{B:Nat->Bal}{cov:List (Bal × Nat)}
theorem Cm.drop{M:Meet}(h:Cm S K B cov M):Cm S K B cov { M with br:=[] }:=by
 obtain⟨σ,b,c⟩:=h.ex;exact⟨⟨σ,⟨b.gs,b.nd,λl a=>by cases a⟩,c⟩,h.kb,h.up,h.gC,⟨h.s.nd,λl a=>by cases a⟩⟩
def Gr8(K:Int)(p:Nod):Prop:=K<=5*p.cF+4\/K<=p.vo.p.key
theorem Gr8.ev{p q:Nod}(h:Gr8 K p)(e:Ev p q):Gr8 K q:=by
 have:=e.cF;have:=e.vo;unfold Gr8 at *;omega
theorem iT(P:∀ j,j<5->∀ s,s<40->(B j,s)∈cov){n:Nat}{M:Meet}(C:MOk n M)(hn:n+12<=1000000)(h:Cm S K B cov M){i:Nat}(Q:i<5){j:Nat}(f:j<5)(L:(M.ae j).vo.p.key=K){b:Bal}{vs:List Vt}(O:(M.ae i).vo.p=b)(u:Ab b)(hq:.began b vs∈(M.ae i).bu) :
  Gr8 K ((M.eb (Ao++Ao)).ae i):=by
 have W:∀ A:Meet,A.eb (Ao++Ao)=(((A.eb (AC 3 5)).act (acN 7 0)).eb (AC 3 5)).act (acN 7 0):=λA=>by
  rw[Az,show Ao=AC 3 5++[acN 7 0]from rfl,AI,AI]
 have a:∀ c A N,Stp wh1 c A N->Cm S K B cov A->Cm S K B cov N:=λc A N s g=>g.step P s.calm;have d:∀ A N,TkS A N->Cm S K B cov A->Cm S K B cov N:=λA N s g=>g.step P s.rN;have m:LacOk (acN 7 0):=by rw[<- DC];decide
 rw[W];by_cases D:Gr8 K (M.ae i)
 .-- it knows already
  have z:=Bm (I:=λN=>Cm S K B cov N/\Gr8 K (N.ae i)) (λc A N s g=>⟨a c A N s g.1,g.2.ev (s.calm.ev i)⟩) C (by omega) ⟨h,D⟩;obtain⟨N,F,x,_⟩:=Cv (I:=λN=>Cm S K B cov N/\Gr8 K (N.ae i)) (λA N s g=>⟨d A N s g.1,g.2.ev (s.rN.ev i)⟩) z.1 z.2;have t:=z.1.act (by omega) m;rw[F]at t ⊢
  have H:=Bm (I:=λN=>Cm S K B cov N/\Gr8 K (N.ae i)) (λc A N s g=>⟨a c A N s g.1,g.2.ev (s.calm.ev i)⟩) t (by omega) ⟨x.1.drop,x.2⟩;obtain⟨T,G,R,_⟩:=Cv (I:=λN=>Cm S K B cov N/\Gr8 K (N.ae i)) (λA N s g=>⟨d A N s g.1,g.2.ev (s.rN.ev i)⟩) H.1 H.2;rw[G];exact R.2
 .have hij:i≠j:=λe=>D (.inr (by rw[e,L];exact mA _));have a0:b.key<K:=by rw[<- O];unfold Gr8 at D;omega
  obtain⟨b0,o⟩:∃ b0,(M.ae j).vo.p=b0:=⟨_,rfl⟩;rw[o]at L
  have w:Aq b0:=by rw[<- o];exact(h.acc f).1
  have E:∀ A N,TkS A N->Cm S K B cov A->(A.ae j).vo.p=b0->(N.ae j).vo.p=b0:=λA N s g e=>by
   have X:=(s.rN.ev j).vo;have h2:=(d A N s g).le f;rw[e]at X
   exact DB ((d A N s g).acc f).1 w (by omega)
  have y:=Bm (I:=λN=>Cm S K B cov N/\(N.ae j).vo.p=b0) (λc A N s g=>⟨a c A N s g.1,(s.sX j).trans g.2⟩) C (by omega) ⟨h,o⟩;have U:=Fw (I:=λN=>Cm S K B cov N/\(N.ae i).vo.p=b) (J:=λN=>({ BJ 0 with gC:=b,src:=i,dst:=j }:Let)∈N.br) (λc A N s g=>⟨a c A N s g.1,(s.sX i).trans g.2⟩) (λc A N s _ g=>s.calm.rJ g) (λA k g v=>⟨g.1.up k v,g.1.sg v⟩) C (by omega) ⟨h,O⟩ Q hq (λN l g _ _=>by
   refine mD _ ?_;simp only[Nod.rm];rw[if_neg (λe=>e g.2)];exact ME { BJ 0 with gC:=b } f (Ne.symm hij))
  obtain⟨N,F,x,G,R⟩:=DG (I:=λN=>Cm S K B cov N/\(N.ae j).vo.p=b0) (J:=λN=>Pend.ed i b0∈(N.ae j).bu) (λA N s g=>⟨d A N s g.1,E A N s g.1 g.2⟩) (λA N s _ g=>by
   obtain⟨l,_,_,_,rfl⟩:=s;rw[An];split
   .rename_i e;rw[<- e];exact Hh g
   .exact g) y.1 y.2 U (λN g=>g.1.up j f) (λN g _=>by
   rw[An,if_pos rfl];have Y:Cn (N.ae j).vo b=7:=by
    unfold Cn;rw[if_neg (λe=>e (g.1.acc f)),if_neg (λe=>e u),if_pos (by rw[EZ u.pr (g.1.acc f).1,g.2];omega)]
   have Z:(N.ae j).au b=(N.ae j,[],7):=by unfold Nod.au;rw[Y,if_pos (by decide)]
   show Pend.ed i b0∈(if((N.ae j).au b).2.2≠0 then(N.ae j).ed i ((N.ae j).au b).2.2 else _).bu;rw[Z,if_pos (show(7:Int)≠0 by decide)];unfold Nod.ed;rw[if_pos rfl,<- g.2];exact mD _ (D'.2 rfl))
  have t:=y.1.act (by omega) m;rw[F]at t ⊢
  have c1:=Bm (I:=Cm S K B cov) a t (by omega) x.1.drop;have V:=Fw (I:=Cm S K B cov) (J:=λN=>({ BJ 2 with gC:=b0,src:=j,dst:=i }:Let)∈N.br) a (λc A N s _ g=>s.calm.rJ g) (λA k g v=>⟨g.up k v,g.sg v⟩) t (by omega) x.1.drop f (q:=.ed i b0) G (λN l g _ _=>mD _ (D'.2 rfl));obtain⟨T,k5,k6,k7,_⟩:=DG (I:=Cm S K B cov) (J:=λN=>Gr8 K (N.ae i)) d (λA N s _ g=>g.ev (s.rN.ev i)) c1.1 c1.2 V (λN g=>g.up i Q) (λN g _=>by
   rw[An,if_pos rfl];refine .inl ?_;show K<=5*max (N.ae i).cF b0.r+4;have:b0.key<=5*b0.r+4:=by unfold Aq Ab at w;unfold Bal.key;omega
   omega)
  rw[k5];exact k7
end
def P1(i:Nat)(p:Nod):Prop:=p.av.next=0/\∀ j,j≠i->p.av.rh j=false
theorem P1.uc{i:Nat}{p:Nod}(h:P1 i p):p.av.rz=false:=by
 unfold Rnd.rz J5;have k:=h.2;have g:∀ j,(p.av.rh j).toNat<=if j=i then 1 else 0:=λj=>by
  split
  .cases p.av.rh j<;>decide
  .rename_i e;rw[k j e];decide
 have a:=g 0;have b:=g 1;have c:=g 2;have d:=g 3;have f:=g 4;refine E' ?_;split at a<;>split at b<;>split at c<;>split at d<;>split at f<;>omega
theorem Stp.p1{c:Nat}{M N:Meet}(s:Stp wh1 c M N){i:Nat}(h:P1 i (M.ae i)):P1 i (N.ae i):=by
 have put:∀ {k:Nat} {p:Nod} {a:List Let} {m:List Tol},(i=k->P1 i p)->P1 i ((M.set k p a m).ae i):=λ{k p a m} g=>by
  rw[An];split
  .rename_i e;exact g e
  .exact h
 cases s with
 | take _ l hl hd hu ht=>exact False.elim ht
 | br _ a h hd=>exact False.elim hd
 | one _ k c hi hu hc he=>exact put λe=>by subst e;unfold Nod.hZ;split<;>exact h
 | ask _ k hi hu =>
  exact put λe=>by
   subst e;unfold Nod.kc;split
   .exact h
   .split
    .unfold Nod.dT;split<;>exact h
    .exact h
 | prop _ k hi hu =>
  exact put λe=>by
   subst e;unfold Nod.cn;rw[if_pos (.inr (.inl h.uc))];exact h
 | rC _ k hi hu hs hT=>exact put λe=>by subst e;exact h
 | run _ k hi hu q l hp hs =>
  exact put λe=>by
   subst e;show P1 i ((M.ae i).lr i q);cases q with
   | began b vs =>
    simp only[Nod.lr];split
    .exact h
    .exact⟨h.1,λj f=>by show upN (M.ae i).av.rh i true j=false;rw[Dv _ _ f];exact h.2 j f⟩
   | prop v =>
    simp only[Nod.lr,Nod.count];split
    .exact h
    .split<;>exact h
   | _=>exact h
 | ry _ k hi hu hL=>exact put λe=>by subst e;exact h
 | lead _ k hi hu hL=>exact False.elim hL
 | sub _ k d hi hu hD=>exact False.elim hD
 | lp _ k x hi hu hk hC=>exact False.elim hC
 | start _ k hi hu hs=>exact False.elim hs
theorem fx{i:Nat}{p:Nod}(h:P1 i p){l:Let}(c:l.kind=1->l.src≠i->l.gC≠p.av.gC):P1 i (p.take l):=by
 have f:∀ v,P1 i (p.cl v).1:=λv=>by
  unfold Nod.cl;split
  .exact h
  .split
   .exact h
   .split<;>exact h
 unfold Nod.take;split
 .split
  .unfold Nod.ed;split<;>exact h
  .show P1 i (p.au l.gC).1;unfold Nod.au;split
   .exact h
   .split
    .exact h
    .split<;>exact h
 .rename_i hk
  simp only;split
  .exact h
  .rename_i hc
   have b:l.gC=p.av.gC:=ng λe=>hc (.inr (.inl e));have d:l.src=i:=ng λe=>c hk e b;exact⟨h.1,λj a=>by show upN p.av.rh l.src true j=false;rw[Dv _ _ (by rw[d];exact a)];exact h.2 j a⟩
 .exact h
 .split
  .unfold Nod.ed;split<;>exact h
  .exact f _
 .unfold Nod.count;split
  .exact h
  .split<;>exact h
 .split<;>exact h
 .simp only;unfold Nod.dT;split<;>split<;>exact h
 .exact h
section
variable{S:Cmd->Prop}{K:Int}{B:Nat->Bal}{cov:List (Bal × Nat)}
theorem Cm.top(a:∀ j,j<5->∀ s,s<40->(B j,s)∈cov){c:Nat}{A N:Meet}(s:Stp wh0 c A N)(g:Cm S K B cov A){b:Bal}(h:Aq b)(k:b.key=K){j:Nat}(d:j<5)(e:(A.ae j).vo.p=b):(N.ae j).vo.p=b:=by
 have f:=(s.ev j).vo;have i:=(g.step a s).le d;rw[e]at f
 exact DB ((g.step a s).acc d).1 h (by omega)
theorem ey(D:∀ j,j<5->∀ s,s<40->(B j,s)∈cov)(hQ:14*K+38*(cov.length:Int)<=99000){n:Nat}{M:Meet}(Y:MOk n M)(hn:n+12<=1000000)(h:Cm S K B cov M){i:Nat}(L:i<5){b:Bal}(o:Ab b)(X:b.key=K)(hB:B i=b)(hv:(M.ae i).vo.p=b)(R:∀ j,j<5->j≠i->(M.ae j).vo.p.key<K){d:List Vt}(hq:.began b d∈(M.ae i).bu)(T:P1 i (M.ae i)) :
  Cm S K B cov (M.eb Ao)/\(∀ j,j<5->((M.eb Ao).ae j).vo.p=b)/\((M.eb Ao).ae i).av.rh i=true/\(∀ j,j<5->j≠i->∃ d,Pend.prom i b d∈((M.eb Ao).ae j).bu)/\P1 i ((M.eb Ao).ae i)/\(M.eb Ao).br=[]/\MOk (n+6) (M.eb Ao):=by
 have v:LacOk (acN 7 0):=by rw[<- DC];decide
 have t:∀ c A N,Stp wh1 c A N->Cm S K B cov A->Cm S K B cov N:=λc A N s g=>g.step D s.calm;have u:∀ A N,TkS A N->Cm S K B cov A->Cm S K B cov N:=λA N s g=>g.step D s.rN;have U:=Bm (I:=λN=>Cm S K B cov N/\(∀ j,(N.ae j).vo.p=(M.ae j).vo.p)/\P1 i (N.ae i)) (λc A N s g=>⟨t c A N s g.1,λj=>(s.sX j).trans (g.2.1 j),s.p1 g.2.2⟩) Y (by omega) ⟨h,λ_=>rfl,T⟩;have F:=Fw (I:=λN=>Cm S K B cov N/\(N.ae i).vo.p=b) (J:=λN=>(∀ j,j<5->j≠i->({ BJ 0 with gC:=b,src:=i,dst:=j }:Let)∈N.br)/\(N.ae i).av.rh i=true) (λc A N s g=>⟨t c A N s g.1,(s.sX i).trans g.2⟩) (λc A N s _ g=>⟨λj a e=>s.calm.rJ (g.1 j a e),(s.calm.ev i).rh i g.2⟩) (λA k g E=>⟨g.1.up k E,g.1.sg E⟩) Y (by omega) ⟨h,hv⟩ L hq (λN l g _ _=>by
  refine⟨λj a e=>mD _ ?_,?_⟩
  .simp only[Nod.rm];rw[if_neg (λe=>e g.2)];exact ME { BJ 0 with gC:=b } a e
  .rw[An,if_pos rfl];show((N.ae i).lr i (.began b d)).av.rh i=true;simp only[Nod.lr];rw[if_neg (λe=>e g.2)];exact Df _ _ _)
 rw[show Ao=AC 3 5++[acN 7 0]from rfl,AI];generalize M.eb (AC 3 5)=A at U F ⊢;obtain⟨z,f,r,H⟩:=U;have Q:∀ m∈A.br,m.kind=1->m.src≠i->m.gC≠b:=λm Z E hs e=>by
  obtain⟨σ,y,_⟩:=f.ex;have q:=(z.br m Z).src;have G:=((y.lt m Z).k1 E).1.le;have W:=(y.nd _ q).sh;unfold Nod.pk at W;rw[if_pos (f.up _ q),r]at W
  have h4:=R _ q hs;have h6:m.gC.key<=σ.P m.src:=G;rw[e]at h6
  omega
 obtain⟨N,k1,⟨k2,k3,k4,k5,k6⟩,k7⟩:=Cv (I:=λN=>Cm S K B cov N/\(N.ae i).vo.p=b/\P1 i (N.ae i)/\(N.ae i).av.rh i=true/\N.br=A.br) (λC N s g=>by
  refine⟨u C N s g.1,g.1.top D s.rN o.pr X L g.2.1,?_,(s.rN.ev i).rh i g.2.2.2.1,?_⟩
  .obtain⟨l,hl,_,_,rfl⟩:=s;rw[An];split
   .rename_i e
    rw[<- e];exact fx g.2.2.1 λy G=>by rw[g.1.gC i L,hB];exact Q l (by rw[<- g.2.2.2.2];exact hl) y G
   .exact g.2.2.1
  .obtain⟨l,hl,_,_,rfl⟩:=s;exact g.2.2.2.2) z ⟨f,(r i).trans hv,H,F.2,rfl⟩
 have a:∀ j,j<5->j≠i->((A.act (acN 7 0)).ae j).vo.p=b/\∃ d,Pend.prom i b d∈((A.act (acN 7 0)).ae j).bu:=λj a O=>by
  obtain⟨N',q1,q2,q3,_⟩:=DG (I:=Cm S K B cov) (J:=λN=>(N.ae j).vo.p=b/\∃ d,Pend.prom i b d∈(N.ae j).bu) u (λC N s g e=>⟨g.top D s.rN o.pr X a e.1,by
   obtain⟨d,V⟩:=e.2;refine⟨d,?_⟩;obtain⟨l,_,_,_,rfl⟩:=s;rw[An];split
   .rename_i e3;rw[<- e3];exact Hh V
   .exact V⟩) z f (F.1 j a O) (λN g=>g.up j a) (λN g _=>by
   rw[An,if_pos rfl];have a0:=g.le a;have x:=g.prom hQ a o (by rw[EZ o.pr (g.acc a).1];omega);have e:(N.ae j).take ({ BJ 0 with gC:=b,src:=i,dst:=j }:Let)=((N.ae j).au b).1.wait (.prom i b ((N.ae j).au b).2.1):=by
    show(if((N.ae j).au b).2.2≠0 then _ else _)=_;rw[if_neg (λg=>g x.1)]
   rw[e];exact⟨x.2,_,mD _ (D'.2 rfl)⟩)
  rw[q1];exact q3
 have w:=z.act (by omega) v;rw[k1]at a w ⊢
 exact⟨k2.drop,λj q=>by
  by_cases e:j=i
  .rw[e];exact k3
  .exact(a j q e).1,k5,λj q e=>(a j q e).2,k4,rfl,w⟩
end
section
theorem fE(f:Cmd->Option Bal)(c:Cmd)(b:Option Bal):Cb f c b c=b:=if_pos rfl
theorem Vl(f:Cmd->Option Bal){c d:Cmd}(b:Option Bal)(h:d≠c):Cb f c b d=f d:=if_neg h
theorem Ly{b:Bal}(p:b≠Ba)(l:List Cmd)(f:Cmd->Option Bal):(∀ c,c∉l->(AY b f l).2 c=f c)/\(∀ c∈l,(AY b f l).2 c=some b)/\(∀ c∈l,f c=some b\/c∈(AY b f l).1)/\∀ c∈(AY b f l).1,c∈l:=by
 induction l generalizing f with
 | nil=>exact⟨λ_ _=>rfl,λ_ h=>(by cases h),λ_ h=>(by cases h),λ_ h=>(by cases h)⟩
 | cons c l ih =>
  rw[AY];split
  .rename_i hc
   obtain⟨j,k,m,n⟩:=ih (Cb f c (some b));refine⟨λd a=>?_,λd a=>?_,λd a=>?_,λd a=>?_⟩
   .show(AY b (Cb f c (some b)) l).2 d=f d;rw[j d λe=>a (I' _ e),Vl _ _ λe=>a (by rw[e];exact M')]
   .show(AY b (Cb f c (some b)) l).2 d=some b;by_cases i:d∈l
    .exact k d i
    .rcases mJ.1 a with rfl|e
     .rw[j d i,fE]
     .exact absurd e i
   .rcases mJ.1 a with rfl|e
    .exact .inr M'
    .by_cases e2:d=c
     .rw[e2];exact .inr M'
     .rcases m d e with g|g
      .rw[Vl _ _ e2]at g;exact .inl g
      .exact .inr (I' _ g)
   .rcases mJ.1 a with rfl|e
    .exact M'
    .exact I' _ (n d e)
  .rename_i hc
   have o:f c=some b:=by
    have:=mE.1 hc;cases hh:f c with
    | none=>rw[hh]at this;exact absurd this.symm p
    | some x=>rw[hh]at this;exact congrArg some this
   obtain⟨j,k,m,n⟩:=ih f;refine⟨λd a=>j d λe=>a (I' _ e),λd a=>?_,λd a=>?_,λd a=>I' _ (n d a)⟩
   .by_cases i:d∈l
    .exact k d i
    .rcases mJ.1 a with rfl|e
     .rw[j d i];exact o
     .exact absurd e i
   .rcases mJ.1 a with rfl|e
    .exact .inl o
    .exact m d e
theorem Ig(l q:List Cmd)(h:q.Nodup):(Hk q l).Nodup:=by
 induction l generalizing q with
 | nil=>exact h
 | cons c l ih =>
  rw[Hk];refine ih _ ?_;split
  .rename_i hc
   exact oN.2 ⟨h,oO.2 ⟨P',og⟩,λx a y b e=>hc.2 (by rw[<- D'.1 b,<- e];exact a)⟩
  .exact h
theorem Qv{C:List Cmd}(j:C.length<40)(l q:List Cmd)(g:q.Nodup)(a:∀ c∈q,c∈C)(b:∀ c∈l,c∈C):∀ c∈l,c∈Hk q l:=by
 induction l generalizing q with
 | nil=>exact λc hc=>by cases hc
 | cons d l ih =>
  have f:=Pn g a;have i:=b d M';intro c hc;rw[Hk];have h:d∈(if q.length<40/\d∉q then q++[d]else q):=by
   by_cases e:d∈q
   .split
    .exact mG _ e
    .exact e
   .rw[if_pos ⟨by omega,e⟩];exact mD _ (D'.2 rfl)
  rcases mJ.1 hc with rfl|hc
  .exact(Qw l _).subset h
  .refine ih _ ?_ (λx hx=>?_) (λx hx=>b x (I' _ hx)) c hc
   .exact Ig [d] q g
   .split at hx
    .rcases U'.1 hx with hx|hx
     .exact a x hx
     .rw[D'.1 hx];exact i
    .exact a x hx
structure AskI(p:Nod):Prop where
 nd:p.bn.Nodup
 wa:∀ c,c∈p.bn↔(p.bN c).isSome=true
 le:∀ c x,p.bN c=some x->x.key<=p.vo.p.key
 un:∀ c∈p.bn,c∉p.ab.take p.done
 qn:p.av.fa.Nodup
 dn:p.done<=p.ab.length
theorem RC{α:Type}{l m:List α}{k:Nat}(h:l <+: m)(a:k<=l.length):m.take k=l.take k:=by obtain⟨x,rfl⟩:=h;exact na a
variable{M N:Meet}{p:Nod}
theorem AskI.pd{q:Nod}(h:AskI p)(e:Ev p q)(i:q.bn=p.bn/\q.bN=p.bN/\q.done=p.done)(f:q.av.fa.Nodup):AskI q:=by
 obtain⟨a,b,d⟩:=i;refine⟨by rw[a];exact h.nd,by rw[a,b];exact h.wa,λc x g=>mT (h.le c x (by rw[<- b];exact g)) e.vo,?_,f,by rw[d];exact mB h.dn e.ag.length_le⟩;rw[a,d,RC e.ag h.dn];exact h.un
theorem Bj(p:Nod)(b:Bal):((p.au b).1.bn=p.bn/\(p.au b).1.bN=p.bN/\(p.au b).1.done=p.done)/\(p.au b).1.av=p.av:=by
 unfold Nod.au;split
 .exact⟨⟨rfl,rfl,rfl⟩,rfl⟩
 .split
  .exact⟨⟨rfl,rfl,rfl⟩,rfl⟩
  .split<;>exact⟨⟨rfl,rfl,rfl⟩,rfl⟩
theorem CE(p:Nod)(v:Vt):((p.cl v).1.bn=p.bn/\(p.cl v).1.bN=p.bN/\(p.cl v).1.done=p.done)/\(p.cl v).1.av=p.av:=by
 unfold Nod.cl;split
 .exact⟨⟨rfl,rfl,rfl⟩,rfl⟩
 .split
  .exact⟨⟨rfl,rfl,rfl⟩,rfl⟩
  .split<;>exact⟨⟨rfl,rfl,rfl⟩,rfl⟩
theorem RB(p:Nod)(l:Let)(a:p.av.fa.Nodup):((p.take l).bn=p.bn/\(p.take l).bN=p.bN/\(p.take l).done=p.done)/\(p.take l).av.fa.Nodup:=by
 unfold Nod.take;split
 .split
  .unfold Nod.ed;split<;>exact⟨⟨rfl,rfl,rfl⟩,a⟩
  .have:=Bj p l.gC;exact⟨this.1,by show(p.au l.gC).1.av.fa.Nodup;rw[this.2];exact a⟩
 .simp only;split<;>exact⟨⟨rfl,rfl,rfl⟩,a⟩
 .exact⟨⟨rfl,rfl,rfl⟩,a⟩
 .split
  .unfold Nod.ed;split<;>exact⟨⟨rfl,rfl,rfl⟩,a⟩
  .have:=CE p l.cl;exact⟨this.1,by show(p.cl l.cl).1.av.fa.Nodup;rw[this.2];exact a⟩
 .unfold Nod.count;split
  .exact⟨⟨rfl,rfl,rfl⟩,a⟩
  .split<;>exact⟨⟨rfl,rfl,rfl⟩,a⟩
 .split<;>exact⟨⟨rfl,rfl,rfl⟩,a⟩
 .simp only;unfold Nod.dT;split<;>split<;>first|exact⟨⟨rfl,rfl,rfl⟩,a⟩|exact⟨⟨rfl,rfl,rfl⟩,Ig _ _ a⟩
 .exact⟨⟨rfl,rfl,rfl⟩,a⟩
theorem AskI.kc(h:AskI p)(i:Nat)(q:0<=p.vo.p.key):AskI (p.kc i).1:=by
 have key:∀ (l:List Cmd) (f:Cmd->Option Bal),(∀ c,c∈l->(f c).isSome=true)->(∀ c,((AY p.vo.p f l).2 c).isSome=(f c).isSome)/\∀ c x,(AY p.vo.p f l).2 c=some x->f c=some x\/x=p.vo.p:=by
  intro l;induction l with
  | nil=>exact λf _=>⟨λ_=>rfl,λ_ _ g=>.inl g⟩
  | cons c l ih =>
   intro f j;rw[AY];split
   .have hu:∀ d,(Cb f c (some p.vo.p) d).isSome=(f d).isSome:=λd=>by
     unfold Cb;split
     .rename_i e;rw[e,j c M'];rfl
     .rfl
    obtain⟨a,k⟩:=ih (Cb f c (some p.vo.p)) λd b=>by rw[hu];exact j d (I' _ b)
    refine⟨λd=>(a d).trans (hu d),λd x g=>?_⟩;rcases k d x g with g|g
    .unfold Cb at g;split at g
     .exact .inr (nh g).symm
     .exact .inl g
    .exact .inr g
   .exact ih f λd b=>j d (I' _ b)
 obtain⟨n,o⟩:=key (p.bn.take 40) p.bN λc m=>(h.wa c).1 (mP m);have a:AskI { p with bN:=(AY p.vo.p p.bN (p.bn.take 40)).2 }:=⟨h.nd,λc=>by show _↔((AY p.vo.p p.bN (p.bn.take 40)).2 c).isSome=true;rw[n];exact h.wa c,λc x g=>by
  rcases o c x g with g|g
  .exact h.le c x g
  .rw[g];exact mA _,h.un,h.qn,h.dn⟩
 unfold Nod.kc;split
 .exact a
 .split
  .refine a.pd (.tJ _ _) ?_ ?_
   .unfold Nod.dT;split<;>exact⟨rfl,rfl,rfl⟩
   .unfold Nod.dT;split
    .exact Ig _ _ h.qn
    .exact h.qn
  .exact a
theorem AskI.one(h:AskI p){c:Cmd}(b:p.ab[p.done]?=some c)(s:Sto):AskI (Nod.hZ { p with ni:=s,done:=p.done+1 } c):=by
 have f:=(V'.1 b).1;have i:p.ab.take (p.done+1)=p.ab.take p.done++[c]:=by rw[pm,b];rfl
 unfold Nod.hZ;split
 .refine⟨h.nd.erase c,λd=>?_,λd x g=>?_,λd a=>?_,h.qn,f⟩
  .show d∈p.bn.erase c↔(Cb p.bN c none d).isSome=true;rw[h.nd.mem_erase_iff];unfold Cb;split
   .rename_i e;simp[e]
   .rename_i e;rw[h.wa d];simp[e]
  .have g:Cb p.bN c none d=some x:=g;unfold Cb at g;split at g
   .cases g
   .exact h.le d x g
  .have a:d∈p.bn.erase c:=a;rw[h.nd.mem_erase_iff]at a
   show d∉p.ab.take (p.done+1);rw[i];intro e;rcases U'.1 e with e|e
   .exact h.un d a.2 e
   .exact a.1 (D'.1 e)
 .rename_i hn
  refine⟨h.nd,h.wa,h.le,λd a=>?_,h.qn,f⟩;show d∉p.ab.take (p.done+1);rw[i];intro e;rcases U'.1 e with e|e
  .exact h.un d a e
  .rw[D'.1 e]at a
   exact hn ((h.wa c).1 a)
theorem AskI.want(h:AskI p){c:Cmd}(b:c∉p.ab.take p.done)(a:0<=p.vo.p.key):AskI (p.want c):=by
 unfold Nod.want;split
 .exact h
 .rename_i hn
  have f:c∉p.bn:=λe=>hn ((h.wa c).1 e);refine⟨oN.2 ⟨h.nd,oO.2 ⟨P',og⟩,λx i y j e=>f (by rw[<- D'.1 j,<- e];exact i)⟩,λd=>?_,λd x g=>?_,λd hd=>?_,h.qn,h.dn⟩
  .show d∈p.bn++[c]↔(Cb p.bN c (some Ba) d).isSome=true;unfold Cb;split
   .rename_i e;simp[e]
   .rename_i e;rw[<- h.wa d];simp[e]
  .have g:Cb p.bN c (some Ba) d=some x:=g;unfold Cb at g;split at g
   .rw[<- nh g];exact a
   .exact h.le d x g
  .rcases U'.1 hd with hd|hd
   .exact h.un d hd
   .rw[D'.1 hd];exact b
theorem AskI.bare(p:Nod)(u:Bool)(d:List Int)(s:Int)(a:Acc)(x:List Pend):AskI (p.bare u d s a x):=⟨og,λc=>⟨λe=>(by cases e),λe=>(by cases e)⟩,λc x e=>(by cases e),λc e=>(by cases e),og,A' _⟩
theorem AskI.step{D:Wh}{c:Nat}(s:Stp D c M N){σ:Gs}(g:AgI σ M)(h:∀ j,j<5->AskI (M.ae j)):∀ j,j<5->AskI (N.ae j):=by
 intro j i;have put:∀ {k:Nat} {p:Nod} {f:List Let} {o:List Tol},(k<5->AskI p)->AskI ((M.set k p f o).ae j):=λ{k p f o} e=>by
  rw[An];split
  .rename_i e2;exact e (by omega)
  .exact h j i
 have pos:∀ {k:Nat},k<5->(M.ae k).up=true->0<=(M.ae k).vo.p.key:=λ{k} m a=>by
  obtain⟨t,q⟩:=(g.nd k m).up a;have n:=q.tp.ok.acc.1;rw[<- q.tp.vo]at n
  unfold Aq Ab at n;unfold Bal.key;omega
 cases s with
 | take _ l hl hd a ht =>
  have:=RB (M.ae l.dst) l (h _ hd.2).qn;exact put λ_=>(h _ hd.2).pd (.take _ l) this.1 this.2
 | br _ f hl hd=>exact h j i
 | one _ k c hi a hc he=>exact put λ_=>(h k hi).one hc _
 | ask _ k hi a=>exact put λ_=>(h k hi).kc k (pos hi a)
 | prop _ k hi a =>
  refine put λ_=>(h k hi).pd (.cn _) ?_ ?_
  .unfold Nod.cn;split
   .exact⟨rfl,rfl,rfl⟩
   .split
    .exact⟨rfl,rfl,rfl⟩
    .split
     .exact⟨rfl,rfl,rfl⟩
     .exact(CE (M.ae k) _).1
  .unfold Nod.cn;split
   .exact(h k hi).qn
   .split
    .exact(h k hi).qn
    .split<;>exact(h k hi).qn
 | rC _ k hi a hs hT=>exact put λ_=>⟨(h k hi).nd,(h k hi).wa,(h k hi).le,(h k hi).un,(h k hi).qn,(h k hi).dn⟩
 | run _ k hi a q l hp hs =>
  refine put λ_=>(h k hi).pd ((Ev.lr _ k q).bu l) ?_ ?_
  .show((M.ae k).lr k q).bn=_/\((M.ae k).lr k q).bN=_/\((M.ae k).lr k q).done=_;cases q<;>first|exact⟨rfl,rfl,rfl⟩|(simp only[Nod.lr];split<;>exact⟨rfl,rfl,rfl⟩)|(simp only[Nod.lr,Nod.count];split<;>first|exact⟨rfl,rfl,rfl⟩|(split<;>exact⟨rfl,rfl,rfl⟩))
  .show((M.ae k).lr k q).av.fa.Nodup;have:=(h k hi).qn;cases q<;>first|exact this|(simp only[Nod.lr];split<;>exact this)|(simp only[Nod.lr,Nod.count];split<;>first|exact this|(split<;>exact this))
 | ry _ k hi a hL=>exact put λ_=>⟨(h k hi).nd,(h k hi).wa,(h k hi).le,(h k hi).un,(h k hi).qn,(h k hi).dn⟩
 | lead _ k hi a hL =>
  refine put λ_=>?_;unfold Nod.lead;simp only;split
  .exact h k hi
  .generalize (⟨max (M.ae k).cF (M.ae k).vo.p.r+1,(k:Int)⟩:Bal)=b;have e:=Bj (M.ae k) b;have q:=(h k hi).pd (.au _ b) e.1 (by rw[e.2];exact(h k hi).qn);exact⟨q.nd,q.wa,q.le,q.un,og,q.dn⟩
 | sub _ k d hi a hD =>
  refine put λ_=>?_;unfold Nod.rK Nod.rL;split
  .exact h k hi
  .split
   .exact⟨(h k hi).nd,(h k hi).wa,(h k hi).le,(h k hi).un,(h k hi).qn,(h k hi).dn⟩
   .split
    .exact h k hi
    .rename_i hc;exact(h k hi).want hc (pos hi a)
 | lp _ k x hi a m hC =>
  refine put λ_=>?_;unfold Nod.lp;split
  .exact h k hi
  .exact .bare _ _ _ _ _ _
 | start _ k hi a hs =>
  refine put λ_=>?_;unfold Nod.start;split
  .exact h k hi
  .split<;>exact .bare _ _ _ _ _ _
theorem AskI.zero:∀ j,j<5->AskI (AH.ae j):=λj _=>AskI.bare Da true [] 0 DU []
theorem Stp.bN{n:Nat}(s:Stp wh0 n M N){j:Nat}{c:Cmd}{x:Bal}(h:(N.ae j).bN c=some x):(M.ae j).bN c=some x\/(j<5/\N=M.set j ((M.ae j).kc j).1 (M.br++((M.ae j).kc j).2) M.ew):=by
 have put:∀ {k:Nat} {p:Nod} {a:List Let} {b:List Tol},((M.set k p a b).ae j).bN c=some x->(p.bN c=some x->(M.ae k).bN c=some x)->(M.ae j).bN c=some x:=λ{k p a b} g e=>by
  rw[An]at g
  split at g
  .rename_i e2;rw[e2];exact e g
  .exact g
 cases s with
 | take _ l hl hd hu ht =>
  refine .inl (put h λg=>?_);rw[show((M.ae l.dst).take l).bN=(M.ae l.dst).bN from ?_]at g
  .exact g
  .unfold Nod.take;split
   .split
    .unfold Nod.ed;split<;>rfl
    .exact(Bj _ _).1.2.1
   .simp only;split<;>rfl
   .rfl
   .split
    .unfold Nod.ed;split<;>rfl
    .exact(CE _ _).1.2.1
   .unfold Nod.count;split
    .rfl
    .split<;>rfl
   .split<;>rfl
   .simp only;unfold Nod.dT;split<;>split<;>rfl
   .rfl
 | br _ a hl hd=>exact False.elim hd
 | one _ k d hi hu hc he =>
  refine .inl (put h λg=>?_);unfold Nod.hZ at g;split at g
  .have g:Cb (M.ae k).bN d none c=some x:=g;unfold Cb at g;split at g
   .cases g
   .exact g
  .exact g
 | ask _ k hi hu =>
  by_cases e:j=k
  .subst e;exact .inr ⟨hi,rfl⟩
  .rw[An,if_neg e]at h;exact .inl h
 | prop _ k hi hu =>
  refine .inl (put h λg=>?_);unfold Nod.cn at g;split at g
  .exact g
  .split at g
   .exact g
   .split at g
    .exact g
    .have g:((M.ae k).cl _).1.bN c=some x:=g;rw[(CE _ _).1.2.1]at g;exact g
 | rC _ k hi hu hs hT=>exact .inl (put h λg=>g)
 | run _ k hi hu q l hp hs =>
  refine .inl (put h λg=>?_);have g:((M.ae k).lr k q).bN c=some x:=g;rw[show((M.ae k).lr k q).bN=(M.ae k).bN from ?_]at g
  .exact g
  .cases q<;>first|rfl|(simp only[Nod.lr];split<;>rfl)|(simp only[Nod.lr,Nod.count];split<;>first|rfl|(split<;>rfl))
 | ry _ k hi hu hL=>exact .inl (put h λg=>g)
 | lead _ k hi hu hL=>exact False.elim hL
 | sub _ k d hi hu hD=>exact False.elim hD
 | lp _ k y hi hu hk hC=>exact False.elim hC
 | start _ k hi hu hs=>exact False.elim hs
end
section
variable{C:List Cmd}{K:Int}{B:Nat->Bal}{cov:List (Bal × Nat)}{i:Nat}{b:Bal}
structure PhB(C:List Cmd)(K:Int)(B:Nat->Bal)(cov:List (Bal × Nat))(i:Nat)(b:Bal)(M:Meet):Prop where
 cm:Cm (λc=>c∈C) K B cov M
 ak:∀ j,j<5->AskI (M.ae j)
 vi:(M.ae i).vo.p=b
structure PhC(C:List Cmd)(K:Int)(B:Nat->Bal)(cov:List (Bal × Nat))(i:Nat)(b:Bal):Prop where
 hc:∀ j,j<5->∀ s,s<40->(B j,s)∈cov
 hC:C.length<40
 hi:i<5
 hb:Ab b
 hn:b.n=(i:Int)
 hB:B i=b
 hK:b.key=K
theorem PhB.step(a:PhC C K B cov i b){n:Nat}{M N:Meet}(s:Stp wh0 n M N)(h:PhB C K B cov i b M):PhB C K B cov i b N:=by
 obtain⟨σ,g,_⟩:=h.cm.ex;exact⟨h.cm.step a.hc s,AskI.step s g h.ak,h.cm.top a.hc s a.hb.pr a.hK a.hi h.vi⟩
theorem PhB.leads(a:PhC C K B cov i b){M:Meet}(h:PhB C K B cov i b M):(M.ae i).leads=true:=by
 have c:=a.hb;unfold Nod.leads;refine O' ⟨?_,?_⟩
 .rw[h.cm.gC i a.hi,a.hB];intro e;rw[e]at c
  exact absurd c (by decide)
 .rw[h.cm.gC i a.hi,a.hB,h.vi]
def QA(i:Nat)(b:Bal)(M:Meet):Prop:=∀ j,j<5->∀ c,(M.ae j).bN c=some b->c∈(M.ae i).av.fa\/∃ m∈M.br,m.kind=6/\m.dst=i/\c∈m.fv
theorem QA.step(t:PhC C K B cov i b){n:Nat}{M N:Meet}(s:Stp wh0 n M N)(h:PhB C K B cov i b M)(q:QA i b M):QA i b N:=by
 intro j x c a;have z:b≠Ba:=λe=>by have:=t.hb;rw[e]at this;exact absurd this (by decide)
 by_cases e:(M.ae j).bN c=some b
 .rcases q j x c e with g|⟨m,g1,g2⟩
  .exact .inl ((s.ev i).qu.subset g)
  .exact .inr ⟨m,s.rJ g1,g2⟩
 .rcases s.bN a with g|⟨_,rfl⟩
  .exact absurd g e
  .rw[An,if_pos rfl]at a
   have E:=h.ak j x;have y:(AY (M.ae j).vo.p (M.ae j).bN ((M.ae j).bn.take 40)).2 c=some b:=by
    unfold Nod.kc at a;split at a
    .exact a
    .split at a
     .unfold Nod.dT at a;split at a<;>exact a
     .exact a
   have r:(M.ae j).vo.p=b/\c∈(M.ae j).bn.take 40:=by
    have key:∀ (l:List Cmd) (f:Cmd->Option Bal) (p:Bal),(AY p f l).2 c=some b->f c=some b\/(p=b/\c∈l):=by
     intro l;induction l with
     | nil=>exact λf p g=>.inl g
     | cons d l ih =>
      intro f p g;rw[AY]at g
      split at g
      .rcases ih _ p g with k|k
       .unfold Cb at k;split at k
        .rename_i e;exact .inr ⟨nh k,by rw[e];exact M'⟩
        .exact .inl k
       .exact .inr ⟨k.1,I' _ k.2⟩
      .exact(ih f p g).imp id λk=>⟨k.1,I' _ k.2⟩
    exact(key _ _ _ y).resolve_left e
   obtain⟨r,H⟩:=r;have D:=Ly z ((M.ae j).bn.take 40) (M.ae j).bN;have o:c∈(AY (M.ae j).vo.p (M.ae j).bN ((M.ae j).bn.take 40)).1:=by rw[r];exact(D.2.2.1 c H).resolve_left e
   have u:¬ (AY (M.ae j).vo.p (M.ae j).bN ((M.ae j).bn.take 40)).1=[]:=λg=>by rw[g]at o;cases o
   have v:∀ d∈(AY (M.ae j).vo.p (M.ae j).bN ((M.ae j).bn.take 40)).1,d∈C:=λd w=>by
    rw[r]at w
    exact(h.cm.s.nd j x).wa d (mP (D.2.2.2 d w))
   by_cases A:j=i
   .subst A;refine .inl ?_;rw[An,if_pos rfl];unfold Nod.kc;rw[if_neg u,if_pos (by rw[r];exact t.hn)];have F:({ M.ae j with bN:=(AY (M.ae j).vo.p (M.ae j).bN ((M.ae j).bn.take 40)).2 }:Nod).leads=true:=h.leads t;unfold Nod.dT;rw[if_pos F];exact Qv t.hC _ _ E.qn (λd w=>(h.cm.s.nd j x).qu d w) v c o
   .refine .inr ?_;have G:¬ (M.ae j).vo.p.n=(j:Int):=by rw[r,t.hn];omega
    unfold Nod.kc;rw[if_neg u,if_neg G];refine⟨_,mD _ (D'.2 rfl),rfl,?_,o⟩;show(M.ae j).vo.p.n.toNat=i;rw[r,t.hn];exact nz i
theorem Rj(a:PhC C K B cov i b){n:Nat}{M:Meet}(E:MOk n M)(L:n+6<=1000000)(h:PhB C K B cov i b M)(q:QA i b M):PhB C K B cov i b (M.eb Ao)/\(∀ j,j<5->∀ c,((M.eb Ao).ae j).bN c=some b->c∈((M.eb Ao).ae i).av.fa)/\(M.eb Ao).br=[]/\MOk (n+6) (M.eb Ao):=by
 have v:∀ A N,TkS A N->PhB C K B cov i b A->PhB C K B cov i b N:=λA N s g=>g.step a s.rN;have z:=Bm (I:=λN=>PhB C K B cov i b N/\QA i b N) (λc A N s g=>⟨g.1.step a s.calm,g.2.step a s.calm g.1⟩) E (by omega) ⟨h,q⟩;rw[show Ao=AC 3 5++[acN 7 0]from rfl,AI];generalize M.eb (AC 3 5)=A at z ⊢;obtain⟨p,k,u⟩:=z;have y:=p.act (by omega) (x:=acN 7 0) (by rw[<- DC];decide);have t:∀ j,j<5->∀ c,((A.act (acN 7 0)).ae j).bN c=some b->c∈((A.act (acN 7 0)).ae i).av.fa:=λj G c r=>by
  obtain⟨N,f,o,_⟩:=Cv (I:=λN=>PhB C K B cov i b N/\(N.ae j).bN c=(A.ae j).bN c) (λD N s g=>⟨v D N s g.1,by
   obtain⟨l,_,w,_,rfl⟩:=s;rw[An];split
   .rename_i e
    rw[(RB (D.ae l.dst) l (g.1.ak _ w.2).qn).1.2.1,<- e];exact g.2
   .exact g.2⟩) p ⟨k,rfl⟩
  rw[f]at r
  have r:(N.ae j).bN c=some b:=r;rw[o.2]at r
  rcases u j G c r with g|⟨m,g1,g2,g3,g4⟩
  .obtain⟨N,f,o,_⟩:=Cv (I:=λN=>c∈(N.ae i).av.fa) (λD N s g=>(s.rN.ev i).qu.subset g) p g;rw[f];exact o
  .obtain⟨N,f,_,k3,_⟩:=DG (I:=PhB C K B cov i b) (J:=λN=>c∈(N.ae i).av.fa) v (λD N s _ g=>(s.rN.ev i).qu.subset g) p k g1 (λN g=>g.cm.up _ (by rw[g3];exact a.hi)) (λN g e=>by
    have F:=(g.cm.s.lt m (by rw[e];exact g1)).wh;rw[g3,An,if_pos rfl];have H:c∈((N.ae i).dT m.fv).av.fa:=by
     unfold Nod.dT;rw[if_pos (g.leads a)];exact Qv a.hC _ _ (g.ak i a.hi).qn (λd w=>(g.cm.s.nd i a.hi).qu d w) F c g4
    unfold Nod.take;rw[g2];simp only;split<;>exact H)
   rw[f];exact k3
 obtain⟨N,f,o,_⟩:=Cv (I:=PhB C K B cov i b) v p k;refine⟨?_,t,by rw[f],y⟩;rw[f];exact⟨o.cm.drop,o.ak,o.vi⟩
theorem WB(a:PhC C K B cov i b){n:Nat}{M:Meet}(t:MOk n M)(I:n+6<=1000000)(h:PhB C K B cov i b M){j:Nat}(y:j<5){H:List Vt}(E:Pend.prom i b H∈(M.ae j).bu):((M.eb Ao).ae i).av.rh j=true:=by
 have x:∀ A N,TkS A N->PhB C K B cov i b A->PhB C K B cov i b N:=λA N s g=>g.step a s.rN;have d:∀ c A N,Stp wh1 c A N->PhB C K B cov i b A->PhB C K B cov i b N:=λc A N s g=>g.step a s.calm;have f:=Bm d t (by omega) h;have q:=Fw (J:=λN=>∃ m∈N.br,m.kind=1/\m.src=j/\m.dst=i/\m.gC=b) d (λc A N s _ ⟨m,o,p⟩=>⟨m,s.calm.rJ o,p⟩) (λA k g u=>⟨g.cm.up k u,g.cm.sg u⟩) t (by omega) h y E (λN l g _ _=>⟨_,mD _ (D'.2 rfl),rfl,rfl,rfl,rfl⟩);rw[show Ao=AC 3 5++[acN 7 0]from rfl,AI];generalize M.eb (AC 3 5)=A at f q ⊢;obtain⟨m,o,p,v,r,w⟩:=q;obtain⟨N,F,_,G,_⟩:=DG (J:=λN=>(N.ae i).av.rh j=true) x (λD N s _ g=>(s.rN.ev i).rh j g) f.1 f.2 o (λN g=>g.cm.up _ (by rw[r];exact a.hi)) (λN g e=>by
  rw[r,An,if_pos rfl];have z:((N.ae i).ln 0 m.fv).leads=true:=g.leads a;unfold Nod.take;rw[p];simp only;rw[v,w];split
  .rename_i hc
   rcases hc with hc|hc|hc
   .rw[z]at hc;cases hc
   .exact absurd (show b=(N.ae i).av.gC by rw[g.cm.gC i a.hi,a.hB]) hc
   .exact hc
  .exact Df _ _ _)
 rw[F];exact G
end
theorem Uz(i:Nat)(l:List Cmd)(p:Nod)(a:List Tol):(rD i l p a).1.av=p.av/\(rD i l p a).1.ab=p.ab:=by
 induction l generalizing p a with
 | nil=>exact⟨rfl,rfl⟩
 | cons c l ih =>
  rw[rD];split
  .exact⟨rfl,rfl⟩
  .have h1:=ih (Nod.hZ { p with ni:=doS p.ni c,done:=p.done+1 } c) (if(p.bN c).isSome=true then a++[⟨i,c.c,c.s,doC p.ni c,doA p.ni c⟩]else a);have b:(Nod.hZ { p with ni:=doS p.ni c,done:=p.done+1 } c).av=p.av/\(Nod.hZ { p with ni:=doS p.ni c,done:=p.done+1 } c).ab=p.ab:=by unfold Nod.hZ;split<;>exact⟨rfl,rfl⟩
   exact⟨h1.1.trans b.1,h1.2.trans b.2⟩
theorem Ix{D:Wh}{i:Nat}(c:i<5){M:Meet}(t:(M.ae i).up=true):∃ M0,Sts D 0 M M0/\(M0.ae i).up=true/\(M0.ae i).av=(M.ae i).av/\(M0.ae i).ab=(M.ae i).ab /\
  ∃ M1,M1=M0.set i ((M0.ae i).kc i).1 (M0.br++((M0.ae i).kc i).2) M0.ew/\(M1.ae i).up=true/\Sts D 0 M0 M1/\Sts D 0 (M1.set i (M1.ae i).cn M1.br M1.ew) (M.act (acN 3 (i:Int))):=by
 rw[Hg t];have w:Sts D 0 M (M.set i (M.ae i) M.br M.ew):=by rw[EL];exact .nil 0 M
 obtain⟨p,h⟩:=Sts.rD c _ (M.ae i) w t rfl;have q:=Uz i ((M.ae i).ab.drop (M.ae i).done) (M.ae i) M.ew;unfold Nod.piece;simp only;generalize Go.Proofs.YtgbabbapcibnlaaGreatDoor.rD i ((M.ae i).ab.drop (M.ae i).done) (M.ae i) M.ew=a at p h q ⊢;refine⟨_,p,by rw[B1];exact h,by rw[B1];exact q.1,by rw[B1];exact q.2,?_⟩;have e:=B1 M i a.1 M.br a.2;have s:=Stp.ask (D:=D) (M.set i a.1 M.br a.2) i c (by rw[e];exact h);have l:=(I7 a.1 i).trans h;rw[e,Ck]at s
 refine⟨M.set i (a.1.kc i).1 (M.br++(a.1.kc i).2) a.2,by rw[e,Ck];rfl,by rw[B1];exact l,s.s,?_⟩;show Sts D 0 ((M.set i (a.1.kc i).1 (M.br++(a.1.kc i).2) a.2).set i ((M.set i (a.1.kc i).1 (M.br++(a.1.kc i).2) a.2).ae i).cn (M.br++(a.1.kc i).2) a.2) _;clear e s p;generalize (a.1.kc i)=b at l ⊢;rw[B1,Ck];have g:=(Ex b.1).trans l;show Sts D 0 (M.set i b.1.cn (M.br++b.2) a.2) _;generalize b.1.cn=r at g ⊢;generalize M.br++b.2=k at ⊢;have j:Sts D 0 (M.set i r k a.2) (M.set i (r.nr i k).1 (r.nr i k).2 a.2)/\(r.nr i k).1.up=true:=by
  unfold Nod.nr;split
  .exact⟨.nil 0 _,g⟩
  .rename_i hn
   have e:=B1 M i r k a.2;unfold Nod.rC;split
   .rename_i h1
    have m:Dd r.d r.sy=0:=mE.1 λe=>hn ⟨h1,e⟩;have o:AO r.d r.sy:=by
     unfold Dd at m;split at m
     .assumption
     .cases m
    have s:=Stp.rC (D:=D) (M.set i r k a.2) i c (by rw[e];exact g) (by rw[e];exact h1) (by rw[e];exact o);rw[e,Ck]at s
    have u:Hr r.d r.sy=r.d:=if_pos o;have v:I0 r.d r.sy=(r.d.length:Int):=if_pos o;rw[u,v];have:=Sts.ov (D:=D) (n:=0) (M:=M.set i r k a.2) (ls:=k) (ts:=a.2) c r.bu { r with sy:=(r.d.length:Int),bu:=[] } (by rw[Ck];exact(Sts.nil 0 _).s0 s) g rfl (qv _);rw[Ck]at this
    exact this
   .rename_i h1
    have:=Sts.ov (D:=D) (n:=0) (M:=M.set i r k a.2) (ls:=k) (ts:=a.2) c r.bu { r with bu:=[] } (by rw[Ck];exact .nil 0 _) g rfl h1;rw[Ck]at this
    exact this
 generalize r.nr i k=f at j ⊢;unfold Nod.bw;split
 .rename_i hL
  have e:=B1 M i f.1 f.2 a.2;have s:=Stp.ry (D:=D) (M.set i f.1 f.2 a.2) i c (by rw[e];exact j.2) (by rw[e];exact hL);rw[e,Ck]at s
  exact j.1.s0 s
 .exact j.1
section
variable{C:List Cmd}{K:Int}{B:Nat->Bal}{cov:List (Bal × Nat)}{i:Nat}{b:Bal}
theorem eD(a:PhC C K B cov i b)(d:14*K+38*(cov.length:Int)<=99000){M:Meet}(h:PhB C K B cov i b M)(j:(M.ae i).av.rz=true)(n:(M.ae i).av.next<=(M.ae i).ab.length){c:Cmd}(f:(M.ae i).rj (M.ae i).ab.length=some c)(l:Ah ⟨((M.ae i).ab.length:Int),b,c⟩) :
  (M.ae i).cn.av.next=(M.ae i).ab.length+1/\Pend.prop ⟨((M.ae i).ab.length:Int),b,c⟩∈(M.ae i).cn.bu:=by
 have e:(M.ae i).av.gC=b:=(h.cm.gC i a.hi).trans a.hB;have k:=h.leads a;have m:=h.cm.sY d a.hi l (λg=>by
  have:b.lt (M.ae i).vo.p:=g;rw[h.vi]at this
  unfold Bal.lt at this;omega)
 unfold Nod.cn;rw[if_neg (λg=>by
  rcases g with g|g|g
  .rw[k]at g;cases g
  .rw[j]at g;cases g
  .omega),f]
 simp only;rw[e,if_neg (λg=>g m.1)];exact⟨rfl,mD _ (D'.2 rfl)⟩
theorem Xv(f:PhC C K B cov i b)(e:14*K+38*(cov.length:Int)<=99000){M:Meet}(h:PhB C K B cov i b M){j:Nat}(a:j<5){v:Vt}(c:Ah v)(o:v.b=b){l:Let}(k:l.kind=3)(m:l.cl=v):Pend.voted l.src v∈((M.ae j).take l).bu:=by
 have n:=h.cm.le a;have d:=h.cm.sY e a c (by rw[EZ c.2.1.pr (h.cm.acc a).1,o,f.hK];omega);unfold Nod.take;rw[k];simp only;rw[m,if_neg (λg=>g d.1)];exact mD _ (D'.2 rfl)
end
section
def NB(p:Nod):Prop:=∀ b vs,Pend.began b vs∉p.bu
variable{M N:Meet}{c j:Nat}{p q:Nod}{v:Vt}
theorem NB.snoc(h:NB p){x:Pend}(e:q.bu=p.bu++[x])(a:∀ b vs,Pend.began b vs≠x):NB q:=λb vs g=>by
 rw[e]at g
 rcases U'.1 g with g|g
 .exact h b vs g
 .exact a b vs (D'.1 g)
theorem NB.same(h:NB p)(e:q.bu=p.bu):NB q:=λb a g=>h b a (by rw[<- e];exact g)
theorem ZQ(p:Nod)(b:Bal):(p.au b).1.bu=p.bu:=by
 unfold Nod.au;split
 .rfl
 .split
  .rfl
  .split<;>rfl
theorem RJ(p:Nod)(v:Vt):(p.cl v).1.bu=p.bu:=by
 unfold Nod.cl;split
 .rfl
 .split
  .rfl
  .split<;>rfl
theorem iV(p:Nod)(b:Bal):(p.au b).1.ab=p.ab:=by
 unfold Nod.au;split
 .rfl
 .split
  .rfl
  .split<;>rfl
theorem j4(p:Nod)(v:Vt):(p.cl v).1.ab=p.ab:=by
 unfold Nod.cl;split
 .rfl
 .split
  .rfl
  .split<;>rfl
theorem NB.ed(h:NB p)(to:Nat)(e:Int):NB (p.ed to e):=by
 unfold Nod.ed;split
 .exact h.snoc rfl (λ_ _ g=>by cases g)
 .exact h
theorem Sr(p:Nod)(j:Nat)(v:Vt):(p.count j v).bu=p.bu:=by
 unfold Nod.count;split
 .rfl
 .split<;>rfl
theorem Oi(p:Nod)(l:List Cmd):(p.dT l).bu=p.bu:=by unfold Nod.dT;split<;>rfl
theorem NB.take(h:NB p)(l:Let):NB (p.take l):=by
 unfold Nod.take;split
 .split
  .exact h.ed _ _
  .exact h.snoc (by show(p.au l.gC).1.bu++_=_;rw[ZQ]) (λ_ _ g=>by cases g)
 .simp only;split<;>exact h
 .exact h
 .split
  .exact h.ed _ _
  .exact h.snoc (by show(p.cl l.cl).1.bu++_=_;rw[RJ]) (λ_ _ g=>by cases g)
 .exact h.same (Sr _ _ _)
 .split
  .exact h.snoc rfl (λ_ _ g=>by cases g)
  .exact h
 .simp only;split
  .exact h.snoc (by show((p.dT l.fv).bu)++_=_;rw[Oi]) (λ_ _ g=>by cases g)
  .exact h.same (Oi _ _)
 .exact h
theorem Stp.nb(s:Stp wh0 c M N){j:Nat}(h:NB (M.ae j)):NB (N.ae j):=by
 have put:∀ {i:Nat} {p:Nod} {a:List Let} {f:List Tol},(j=i->NB p)->NB ((M.set i p a f).ae j):=λ{i p a f} g=>by
  rw[An];split
  .rename_i e;exact g e
  .exact h
 cases s with
 | take _ l hl hd hu ht=>exact put λe=>by rw[<- e];exact h.take l
 | br _ a hl hd=>exact False.elim hd
 | one _ i c hi hu hc he=>exact put λe=>(e▸h:NB (M.ae i)).same (GL _ _).1
 | ask _ i hi hu=>exact put λe=>(e▸h:NB (M.ae i)).same (Jw _ _).1
 | prop _ i hi hu =>
  refine put λe=>?_;have h:NB (M.ae i):=e▸h;unfold Nod.cn;split
  .exact h
  .split
   .exact h
   .split
    .exact h
    .exact h.snoc (by show((M.ae i).cl _).1.bu++_=_;rw[RJ]) (λ_ _ g=>by cases g)
 | rC _ i hi hu hs hT=>exact put λe=>(e▸h:NB (M.ae i)).same rfl
 | run _ i hi hu q l hp hs=>exact put λe b m g=>(e▸h:NB (M.ae i)) b m (by rw[hp];exact I' _ g)
 | ry _ i hi hu hL=>exact put λe=>(e▸h:NB (M.ae i)).same rfl
 | lead _ i hi hu hL=>exact False.elim hL
 | sub _ i d hi hu hD=>exact False.elim hD
 | lp _ i k hi hu hk hC=>exact False.elim hC
 | start _ i hi hu hs=>exact False.elim hs
theorem Og{k:Nat}{u:Vt}(hv:v∈((p.count k u).av.an j).vs):v∈(p.av.an j).vs\/v.b=p.av.gC:=by
 unfold Nod.count at hv;split at hv
 .exact .inl hv
 .rename_i hb
  split at hv
  .exact .inl hv
  .rename_i a
   have a:=mE.1 a;have hv:v∈(upN p.av.an k ⟨BN (p.av.an k) u,Bu (p.av.an k) u⟩ j).vs:=hv;unfold upN at hv;split at hv
   .rename_i e
    have hv:v∈Bu (p.av.an k) u:=hv;unfold Bu at hv;rw[if_pos a,BH (Ar a).1.2.2]at hv
    rcases hv with hv|hv
    .exact .inr (by rw[hv];exact mE.1 hb)
    .exact .inl (by rw[e];exact hv.1)
   .exact .inl hv
theorem Stp.ud(s:Stp wh0 c M N){i:Nat}(m:NB (M.ae i))(n:∀ j,j<5->(M.ae i).av.rh j=true){j:Nat}{v:Vt}(a:v∈((N.ae i).av.an j).vs):v∈((M.ae i).av.an j).vs\/v.b=(M.ae i).av.gC:=by
 have put:∀ {k:Nat} {p:Nod} {f:List Let} {h:List Tol},v∈(((M.set k p f h).ae i).av.an j).vs->(i=k->v∈(p.av.an j).vs->v∈((M.ae i).av.an j).vs\/v.b=(M.ae i).av.gC)->v∈((M.ae i).av.an j).vs\/v.b=(M.ae i).av.gC:=λ{k p f h} g e=>by
  rw[An]at g
  split at g
  .rename_i e2;exact e e2 g
  .exact .inl g
 cases s with
 | take _ l hl hd hu ht =>
  refine put a λe g=>?_;rw[<- e]at g
  unfold Nod.take at g;split at g
  .split at g
   .unfold Nod.ed at g;split at g<;>exact .inl g
   .have g:v∈(((M.ae i).au l.gC).1.av.an j).vs:=g;rw[(Bj _ _).2]at g;exact .inl g
  .simp only at g;split at g
   .exact .inl g
   .rename_i hc
    exact absurd (.inr (.inr (n l.src hd.1))) hc
  .exact .inl g
  .split at g
   .unfold Nod.ed at g;split at g<;>exact .inl g
   .have g:v∈(((M.ae i).cl l.cl).1.av.an j).vs:=g;rw[(CE _ _).2]at g;exact .inl g
  .exact Og g
  .split at g<;>exact .inl g
  .simp only at g;unfold Nod.dT at g;split at g<;>split at g<;>exact .inl g
  .exact .inl g
 | br _ f hl hd=>exact False.elim hd
 | one _ k c hi hu hc he =>
  refine put a λe g=>?_;rw[<- e]at g
  unfold Nod.hZ at g;split at g<;>exact .inl g
 | ask _ k hi hu =>
  refine put a λe g=>?_;rw[<- e]at g
  unfold Nod.kc at g;split at g
  .exact .inl g
  .split at g
   .unfold Nod.dT at g;split at g<;>exact .inl g
   .exact .inl g
 | prop _ k hi hu =>
  refine put a λe g=>?_;rw[<- e]at g
  unfold Nod.cn at g;split at g
  .exact .inl g
  .split at g
   .exact .inl g
   .split at g<;>exact .inl g
 | rC _ k hi hu hs hT=>exact put a λe g=>by rw[<- e]at g;exact .inl g
 | run _ k hi hu q l hp2 hs =>
  refine put a λe g=>?_;rw[<- e]at g hp2
  have g:v∈(((M.ae i).lr i q).av.an j).vs:=g;cases q with
  | began b vs=>exact absurd (by rw[hp2];exact M') (m b vs)
  | prop u=>exact Og g
  | _=>exact .inl g
 | ry _ k hi hu hL=>exact put a λe g=>by rw[<- e]at g;exact .inl g
 | lead _ k hi hu hL=>exact False.elim hL
 | sub _ k d hi hu hD=>exact False.elim hD
 | lp _ k y hi hu hk hC=>exact False.elim hC
 | start _ k hi hu hs=>exact False.elim hs
theorem XE{b:Bal}(l:List Cmd){f:Cmd->Option Bal}(h:∀ c∈l,f c=some b):(AY b f l).1=[]:=by
 induction l with
 | nil=>rfl
 | cons c l ih =>
  rw[AY,if_neg (by rw[h c M'];exact λg=>g rfl)];exact ih λd a=>h d (I' _ a)
end
section
variable{C:List Cmd}{K:Int}{B:Nat->Bal}{cov:List (Bal × Nat)}{i:Nat}{b:Bal}
structure PhE(C:List Cmd)(K:Int)(B:Nat->Bal)(cov:List (Bal × Nat))(i:Nat)(b:Bal)(M:Meet):Prop where
 pb:PhB C K B cov i b M
 va:∀ j,j<5->(M.ae j).vo.p=b
 pr:∀ j,j<5->(M.ae i).av.rh j=true
 nb:NB (M.ae i)
 aw:∀ j,j<5->∀ c x,(M.ae j).bN c=some x->x=b
 l6:∀ m∈M.br,m.kind=6->m.fv=[]
 qw:∀ j,j<5->∀ c∈(M.ae j).bn,c∈(M.ae i).av.fa
theorem PhE.nil{M:Meet}(h:PhE C K B cov i b M){j:Nat}(a:j<5):(AY (M.ae j).vo.p (M.ae j).bN ((M.ae j).bn.take 40)).1=[]:=by
 rw[h.va j a];refine XE _ λc e=>?_;obtain⟨x,d⟩:=nL.1 (((h.pb.ak j a).wa c).1 (mP e));rw[d,h.aw j a c x d]
theorem PhE.kc{M:Meet}(h:PhE C K B cov i b M){j:Nat}(a:j<5):(M.ae j).kc j=({ M.ae j with bN:=(AY (M.ae j).vo.p (M.ae j).bN ((M.ae j).bn.take 40)).2 },[]):=by
 unfold Nod.kc;rw[if_pos (h.nil a)]
theorem D7{i:Nat}{l m:Let}{k:Nat}(h:m∈Ca i l k):m.kind=l.kind/\m.fv=l.fv:=by
 unfold Ca at h;obtain⟨j,_,rfl⟩:=mS.1 h;exact⟨rfl,rfl⟩
theorem PhE.step(r:PhC C K B cov i b){n:Nat}{M N:Meet}(s:Stp wh0 n M N)(h:PhE C K B cov i b M):PhE C K B cov i b N:=by
 refine⟨h.pb.step r s,λj a=>h.pb.cm.top r.hc s r.hb.pr r.hK a (h.va j a),λj a=>(s.ev i).rh j (h.pr j a),s.nb h.nb,λj a c x d=>?_,λm f o=>?_,λj a c u=>(s.ev i).qu.subset (h.qw j a c ((s.ev j).wa c u))⟩
 .rcases s.bN d with g|⟨_,rfl⟩
  .exact h.aw j a c x g
  .rw[An,if_pos rfl,h.kc a]at d
   have d:(AY (M.ae j).vo.p (M.ae j).bN ((M.ae j).bn.take 40)).2 c=some x:=d;have t:b≠Ba:=λe=>by have:=r.hb;rw[e]at this;exact absurd this (by decide)
   rw[h.va j a]at d
   have f:=Ly t ((M.ae j).bn.take 40) (M.ae j).bN;by_cases e:c∈(M.ae j).bn.take 40
   .rw[f.2.1 c e]at d;exact(nh d).symm
   .rw[f.1 c e]at d;exact h.aw j a c x d
 .have old:m∈M.br->m.fv=[]:=λg=>h.l6 m g o;cases s with
  | br _ ls hl hd=>exact False.elim hd
  | ask _ k hi hu =>
   rw[h.kc hi]at f
   exact old (by simpa[Meet.set]using f)
  | run _ k hi hu q l hp hs =>
   rcases U'.1 f with g|g
   .exact old g
   .cases q with
    | began b vs =>
     unfold Nod.rm at g;simp only at g;split at g
     .cases g
     .have:=(D7 g).1;rw[o]at this;cases this
    | prop v=>have:=(D7 g).1;rw[o]at this;cases this
    | start=>exact(D7 g).2
    | askNews to=>rw[D'.1 g];rfl
    | _=>have e:=D'.1 g;rw[e]at o;cases o
  | ry _ k hi hu hL =>
   rcases U'.1 f with g|g
   .exact old g
   .have:=(JV 5 m g).1;omega
  | _=>exact old f
end
section
variable{C:List Cmd}{K:Int}{B:Nat->Bal}{cov:List (Bal × Nat)}{i:Nat}{b:Bal}{A:List Cmd}
section
structure Fin_(i:Nat)(A:List Cmd)(M:Meet):Prop where
 ag:(M.ae i).ab=A
 nx:(M.ae i).av.next<=A.length
 hd:A.length<40->∀ j,j<5->∀ v∈((M.ae i).av.an j).vs,v.bt≠(A.length:Int)
 qu:A.length<40->∀ c∈(M.ae i).av.fa,c∈A
variable{M:Meet}{k:Nat}{l:List Cmd}{σ:Gs}
theorem PhE.rd(a:PhC C K B cov i b){M:Meet}(h:PhE C K B cov i b M){σ:Gs}(g:AgI σ M):RdI σ i (M.ae i).av/\(M.ae i).av.gC=b:=by
 obtain⟨c,k⟩:=(g.nd i a.hi).up (h.pb.cm.up i a.hi);exact⟨k.rd,(h.pb.cm.gC i a.hi).trans a.hB⟩
theorem PhE.lt(d:PhC C K B cov i b){M:Meet}(h:PhE C K B cov i b M){σ:Gs}(g:AgI σ M){v:Vt}(a:σ.rO v)(c:v.b=b):v.bt<((M.ae i).av.next:Int):=by
 have k:=h.rd d g;have:=k.1.next v.bt.toNat v.w (by rw[k.2,<- c];exact a.2);have:=a.1.1;omega
theorem PhE.held(a:PhC C K B cov i b){M:Meet}(h:PhE C K B cov i b M){σ:Gs}(g:AgI σ M){s:Nat}(o:(M.ae i).av.next<=s)(m:∀ j,j<5->∀ v∈((M.ae i).av.an j).vs,v.bt≠(s:Int)){q:Nat}(d:q<5){v:Vt}(l:σ.held q v):v.bt≠(s:Int):=by
 intro e;have k:=h.rd a g;have c:=g.gs.hv q v l;have n:=g.sh h.pb.cm.kb.2 c.1.2.1 (g.gs.w3 _ _ _ c.2);by_cases f:v.b.key<b.key
 .obtain⟨u,hu,eu,_⟩:=(k.1.prom q d (h.pr q d)).2 v l (by rw[k.2];exact f);exact m q d u hu (eu.trans e)
 .have e3:v.b=b:=DB c.1.2.1.pr a.hb.pr (by rw[a.hK]at f ⊢;omega);have:=h.lt a g c e3;omega
theorem ig(g:GsI σ){s:Nat}{c:Cmd}(h:σ.sH s c):∃ q,q<5/\∃ v,σ.held q v/\v.bt=(s:Int)/\v.w=c/\s<40:=by
 obtain⟨k,Q,d,j⟩:=h;obtain⟨q,e,a,_⟩:=IQ Q Q d d;obtain⟨v,b,f,_,i⟩:=j q e a;have:=(g.hv q v b).1.1;exact⟨q,e,v,b,f,i,by omega⟩
theorem Fin_.none(k:PhC C K B cov i b){M:Meet}(h:PhE C K B cov i b M)(f:Fin_ i A M){σ:Gs}(g:AgI σ M)(c:Cmd):¬ σ.sH A.length c:=λe=>by
 obtain⟨q,l,v,a,d,_,j⟩:=ig g.gs e;exact h.held k g f.nx (f.hd j) l a d
theorem AgL.le{a:Nat}(h:AgL σ l k)(d:∀ c,¬ σ.sH a c)(f:k<=a):k+l.length<=a:=qd λe=>by
 have b:a-k<l.length:=by omega
 exact d _ (by rw[show a=k+(a-k)by omega];exact h (a-k) _ (G' b))
theorem Fin_.le(a:PhC C K B cov i b){M:Meet}(h:PhE C K B cov i b M)(f:Fin_ i A M){j:Nat}(c:j<5):(M.ae j).ab.length<=A.length:=by
 obtain⟨σ,g,_⟩:=h.pb.cm.ex;have:=(g.nd j c).ag.le (f.none a h g) (mW _);omega
theorem Fin_.rj(f:Fin_ i A M):(M.ae i).rj (M.ae i).ab.length=Option.none:=by
 unfold Nod.rj;rw[f.ag];split
 .rfl
 .rename_i b
  have b:=mE.1 b;have k:A.length<40:=by
   unfold Cl at b;split at b
   .cases b
   .omega
  have m:Ae ((M.ae i).av.jv.map (·.vs)).flatten (A.length:Int)=[]:=pZ.2 λv h=>by
   obtain⟨n,o⟩:=Bd.1 h;obtain⟨l,s,h⟩:=oX.1 n;obtain⟨a,d,rfl⟩:=mS.1 s;unfold Rnd.jv at d;have:∃ j,j<5/\a=(M.ae i).av.an j:=by
    simp only[mJ,P',or_false]at d;rcases d with e|e|e|e|e
    .exact⟨0,by omega,e⟩
    .exact⟨1,by omega,e⟩
    .exact⟨2,by omega,e⟩
    .exact⟨3,by omega,e⟩
    .exact⟨4,by omega,e⟩
   obtain⟨j,r,rfl⟩:=this;exact f.hd k j r v h o
  have p:DR ((M.ae i).av.jv.map (·.vs)) (A.length:Int)=false:=by
   unfold DR;rw[if_pos b];unfold Ge;rw[m];rfl
  rw[if_neg (by rw[p];decide)];exact nR.2 λc q g=>absurd (f.qu k c q) (mZ g)
theorem Ox{a:List Cmd}(h:k+a.length<=l.length):l++a.drop (l.length-k)=l:=by rw[nA (by omega),mV]
theorem Zk{r:Rnd}(k:Nat)(h:CZ r.jv (l.length:Int)≠0):FF k r l=l:=by
 cases k with
 | zero=>rfl
 | succ k=>rw[FF,if_neg h]
def Uk(p q:Nod):Prop:=q.ab=p.ab/\q.av.next=p.av.next/\q.av.fa=p.av.fa
theorem Fin_.count(a:PhC C K B cov i b){M:Meet}(h:PhE C K B cov i b M)(f:Fin_ i A M){σ:Gs}(g:AgI σ M){j:Nat}{v:Vt}(l:σ.held j v):Uk (M.ae i) ((M.ae i).count j v):=by
 have k:=(h.rd a g).1;unfold Nod.count;split
 .exact⟨rfl,rfl,rfl⟩
 .rename_i hb
  split
  .exact⟨rfl,rfl,rfl⟩
  .rename_i he
   refine⟨Zk _ λe=>?_,rfl,rfl⟩;have e:CZ (Rnd.jv _) ((M.ae i).ab.length:Int)=0:=e;have c1:=Um (λq c u d=>((k.count (mE.1 hb) (mE.1 he) l).an q c u d).1) e;rw[f.ag]at c1
   exact f.none a h g _ c1
theorem Fin_.same(m:PhC C K B cov i b){n:Nat}{M N:Meet}(s:Stp wh0 n M N)(h:PhE C K B cov i b M)(f:Fin_ i A M):Uk (M.ae i) (N.ae i):=by
 obtain⟨σ,g,_⟩:=h.pb.cm.ex;have put:∀ {k:Nat} {p:Nod} {r:List Let} {t:List Tol},(i=k->Uk (M.ae i) p)->Uk (M.ae i) ((M.set k p r t).ae i):=λ{k p r t} e=>by
  rw[An];split
  .rename_i e2;exact e e2
  .exact⟨rfl,rfl,rfl⟩
 have o:∀ {l:List Cmd} {k:Nat},AgL σ l k->k<=A.length->k+l.length<=(M.ae i).ab.length:=λa e=>by rw[f.ag];exact a.le (f.none m h g) e
 cases s with
 | take _ l hl2 hd hu ht =>
  refine put λe=>?_;rw[<- e];have lt:=g.lt l hl2;unfold Nod.take;split
  .split
   .unfold Nod.ed;split<;>exact⟨rfl,rfl,rfl⟩
   .exact⟨iV _ _,by show(Nod.au _ _).1.av.next=_;rw[(Bj _ _).2],by show(Nod.au _ _).1.av.fa=_;rw[(Bj _ _).2]⟩
  .rename_i hk
   simp only;rw[if_pos (.inr (.inr (h.pr l.src hd.1)))];exact⟨Ox (o (lt.k1 hk).2.2 (mW _)),rfl,rfl⟩
  .exact⟨rfl,rfl,rfl⟩
  .split
   .unfold Nod.ed;split<;>exact⟨rfl,rfl,rfl⟩
   .exact⟨j4 _ _,by show(Nod.cl _ _).1.av.next=_;rw[(CE _ _).2],by show(Nod.cl _ _).1.av.fa=_;rw[(CE _ _).2]⟩
  .rename_i hk
   exact f.count m h g (lt.k4 hk)
  .rename_i hk
   split
   .exact⟨rfl,rfl,rfl⟩
   .rename_i h5
    exact⟨Ox (o (lt.k5 hk) (by rw[f.ag]at h5;omega)),rfl,rfl⟩
  .rename_i hk
   simp only;rw[h.l6 l hl2 hk];unfold Nod.dT;split<;>split<;>exact⟨rfl,rfl,rfl⟩
  .exact⟨rfl,rfl,rfl⟩
 | br _ r o hd=>exact False.elim hd
 | one _ k c hi hu hc he=>exact put λe=>by rw[<- e];unfold Nod.hZ;split<;>exact⟨rfl,rfl,rfl⟩
 | ask _ k hi hu=>exact put λe=>by rw[h.kc hi,<- e];exact⟨rfl,rfl,rfl⟩
 | prop _ k hi hu =>
  refine put λe=>?_;rw[<- e];unfold Nod.cn;split
  .exact⟨rfl,rfl,rfl⟩
  .rw[f.rj];exact⟨rfl,rfl,rfl⟩
 | rC _ k hi hu hs hT=>exact put λe=>by rw[<- e];exact⟨rfl,rfl,rfl⟩
 | run _ k hi hu q l hp hs =>
  refine put λe=>?_;rw[<- e]at hp hs ⊢
  cases q with
  | began b vs=>exact absurd (by rw[hp];exact M') (h.nb b vs)
  | prop v =>
   obtain⟨u,k⟩:=(g.nd i m.hi).up (h.pb.cm.up i m.hi);have:=f.count m h g (j:=i) (v:=v) (by
    have:=k.pe (.prop v) (by rw[hp];exact M');unfold Gs.held;rw[k.tp.all hs];exact this)
   exact this
  | _=>exact⟨rfl,rfl,rfl⟩
 | ry _ k hi hu hL=>exact put λe=>by rw[<- e];exact⟨rfl,rfl,rfl⟩
 | lead _ k hi hu hL=>exact False.elim hL
 | sub _ k d hi hu hD=>exact False.elim hD
 | lp _ k y hi hu hk hC=>exact False.elim hC
 | start _ k hi hu hs=>exact False.elim hs
theorem Fin_.step(a:PhC C K B cov i b){n:Nat}{M N:Meet}(s:Stp wh0 n M N)(h:PhE C K B cov i b M)(f:Fin_ i A M):Fin_ i A N:=by
 have e:=f.same a s h;have d:=h.step a s;obtain⟨τ,g,_⟩:=d.pb.cm.ex;refine⟨e.1.trans f.ag,by rw[e.2.1];exact f.nx,λl j m v o q=>?_,λl c p=>f.qu l c (by rw[<- e.2.2];exact p)⟩;rcases s.ud h.nb h.pr o with k|k
 .exact f.hd l j m v k q
 .have:=d.lt a g (g.gs.hv j v ((d.rd a g).1.an j m v o).1) (k.trans ((h.pb.cm.gC i a.hi).trans a.hB));have:=e.2.1;have:=f.nx;omega
end
end
section
variable{j:Nat}{p:Nod}{r:Rnd}{v:Vt}
theorem Zx{l:List Vt}(h:v∈l):1<=BQ (Ae l v.bt) v:=qi.2 ⟨v,Bd.2 ⟨h,rfl⟩,O' rfl⟩
theorem XS(k:∀ j,j<5->Ag (r.an j)){v:Vt}(o:0<=v.bt/\v.bt<=39)(p:∀ j,j<5->v∈(r.an j).vs):CZ r.jv v.bt=0:=by
 have e:Dy r.jv v.bt=Ae (r.an 0).vs v.bt++(Ae (r.an 1).vs v.bt++(Ae (r.an 2).vs v.bt++(Ae (r.an 3).vs v.bt++Ae (r.an 4).vs v.bt))):=by
  unfold Dy Rnd.jv Ae;simp[List.filter_append]
 have g:∀ j,j<5->1<=BQ (Ae (r.an j).vs v.bt) v:=λj l=>Zx (p j l);have n:5<2*BQ (Dy r.jv v.bt) v:=by
  rw[e,C6,C6,C6,C6];have:=g 0 (by omega);have:=g 1 (by omega);have:=g 2 (by omega);have:=g 3 (by omega);have:=g 4 (by omega);omega
 have m:v∈Dy r.jv v.bt:=by
  obtain⟨u,b,d⟩:=qi.1 (show 0<BQ (Dy r.jv v.bt) v by omega);have c:u=v:=mZ d;rw[c]at b;exact b
 have f:∀ a∈r.jv,Ag a:=λa h=>by
  unfold Rnd.jv at h;simp only[mJ,P',or_false]at h;rcases h with e|e|e|e|e<;>rw[e]<;>exact k _ (by omega)
 have i:(Hj (Dy r.jv v.bt) r.jv.length).isSome=true:=List.find?_isSome.2 ⟨v,m,O' n⟩;unfold CZ;rw[if_neg (λg=>g ⟨o,by show(1:Int)<=((5:Nat):Int)/\((5:Nat):Int)<=5;decide⟩),if_neg (λg=>g f),if_pos i]
theorem Qo(c:v.b=p.av.gC)(a:Ag (p.av.an j))(e:Ah v)(f:(p.av.an j).p=p.av.gC):v∈((p.count j v).av.an j).vs:=by
 have d:AV (p.av.an j) v=0:=by
  unfold AV;rw[if_neg (λg=>g a),if_neg (λg=>g e),if_neg];rw[f,c];unfold Bal.lt;omega
 unfold Nod.count;rw[if_neg (λg=>g c),if_neg (λg=>g d)];show v∈(upN p.av.an j ⟨BN (p.av.an j) v,Bu (p.av.an j) v⟩ j).vs;rw[Df];show v∈Bu (p.av.an j) v;rw[(DA d).2,BH a.2.2];exact .inl rfl
theorem Sq{k:Nat}{u:Vt}(a:v∈(p.av.an k).vs)(g:u.b=p.av.gC->u.bt=v.bt->u=v):v∈((p.count j u).av.an k).vs:=by
 unfold Nod.count;split
 .exact a
 .rename_i hb
  split
  .exact a
  .rename_i c
   have c:=mE.1 c;show v∈(upN p.av.an j ⟨BN (p.av.an j) u,Bu (p.av.an j) u⟩ k).vs;unfold upN;split
   .rename_i e
    show v∈Bu (p.av.an j) u;rw[(DA c).2,BH (Ar c).1.2.2];by_cases d:u.bt=v.bt
    .exact .inl (g (mE.1 hb) d).symm
    .exact .inr ⟨by rw[<- e];exact a,λf=>d f.symm⟩
   .exact a
theorem bU(h:(p.cl v).2=0):Ah v:=by
 unfold Nod.cl at h;split at h
 .rename_i h0;exact absurd h h0
 .rename_i h0;exact(Ar (mE.1 h0)).2.1
theorem Wi{l:List Cmd}(k:Nat)(h:CZ r.jv (l.length:Int)=0):l.length<(FF (k+1) r l).length:=by
 rw[FF,if_pos h];have:=(IP k r (l++[CR r.jv (l.length:Int)])).length_le;rw[H',nE]at this
 omega
end
section
variable{C:List Cmd}{K:Int}{B:Nat->Bal}{cov:List (Bal × Nat)}{i:Nat}{b:Bal}
theorem Stp.si{n:Nat}{M N:Meet}(s:Stp wh0 n M N)(m:PhC C K B cov i b)(h:PhE C K B cov i b M){σ:Gs}(g:AgI σ M) :
  ((N.ae i).av.an=(M.ae i).av.an/\(N.ae i).av.next=(M.ae i).av.next)\/((N.ae i).av.an=(M.ae i).av.an/\(N.ae i).av.next=(M.ae i).ab.length+1/\(M.ae i).ab.length<40)\/∃ k u,k<5/\σ.held k u/\(N.ae i).av=((M.ae i).count k u).av/\(N.ae i).ab=((M.ae i).count k u).ab:=by
 have put:∀ {k:Nat} {p:Nod} {f:List Let} {j:List Tol},(i=k->p.av.an=(M.ae k).av.an/\p.av.next=(M.ae k).av.next)->((M.set k p f j).ae i).av.an=(M.ae i).av.an/\((M.set k p f j).ae i).av.next=(M.ae i).av.next:=λ{k p f j} e=>by
  rw[An];split
  .rename_i e2;rw[e2];exact e e2
  .exact⟨rfl,rfl⟩
 cases s with
 | take _ l hl hd hu ht =>
  have lt:=g.lt l hl;by_cases a:l.kind=4/\i=l.dst
  .refine .inr (.inr ⟨l.src,l.cl,hd.1,lt.k4 a.1,?_⟩);rw[An,if_pos a.2,<- a.2];unfold Nod.take;rw[a.1];exact⟨rfl,rfl⟩
  .refine .inl (put λe=>?_);rw[<- e];unfold Nod.take;split
   .split
    .unfold Nod.ed;split<;>exact⟨rfl,rfl⟩
    .show((M.ae i).au _).1.av.an=_/\((M.ae i).au _).1.av.next=_;rw[(Bj _ _).2];exact⟨rfl,rfl⟩
   .simp only;rw[if_pos (.inr (.inr (h.pr l.src hd.1)))];exact⟨rfl,rfl⟩
   .exact⟨rfl,rfl⟩
   .split
    .unfold Nod.ed;split<;>exact⟨rfl,rfl⟩
    .show((M.ae i).cl _).1.av.an=_/\((M.ae i).cl _).1.av.next=_;rw[(CE _ _).2];exact⟨rfl,rfl⟩
   .rename_i hk;exact absurd ⟨hk,e⟩ a
   .split<;>exact⟨rfl,rfl⟩
   .simp only;unfold Nod.dT;split<;>split<;>exact⟨rfl,rfl⟩
   .exact⟨rfl,rfl⟩
 | br _ f hl hd=>exact False.elim hd
 | one _ k c hi hu hc he=>exact .inl (put λe=>by unfold Nod.hZ;split<;>exact⟨rfl,rfl⟩)
 | ask _ k hi hu=>exact .inl (put λe=>by rw[h.kc hi];exact⟨rfl,rfl⟩)
 | prop _ k hi hu =>
  by_cases e:i=k
  .subst e;rw[An,if_pos rfl];unfold Nod.cn;split
   .exact .inl ⟨rfl,rfl⟩
   .split
    .exact .inl ⟨rfl,rfl⟩
    .split
     .exact .inl ⟨rfl,rfl⟩
     .rename_i he
      refine .inr (.inl ⟨rfl,rfl,?_⟩);have:=(bU (mE.1 he)).1.2;have:((M.ae i).ab.length:Int)<=39:=this;omega
  .refine .inl ?_;rw[An,if_neg e];exact⟨rfl,rfl⟩
 | rC _ k hi hu hs hT=>exact .inl (put λe=>⟨rfl,rfl⟩)
 | run _ k hi hu q l hp hs =>
  by_cases e:i=k
  .subst e;cases q with
   | began b vs=>exact absurd (by rw[hp];exact M') (h.nb b vs)
   | prop v =>
    refine .inr (.inr ⟨i,v,hi,?_,?_⟩)
    .obtain⟨rs,k⟩:=(g.nd i hi).up hu;have:=k.pe (.prop v) (by rw[hp];exact M');unfold Gs.held;rw[k.tp.all hs];exact this
    .rw[An,if_pos rfl];exact⟨rfl,rfl⟩
   | _=>exact .inl (put λ_=>⟨rfl,rfl⟩)
  .refine .inl ?_;rw[An,if_neg e];exact⟨rfl,rfl⟩
 | ry _ k hi hu hL=>exact .inl (put λe=>⟨rfl,rfl⟩)
 | lead _ k hi hu hL=>exact False.elim hL
 | sub _ k d hi hu hD=>exact False.elim hD
 | lp _ k y hi hu hk hC=>exact False.elim hC
 | start _ k hi hu hs=>exact False.elim hs
structure PhL(C:List Cmd)(K:Int)(B:Nat->Bal)(cov:List (Bal × Nat))(i:Nat)(b:Bal)(M:Meet):Prop where
 pe:PhE C K B cov i b M
 ld:∀ v:Vt,v.b=b->(∀ j,j<5->v∈((M.ae i).av.an j).vs)->v.bt<((M.ae i).ab.length:Int)
 nx:(M.ae i).av.next<=(M.ae i).ab.length+1/\(M.ae i).av.next<=40
theorem PhE.acc(c:PhC C K B cov i b){M:Meet}(h:PhE C K B cov i b M){j:Nat}(a:j<5):Ag ((M.ae i).av.an j)/\((M.ae i).av.an j).p=b:=by
 obtain⟨σ,g,_⟩:=h.pb.cm.ex;have k:=h.rd c g;exact⟨(k.1.acc j a).1,((k.1.acc j a).2 (h.pr j a)).trans k.2⟩
theorem PhE.pd(m:PhC C K B cov i b){n:Nat}{M N:Meet}(s:Stp wh0 n M N)(h:PhE C K B cov i b M){v:Vt}(l:v.b=b){j:Nat}(r:j<5)(a:v∈((M.ae i).av.an j).vs):v∈((N.ae i).av.an j).vs:=by
 obtain⟨σ,g,_⟩:=h.pb.cm.ex;have k:=h.rd m g;rcases s.si m h g with e|e|⟨q,u,hq,hu,e,_⟩
 .rw[e.1];exact a
 .rw[e.1];exact a
 .rw[e];refine Sq a λc d=>?_;have o:=g.gs.hv q u hu;have p:=g.gs.hv j v (k.1.an j r v a).1;have f:=o.2;rw[c,k.2,d,<- l]at f
  exact(Vt.eq_iff u v).1 ⟨d,(c.trans k.2).trans l.symm,g.gs.w1 _ _ _ _ f p.2⟩
theorem PhL.step(d:PhC C K B cov i b){n:Nat}{M N:Meet}(s:Stp wh0 n M N)(h:PhL C K B cov i b M):PhL C K B cov i b N:=by
 have f:=h.pe.step d s;have x:=(s.ev i).ag.length_le;obtain⟨σ,g,_⟩:=h.pe.pb.cm.ex;have p:(N.ae i).av.next<=(N.ae i).ab.length+1/\(N.ae i).av.next<=40:=by
  have:=h.nx;rcases s.si d h.pe g with e|e|⟨q,u,hq,hu,e,_⟩
  .rw[e.2];omega
  .rw[e.2.1];omega
  .have o:((M.ae i).count q u).av.next=(M.ae i).av.next:=by
    unfold Nod.count;split
    .rfl
    .split<;>rfl
   rw[e,o];omega
 refine⟨f,λv t a=>?_,p⟩;by_cases l:∀ j,j<5->v∈((M.ae i).av.an j).vs
 .have:=h.ld v t l;omega
 .obtain⟨τ,g2,_⟩:=f.pb.cm.ex;have z:=f.rd d g2;have m:=g2.gs.hv 0 v (z.1.an 0 (by omega) v (a 0 (by omega))).1;have k:=f.lt d g2 m t;rcases s.si d h.pe g with e|e|⟨q,u,hq,hu,e,ea⟩
  .rw[e.1]at a;exact absurd a l
  .rw[e.1]at a;exact absurd a l
  .have hm:=m.1.1;rw[e]at a k
   rw[ea];have c:∀ j,j<5->Ag ((N.ae i).av.an j):=λj y=>(f.acc d y).1;rw[e]at c
   have A:=h.nx;have o:((M.ae i).count q u).av.next=(M.ae i).av.next:=by
    unfold Nod.count;split
    .rfl
    .split<;>rfl
   rw[o]at k
   unfold Nod.count at a c ⊢;split at a
   .exact absurd a l
   .split at a
    .exact absurd a l
    .rename_i h3 h4
     rw[if_neg h3,if_neg h4]at c ⊢
     by_cases w:v.bt<((M.ae i).ab.length:Int)
     .exact Int.lt_of_lt_of_le w (Int.ofNat_le.2 (IP 41 _ _).length_le)
     .have e6:v.bt=((M.ae i).ab.length:Int):=by omega
      have r:=XS c hm a;rw[e6]at r ⊢
      exact Int.ofNat_lt.2 (Wi 40 r)
end
section
variable{I J:Meet->Prop}
theorem MK(j:∀ c M N,Stp wh1 c M N->I M->I N)(p:∀ c M N,Stp wh1 c M N->I M->J M->J N){n:Nat}{M:Meet}(q:MOk n M)(u:n+5<=1000000)(h:I M){i:Nat}(r:i<5)(d:∀ N m,MOk m N->m+1<=1000000->I N->N.ae i=M.ae i->J (N.act (acN 3 (i:Int)))):J (M.eb (AC 3 5)):=by
 have d:∀ k,k<=5->MOk (n+k) (M.eb (AC 3 k))/\I (M.eb (AC 3 k))/\(k<=i->(M.eb (AC 3 k)).ae i=M.ae i)/\(i<k->J (M.eb (AC 3 k))):=by
  intro k;induction k with
  | zero=>exact λ_=>⟨q,h,λ_=>rfl,λe=>absurd e (oC _)⟩
  | succ k ih =>
   intro t;obtain⟨a,b,f,o⟩:=ih (by omega);rw[BX,AI];refine⟨a.act (by omega) (FU (by omega)),CB j a (by omega) b,λe=>by rw[E3 _ (by omega)];exact f (by omega),λe=>?_⟩;by_cases l:i<k
   .exact(CB (I:=λN=>I N/\J N) (λc A B s g=>⟨j c A B s g.1,p c A B s g.1 g.2⟩) a (by omega) ⟨b,o l⟩).2
   .obtain rfl:k=i:=by omega
    exact d _ _ a (by omega) b (f (A' _))
 exact(d 5 (A' _)).2.2.2 r
end
theorem Iy(M:Meet){i:Nat}(d:i<5):∃ N:Meet,N.ae i=M.ae i/\N=M.eb (AC 3 i)/\(M.eb (AC 3 5)).ae i=(N.act (acN 3 (i:Int))).ae i:=by
 have b:∀ k,k<=i->(M.eb (AC 3 k)).ae i=M.ae i:=by
  intro k;induction k with
  | zero=>exact λ_=>rfl
  | succ k ih=>exact λa=>by rw[BX,AI,E3 _ (by omega)];exact ih (by omega)
 refine⟨_,b i (A' _),rfl,?_⟩;have c:∀ k,i<k->(M.eb (AC 3 k)).ae i=((M.eb (AC 3 i)).act (acN 3 (i:Int))).ae i:=by
  intro k a;induction k with
  | zero=>exact absurd a (oC _)
  | succ k ih =>
   rw[BX,AI];by_cases e:k=i
   .rw[e]
   .rw[E3 _ (Ne.symm e)];exact ih (by omega)
 exact c 5 d
theorem Stp.rW{M N:Meet}(s:Stp wh0 0 M N)(i:Nat):(N.ae i).av.next=(M.ae i).av.next:=by
 have put:∀ {k:Nat} {p:Nod} {a:List Let} {g:List Tol},p.av.next=(M.ae k).av.next->((M.set k p a g).ae i).av.next=(M.ae i).av.next:=λ{k p a g} e=>by
  rw[An];split
  .rename_i e2;rw[e2];exact e
  .rfl
 have f:∀ (p:Nod) (j:Nat) (v:Vt),(p.count j v).av.next=p.av.next:=λp j v=>by
  unfold Nod.count;split
  .rfl
  .split<;>rfl
 cases s with
 | take _ l hl hd hu ht =>
  refine put ?_;unfold Nod.take;split
  .split
   .unfold Nod.ed;split<;>rfl
   .show((M.ae l.dst).au _).1.av.next=_;rw[(Bj _ _).2]
  .simp only;split<;>rfl
  .rfl
  .split
   .unfold Nod.ed;split<;>rfl
   .show((M.ae l.dst).cl _).1.av.next=_;rw[(CE _ _).2]
  .exact f _ _ _
  .split<;>rfl
  .simp only;unfold Nod.dT;split<;>split<;>rfl
  .rfl
 | br _ a hl hd=>exact False.elim hd
 | one _ k c hi hu hc he=>exact put (by unfold Nod.hZ;split<;>rfl)
 | ask _ k hi hu =>
  refine put ?_;unfold Nod.kc;split
  .rfl
  .split
   .unfold Nod.dT;split<;>rfl
   .rfl
 | rC _ k hi hu hs hT=>exact put rfl
 | run _ k hi hu q l hp hs =>
  refine put ?_;show((M.ae k).lr k q).av.next=_;cases q with
  | began b vs=>simp only[Nod.lr];split<;>rfl
  | prop v=>exact f _ _ _
  | _=>rfl
 | ry _ k hi hu hL=>exact put rfl
 | lead _ k hi hu hL=>exact False.elim hL
 | sub _ k d hi hu hD=>exact False.elim hD
 | lp _ k y hi hu hk hC=>exact False.elim hC
 | start _ k hi hu hs=>exact False.elim hs
theorem Sts.rW{M N:Meet}(s:Sts wh1 0 M N)(i:Nat):(N.ae i).av.next=(M.ae i).av.next:=by
 generalize a:0=z at s;induction s with
 | nil=>rfl
 | @snoc n c m A B E h s hm ih =>
  obtain rfl:c=0:=by omega
  exact(s.calm.rW i).trans (ih (by omega))
theorem Te{p q:Nod}(a:q.av=p.av)(b:q.ab=p.ab)(s:Nat):q.rj s=p.rj s:=by unfold Nod.rj;rw[a,b]
section
variable{C:List Cmd}{K:Int}{B:Nat->Bal}{cov:List (Bal × Nat)}{i:Nat}{b:Bal}
def J3(i:Nat)(v:Vt)(N:Meet):Prop:=v∈((N.ae i).av.an i).vs/\∀ j,j<5->j≠i->({ BJ 3 with cl:=v,src:=i,dst:=j }:Let)∈N.br
theorem J3.step(a:PhC C K B cov i b){n:Nat}{M N:Meet}(s:Stp wh0 n M N)(h:PhE C K B cov i b M){v:Vt}(c:v.b=b)(k:J3 i v M):J3 i v N:=⟨h.pd a s c a.hi k.1,λj d e=>s.rJ (k.2 j d e)⟩
theorem PhE.rz{M:Meet}(h:PhE C K B cov i b M):(M.ae i).av.rz=true:=by
 unfold Rnd.rz J5;rw[h.pr 0 (by omega),h.pr 1 (by omega),h.pr 2 (by omega),h.pr 3 (by omega),h.pr 4 (by omega)];decide
theorem OF(a:PhC C K B cov i b)(H:14*K+38*(cov.length:Int)<=99000)(q:∀ c∈C,c.e=0){M:Meet}(h:PhL C K B cov i b M)(S:(M.ae i).ab.length<40)(L:(M.ae i).av.next<=(M.ae i).ab.length){c:Cmd}(z:(M.ae i).rj (M.ae i).ab.length=some c) :
  J3 i ⟨((M.ae i).ab.length:Int),b,c⟩ (M.act (acN 3 (i:Int)))/\((M.act (acN 3 (i:Int))).ae i).av.next=(M.ae i).ab.length+1:=by
 have E:=h.pe.pb.cm.up i a.hi;obtain⟨R,s0,T,O,a0,n,G,Q,P,F⟩:=Ix (D:=wh1) a.hi E;have r:∀ c A N,Stp wh1 c A N->PhL C K B cov i b A->PhL C K B cov i b N:=λc A N s g=>g.step a s.calm;have x:=s0.inv r h;have o:=P.inv r x;have f:(n.ae i).av=(M.ae i).av/\(n.ae i).ab=(M.ae i).ab:=by
  rw[G,B1,x.pe.kc a.hi];exact⟨O,a0⟩
 have u:Ah ⟨((M.ae i).ab.length:Int),b,c⟩:=⟨by show(0:Int)<=((M.ae i).ab.length:Int)/\((M.ae i).ab.length:Int)<=39;omega,a.hb,q c (Lk (h.pe.pb.cm.s.nd i a.hi) z)⟩;generalize w:(⟨((M.ae i).ab.length:Int),b,c⟩:Vt)=v at u;have m:v.b=b:=by rw[<- w]
 have t:=eD a H o.pe.pb o.pe.rz (by rw[f.1,f.2];exact L) (c:=c) (by rw[Te f.1 f.2,f.2];exact z) (by rw[f.2,w];exact u);rw[f.2,w]at t
 have p:=(Stp.prop (D:=wh1) n i a.hi Q).calm;have p:=o.step a p;have k:=F.inv (I:=λN=>PhL C K B cov i b N/\(Pend.prop v∈(N.ae i).bu\/J3 i v N)) (λd A N s g=>⟨r d A N s g.1,by
  rcases g.2 with g2|g2
  .rcases O5 s.calm g2 with g3|⟨l,g3,rfl⟩
   .exact .inl g3
   .refine .inr ⟨?_,λj J e=>mD _ (ME { BJ 3 with cl:=v } J e)⟩;rw[An,if_pos rfl];have ac:=g.1.pe.acc a a.hi;have y:(A.ae i).av.gC=b:=(g.1.pe.pb.cm.gC i a.hi).trans a.hB;exact Qo (m.trans y.symm) ac.1 u (ac.2.trans y.symm)
  .exact .inr (g2.step a s.calm g.1.pe m)⟩) ⟨p,.inl (by rw[B1];exact t.2)⟩
 refine⟨k.2.resolve_left λg=>?_,by rw[F.rW i,B1];exact t.1⟩;rw[Hg E,An,if_pos rfl,Ir (h.pe.pb.cm.sg a.hi)]at g
 cases g
theorem WT(a:PhC C K B cov i b){M:Meet}(h:PhL C K B cov i b M)(m:(M.ae i).ab.length<(M.ae i).av.next):((M.act (acN 3 (i:Int))).ae i).av.next=(M.ae i).av.next:=by
 have l:=h.pe.pb.cm.up i a.hi;obtain⟨p,s0,r,n,a0,e,f,t,q,o⟩:=Ix (D:=wh1) a.hi l;have k:∀ c A N,Stp wh1 c A N->PhL C K B cov i b A->PhL C K B cov i b N:=λc A N s g=>g.step a s.calm;have j:=s0.inv k h;have d:(e.ae i).av=(M.ae i).av/\(e.ae i).ab=(M.ae i).ab:=by
  rw[f,B1,j.pe.kc a.hi];exact⟨n,a0⟩
 rw[o.rW i,B1];unfold Nod.cn;rw[if_pos (.inr (.inr (by rw[d.1,d.2];exact m))),d.1]
def Bz(i:Nat)(v:Vt)(N:Meet):Prop:=v∈((N.ae i).av.an i).vs/\∀ j,j<5->j≠i->Pend.voted i v∈(N.ae j).bu
theorem PhL.drop{N:Meet}(h:PhL C K B cov i b N):PhL C K B cov i b { N with br:=[] } :=
 ⟨⟨⟨h.pe.pb.cm.drop,h.pe.pb.ak,h.pe.pb.vi⟩,h.pe.va,h.pe.pr,h.pe.nb,h.pe.aw,λm a=>(by cases a),h.pe.qw⟩,h.ld,h.nx⟩
theorem EC(M:Meet):M.eb Ao=(M.eb (AC 3 5)).act (acN 7 0):=by rw[show Ao=AC 3 5++[acN 7 0]from rfl,AI]
theorem PhL.round(f:PhC C K B cov i b){n:Nat}{M:Meet}(k:MOk n M)(m:n+6<=1000000)(h:PhL C K B cov i b M):PhL C K B cov i b (M.eb Ao)/\MOk (n+6) (M.eb Ao)/\(M.eb Ao).br=[]/\(∀ j,Ev (M.ae j) ((M.eb Ao).ae j))/\((M.eb Ao).ae i).av.next=((M.eb (AC 3 5)).ae i).av.next:=by
 have d:=Bm (I:=λN=>PhL C K B cov i b N/\∀ j,Ev (M.ae j) (N.ae j)) (λc A N s g=>⟨g.1.step f s.calm,λj=>(g.2 j).trans (s.calm.ev j)⟩) k (by omega) ⟨h,λj=>.refl _⟩;rw[EC];obtain⟨N,l,e,_⟩:=Cv (I:=λN=>PhL C K B cov i b N/\(∀ j,Ev (M.ae j) (N.ae j))/\(N.ae i).av.next=((M.eb (AC 3 5)).ae i).av.next) (λA N s g=>⟨g.1.step f s.rN,λj=>(g.2.1 j).trans (s.rN.ev j),(s.rN.rW i).trans g.2.2⟩) d.1 ⟨d.2.1,d.2.2,rfl⟩;have a:=d.1.act (x:=acN 7 0) (by omega) (by rw[<- DC];decide);rw[l]at a ⊢
 exact⟨e.1.drop,a,rfl,e.2.1,e.2.2⟩
theorem TH(a:PhC C K B cov i b)(u:14*K+38*(cov.length:Int)<=99000)(f:∀ c∈C,c.e=0){n:Nat}{M:Meet}(r:MOk n M)(P:n+6<=1000000)(h:PhL C K B cov i b M)(F:(M.ae i).ab.length<40)(H:(M.ae i).av.next<=(M.ae i).ab.length){c:Cmd}(x:(M.ae i).rj (M.ae i).ab.length=some c) :
  Bz i ⟨((M.ae i).ab.length:Int),b,c⟩ (M.eb Ao)/\((M.eb Ao).ae i).av.next=(M.ae i).ab.length+1:=by
 have G:Ah ⟨((M.ae i).ab.length:Int),b,c⟩:=⟨by show(0:Int)<=((M.ae i).ab.length:Int)/\((M.ae i).ab.length:Int)<=39;omega,a.hb,f c (Lk (h.pe.pb.cm.s.nd i a.hi) x)⟩;have w:∀ c A N,Stp wh1 c A N->PhL C K B cov i b A->PhL C K B cov i b N:=λc A N s g=>g.step a s.calm;have E:∀ A N,TkS A N->PhL C K B cov i b A->PhL C K B cov i b N:=λA N s g=>g.step a s.rN;have Q:=h.round a r P;have q:=MK (J:=λN=>J3 i ⟨((M.ae i).ab.length:Int),b,c⟩ N) w (λd A N s g k=>k.step a s.calm g.pe rfl) r (by omega) h a.hi (λN m _ _ g e=>by
  have:=(OF a u f g (by rw[e];exact F) (by rw[e];exact H) (c:=c) (by rw[e];exact x)).1;rw[e]at this;exact this)
 obtain⟨N,t,S,T⟩:=Iy M a.hi;have p:=Bm w r (by omega) h;have O:PhL C K B cov i b N:=by
  rw[S];have R:∀ k,k<=5->MOk (n+k) (M.eb (AC 3 k))/\PhL C K B cov i b (M.eb (AC 3 k)):=by
   intro k;induction k with
   | zero=>exact λ_=>⟨r,h⟩
   | succ k ih =>
    intro U;obtain⟨D,L⟩:=ih (by omega);rw[BX,AI];exact⟨D.act (by omega) (FU (by omega)),CB w D (by omega) L⟩
  have:=a.hi;exact(R i (by omega)).2
 have z:=(OF a u f O (by rw[t];exact F) (by rw[t];exact H) (c:=c) (by rw[t];exact x)).2;refine⟨?_,by rw[Q.2.2.2.2,T,z,t]⟩;have o:(⟨((M.ae i).ab.length:Int),b,c⟩:Vt).b=b:=rfl;generalize (⟨((M.ae i).ab.length:Int),b,c⟩:Vt)=v at G q o ⊢;rw[EC];generalize M.eb (AC 3 5)=A at p q ⊢;refine⟨?_,λj y e=>?_⟩
 .obtain⟨N,k1,k2,_⟩:=Cv (I:=λN=>PhL C K B cov i b N/\v∈((N.ae i).av.an i).vs) (λA N s g=>⟨E A N s g.1,g.1.pe.pd a s.rN o a.hi g.2⟩) p.1 ⟨p.2,q.1⟩;rw[k1];exact k2.2
 .obtain⟨N,k1,_,k3,_⟩:=DG (J:=λN=>Pend.voted i v∈(N.ae j).bu) E (λA N s _ g=>by
   obtain⟨l,_,_,_,rfl⟩:=s;rw[An];split
   .rename_i e3;rw[<- e3];exact Hh g
   .exact g) p.1 p.2 (q.2 j y e) (λN g=>g.pe.pb.cm.up j y) (λN g _=>by
   rw[An,if_pos rfl];exact Xv a u g.pe.pb y G o (l:={ BJ 3 with cl:=v,src:=i,dst:=j }) rfl rfl)
  rw[k1];exact k3
end
theorem mw(q:Nod){i j:Nat}(b:j<5)(c:j≠i) :
  (q.ab.length<=q.av.bw j/\(E5 q i 5).av.bw j=q.av.bw j)\/(q.av.bw j<q.ab.length/\(E5 q i 5).av.bw j=q.ab.length/\({ BJ 5 with src:=i,dst:=j,bt:=q.av.bw j,fv:=q.ab.drop (q.av.bw j) }:Let)∈Dq q i 5):=by
 have hin:∀ k,j<k->MT q i j=true->({ BJ 5 with src:=i,dst:=j,bt:=q.av.bw j,fv:=q.ab.drop (q.av.bw j) }:Let)∈Dq q i k:=by
  intro k;induction k with
  | zero=>exact λh=>absurd h (oC _)
  | succ k ih =>
   intro f a;rw[Dq];by_cases e:j=k
   .rw[<- e,a,if_pos rfl];exact mD _ (D'.2 rfl)
   .exact mG _ (ih (by omega) a)
 have d:(E5 q i 5).av.bw j=if decide (j<5)&&MT q i j then q.ab.length else q.av.bw j:=rfl;by_cases h:q.av.bw j<q.ab.length
 .have a:MT q i j=true:=O' ⟨c,h⟩;exact .inr ⟨h,by rw[d,a,O' b];rfl,hin 5 b a⟩
 .have a:MT q i j=false:=E' λe=>h e.2;exact .inl ⟨by omega,by rw[d,a,O' b];rfl⟩
theorem T7(p:Nod)(i:Nat)(d:List Let)(c:List Tol):∃ (q:Nod) (ks:List Let),(p.piece i d c).1=(q.bw i ks).1/\(p.piece i d c).2.1=(q.bw i ks).2/\q.av.bw=p.av.bw:=by
 unfold Nod.piece;simp only;have e:=Uz i (p.ab.drop p.done) p c;generalize rD i (p.ab.drop p.done) p c=a at e ⊢;have f:(a.1.kc i).1.av.bw=a.1.av.bw:=by
  unfold Nod.kc;split
  .rfl
  .split
   .unfold Nod.dT;split<;>rfl
   .rfl
 generalize a.1.kc i=b at f ⊢;have g:b.1.cn.av.bw=b.1.av.bw:=by
  unfold Nod.cn;split
  .rfl
  .split
   .rfl
   .split<;>rfl
 generalize b.1.cn=r at g ⊢;have h:(r.nr i (d++b.2)).1.av.bw=r.av.bw:=by
  have j:∀ (l:List Pend) (x:Nod) (k:List Let),(ov i l x k).1.av.bw=x.av.bw:=by
   intro l;induction l with
   | nil=>exact λx k=>rfl
   | cons y l ih =>
    intro x k;rw[ov,ih];cases y with
    | began b vs=>simp only[Nod.lr];split<;>rfl
    | prop v =>
     simp only[Nod.lr,Nod.count];split
     .rfl
     .split<;>rfl
    | _=>rfl
  unfold Nod.nr;split
  .rfl
  .rw[j];unfold Nod.rC;split<;>rfl
 exact⟨_,_,rfl,rfl,by rw[h,g,f,e.1]⟩
section
variable{C:List Cmd}{K:Int}{B:Nat->Bal}{cov:List (Bal × Nat)}{i:Nat}{b:Bal}
theorem PhE.tk{M N:Meet}(s:TkS M N)(h:PhE C K B cov i b M):(N.ae i).av.bw=(M.ae i).av.bw:=by
 obtain⟨l,c,a,d,rfl⟩:=s;rw[An];split
 .rename_i e
  rw[<- e];unfold Nod.take;split
  .split
   .unfold Nod.ed;split<;>rfl
   .show((M.ae i).au _).1.av.bw=_;rw[(Bj _ _).2]
  .simp only;rw[if_pos (.inr (.inr (h.pr l.src a.1)))];rfl
  .rfl
  .split
   .unfold Nod.ed;split<;>rfl
   .show((M.ae i).cl _).1.av.bw=_;rw[(CE _ _).2]
  .unfold Nod.count;split
   .rfl
   .split<;>rfl
  .split<;>rfl
  .simp only;unfold Nod.dT;split<;>split<;>rfl
  .rfl
 .rfl
def TT0(i:Nat)(M:Meet):Prop:=∀ j,j<5->j≠i->(M.ae i).av.bw j<=(M.ae j).ab.length
def TTx(i a0:Nat)(N:Meet):Prop:=∀ j,j<5->j≠i->a0<=(N.ae i).av.bw j/\((N.ae i).av.bw j<=(N.ae j).ab.length\/∃ m∈N.br,m.kind=5/\m.dst=j/\m.bt<=(N.ae j).ab.length/\(N.ae i).av.bw j<=m.bt+m.fv.length)
theorem TV(k:PhC C K B cov i b){n:Nat}{M:Meet}(z:MOk n M)(F:n+1<=1000000)(h:PhL C K B cov i b M)(t:TT0 i M):TTx i (M.ae i).ab.length (M.act (acN 3 (i:Int))):=by
 have E:=h.pe.pb.cm.up i k.hi;have u:=CB (I:=λN=>PhL C K B cov i b N/\Ev (M.ae i) (N.ae i)) (λc A N s g=>⟨g.1.step k s.calm,g.2.trans (s.calm.ev i)⟩) z k.hi ⟨h,.refl _⟩;have l:=u.1.pe.pb.leads k;have d:=u.2.ag.length_le;intro j v a;have o:=E3 M (i:=i) a;have f:=t j v a;have e:M.act (acN 3 (i:Int))=M.set i ((M.ae i).piece i M.br M.ew).1 ((M.ae i).piece i M.br M.ew).2.1 ((M.ae i).piece i M.br M.ew).2.2:=Hg E;obtain⟨q,w,x,y,r⟩:=T7 (M.ae i) i M.br M.ew;rw[o];rw[e,B1,x]at l d ⊢
 have D:q.leads=true:=by
  refine ng λg=>?_;unfold Nod.bw at l;rw[if_neg g]at l
  exact g l
 have p:q.bw i w=(E5 q i 5,w++Dq q i 5):=by unfold Nod.bw;rw[if_pos D]
 rw[p]at d ⊢
 have d:(M.ae i).ab.length<=q.ab.length:=d;show _<=(E5 q i 5).av.bw j/\((E5 q i 5).av.bw j<=_\/∃ m∈((M.ae i).piece i M.br M.ew).2.1,_/\_/\_/\(E5 q i 5).av.bw j<=_);rw[y,p];rcases mw q v a with⟨g1,g2⟩|⟨g1,g2,g3⟩
 .rw[g2];exact⟨by omega,.inl (by rw[r];exact f)⟩
 .rw[g2];refine⟨d,.inr ⟨_,mD _ g3,rfl,rfl,by show q.av.bw j<=_;rw[r];exact f,?_⟩⟩;show q.ab.length<=q.av.bw j+(q.ab.drop (q.av.bw j)).length;rw[mI];omega
theorem MX(u:PhC C K B cov i b){n:Nat}{M:Meet}(E:MOk n M)(L:n+6<=1000000)(h:PhL C K B cov i b M)(t:TT0 i M):TT0 i (M.eb Ao)/\∀ j,j<5->(M.ae i).ab.length<=((M.eb Ao).ae j).ab.length:=by
 have G:∀ c A N,Stp wh1 c A N->PhL C K B cov i b A->PhL C K B cov i b N:=λc A N s g=>g.step u s.calm;have O:∀ k,k<=5->MOk (n+k) (M.eb (AC 3 k))/\PhL C K B cov i b (M.eb (AC 3 k))/\(∀ j,Ev (M.ae j) ((M.eb (AC 3 k)).ae j))/\(k<=i->(M.eb (AC 3 k)).ae i=M.ae i)/\(i<k->TTx i (M.ae i).ab.length (M.eb (AC 3 k))):=by
  intro k;induction k with
  | zero=>exact λ_=>⟨E,h,λj=>.refl _,λ_=>rfl,λe=>absurd e (oC _)⟩
  | succ k ih =>
   intro P;obtain⟨d,o,r,y,p⟩:=ih (by omega);rw[BX,AI];generalize M.eb (AC 3 k)=A at d o r y p ⊢;have q:=CB (I:=λN=>(∀ j,Ev (A.ae j) (N.ae j))/\∀ m∈A.br,m∈N.br) (λc X N s g=>⟨λj=>(g.1 j).trans (s.calm.ev j),λm z=>s.calm.rJ (g.2 m z)⟩) d (show k<5 by omega) ⟨λj=>.refl _,λm z=>z⟩;refine⟨d.act (by omega) (FU (by omega)),CB G d (by omega) o,λj=>(r j).trans (q.1 j),λe=>by rw[E3 _ (by omega)];exact y (by omega),λe=>?_⟩;by_cases F:i<k
   .intro j f a;obtain⟨x,l⟩:=p F j f a;rw[E3 A (i:=k) (j:=i) (by omega)];have:=(q.1 j).ag.length_le;refine⟨x,?_⟩;rcases l with l|⟨m,l,g3,g4,g5,g6⟩
    .exact .inl (by omega)
    .exact .inr ⟨m,q.2 m l,g3,g4,by omega,g6⟩
   .obtain rfl:k=i:=by omega
    have D:=y (A' _);have:=TV u d (by omega) o (λj f a=>by
     have:=(r j).ag.length_le;have:=t j f a;rw[D];omega)
    rw[D]at this;exact this
 obtain⟨d,o,r,_,p⟩:=O 5 (A' _);have p:=p u.hi;rw[EC];generalize M.eb (AC 3 5)=A at d o r p ⊢;have key:∀ j,j<5->j≠i->((A.act (acN 7 0)).ae i).av.bw j<=((A.act (acN 7 0)).ae j).ab.length/\(M.ae i).ab.length<=((A.act (acN 7 0)).ae i).av.bw j:=λj f a=>by
  obtain⟨x,l⟩:=p j f a;rcases l with l|⟨m,l,g3,g4,g5,g6⟩
  .obtain⟨N,w,v,_⟩:=Cv (I:=λN=>PhL C K B cov i b N/\(N.ae i).av.bw=(A.ae i).av.bw/\Ev (A.ae j) (N.ae j)) (λX N s g=>⟨g.1.step u s.rN,(g.1.pe.tk s).trans g.2.1,g.2.2.trans (s.rN.ev j)⟩) d ⟨o,rfl,.refl _⟩;rw[w];show(N.ae i).av.bw j<=(N.ae j).ab.length/\_<=(N.ae i).av.bw j;have:=v.2.2.ag.length_le;rw[v.2.1];omega
  .obtain⟨N,w,v,k3,_⟩:=DG (I:=λN=>PhL C K B cov i b N/\(N.ae i).av.bw=(A.ae i).av.bw/\Ev (A.ae j) (N.ae j)) (J:=λN=>(A.ae i).av.bw j<=(N.ae j).ab.length) (λX N s g=>⟨g.1.step u s.rN,(g.1.pe.tk s).trans g.2.1,g.2.2.trans (s.rN.ev j)⟩) (λX N s g k=>by have:=(s.rN.ev j).ag.length_le;omega) d ⟨o,rfl,.refl _⟩ l (λN g=>by rw[g4];exact g.1.pe.pb.cm.up j f) (λN g _=>by
    have H:=g.2.2.ag.length_le;rw[g4,An,if_pos rfl];unfold Nod.take;rw[g3];simp only;rw[if_neg (by omega)];show _<=((N.ae j).ab++m.fv.drop ((N.ae j).ab.length-m.bt)).length;rw[H',mI];omega)
   rw[w];show(N.ae i).av.bw j<=(N.ae j).ab.length/\_<=(N.ae i).av.bw j;rw[v.2.1];exact⟨k3,x⟩
 refine⟨λj f a=>(key j f a).1,λj f=>?_⟩;by_cases e:j=i
 .subst e;have:=h.round u E L;rw[EC]at this
  obtain⟨N,w,v,_⟩:=Cv (I:=λN=>Ev (A.ae j) (N.ae j)) (λX N s g=>g.trans (s.rN.ev j)) d (.refl _);rw[w];exact((r j).trans v).ag.length_le
 .have:=key j f e;omega
def K1(M:Meet):Prop:=∀ m∈M.br,m.kind=1->m.fv.length<=(M.ae m.src).ab.length
theorem K1.step{c:Nat}{M N:Meet}(s:Stp wh0 c M N)(h:K1 M):K1 N:=by
 have f:∀ m∈M.br,m.kind=1->m.fv.length<=(N.ae m.src).ab.length:=λm i a=>mB (h m i a) (s.ev m.src).ag.length_le;intro m i a;cases s with
 | br _ ls hl hd=>exact False.elim hd
 | ask _ k hi hu =>
  rcases U'.1 i with g|g
  .exact f m g a
  .unfold Nod.kc at g;split at g
   .cases g
   .split at g
    .cases g
    .rw[D'.1 g]at a;cases a
 | run _ k hi hu q l hp hs =>
  rcases U'.1 i with g|g
  .exact f m g a
  .cases q with
   | began b vs =>
    unfold Nod.rm at g;simp only at g;split at g
    .cases g
    .have:=(D7 g).1;rw[a]at this;cases this
   | prop v=>have:=(D7 g).1;rw[a]at this;cases this
   | start=>have:=(D7 g).1;rw[a]at this;cases this
   | prom to b vs =>
    rw[D'.1 g];show(M.ae k).ab.length<=((M.set k { (M.ae k).lr k (.prom to b vs)with bu:=l } _ _).ae k).ab.length;rw[B1];exact A' _
   | _=>have e:=D'.1 g;rw[e]at a;cases a
 | ry _ k hi hu hL =>
  rcases U'.1 i with g|g
  .exact f m g a
  .have:=(JV 5 m g).1;omega
 | lead _ k hi hu hL=>exact False.elim hL
 | sub _ k d hi hu hD=>exact False.elim hD
 | lp _ k x hi hu a hC=>exact False.elim hC
 | start _ k hi hu hs=>exact False.elim hs
 | _=>exact f m i a
end
end Go.Proofs.YtgbabbapcibnlaaGreatDoor
