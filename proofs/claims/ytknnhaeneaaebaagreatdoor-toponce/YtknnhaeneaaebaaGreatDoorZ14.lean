/- Part 14 of the walk. -/
import Derived.Test.YtknnhaeneaaebaaGreatDoorZ13
set_option maxRecDepth 100000
set_option maxHeartbeats 4000000
set_option linter.unusedVariables false
namespace Go.Proofs.YtknnhaeneaaebaaGreatDoor
section
end
section
open Go.RowKit
end
section
section
theorem IA{α:Type}[DecidableEq α]{l m:List α}(f:l.Nodup)(h:∀ x∈l,x∈m):l.length<=m.length:=by
 induction l generalizing m with
 | nil=>exact nG _
 | cons x l ih =>
  obtain⟨c,d⟩:=pC.1 f;have a:=h x M';have:=ih d (m:=m.erase x) λy b=>(qX (λe=>c (by rw[<- e];exact b))).2 (h y (I' _ b));rw[List.length_erase_of_mem a]at this
  have:=List.length_pos_of_mem a;rw[nL];omega
def prc:List Rk->Nat
 | []=>0
 | .pr _::l=>prc l+1
 | .vt _::l=>prc l
def vts:List Rk->List Vt
 | []=>[]
 | .pr _::l=>vts l
 | .vt v::l=>v::vts l
theorem ez(l m:List Rk):prc (l++m)=prc l+prc m:=by
 induction l with
 | nil=>simp[prc]
 | cons r l ih=>cases r<;>simp[prc,ih];omega
theorem fP(l m:List Rk):vts (l++m)=vts l++vts m:=by
 induction l with
 | nil=>rfl
 | cons r l ih=>cases r<;>simp[vts,ih]
theorem Vr{l:List Rk}{v:Vt}:v∈vts l↔Rk.vt v∈l:=by
 induction l with
 | nil=>simp[vts]
 | cons r l ih=>cases r<;>simp[vts,ih]
theorem di(a:List Rk):(fl a).length=14*prc a+38*(vts a).length:=by
 induction a with
 | nil=>rfl
 | cons r l ih =>
  have e:fl (r::l)=AN r.body++fl l:=rfl;rw[e,H',Bi,ih];cases r with
  | pr b=>show(Bu b).length+5+_=14*(prc l+1)+38*(vts l).length;rw[Kl];omega
  | vt v=>show(Bj v).length+5+_=14*prc l+38*((vts l).length+1);rw[GN];omega
variable{K R:Int}{M N:Meet}{b:Bal}{c i j:Nat}{p:Nod}{q:Pend}{rs:List Rk}{σ:Gs}
theorem jc(h:AR rs):(prc rs:Int)<=(By rs).p.key:=h.ind (P:=λrs=>(prc rs:Int)<=(By rs).p.key) (by decide) λrs r f a g=>by
 have c:=Rk.te f.acc a.err;rw[ez,BT];cases r with
 | pr b =>
  have d:=Co a.1;have:(By rs).p.key≠b.key:=λe=>a.2 (DO d.1.1 d.2.1.pr e);have c:(By rs).p.key<=b.key:=c;show((prc rs+1:Nat):Int)<=b.key;omega
 | vt v=>show((prc rs+0:Nat):Int)<=_;exact nA (by omega) c
theorem Xr(s:GsI σ){a:List Rk}(h:AR a)(c:∀ v,Rk.vt v∈a->σ.sG v):(vts a).Nodup:=by
 revert c
 refine h.ind (P:=λa=>(∀ v,Rk.vt v∈a->σ.sG v)->(vts a).Nodup) (λ_=>oT) λa r i m j c=>?_;have j:=j λv g=>c v (mW _ g);rw[fP];cases r with
 | pr b=>show(vts a++[]).Nodup;rw[nC];exact j
 | vt v =>
  show(vts a++[v]).Nodup;refine pB.2 ⟨j,pC.2 ⟨Q',oT⟩,λx z y A e=>?_⟩;rw[D'.1 A]at e
  subst e;obtain⟨B,u,f,l,C⟩:=Rj i x (Vr.1 z);have p:=Ap m.1;have w:=i.acc.le f;have t:=Bo p.2.1.2.1.pr i.acc.1 p.2.2;have n:=c u (mW _ (IU i u f));have d:=c x (mV _ M');have k:u.b=x.b:=DO n.1.2.1.pr d.1.2.1.pr (by omega);have o:=n.2;rw[k,l]at o
  have q:=s.w1 _ _ _ _ o d.2;have:u=x:=(Vt.eq_iff u x).1 ⟨l,k,q⟩;rw[this]at f
  exact m.2 f
theorem fQ(r:GsI σ){d:List Rk}(h:AR d)(i:∀ v,Rk.vt v∈d->σ.sG v){a:List (Bal × Nat)}(B:∀ b s c,σ.W b s c->(b,s)∈a):(vts d).length<=a.length:=by
 have t:=Xr r h i;have j:∀ v∈vts d,σ.sG v:=λv g=>i v (Vr.1 g);have:((vts d).map λv=>(v.b,v.bt.toNat)).Nodup:=by
  clear h i;generalize vts d=q at t j ⊢;induction q with
  | nil=>exact oT
  | cons v l ih =>
   obtain⟨z,A⟩:=pC.1 t;refine pC.2 ⟨λg=>?_,ih A λu f=>j u (I' _ f)⟩;obtain⟨u,f,e⟩:=ny.1 g;have n:=j u (I' _ f);have o:=j v M';have k:u.b=v.b:=congrArg Prod.fst e;have w:u.bt.toNat=v.bt.toNat:=congrArg Prod.snd e;have p:=n.2;rw[k,w]at p
   have y:=r.w1 _ _ _ _ p o.2;have:u=v:=(Vt.eq_iff u v).1 ⟨by have:=n.1.1;have:=o.1.1;omega,k,y⟩;rw[this]at f;exact z f
 have:=IA this (m:=a) λx C=>by
  obtain⟨v,i,rfl⟩:=ny.1 C;exact B _ _ _ (j v i).2
 rwa [nr]at this
theorem bz(h:AgI σ M){a:List (Bal × Nat)}(e:∀ b s c,σ.W b s c->(b,s)∈a){j:Nat}(f:j<5)(g:(M.ab j).up=true):((M.ab j).d.length:Int)<=14*(M.ab j).vo.p.key+38*(a.length:Int):=by
 obtain⟨m,k⟩:=(h.nd j f).up g;have i:=fQ h.gs k.tp.ok k.sG e;have l:=jc k.tp.ok;rw[k.tp.d,di,k.tp.vo];omega
def Nod.pk(p:Nod):Int:=if p.up then p.vo.p.key else(Eu p.d).2.p.key
def KbI(K R:Int)(M:Meet):Prop:=∀ j,j<5->(M.ab j).pk<=K/\5*(M.ab j).dc<=R
theorem NdI.sU(h:NdI σ j p):σ.P j<=p.pk:=by
 unfold Nod.pk;split
 .rename_i hu
  obtain⟨c,k⟩:=h.up hu;obtain⟨x,b⟩:=k.tp.pre;have a:=k.tp.ok;rw[<- b]at a
  have:=(DI a).1;rw[b,<- k.tp.vo]at this
  exact this
 .rename_i hu
  rw[(h.dn (by simpa using hu)).tN];exact mU _
theorem AgI.sU(h:AgI σ M){K R:Int}(c:KbI K R M){b:Bal}(d:Ac b)(e:b.key<=σ.P b.n.toNat):b.key<=K:=by
 have a:b.n.toNat<5:=by unfold Ac at d;omega
 exact nA e (nA (h.nd _ a).sU (c _ a).1)
theorem YR(h:Ao b):5*b.r<=b.key:=by unfold Ao Ac at h;unfold Bal.key;omega
theorem KbI.set(h:KbI K R M){i:Nat}{p:Nod}(b:p.pk<=K/\5*p.dc<=R)(ls:List Let)(ts:List Tol):KbI K R (M.set i p ls ts):=λj a=>by
 show(upN M.ab i p j).pk<=K/\5*(upN M.ab i p j).dc<=R;unfold upN;split
 .exact b
 .exact h j a
theorem KbI.step{D:Wh}(P:¬ D.ld){n:Nat}{σ:Gs}{M N:Meet}(h:AgI σ M)(s:Stp D n M N){K R:Int}(Q:K<=R)(m:KbI K R M):KbI K R N:=by
 have qv:∀ {i:Nat} {p:Nod},i<5->(M.ab i).up=true->p.up=true->p.vo.p.key<=(M.ab i).vo.p.key\/p.vo.p.key<=K->p.dc=(M.ab i).dc->p.pk<=K/\5*p.dc<=R:=λ{i p} j f z S A=>by
  have o:=m i j;unfold Nod.pk at o ⊢;rw[if_pos f]at o
  rw[if_pos z,A];exact⟨S.elim (λg=>nA g o.1) id,o.2⟩
 cases s with
 | take _ l hl hd f _ =>
  have w:=h.lt l hl;obtain⟨O,k⟩:=(h.nd _ hd.2).up f;have b:=(congrArg Prod.fst (PC (M.ab l.dst) l)).trans f;refine m.set ?_ _ _
  revert b
  unfold Nod.take;split
  .rename_i u
   rcases k.tp.au l.hU with⟨e,he⟩|⟨e,he,hvs,rs',z,v,hm,hpb,hpv,d,a,hq⟩
   .rw[if_pos e];intro b;refine qv hd.2 f b (.inl ?_) ?_<;>(unfold Nod.ed;split)<;>first|exact mU _|rfl
   .rw[if_neg (λg=>g e)];intro b;refine qv hd.2 f b (.inr ?_) (by show((M.ab l.dst).au l.hU).1.dc=_;rw[hq];rfl);show((M.ab l.dst).au l.hU).1.vo.p.key<=K;rw[v.vo,hpb];exact h.sU m (Co he).2.1 (w.k0 u)
  .simp only;split<;>exact λb=>qv hd.2 f b (.inl (mU _)) rfl
  .rename_i u
   intro b;have o:=qv (p:=M.ab l.dst) hd.2 f f (.inl (mU _)) rfl;refine⟨o.1,?_⟩;have B:=nA (w.k2 u).2 (nA (h.nd _ hd.1).sU (m _ hd.1).1);have J:5*l.hU.r<=K:=nA (YR (w.k2 u).1) B;show 5*max (M.ab l.dst).dc l.hU.r<=R;have:=o.2;omega
  .rename_i u
   rcases k.tp.cl l.cl with⟨e,he⟩|⟨e,he,rs',z,v,hm,hpb,d,a,hq⟩
   .rw[if_pos e];intro b;refine qv hd.2 f b (.inl ?_) ?_<;>(unfold Nod.ed;split)<;>first|exact mU _|rfl
   .rw[if_neg (λg=>g e)];intro b;refine qv hd.2 f b (.inr ?_) (by show((M.ab l.dst).cl l.cl).1.dc=_;rw[hq];rfl);show((M.ab l.dst).cl l.cl).1.vo.p.key<=K;rw[v.vo,hpb];exact h.sU m (Ap he).2.1.2.1 (h.gs.w3 _ _ _ (w.k3 u).2)
  .unfold Nod.count;split
   .exact λb=>qv hd.2 f b (.inl (mU _)) rfl
   .split<;>exact λb=>qv hd.2 f b (.inl (mU _)) rfl
  .split<;>exact λb=>qv hd.2 f b (.inl (mU _)) rfl
  .simp only;unfold Nod.dT;split<;>split<;>exact λb=>qv hd.2 f b (.inl (mU _)) rfl
  .exact λb=>qv hd.2 f b (.inl (mU _)) rfl
 | br _ ls hl _=>exact m
 | one _ i c j f hc he =>
  refine m.set (qv j f ((Eb { M.ab i with ni:=doS (M.ab i).ni c,done:=(M.ab i).done+1 } c).1.trans f) (.inl ?_) ?_) _ _<;>(unfold Nod.fv;split)<;>first|exact mU _|rfl
 | ask _ i j f =>
  refine m.set (qv j f ((Ir _ i).trans f) (.inl ?_) ?_) _ _<;>(unfold Nod.jv;split)<;>first|exact mU _|rfl|(split<;>first|exact mU _|rfl|(unfold Nod.dT;split<;>first|exact mU _|rfl))
 | prop _ i j f =>
  refine m.set (qv j f ((EF _).trans f) (.inl ?_) ?_) _ _
  .obtain⟨O,k⟩:=(h.nd i j).up f;unfold Nod.cF;split
   .exact mU _
   .rename_i hc
    have G:(M.ab i).leads=true:=by cases hh:(M.ab i).leads with|true=>rfl|false=>exact absurd (.inl hh) hc
    cases hn:(M.ab i).rk (M.ab i).ae.length with
    | none=>exact mU _
    | some c =>
     simp only;rcases k.tp.cl ⟨((M.ab i).ae.length:Int),(M.ab i).av.hU,c⟩with⟨e,he⟩|⟨e,he,rs',z,v,hm,hpb,d,a,hq⟩
     .rw[if_pos e];exact mU _
     .rw[if_neg (λg=>g e)];show((M.ab i).cl _).1.vo.p.key<=_;rw[v.vo,hpb,(nJ G).2];exact mU _
  .unfold Nod.cF;split
   .rfl
   .split
    .rfl
    .split
     .rfl
     .show((M.ab i).cl _).1.dc=_;unfold Nod.cl;split
      .rfl
      .split
       .rfl
       .split<;>rfl
 | sj _ i j f hlt E=>exact m.set (qv (p:={ M.ab i with sy:=((M.ab i).d.length:Int) }) j f f (.inl (mU _)) rfl) _ _
 | run _ i j f q l z hs =>
  have u:=DJ (M.ab i) i q;refine m.set (qv (p:={ (M.ab i).ln i q with bu:=l }) j f (u.2.1.trans f) (.inl ?_) ?_) _ _<;>(cases q<;>first|exact mU _|rfl|(simp only[Nod.ln];split<;>first|exact mU _|rfl)|(simp only[Nod.ln,Nod.count];split<;>first|exact mU _|rfl|(split<;>first|exact mU _|rfl)))
 | sg _ i j f w=>exact m.set (qv (p:=EL (M.ab i) i 5) j f f (.inl (mU _)) rfl) _ _
 | lead _ i j f w=>exact absurd w P
 | sub _ i d j f hd =>
  have b:((M.ab i).sw i d M.ew).1.up=true:=by
   unfold Nod.sw Nod.sC;split
   .exact f
   .split
    .exact f
    .split
     .exact f
     .show(Nod.want _ _).up=true;unfold Nod.want;split<;>exact f
  refine m.set (qv j f b (.inl ?_) ?_) _ _<;>(unfold Nod.sw Nod.sC;split)<;>first|exact mU _|rfl|(split<;>first|exact mU _|rfl|(split<;>first|exact mU _|rfl|(simp only[Nod.want];split<;>first|exact mU _|rfl)))
 | lr _ i c j f hc hC =>
  obtain⟨O,k⟩:=(h.nd i j).up f;obtain⟨x,_,⟨y,L⟩,C⟩:=k.tp.lr hc;have F:=Iw (p:=M.ab i) k.tp.sT hc;have A:((M.ab i).lr c).dc=0:=by
   unfold Nod.lr;rw[if_neg]
   .rfl
   .intro e;exact e (by unfold Gp;rw[if_neg (λe=>e k.tp.sT),if_neg (by omega)])
  have t:=(m i j).1;unfold Nod.pk at t;rw[if_pos f]at t
  have o:=k.tp.ok;rw[<- L]at o
  have B:=(DI o).1;rw[L,<- k.tp.vo]at B
  have I:=(AR.left o).acc.1;have J:0<=(By x).p.key:=by unfold Ao Ac at I;unfold Bal.key;omega
  refine m.set ⟨?_,by rw[A];omega⟩ _ _;unfold Nod.pk;rw[if_neg (by rw[F.2.1];decide),C.tN];show(By x).p.key<=K;omega
 | start _ i j f _ =>
  have k:=(h.nd i j).dn f;have v:=k.start;have E:AT (M.ab i).d (M.ab i).sy:=⟨k.len,by rw[k.sy];omega,by rw[k.sy];omega⟩;have H:=GE (p:=M.ab i) E;have A:(M.ab i).start.dc=0:=by
   unfold Nod.start;rw[if_neg (λe=>e (if_pos E))];split<;>rfl
  have t:=(m i j).1;unfold Nod.pk at t;rw[if_neg (by rw[f];decide),k.tN]at t
  have t:(By (σ.dr i)).p.key<=K:=t;have I:=v.ok.acc.1;have J:0<=(By (σ.dr i)).p.key:=by unfold Ao Ac at I;unfold Bal.key;omega
  refine m.set ⟨?_,by rw[A];omega⟩ _ _;unfold Nod.pk;rw[if_pos H.2.1,v.vo];exact t
def wh1:Wh:=⟨λ_ _=>False,False,False,False,False,False⟩
def wh0:Wh:=⟨λ_ _=>False,False,False,False,True,False⟩
theorem Stp.calm(h:Stp wh1 c M N):Stp wh0 c M N:=by
 cases h with
 | take _ l hl hd hu ht=>exact .take M l hl hd hu trivial
 | br _ ls h hd=>exact False.elim hd
 | one _ i c hi hu hc he=>exact .one M i c hi hu hc he
 | ask _ i hi hu=>exact .ask M i hi hu
 | prop _ i hi hu=>exact .prop M i hi hu
 | sj _ i hi hu h hT=>exact .sj M i hi hu h hT
 | run _ i hi hu q l hp hs=>exact .run M i hi hu q l hp hs
 | sg _ i hi hu hL=>exact .sg M i hi hu hL
 | lead _ i hi hu hL=>exact False.elim hL
 | sub _ i d hi hu hD=>exact False.elim hD
 | lr _ i k hi hu hk hC=>exact False.elim hC
 | start _ i hi hu hs=>exact False.elim hs
theorem Kp{to:Nat}{e:Int}(a:q∈p.bu):q∈(p.ed to e).bu:=by
 unfold Nod.ed;split
 .exact mW _ a
 .exact a
theorem Hh{l:Let}(a:q∈p.bu):q∈(p.take l).bu:=by
 unfold Nod.take;split
 .split
  .exact Kp a
  .exact mW _ (by rw[FP];exact a)
 .simp only;split<;>exact a
 .exact a
 .split
  .exact Kp a
  .exact mW _ (by rw[Hi];exact a)
 .unfold Nod.count;split
  .exact a
  .split<;>exact a
 .split
  .exact mW _ a
  .exact a
 .simp only;unfold Nod.dT;split<;>split<;>first|exact a|exact mW _ a
 .exact a
theorem Pt(a:q∈p.bu):q∈p.cF.bu:=by
 unfold Nod.cF;split
 .exact a
 .split
  .exact a
  .split
   .exact a
   .exact mW _ (by rw[Hi];exact a)
theorem Jq(p:Nod)(i:Nat):(p.jv i).1.bu=p.bu/\(p.jv i).1.d=p.d/\(p.jv i).1.sy=p.sy:=by
 unfold Nod.jv;split
 .exact⟨rfl,rfl,rfl⟩
 .split
  .unfold Nod.dT;split<;>exact⟨rfl,rfl,rfl⟩
  .exact⟨rfl,rfl,rfl⟩
theorem GJ(p:Nod)(c:Cmd):(p.fv c).bu=p.bu/\(p.fv c).d=p.d/\(p.fv c).sy=p.sy:=by unfold Nod.fv;split<;>exact⟨rfl,rfl,rfl⟩
theorem Yh(i:Nat)(l:List Cmd)(p:Nod)(a:List Tol):(so i l p a).1.d=p.d/\(so i l p a).1.sy=p.sy:=by
 induction l generalizing p a with
 | nil=>exact⟨rfl,rfl⟩
 | cons c l ih =>
  rw[so];split
  .exact⟨rfl,rfl⟩
  .have h1:=ih (Nod.fv { p with ni:=doS p.ni c,done:=p.done+1 } c) (if(p.bN c).isSome=true then a++[⟨i,c.c,c.s,doC p.ni c,doA p.ni c⟩]else a);have b:=GJ { p with ni:=doS p.ni c,done:=p.done+1 } c;exact⟨h1.1.trans b.2.1,h1.2.trans b.2.2⟩
theorem Sn(i:Nat)(l:List Pend)(p:Nod)(a:List Let):(qk i l p a).1.bu=p.bu:=by
 induction l generalizing p a with
 | nil=>rfl
 | cons q l ih=>rw[qk,ih];exact(DJ p i q).1
theorem Ib(h:AT p.d p.sy)(i:Nat)(k:List Let)(l:List Tol):(p.piece i k l).1.bu=[]:=by
 unfold Nod.piece;simp only;have g:=Yh i (p.ae.drop p.done) p l;generalize so i (p.ae.drop p.done) p l=a at g ⊢;have j:=Jq a.1 i;generalize a.1.jv i=b at j ⊢;have c:b.1.tp:=by show AT b.1.d b.1.sy;rw[j.2.1,j.2.2,g.1,g.2];exact h
 have m:b.1.cF.tp:=by
  unfold Nod.cF;split
  .exact c
  .split
   .exact c
   .split
    .exact c
    .exact PJ c _
 generalize b.1.cF=r at m ⊢;have n:(r.ov i (k++b.2)).1.bu=[]:=by
  unfold Nod.ov;rw[if_neg (λe=>e.2 (if_pos m)),Sn]
 generalize r.ov i (k++b.2)=f at n ⊢;unfold Nod.bw;split<;>exact n
theorem Am(M:Meet)(i:Nat)(p:Nod)(a:List Let)(b:List Tol)(j:Nat):(M.set i p a b).ab j=if j=i then p else M.ab j:=rfl
theorem Ow(s:Stp wh0 c M N){i:Nat}{q:Pend}(hq:q∈(M.ab i).bu):q∈(N.ab i).bu\/∃ l,(M.ab i).bu=q::l/\N=M.set i { (M.ab i).ln i q with bu:=l } (M.br++(M.ab i).sc i q) M.ew:=by
 have put:∀ {j:Nat} {p:Nod} {a:List Let} {b:List Tol},(j=i->q∈p.bu)->q∈((M.set j p a b).ab i).bu:=λ{j p a b} h=>by
  rw[Am];split
  .rename_i e;exact h e.symm
  .exact hq
 cases s with
 | take _ l hl hd hu ht=>exact .inl (put λe=>Hh (by rw[e];exact hq))
 | br _ a h hd=>exact False.elim hd
 | one _ j c hi hu hc he=>exact .inl (put λe=>by rw[(GJ _ c).1,e];exact hq)
 | ask _ j hi hu=>exact .inl (put λe=>by rw[(Jq _ j).1,e];exact hq)
 | prop _ j hi hu=>exact .inl (put λe=>Pt (by rw[e];exact hq))
 | sj _ j hi hu h hT=>exact .inl (put λe=>by subst e;exact hq)
 | run _ j hi hu x l hp hs =>
  by_cases e:j=i
  .subst e;rw[hp]at hq
   rcases nf.1 hq with rfl|hq
   .exact .inr ⟨l,hp,rfl⟩
   .exact .inl (by rw[Am,if_pos rfl];exact hq)
  .exact .inl (put λf=>absurd f e)
 | sg _ j hi hu hL=>exact .inl (put λe=>by subst e;exact hq)
 | lead _ j hi hu hL=>exact False.elim hL
 | sub _ j d hi hu hD=>exact False.elim hD
 | lr _ j k hi hu hk hC=>exact False.elim hC
 | start _ j hi hu hs=>exact False.elim hs
theorem Hg(a:(M.ab i).up=true):M.act (acN 3 (i:Int))=M.set i ((M.ab i).piece i M.br M.ew).1 ((M.ab i).piece i M.br M.ew).2.1 ((M.ab i).piece i M.br M.ew).2.2:=by
 unfold Meet.act;simp[acN,a]
theorem FU(a:i<5):LacOk (acN 3 (i:Int)):=CN ⟨.inr (.inl rfl),by omega,by omega⟩
theorem aR(i:Nat):wh1.may (acN 3 (i:Int)):=⟨λe=>absurd e (by show(3:Int)≠1;decide),λe=>absurd e (by show(3:Int)≠2;decide),λe=>absurd e (by show(3:Int)≠8;decide),λe=>absurd e (by show ¬ ((3:Int)=4\/(3:Int)=5\/(3:Int)=6\/(3:Int)=7);decide),λe=>absurd e (by show(3:Int)≠9;decide)⟩
end
section
variable{I J:Meet->Prop}
theorem CA(a:∀ c M N,Stp wh1 c M N->I M->I N){n:Nat}{M:Meet}(b:MOk n M){i:Nat}(d:i<5)(h:I M):I (M.act (acN 3 (i:Int))):=(ON (D:=wh1) b (FU d) (aR i)).inv a h
theorem WV(a:∀ c M N,Stp wh1 c M N->I M->I N)(b:∀ c M N,Stp wh1 c M N->I M->J M->J N){n:Nat}{M:Meet}(e:MOk n M){i:Nat}(f:i<5)(p:(M.ab i).up=true)(o:AT (M.ab i).d (M.ab i).sy){q:Pend}(j:q∈(M.ab i).bu)(h:I M)
  (m:∀ N l,I N->(N.ab i).bu=q::l->J (N.set i { (N.ab i).ln i q with bu:=l } (N.br++(N.ab i).sc i q) N.ew)):J (M.act (acN 3 (i:Int))):=by
 have k:=CA (I:=λN=>I N/\(q∈(N.ab i).bu\/J N)) (λc A B s g=>⟨a c A B s g.1,by
  rcases g.2 with g2|g2
  .rcases Ow s.calm g2 with g3|⟨l,g3,rfl⟩
   .exact .inl g3
   .exact .inr (m A l g.1 g3)
  .exact .inr (b c A B s g.1 g2)⟩) e f ⟨h,.inl j⟩
 refine k.2.resolve_left λg=>?_;rw[Hg p,Am,if_pos rfl,Ib o]at g
 cases g
def TkS(M N:Meet):Prop:=∃ l,l∈M.br/\(l.src<5/\l.dst<5)/\(M.ab l.dst).up=true/\N=M.set l.dst ((M.ab l.dst).take l) M.br M.ew
theorem TkS.sF{M N:Meet}(h:TkS M N):Stp wh0 0 M N:=by obtain⟨l,a,b,c,rfl⟩:=h;exact .take M l a b c trivial
theorem Jw(e:∀ M N,TkS M N->I M->I N)(l:List Let){M:Meet}(a:∀ m∈l,m∈M.br/\m.src<5/\m.dst<5)(h:I M):I (l.foldl (λM l=>M.pd l) M)/\(l.foldl (λM l=>M.pd l) M).br=M.br:=by
 induction l generalizing M with
 | nil=>exact⟨h,rfl⟩
 | cons x l ih =>
  obtain⟨b,c⟩:=a x M';have d:I (M.pd x):=by
   unfold Meet.pd;split
   .rename_i hu;exact e M _ ⟨x,b,c,hu,rfl⟩ h
   .exact h
  have:=ih (M:=M.pd x) (λm f=>by rw[Ew];exact a m (I' _ f)) d;exact⟨this.1,this.2.trans (Ew M x)⟩
theorem DR(f:∀ M N,TkS M N->I M->I N)(t:∀ M N,TkS M N->I M->J M->J N){n:Nat}{M:Meet}(o:MOk n M)(h:I M){l:Let}(k:l∈M.br)(q:∀ N,I N->(N.ab l.dst).up=true)
  (u:∀ N,I N->N.br=M.br->J (N.set l.dst ((N.ab l.dst).take l) N.br N.ew)):∃ N,M.act (acN 7 0)={ N with br:=[] }/\I N/\J N/\N.br=M.br:=by
 have j:∀ m∈M.br,m.src<5/\m.dst<5:=λm d=>⟨(o.br m d).src,(o.br m d).dst⟩;obtain⟨a,b,e⟩:=List.append_of_mem k;have r:M.act (acN 7 0)={ M.br.foldl (λM l=>M.pd l) M with br:=[] }:=by
  show M.si=_;unfold Meet.si;rw[Hz]
 refine⟨_,r,?_⟩;have c:=Jw f a (M:=M) (λm d=>by have:m∈M.br:=(by rw[e];exact mW _ d);exact⟨this,j m this⟩) h;rw[show M.br.foldl (λM l=>M.pd l) M=b.foldl (λM l=>M.pd l) ((a.foldl (λM l=>M.pd l) M).pd l)by rw[e,pR];rfl];generalize a.foldl (λM l=>M.pd l) M=A at c ⊢;have p:A.pd l=A.set l.dst ((A.ab l.dst).take l) A.br A.ew:=by unfold Meet.pd;rw[if_pos (q A c.1)];rfl
 have s:TkS A (A.pd l):=⟨l,by rw[c.2];exact k,j l k,q A c.1,p⟩;have i:=Jw (I:=λN=>I N/\J N) (λA B s g=>⟨f A B s g.1,t A B s g.1 g.2⟩) b (M:=A.pd l) (λm d=>by
  have:m∈M.br:=by rw[e];exact mV _ (I' _ d)
  exact⟨by rw[Ew,c.2];exact this,j m this⟩) ⟨f _ _ s c.1,by rw[p];exact u A c.1 c.2⟩
 exact⟨i.1.1,i.1.2,by rw[i.2,Ew,c.2]⟩
end
theorem KbI.mono{K R a b:Int}{M:Meet}(h:KbI K R M)(d:K<=a)(e:R<=b):KbI a b M:=λj c=>⟨nA (h j c).1 d,nA (h j c).2 e⟩
theorem TB{D:Wh}(l:¬ D.ld){n:Nat}{M N:Meet}(s:Sts D n M N){σ:Gs}(h:AgI σ M){K R:Int}(a:K<=R)(f:KbI K R M):∃ (τ:Gs) (ex:List (Bal × Nat)),σ.le τ/\AgI τ N/\KbI K R N/\ex.length<=n/\∀ b s c,τ.W b s c->σ.W b s c\/(b,s)∈ex:=by
 induction s with
 | nil=>exact⟨σ,[],.refl σ,h,f,nG _,λ_ _ _ g=>.inl g⟩
 | snoc _ s hm ih =>
  obtain⟨τ,ex,i,d,j,r,k⟩:=ih h f;obtain⟨υ,e,m,o,p,q⟩:=d.step s;refine⟨υ,ex++e.toList,i.trans m,o,j.step l d s a,?_,λb s c g=>?_⟩
  .cases e with
   | none=>simp;omega
   | some x=>have:=(q x.1 x.2 rfl).1;simp;omega
  .rcases p b s c g with g|g
   .exact(k b s c g).imp id λg=>mW _ g
   .exact .inr (mV _ (by rw[g];exact D'.2 rfl))
theorem KbI.lead{σ:Gs}{M:Meet}(h:AgI σ M){R:Int}(l:KbI R R M){i:Nat}(m:i<5)(j:(M.ab i).up=true)(o:List Let)(q:List Tol):KbI (R+9) (R+9) (M.set i ((M.ab i).lead i) o q):=by
 obtain⟨t,k⟩:=(h.nd i m).up j;have f:=l i m;have c:=f.1;unfold Nod.pk at c;rw[if_pos j]at c
 have s:=YR (b:=(M.ab i).vo.p) (by rw[k.tp.vo];exact k.tp.ok.acc.1);refine(l.mono (by omega) (by omega)).set ?_ _ _;unfold Nod.lead;simp only;generalize n:(⟨max (M.ab i).dc (M.ab i).vo.p.r+1,(i:Int)⟩:Bal)=b;rcases k.tp.au b with⟨e,he⟩|⟨e,he,hvs,rs',hp,ht,hm,hpb,hpv,d,a,hq⟩
 .rw[if_pos e];exact⟨by have:=f.1;omega,by have:=f.2;omega⟩
 .rw[if_neg (λg=>g e)];refine⟨?_,?_⟩
  .show(if((M.ab i).au b).1.up=true then((M.ab i).au b).1.vo.p.key else(Eu ((M.ab i).au b).1.d).2.p.key)<=_;rw[if_pos (by rw[hq];exact j),ht.vo,hpb,<- n];show 5*(max (M.ab i).dc (M.ab i).vo.p.r+1)+(i:Int)<=_;omega
  .show 5*((M.ab i).au b).1.dc<=_;rw[hq];show 5*(M.ab i).dc<=_;omega
def whL:Wh:=⟨λ_ _=>True,False,True,True,True,True⟩
def lds(L:List Lac):Nat:=L.countP λx=>decide (x.k=2)
theorem WM(L:List Lac){n:Nat}{M:Meet}(w:MOk n M)(B:n+L.length<=1000000)(v:∀ x∈L,LacOk x){σ:Gs}(h:AgI σ M){R:Int}(l:KbI R R M){cov:List (Bal × Nat)}(m:∀ b s c,σ.W b s c->(b,s)∈cov) :
  ∃ (τ:Gs) (cov':List (Bal × Nat)),σ.le τ/\AgI τ (M.dx L)/\KbI (R+9*(lds L:Int)) (R+9*(lds L:Int)) (M.dx L)/\cov'.length<=cov.length+L.length/\∀ b s c,τ.W b s c->(b,s)∈cov':=by
 induction L generalizing n M σ R cov with
 | nil=>exact⟨σ,cov,.refl σ,h,l.mono (by simp[lds]) (by simp[lds]),A' _,m⟩
 | cons x L ih =>
  rw[nL]at B
  have t:=v x M';have r:lds (x::L)=lds L+if x.k=2 then 1 else 0:=by unfold lds;rw[qQ];simp
  have one:∃ (τ:Gs) (cov':List (Bal × Nat)),σ.le τ/\AgI τ (M.act x)/\KbI (R+if x.k=2 then 9 else 0) (R+if x.k=2 then 9 else 0) (M.act x)/\cov'.length<=cov.length+1/\∀ b s c,τ.W b s c->(b,s)∈cov':=by
   by_cases d:x.k=2
   .rw[if_pos d];have z:x.n.toNat<5:=by have:=t.n (by rw[d];rfl);omega
    have e:M.act x=M.set x.n.toNat (if(M.ab x.n.toNat).up then(M.ab x.n.toNat).lead x.n.toNat else M.ab x.n.toNat) M.br M.ew:=by
     unfold Meet.act;simp only;rw[if_neg (by omega),if_pos d]
    by_cases o:(M.ab x.n.toNat).up=true
    .rw[if_pos o]at e
     obtain⟨τ,u,f,i,j,p⟩:=h.step (D:=whT) (.lead M _ z o trivial);refine⟨τ,cov,f,by rw[e];exact i,by rw[e];exact l.lead h z o _ _,by omega,λb s c g=>?_⟩;rcases j b s c g with g|g
     .exact m b s c g
     .exact absurd (p b s g).1 (by decide)
    .rw[if_neg o,EW]at e
     rw[e];exact⟨σ,cov,.refl σ,h,l.mono (by omega) (by omega),by omega,m⟩
   .rw[if_neg d,Int.add_zero];obtain⟨τ,u,f,i,j,p,q⟩:=TB (D:=whL) (λe=>e) (ON w t ⟨λ_=>trivial,λe=>d e,λ_=>trivial,λ_=>⟨trivial,trivial⟩,λ_=>trivial⟩) h (mU R) l;refine⟨τ,cov++u,f,i,j,by rw[H'];omega,λb s c g=>?_⟩;exact(q b s c g).elim (λg=>mW _ (m b s c g)) λg=>mV _ g
  obtain⟨τ,cov',f,i,j,p,q⟩:=one;obtain⟨υ,a,E,F,A,H,G⟩:=ih (w.act (by omega) t) (by omega) (λy C=>v y (I' _ C)) i j q;have e:R+(if x.k=2 then 9 else 0)+9*(lds L:Int)=R+9*(lds (x::L):Int):=by
   rw[r];split<;>omega
  rw[e]at A
  exact⟨υ,a,f.trans E,F,A,by rw[nL];omega,G⟩
theorem KbI.zero:KbI 0 0 As:=λj a=>⟨by show Dc.pk<=0;decide,by show 5*Dc.dc<=0;decide⟩
section
variable{S:Cmd->Prop}
section
def VsS(S:Cmd->Prop)(l:List Vt):Prop:=∀ v∈l,S v.w
def RsS(S:Cmd->Prop)(rs:List Rk):Prop:=∀ v,Rk.vt v∈rs->S v.w
def PnS(S:Cmd->Prop):Pend->Prop
 | .began _ vs=>VsS S vs
 | .prom _ _ vs=>VsS S vs
 | .voted _ v=>S v.w
 | .prop v=>S v.w
 | _=>True
structure NdS(S:Cmd->Prop)(p:Nod):Prop where
 up:p.up=true->∃ dr rs,TpU p dr rs/\RsS S rs
 dn:p.up=false->∃ dr,TpD p dr/\RsS S dr
 ag:∀ c∈p.ae,S c
 wa:∀ c∈p.bn,S c
 qu:∀ c∈p.av.fa,S c
 he:∀ j,j<5->VsS S (p.av.an j).vs
 pe:∀ q∈p.bu,PnS S q
structure LtS(S:Cmd->Prop)(l:Let):Prop where
 vs:VsS S l.mv
 wh:∀ c∈l.gC,S c
 vt:l.kind=3\/l.kind=4->S l.cl.w
variable{M:Meet}{dr:List Rk}{i:Nat}{p q:Nod}{r:Rnd}
theorem NdS.tape(h:NdS S p){q:Nod}(i:q.up=p.up)(a:q.d=p.d)(f:q.sy=p.sy)(n:q.vo=p.vo)(l:∀ c∈q.ae,S c)(t:∀ c∈q.bn,S c)(r:∀ c∈q.av.fa,S c)(m:∀ j,j<5->VsS S (q.av.an j).vs)(o:∀ x∈q.bu,PnS S x):NdS S q :=
 ⟨λe=>by
  obtain⟨b,s,k,g⟩:=h.up (i▸e);exact⟨b,s,⟨k.ok,k.pre,a.trans k.d,f.trans k.sy,n.trans k.vo,by rw[a];exact k.len⟩,g⟩,λe=>by
  obtain⟨b,k,g⟩:=h.dn (i▸e);exact⟨b,⟨k.ok,by rw[a];exact k.tN,by rw[a];exact k.tk,by rw[f,a];exact k.sy,by rw[a];exact k.len⟩,g⟩,l,t,r,m,o⟩
theorem NdS.wait(h:NdS S p){x:Pend}(a:PnS S x):NdS S (p.wait x) :=
 h.tape rfl rfl rfl rfl h.ag h.wa h.qu h.he λy b=>(P'.1 b).elim (h.pe y) λe=>by rw[D'.1 e];exact a
theorem NdS.ed(h:NdS S p)(to:Nat)(e:Int):NdS S (p.ed to e):=by
 unfold Nod.ed;split
 .exact h.wait trivial
 .exact h
theorem NdS.wrote(h:NdS S p){f b:List Rk}(j:TpU q f b)(i:RsS S b)(k:p.up=true){d:List Int}{a:Acc}(g:q=p.tv d p.sy a)(l:∀ c∈q.ae,S c):NdS S q:=by
 subst g;exact⟨λ_=>⟨f,b,j,i⟩,λe=>(by rw[show(p.tv d p.sy a).up=p.up from rfl,k]at e;cases e),h.ag,h.wa,h.qu,h.he,h.pe⟩
theorem gG(h:∀ j,j<5->VsS S (r.an j).vs){a:Acc}(b:a∈r.hZ):VsS S a.vs:=by
 unfold Rnd.hZ at b;simp only[nf,Q',or_false]at b;rcases b with rfl|rfl|rfl|rfl|rfl
 .exact h 0 (by omega)
 .exact h 1 (by omega)
 .exact h 2 (by omega)
 .exact h 3 (by omega)
 .exact h 4 (by omega)
theorem Y1(h:∀ j,j<5->VsS S (r.an j).vs){s:Int}{v:Vt}(e:v∈Ae (r.hZ.map (·.vs)).flatten s):S v.w:=by
 obtain⟨l,b,c⟩:=o8.1 (AL.1 e).1;obtain⟨a,d,rfl⟩:=ny.1 b;exact gG h d v c
theorem ii(h:∀ j,j<5->VsS S (r.an j).vs){s:Int}(a:Db r.hZ s=0):S (CU r.hZ s):=by
 have c:CU r.hZ s=((Hj (D8 r.hZ s) r.hZ.length).map (·.w)).getD ⟨0,0,0,0,0⟩:=if_pos a;unfold Db at a;split at a
 .cases a
 .split at a
  .cases a
  .split at a
   .rename_i hO
    obtain⟨v,b⟩:=om.1 hO;rw[c,b];exact Y1 h (rC b)
   .cases a
theorem iL(h:∀ j,j<5->VsS S (r.an j).vs)(k:Nat){l:List Cmd}(a:∀ c∈l,S c):∀ c∈FG k r l,S c:=by
 induction k generalizing l with
 | zero=>exact a
 | succ k ih =>
  rw[FG];split
  .rename_i he;exact ih λc b=>(P'.1 b).elim (a c) λe=>by rw[D'.1 e];exact ii h he
  .exact a
theorem NdS.sf(h:NdS S p):NdS S p.sf:=h.tape rfl rfl rfl rfl (iL h.he 41 h.ag) h.wa h.qu h.he h.pe
theorem dz(a:Acc)(l:List Vt)(d:VsS S a.vs)(e:VsS S l):VsS S (Dk a l).vs:=by
 induction l generalizing a with
 | nil=>exact d
 | cons u l ih =>
  rw[Dk];refine ih _ ?_ λv b=>e v (I' _ b);by_cases c:Ba a u=0
  .rw[if_pos c];intro v b;have b:v∈Br a u:=b;rw[(DN c).2]at b
   rcases(BA (Ap c).1.2.2).1 b with rfl|⟨b,_⟩
   .exact e v M'
   .exact d v b
  .rw[if_neg c];exact d
theorem YE(h:∀ j,j<5->VsS S (r.an j).vs)(j:Nat)(b:j<5){a:List Vt}(d:VsS S a):∀ k,k<5->VsS S ((r.sr j a).an k).vs:=λk c=>by
 show VsS S (upN r.an j _ k).vs;unfold upN;split
 .exact dz ⟨r.hU,a⟩ _ d (h j b)
 .exact h k c
theorem NdS.count(h:NdS S p){j:Nat}(c:j<5){v:Vt}(e:S v.w):NdS S (p.count j v):=by
 unfold Nod.count;split
 .exact h
 .split
  .exact h
  .rename_i b
   have b:=mY.1 b;refine NdS.sf (h.tape rfl rfl rfl rfl h.ag h.wa h.qu (λk d=>?_) h.pe);show VsS S (upN p.av.an j _ k).vs;unfold upN;split
   .intro u a;have a:u∈Br (p.av.an j) v:=a;rw[(DN b).2]at a
    rcases(BA (Ap b).1.2.2).1 a with rfl|⟨a,_⟩
    .exact e
    .exact h.he j c u a
   .exact h.he k d
theorem ix(q l:List Cmd)(b:∀ c∈q,S c)(f:∀ c∈l,S c):∀ c∈Hk q l,S c:=by
 induction l generalizing q with
 | nil=>exact b
 | cons d l ih =>
  rw[Hk];refine ih _ ?_ λc a=>f c (I' _ a);split
  .exact λc a=>(P'.1 a).elim (b c) λe=>by rw[D'.1 e];exact f d M'
  .exact b
theorem NdS.dT(h:NdS S p){l:List Cmd}(a:∀ c∈l,S c):NdS S (p.dT l):=by
 unfold Nod.dT;split
 .exact h.tape rfl rfl rfl rfl h.ag h.wa (ix _ _ h.qu a) h.he h.pe
 .exact h
theorem NdS.lp(h:NdS S p)(bt:Nat){l:List Cmd}(b:∀ c∈l,S c):NdS S (p.lp bt l) :=
 h.tape rfl rfl rfl rfl (λc a=>(P'.1 a).elim (h.ag c) λg=>b c (oM g)) h.wa h.qu h.he h.pe
theorem TpU.uN{a:List Rk}(h:TpU p dr a)(b:RsS S a):VsS S p.vo.vs:=λv c=>b v (IU h.ok v (by rw[<- h.vo];exact c))
theorem NdS.take(h:NdS S p)(f:p.up=true){l:Let}(b:LtS S l)(j:l.src<5):NdS S (p.take l):=by
 obtain⟨m,n,k,c⟩:=h.up f;unfold Nod.take;split
 .rcases k.au l.hU with⟨e,he⟩|⟨e,he,hvs,rs',hp,ht,hm,hpb,hpv,d,a,hq⟩
  .rw[if_pos e];exact h.ed _ _
  .rw[if_neg (λg=>g e)];exact(h.wrote ht (λv i=>c v ((hm v).1 i)) f hq (by rw[hq];exact h.ag)).wait (by show VsS S _;rw[hvs];exact k.uN c)
 .have hL:=h.lp 0 b.wh;generalize p.lp 0 l.gC=K at hL ⊢;simp only;split
  .exact hL
  .exact NdS.sf (hL.tape rfl rfl rfl rfl hL.ag hL.wa hL.qu (YE hL.he _ j b.vs) hL.pe)
 .exact h.tape rfl rfl rfl rfl h.ag h.wa h.qu h.he h.pe
 .rename_i hk
  rcases k.cl l.cl with⟨e,he⟩|⟨e,he,rs',hp,ht,hm,hpb,d,a,hq⟩
  .rw[if_pos e];exact h.ed _ _
  .rw[if_neg (λg=>g e)];exact(h.wrote ht (λv i=>((hm v).1 i).elim (λe=>by rw[e];exact b.vt (.inl hk)) (c v)) f hq (by rw[hq];exact h.ag)).wait (b.vt (.inl hk))
 .rename_i hk;exact h.count j (b.vt (.inr hk))
 .split
  .exact h.wait trivial
  .exact h.lp _ b.wh
 .simp only;split
  .exact(h.dT b.wh).wait trivial
  .exact h.dT b.wh
 .exact h
theorem KT(h:NdS S p){s:Nat}{c:Cmd}(b:p.rk s=some c):S c:=by
 unfold Nod.rk at b;split at b
 .cases b
 .rename_i a
  have a:=mY.1 a;split at b
  .rename_i hF
   have f:G3 (p.av.hZ.map (·.vs)) (s:Int)=((Ej (p.av.hZ.map (·.vs)) (s:Int)).map (·.w)).getD ⟨0,0,0,0,0⟩:=if_pos a;have d:DY (p.av.hZ.map (·.vs)) (s:Int)=(Ej (p.av.hZ.map (·.vs)) (s:Int)).isSome:=if_pos a;rw[hF]at d
   obtain⟨x,i⟩:=om.1 d.symm;rw[i]at f
   rw[<- nO b,f];refine Y1 h.he (s:=(s:Int)) ?_;have:∀ (l:List Vt) (o:Option Vt) (x:Vt),BR l o=some x->x∈l\/o=some x:=by
    intro l;induction l with
    | nil=>intro o x e;exact .inr e
    | cons v l ih =>
     intro o x e;cases o with
     | none =>
      rw[BR]at e
      rcases ih _ _ e with g|g
      .exact .inl (I' _ g)
      .left;cases g;exact M'
     | some u =>
      rw[BR]at e
      split at e
      .rcases ih _ _ e with g|g
       .exact .inl (I' _ g)
       .left;cases g;exact M'
      .rcases ih _ _ e with g|g
       .exact .inl (I' _ g)
       .exact .inr g
   exact(this _ _ _ i).resolve_right λe=>by cases e
  .exact h.qu c (rC b)
theorem NdS.cF(h:NdS S p)(f:p.up=true):NdS S p.cF:=by
 obtain⟨l,m,k,i⟩:=h.up f;unfold Nod.cF;split
 .exact h
 .cases hn:p.rk p.ae.length with
  | none=>exact h
  | some c =>
   have b:=KT h hn;simp only;rcases k.cl ⟨(p.ae.length:Int),p.av.hU,c⟩with⟨e,he⟩|⟨e,he,rs',hp,ht,hm,hpb,d,a,hq⟩
   .rw[if_pos e];exact h
   .rw[if_neg (λg=>g e)];have g:=h.wrote ht (λv j=>((hm v).1 j).elim (λe=>by rw[e];exact b) (i v)) f hq (by rw[hq];exact h.ag);exact NdS.wait (p:={ (p.cl ⟨(p.ae.length:Int),p.av.hU,c⟩).1 with av:={ p.av with next:=p.ae.length+1 } }) (g.tape rfl rfl rfl rfl g.ag g.wa h.qu h.he g.pe) b
theorem NdS.run(n:i<5){p:Nod}(h:NdS S p){q:Pend}{l:List Pend}(o:p.bu=q::l):NdS S { p.ln i q with bu:=l }/\∀ m∈p.sc i q,LtS S m:=by
 have f:=h.pe q (by rw[o];exact M');have j:∀ {p':Nod},NdS S p'->p'.bu=p.bu->NdS S { p' with bu:=l }:=λ{p'} g e=>g.tape rfl rfl rfl rfl g.ag g.wa g.qu g.he λx r=>g.pe x (by rw[e,o];exact I' _ r);have none:∀ c∈([]:List Cmd),S c:=λc k=>by cases k
 have a:VsS S []:=λc k=>by cases k
 cases q with
 | began b vs =>
  unfold Nod.ln Nod.sc;simp only;split
  .exact⟨j h rfl,λm d=>(by cases d)⟩
  .refine⟨j (p':={ p with av:=p.av.sr i vs }) (h.tape rfl rfl rfl rfl h.ag h.wa h.qu (YE h.he i n f) h.pe) rfl,λm d=>?_⟩;obtain⟨to,_,rfl⟩:=CH d;exact⟨a,none,λe=>e.elim (λg=>by cases g) λg=>(by cases g)⟩
 | prom to b vs=>exact⟨j h rfl,λm d=>by rw[D'.1 d];exact⟨f,h.ag,λe=>e.elim (λg=>by cases g) λg=>(by cases g)⟩⟩
 | voted to v=>exact⟨j h rfl,λm d=>by rw[D'.1 d];exact⟨a,none,λ_=>f⟩⟩
 | ed to b=>exact⟨j h rfl,λm d=>by rw[D'.1 d];exact⟨a,none,λe=>e.elim (λg=>by cases g) λg=>(by cases g)⟩⟩
 | prop v =>
  refine⟨j (h.count n f) (DJ p i (.prop v)).1,λm d=>?_⟩;obtain⟨to,_,rfl⟩:=CH d;exact⟨a,none,λ_=>f⟩
 | askNews to=>exact⟨j h rfl,λm d=>by rw[D'.1 d];exact⟨a,none,λe=>e.elim (λg=>by cases g) λg=>(by cases g)⟩⟩
 | start =>
  refine⟨j h rfl,λm d=>?_⟩;obtain⟨to,_,rfl⟩:=CH d;exact⟨a,none,λe=>e.elim (λg=>by cases g) λg=>(by cases g)⟩
 | tell to bt=>exact⟨j h rfl,λm d=>by rw[D'.1 d];exact⟨a,λc k=>h.ag c (oM k),λe=>e.elim (λg=>by cases g) λg=>(by cases g)⟩⟩
theorem NdS.lead(h:NdS S p)(m:p.up=true):NdS S (p.lead i):=by
 obtain⟨o,q,k,l⟩:=h.up m;unfold Nod.lead;simp only;generalize (⟨max p.dc p.vo.p.r+1,(i:Int)⟩:Bal)=b;rcases k.au b with⟨e,he⟩|⟨e,he,hvs,rs',hp,ht,hm,hpb,hpv,d,a,hq⟩
 .rw[if_pos e];exact h
 .rw[if_neg (λg=>g e)];have g:=h.wrote ht (λv f=>l v ((hm v).1 f)) m hq (by rw[hq];exact h.ag);exact NdS.wait (p:={ (p.au b).1 with av:=⟨b,λ_=>false,λ_=>Eo,λ_=>p.ae.length,0,[]⟩ }) (x:=.began b (p.au b).2.1) (g.tape rfl rfl rfl rfl g.ag g.wa (λc n=>by cases n) (λj _ v f=>by cases f) g.pe) (by show VsS S _;rw[hvs];exact k.uN l)
theorem gU(b:Bal)(f:Cmd->Option Bal)(l:List Cmd)(h:∀ c∈l,S c):∀ c∈(Bb b f l).1,S c:=by
 induction l generalizing f with
 | nil=>intro c a;cases a
 | cons d l g =>
  have g:=λf=>g f λc a=>h c (I' _ a);rw[Bb];split
  .exact λc a=>(nf.1 a).elim (λe=>by rw[e];exact h d M') (g _ c)
  .exact g f
structure MtS(S:Cmd->Prop)(M:Meet):Prop where
 nd:∀ i,i<5->NdS S (M.ab i)
 lt:∀ l∈M.br,LtS S l
theorem MtS.set(h:MtS S M){i:Nat}{p:Nod}(d:NdS S p){ls:List Let}(b:∀ l∈ls,l∈M.br\/LtS S l)(ts:List Tol):MtS S (M.set i p ls ts) :=
 ⟨λj a=>by
  show NdS S (upN M.ab i p j);unfold upN;split
  .exact d
  .exact h.nd j a,λl c=>(b l c).elim (h.lt l) id⟩
theorem MtS.step{D:Wh}(x:∀ i d,D.d i d->∀ now:Nat,opE d (now:Int)=0->S (DX d (now:Int))){n:Nat}{M N:Meet}(s:Stp D n M N)(h:MtS S M):MtS S N:=by
 have same:∀ l∈M.br,l∈M.br\/LtS S l:=λl o=>.inl o;have app:∀ {ms:List Let},(∀ m∈ms,LtS S m)->∀ l∈M.br++ms,l∈M.br\/LtS S l:=λg l o=>(P'.1 o).imp id (g l);cases s with
 | take _ l o hd hu _=>exact h.set ((h.nd _ hd.2).take hu (h.lt l o) hd.1) same _
 | br _ ls o _=>exact⟨h.nd,λl g=>h.lt l (o l g)⟩
 | one _ i c hi hu a he =>
  refine h.set ?_ same _;have k:=h.nd i hi;unfold Nod.fv;split
  .exact k.tape rfl rfl rfl rfl k.ag (λc a=>k.wa c (List.mem_of_mem_erase a)) k.qu k.he k.pe
  .exact k.tape rfl rfl rfl rfl k.ag k.wa k.qu k.he k.pe
 | ask _ i hi hu =>
  have k:=h.nd i hi;have E:=gU (M.ab i).vo.p (M.ab i).bN ((M.ab i).bn.take 40) λc a=>k.wa c (np a);have B:NdS S { M.ab i with bN:=(Bb (M.ab i).vo.p (M.ab i).bN ((M.ab i).bn.take 40)).2 }:=k.tape rfl rfl rfl rfl k.ag k.wa k.qu k.he k.pe;refine h.set ?_ (app ?_) _
  .unfold Nod.jv;split
   .exact B
   .split
    .exact B.dT E
    .exact B
  .intro m hm;unfold Nod.jv at hm;split at hm
   .cases hm
   .split at hm
    .cases hm
    .rw[D'.1 hm];exact⟨λv f=>(by cases f),E,λe=>e.elim (λg=>by cases g) λg=>(by cases g)⟩
 | prop _ i hi hu=>exact h.set ((h.nd i hi).cF hu) same _
 | sj _ i hi hu hlt y =>
  have k:=h.nd i hi;obtain⟨u,C,g,r⟩:=k.up hu;exact h.set (p:={ M.ab i with sy:=((M.ab i).d.length:Int) }) ⟨λ_=>⟨C,C,g.sj,r⟩,λe=>(by rw[show _=(M.ab i).up from rfl,hu]at e;cases e),k.ag,k.wa,k.qu,k.he,k.pe⟩ same _
 | run _ i hi hu q l hp hs =>
  have g:=(h.nd i hi).run hi hp;exact h.set g.1 (app g.2) _
 | sg _ i hi hu hL =>
  have k:=h.nd i hi;refine h.set (p:=EL (M.ab i) i 5) (k.tape rfl rfl rfl rfl k.ag k.wa k.qu k.he k.pe) (app ?_) _;have:∀ n,∀ m∈Du (M.ab i) i n,LtS S m:=by
   intro n;induction n with
   | zero=>intro m hm;cases hm
   | succ n ih =>
    intro m hm;rw[Du]at hm
    rcases P'.1 hm with hm|hm
    .exact ih m hm
    .split at hm
     .rw[D'.1 hm];exact⟨λv f=>(by cases f),λc a=>k.ag c (oM a),λe=>e.elim (λg=>by cases g) λg=>(by cases g)⟩
     .cases hm
  exact this 5
 | lead _ i hi hu _=>exact h.set ((h.nd i hi).lead hu) same _
 | sub _ i d hi hu hd =>
  have k:=h.nd i hi;refine h.set ?_ same _;unfold Nod.sw Nod.sC;split
  .exact k
  .split
   .exact k.tape rfl rfl rfl rfl k.ag k.wa k.qu k.he k.pe
   .rename_i he
    split
    .exact k
    .show NdS S (Nod.want _ _);unfold Nod.want;split
     .exact k
     .exact k.tape rfl rfl rfl rfl k.ag (λc a=>(P'.1 a).elim (k.wa c) λe=>by rw[D'.1 e];exact x i d hd _ (mY.1 he)) k.qu k.he k.pe
 | lr _ i c hi hu a _ =>
  have k:=h.nd i hi;obtain⟨u,C,g,r⟩:=k.up hu;obtain⟨w,_,G,x⟩:=g.lr a;have z:Gp (M.ab i).d (M.ab i).sy c=0:=by unfold Gp;rw[if_neg (λe=>e g.sT),if_neg (by omega)]
  have A:=Iw (p:=M.ab i) g.sT a;refine h.set ⟨λe=>(by rw[A.2.1]at e;cases e),λ_=>⟨w,x,λv f=>r v (G.subset f)⟩,?_,?_,?_,?_,?_⟩ same _<;>(unfold Nod.lr;rw[if_neg (λe=>e z)])
  .exact λc a=>by cases a
  .exact λc a=>by cases a
  .exact λc a=>by cases a
  .exact λj _ v f=>by cases f
  .exact λc a=>by cases a
 | start _ i hi hu _ =>
  obtain⟨u,g,r⟩:=(h.nd i hi).dn hu;have y:AT (M.ab i).d (M.ab i).sy:=⟨g.len,by rw[g.sy];omega,by rw[g.sy];omega⟩;have t:=GE (p:=M.ab i) y;have b:(M.ab i).start.av=eM/\(M.ab i).start.bu=[.start]/\(M.ab i).start.bn=[]:=by
   unfold Nod.start;rw[if_neg (λe=>e (if_pos y))];split<;>exact⟨rfl,rfl,rfl⟩
  refine h.set ⟨λ_=>⟨u,u,g.start,r⟩,λe=>(by rw[t.2.1]at e;cases e),?_,?_,?_,?_,?_⟩ same _
  .rw[t.2.2.2];exact λc a=>by cases a
  .rw[b.2.2];exact λc a=>by cases a
  .rw[b.1];exact λc a=>by cases a
  .rw[b.1];exact λj _ v f=>by cases f
  .rw[b.2.1];exact λq F=>by rw[D'.1 F];trivial
theorem MtS.zero:MtS S As:=⟨λi _=>⟨λ_=>⟨[],[],TpU.zero,λv b=>(by cases b)⟩,λe=>(by cases e),λc a=>(by cases a),λc a=>(by cases a),λc a=>(by cases a),λj _ v b=>(by cases b),λc a=>(by cases a)⟩,λl d=>(by cases d)⟩
theorem gL(L:List Lac)(f:∀ x∈L,LacOk x)(n:L.length<=100000)(j:∀ x∈L,x.k=1->∀ now:Nat,opE x.d (now:Int)=0->S (DX x.d (now:Int))):MtS S (As.dx L):=by
 have s:Sts ⟨λ_ d=>∃ x∈L,x.k=1/\x.d=d,True,True,True,True,True⟩ L.length As (As.dx L):=Ip L MOk.zero (by omega) λx a=>⟨f x a,λe=>⟨x,a,e,rfl⟩,λ_=>trivial,λ_=>trivial,λ_=>⟨trivial,trivial⟩,λ_=>trivial⟩;exact s.inv (λ_ M N h g=>g.step (λi d l now m=>by obtain⟨x,b,c,rfl⟩:=l;exact j x b c now m) h) MtS.zero
end
end
structure Ev(p q:Nod):Prop where
 up:q.up=p.up
 hU:q.av.hU=p.av.hU
 vo:p.vo.p.key<=q.vo.p.key
 dc:p.dc<=q.dc
 ag:p.ae <+: q.ae
 rN:∀ j,p.av.rN j=true->q.av.rN j=true
 next:p.av.next<=q.av.next
 qu:p.av.fa <+: q.av.fa
 wa:∀ c∈q.bn,c∈p.bn
 dn:p.done<=q.done
theorem Ev.refl(p:Nod):Ev p p:=⟨rfl,rfl,mU _,mU _,mX _,λ_ h=>h,A' _,mX _,λ_ h=>h,A' _⟩
theorem Ev.trans{p q r:Nod}(h:Ev p q)(k:Ev q r):Ev p r:=⟨k.up.trans h.up,k.hU.trans h.hU,nA h.vo k.vo,nA h.dc k.dc,h.ag.trans k.ag,λj g=>k.rN j (h.rN j g),mT h.next k.next,h.qu.trans k.qu,λc g=>h.wa c (k.wa c g),mT h.dn k.dn⟩
theorem IB(k:Nat)(r:Rnd)(l:List Cmd):l <+: FG k r l:=by
 induction k generalizing l with
 | zero=>exact mX _
 | succ k ih =>
  rw[FG];split
  .exact(oC _ _).trans (ih _)
  .exact mX _
theorem Qo(l q:List Cmd):q <+: Hk q l:=by
 induction l generalizing q with
 | nil=>exact mX _
 | cons c l ih =>
  rw[Hk];split
  .exact(oC _ _).trans (ih _)
  .exact ih _
theorem Ev.au(p:Nod)(b:Bal):Ev p (p.au b).1:=by
 unfold Nod.au;split
 .exact .refl p
 .rename_i h
  have a:=Co (mY.1 h);have c:p.vo.p.key<=b.key:=Bo a.2.1.pr a.1.1 a.2.2;split
  .exact⟨rfl,rfl,c,mU _,mX _,λ_ h=>h,A' _,mX _,λ_ h=>h,A' _⟩
  .split
   .exact .refl p
   .exact⟨rfl,rfl,c,mU _,mX _,λ_ h=>h,A' _,mX _,λ_ h=>h,A' _⟩
theorem Ev.cl(p:Nod)(v:Vt):Ev p (p.cl v).1:=by
 unfold Nod.cl;split
 .exact .refl p
 .rename_i h
  have a:=Ap (mY.1 h);have c:p.vo.p.key<=v.b.key:=Bo a.2.1.2.1.pr a.1.1 a.2.2;split
  .exact⟨rfl,rfl,c,mU _,mX _,λ_ h=>h,A' _,mX _,λ_ h=>h,A' _⟩
  .split
   .exact .refl p
   .exact⟨rfl,rfl,c,mU _,mX _,λ_ h=>h,A' _,mX _,λ_ h=>h,A' _⟩
theorem Ev.bu{p q:Nod}(h:Ev p q)(x:List Pend):Ev p { q with bu:=x }:=⟨h.up,h.hU,h.vo,h.dc,h.ag,h.rN,h.next,h.qu,h.wa,h.dn⟩
theorem Ev.uJ(p:Nod){l:List Cmd}(h:p.ae <+: l):Ev p { p with ae:=l }:=⟨rfl,rfl,mU _,mU _,h,λ_ h=>h,A' _,mX _,λ_ h=>h,A' _⟩
theorem Ev.ed(p:Nod)(to:Nat)(e:Int):Ev p (p.ed to e):=by
 unfold Nod.ed;split
 .exact(Ev.refl p).bu _
 .exact .refl p
theorem Ev.count(p:Nod)(j:Nat)(v:Vt):Ev p (p.count j v):=by
 unfold Nod.count;split
 .exact .refl p
 .split
  .exact .refl p
  .exact⟨rfl,rfl,mU _,mU _,IB _ _ _,λ_ h=>h,A' _,mX _,λ_ h=>h,A' _⟩
theorem Ev.uD(p:Nod)(l:List Cmd):Ev p (p.dT l):=by
 unfold Nod.dT;split
 .exact⟨rfl,rfl,mU _,mU _,mX _,λ_ h=>h,A' _,Qo _ _,λ_ h=>h,A' _⟩
 .exact .refl p
theorem Vh{f:Nat->Bool}{i j:Nat}(h:f j=true):upN f i true j=true:=by unfold upN;split<;>first|rfl|exact h
theorem Ev.take(p:Nod)(l:Let):Ev p (p.take l):=by
 unfold Nod.take;split
 .split
  .exact .ed p _ _
  .exact(Ev.au p l.hU).bu _
 .simp only;have a:Ev p (p.lp 0 l.gC):=.uJ p (oC _ _);split
  .exact a
  .exact⟨rfl,rfl,mU _,mU _,a.ag.trans (IB _ _ _),λ_ h=>Vh h,A' _,mX _,λ_ h=>h,A' _⟩
 .exact⟨rfl,rfl,mU _,Int.le_max_left _ _,mX _,λ_ h=>h,A' _,mX _,λ_ h=>h,A' _⟩
 .split
  .exact .ed p _ _
  .exact(Ev.cl p l.cl).bu _
 .exact .count p _ _
 .split
  .exact(Ev.refl p).bu _
  .exact .uJ p (oC _ _)
 .simp only;split
  .exact(Ev.uD p l.gC).bu _
  .exact .uD p l.gC
 .exact .refl p
theorem Ev.cF(p:Nod):Ev p p.cF:=by
 unfold Nod.cF;split
 .exact .refl p
 .rename_i hc
  have a:p.av.next<=p.ae.length:=by omega
  split
  .exact .refl p
  .split
   .exact .refl p
   .have h1:=Ev.cl p ⟨(p.ae.length:Int),p.av.hU,‹Cmd›⟩;exact⟨h1.up,rfl,h1.vo,h1.dc,h1.ag,λ_ h=>h,mT a (oc _),mX _,h1.wa,h1.dn⟩
theorem Ev.fv(p:Nod)(c:Cmd):Ev p (p.fv c):=by
 unfold Nod.fv;split
 .exact⟨rfl,rfl,mU _,mU _,mX _,λ_ h=>h,A' _,mX _,λ_ h=>List.mem_of_mem_erase h,A' _⟩
 .exact .refl p
theorem Ev.jv(p:Nod)(i:Nat):Ev p (p.jv i).1:=by
 have a:Ev p { p with bN:=(Bb p.vo.p p.bN (p.bn.take 40)).2 }:=⟨rfl,rfl,mU _,mU _,mX _,λ_ h=>h,A' _,mX _,λ_ h=>h,A' _⟩;unfold Nod.jv;split
 .exact a
 .split
  .exact a.trans (.uD _ _)
  .exact a
theorem Ev.ln(p:Nod)(i:Nat)(q:Pend):Ev p (p.ln i q):=by
 cases q with
 | began b vs =>
  simp only[Nod.ln];split
  .exact .refl p
  .exact⟨rfl,rfl,mU _,mU _,mX _,λ_ h=>Vh h,A' _,mX _,λ_ h=>h,A' _⟩
 | prop v=>exact .count p i v
 | _=>exact .refl p
theorem Stp.ev{c:Nat}{M N:Meet}(s:Stp wh0 c M N)(j:Nat):Ev (M.ab j) (N.ab j):=by
 have put:∀ {i:Nat} {p:Nod} {a:List Let} {b:List Tol},Ev (M.ab i) p->Ev (M.ab j) ((M.set i p a b).ab j):=λ{i p a b} h=>by
  rw[Am];split
  .rename_i e;rw[e];exact h
  .exact .refl _
 cases s with
 | take _ l hl hd hu ht=>exact put (.take _ l)
 | br _ a h hd=>exact False.elim hd
 | one _ i c hi hu hc he =>
  refine put (Ev.trans (q:={ M.ab i with ni:=doS (M.ab i).ni c,done:=(M.ab i).done+1 }) ?_ (.fv _ c));exact⟨rfl,rfl,mU _,mU _,mX _,λ_ h=>h,A' _,mX _,λ_ h=>h,oc _⟩
 | ask _ i hi hu=>exact put (.jv _ i)
 | prop _ i hi hu=>exact put (.cF _)
 | sj _ i hi hu h hT=>exact put ⟨rfl,rfl,mU _,mU _,mX _,λ_ h=>h,A' _,mX _,λ_ h=>h,A' _⟩
 | run _ i hi hu q l hp hs=>exact put ((Ev.ln _ i q).bu l)
 | sg _ i hi hu hL=>exact put ⟨rfl,rfl,mU _,mU _,mX _,λ_ h=>h,A' _,mX _,λ_ h=>h,A' _⟩
 | lead _ i hi hu hL=>exact False.elim hL
 | sub _ i d hi hu hD=>exact False.elim hD
 | lr _ i k hi hu hk hC=>exact False.elim hC
 | start _ i hi hu hs=>exact False.elim hs
theorem Stp.sx{c:Nat}{M N:Meet}(s:Stp wh0 c M N){l:Let}(a:l∈M.br):l∈N.br:=by
 cases s with
 | br _ ls h hd=>exact False.elim hd
 | ask _ i hi hu=>exact mW _ a
 | run _ i hi hu q l hp hs=>exact mW _ a
 | sg _ i hi hu hL=>exact mW _ a
 | _=>exact a
structure Cm(S:Cmd->Prop)(K:Int)(B:Nat->Bal)(cov:List (Bal × Nat))(M:Meet):Prop where
 ex:∃ σ,AgI σ M/\∀ b s c,σ.W b s c->(b,s)∈cov
 kb:K<=3600/\KbI K 3600 M
 up:∀ j,j<5->(M.ab j).up=true
 hU:∀ j,j<5->(M.ab j).av.hU=B j
 s:MtS S M
section
variable{S:Cmd->Prop}{K:Int}{B:Nat->Bal}{cov:List (Bal × Nat)}
theorem Cm.step(n:∀ j,j<5->∀ s,s<40->(B j,s)∈cov){c:Nat}{M N:Meet}(s:Stp wh0 c M N)(h:Cm S K B cov M):Cm S K B cov N:=by
 obtain⟨σ,d,f⟩:=h.ex;obtain⟨τ,o,p,k,l,m⟩:=d.step s;refine⟨⟨τ,k,λb t c g=>?_⟩,⟨h.kb.1,h.kb.2.step (λe=>e) d s h.kb.1⟩,λj a=>(s.ev j).up.trans (h.up j a),λj a=>(s.ev j).hU.trans (h.hU j a),h.s.step (λ_ _ e=>False.elim e) s⟩;rcases l b t c g with g|g
 .exact f b t c g
 .obtain⟨_,h7,i,hi,e⟩:=m b t g;rw[e,h.hU i hi];exact n i hi t h7
theorem Cm.sT{M:Meet}(h:Cm S K B cov M){j:Nat}(a:j<5):AT (M.ab j).d (M.ab j).sy:=by
 obtain⟨σ,b,_⟩:=h.ex;obtain⟨c,k⟩:=(b.nd j a).up (h.up j a);exact k.tp.sT
theorem Cm.le{M:Meet}(h:Cm S K B cov M){j:Nat}(a:j<5):(M.ab j).vo.p.key<=K:=by
 have:=(h.kb.2 j a).1;unfold Nod.pk at this
 rwa [if_pos (h.up j a)]at this
theorem Cm.len{M:Meet}(h:Cm S K B cov M){j:Nat}(a:j<5):((M.ab j).d.length:Int)<=14*K+38*(cov.length:Int):=by
 obtain⟨σ,b,c⟩:=h.ex;have e:=bz b c a (h.up j a);have:=h.le a;omega
end
section
variable{S:Cmd->Prop}{K:Int}{B:Nat->Bal}{cov:List (Bal × Nat)}{M:Meet}
theorem Cm.acc(h:Cm S K B cov M){j:Nat}(a:j<5):Ag (M.ab j).vo:=by
 obtain⟨σ,b,_⟩:=h.ex;obtain⟨c,k⟩:=(b.nd j a).up (h.up j a);rw[k.tp.vo];exact k.tp.ok.acc
theorem Cm.prom(h:Cm S K B cov M)(k:14*K+38*(cov.length:Int)<=99000){j:Nat}(a:j<5){b:Bal}(c:Ac b)(i:¬ b.lt (M.ab j).vo.p):((M.ab j).au b).2.2=0/\((M.ab j).au b).1.vo.p=b:=by
 have e:Cl (M.ab j).vo b=0:=by unfold Cl;rw[if_neg (λg=>g (h.acc a)),if_neg (λg=>g c),if_neg i]
 have f:CJ (M.ab j).d (M.ab j).sy (Ac b) (Bu b)=0:=by
  have:=h.len a;unfold CJ;rw[UY (h.sT a) (by rw[Kl];omega),if_neg (λg=>g rfl),if_pos c]
 unfold Nod.au;rw[if_neg (λg=>g e)];split
 .exact⟨rfl,rfl⟩
 .rw[if_neg (λg=>g f)];exact⟨rfl,rfl⟩
theorem Cm.ui(h:Cm S K B cov M)(k:14*K+38*(cov.length:Int)<=99000){j:Nat}(a:j<5){v:Vt}(c:Ah v)(i:¬ v.b.lt (M.ab j).vo.p):((M.ab j).cl v).2=0/\((M.ab j).cl v).1.vo.p=v.b:=by
 have e:Ba (M.ab j).vo v=0:=by unfold Ba;rw[if_neg (λg=>g (h.acc a)),if_neg (λg=>g c),if_neg i]
 have f:CJ (M.ab j).d (M.ab j).sy (Ah v) (Bj v)=0:=by
  have:=h.len a;unfold CJ;rw[UY (h.sT a) (by rw[GN];omega),if_neg (λg=>g rfl),if_pos c]
 unfold Nod.cl;rw[if_neg (λg=>g e)];split
 .exact⟨rfl,rfl⟩
 .rw[if_neg (λg=>g f)];exact⟨rfl,rfl⟩
end
section
variable{I J:Meet->Prop}
theorem EH(M:Meet){i j:Nat}(h:j≠i):(M.act (acN 3 (i:Int))).ab j=M.ab j:=by
 unfold Meet.act;simp only[acN];rw[if_neg (by decide),if_neg (by decide),if_pos trivial,Am,if_neg (by rw[nI];exact h)]
theorem Fu(i:∀ c M N,Stp wh1 c M N->I M->I N)(r:∀ c M N,Stp wh1 c M N->I M->J M->J N)(z:∀ M j,I M->j<5->(M.ab j).up=true/\AT (M.ab j).d (M.ab j).sy){n:Nat}{M:Meet}(v:MOk n M)(D:n+5<=1000000)(h:I M){j:Nat}(m:j<5){q:Pend}(w:q∈(M.ab j).bu)
  (x:∀ N l,I N->Ev (M.ab j) (N.ab j)->(N.ab j).bu=q::l->J (N.set j { (N.ab j).ln j q with bu:=l } (N.br++(N.ab j).sc j q) N.ew)):J (M.dx (AE 3 5)):=by
 have y:∀ k,k<=5->MOk (n+k) (M.dx (AE 3 k))/\I (M.dx (AE 3 k))/\(k<=j->(M.dx (AE 3 k)).ab j=M.ab j)/\(j<k->J (M.dx (AE 3 k))):=by
  intro k;induction k with
  | zero=>exact λ_=>⟨v,h,λ_=>rfl,λe=>absurd e (pc _)⟩
  | succ k ih =>
   intro C;obtain⟨b,f,p,u⟩:=ih (by omega);rw[BS,AK];refine⟨b.act (by omega) (FU (by omega)),CA i b (by omega) f,λe=>by rw[EH _ (by omega)];exact p (by omega),λe=>?_⟩;by_cases t:j<k
   .exact(CA (I:=λN=>I N/\J N) (λc A B s g=>⟨i c A B s g.1,r c A B s g.1 g.2⟩) b (by omega) ⟨f,u t⟩).2
   .obtain rfl:k=j:=by omega
    have o:=p (A' _);have a:=z _ k f m;exact WV (I:=λN=>I N/\Ev (M.ab k) (N.ab k)) (λc A B s g=>⟨i c A B s g.1,g.2.trans (s.calm.ev k)⟩) (λc A B s g=>r c A B s g.1) b m a.1 a.2 (by rw[o];exact w) ⟨f,by rw[o];exact .refl _⟩ λN l g=>x N l g.1 g.2
 exact(y 5 (A' _)).2.2.2 m
theorem Bl(d:∀ c M N,Stp wh1 c M N->I M->I N){n:Nat}{M:Meet}(e:MOk n M)(i:n+5<=1000000)(h:I M):MOk (n+5) (M.dx (AE 3 5))/\I (M.dx (AE 3 5)):=by
 have f:∀ k,k<=5->MOk (n+k) (M.dx (AE 3 k))/\I (M.dx (AE 3 k)):=by
  intro k;induction k with
  | zero=>exact λ_=>⟨e,h⟩
  | succ k ih =>
   intro g;obtain⟨a,b⟩:=ih (by omega);rw[BS,AK];exact⟨a.act (by omega) (FU (by omega)),CA d a (by omega) b⟩
 exact f 5 (A' _)
theorem Ct(d:∀ M N,TkS M N->I M->I N){n:Nat}{M:Meet}(b:MOk n M)(h:I M):∃ N,M.act (acN 7 0)={ N with br:=[] }/\I N/\N.br=M.br:=by
 have c:M.act (acN 7 0)={ M.br.foldl (λM l=>M.pd l) M with br:=[] }:=by
  show M.si=_;unfold Meet.si;rw[Hz]
 have:=Jw d M.br (M:=M) (λm a=>⟨a,(b.br m a).src,(b.br m a).dst⟩) h;exact⟨_,c,this⟩
end
theorem Stp.ug{c:Nat}{M N:Meet}(s:Stp wh1 c M N)(j:Nat):(N.ab j).vo.p=(M.ab j).vo.p:=by
 have put:∀ {i:Nat} {p:Nod} {b:List Let} {f:List Tol},p.vo.p=(M.ab i).vo.p->((M.set i p b f).ab j).vo.p=(M.ab j).vo.p:=λ{i p b f} h=>by
  rw[Am];split
  .rename_i e;rw[e];exact h
  .rfl
 cases s with
 | take _ l a hd hu ht=>exact False.elim ht
 | br _ b h hd=>exact False.elim hd
 | one _ i c hi hu hc he=>exact put (by unfold Nod.fv;split<;>rfl)
 | ask _ i hi hu=>exact put (by
   unfold Nod.jv;split
   .rfl
   .split
    .unfold Nod.dT;split<;>rfl
    .rfl)
 | prop _ i hi hu=>exact put (by
   unfold Nod.cF;split
   .rfl
   .rename_i hc
    have a:(M.ab i).av.hU=(M.ab i).vo.p:=by
     have:(M.ab i).leads=true:=by cases hh:(M.ab i).leads with|true=>rfl|false=>exact absurd (.inl hh) hc
     exact(nJ this).2
    split
    .rfl
    .split
     .rfl
     .show((M.ab i).cl _).1.vo.p=_;unfold Nod.cl;split
      .rfl
      .split
       .exact a
       .split
        .rfl
        .exact a)
 | sj _ i hi hu h hT=>exact put rfl
 | run _ i hi hu q l hp hs=>exact put (by
   show((M.ab i).ln i q).vo.p=_;cases q<;>first|rfl|(simp only[Nod.ln];split<;>rfl)|(simp only[Nod.ln,Nod.count];split<;>first|rfl|(split<;>rfl)))
 | sg _ i hi hu hL=>exact put rfl
 | lead _ i hi hu hL=>exact False.elim hL
 | sub _ i d hi hu hD=>exact False.elim hD
 | lr _ i k hi hu hk hC=>exact False.elim hC
 | start _ i hi hu hs=>exact False.elim hs
theorem Mq{i:Nat}(l:Let){j k:Nat}(a:j<k)(h:j≠i):{ l with src:=i,dst:=j }∈BV i l k:=ny.2 ⟨j,pz.2 ⟨pL.2 a,O' h⟩,rfl⟩
section
variable{S:Cmd->Prop}{K:Int}{B:Nat->Bal}{cov:List (Bal × Nat)}
theorem Cm.drop{M:Meet}(h:Cm S K B cov M):Cm S K B cov { M with br:=[] }:=by
 obtain⟨σ,b,c⟩:=h.ex;exact⟨⟨σ,⟨b.gs,b.nd,λl a=>by cases a⟩,c⟩,h.kb,h.up,h.hU,⟨h.s.nd,λl a=>by cases a⟩⟩
def Gr8(K:Int)(p:Nod):Prop:=K<=5*p.dc+4\/K<=p.vo.p.key
theorem Gr8.ev{p q:Nod}(h:Gr8 K p)(e:Ev p q):Gr8 K q:=by
 have:=e.dc;have:=e.vo;unfold Gr8 at *;omega
theorem jb(Q:∀ j,j<5->∀ s,s<40->(B j,s)∈cov){n:Nat}{M:Meet}(C:MOk n M)(hn:n+12<=1000000)(h:Cm S K B cov M){i:Nat}(R:i<5){j:Nat}(f:j<5)(O:(M.ab j).vo.p.key=K){b:Bal}{vs:List Vt}(P:(M.ab i).vo.p=b)(u:Ac b)(hq:.began b vs∈(M.ab i).bu) :
  Gr8 K ((M.dx (An++An)).ab i):=by
 have X:∀ A:Meet,A.dx (An++An)=(((A.dx (AE 3 5)).act (acN 7 0)).dx (AE 3 5)).act (acN 7 0):=λA=>by
  rw[AI,show An=AE 3 5++[acN 7 0]from rfl,AK,AK]
 have a:∀ c A N,Stp wh1 c A N->Cm S K B cov A->Cm S K B cov N:=λc A N s g=>g.step Q s.calm;have d:∀ A N,TkS A N->Cm S K B cov A->Cm S K B cov N:=λA N s g=>g.step Q s.sF;have m:LacOk (acN 7 0):=by rw[<- Dy];decide
 rw[X];by_cases D:Gr8 K (M.ab i)
 .-- it knows already
  have z:=Bl (I:=λN=>Cm S K B cov N/\Gr8 K (N.ab i)) (λc A N s g=>⟨a c A N s g.1,g.2.ev (s.calm.ev i)⟩) C (by omega) ⟨h,D⟩;obtain⟨N,F,x,_⟩:=Ct (I:=λN=>Cm S K B cov N/\Gr8 K (N.ab i)) (λA N s g=>⟨d A N s g.1,g.2.ev (s.sF.ev i)⟩) z.1 z.2;have t:=z.1.act (by omega) m;rw[F]at t ⊢
  have L:=Bl (I:=λN=>Cm S K B cov N/\Gr8 K (N.ab i)) (λc A N s g=>⟨a c A N s g.1,g.2.ev (s.calm.ev i)⟩) t (by omega) ⟨x.1.drop,x.2⟩;obtain⟨U,G,T,_⟩:=Ct (I:=λN=>Cm S K B cov N/\Gr8 K (N.ab i)) (λA N s g=>⟨d A N s g.1,g.2.ev (s.sF.ev i)⟩) L.1 L.2;rw[G];exact T.2
 .have hij:i≠j:=λe=>D (.inr (by rw[e,O];exact mU _));have a0:b.key<K:=by rw[<- P];unfold Gr8 at D;omega
  obtain⟨b0,o⟩:∃ b0,(M.ab j).vo.p=b0:=⟨_,rfl⟩;rw[o]at O
  have w:Ao b0:=by rw[<- o];exact(h.acc f).1
  have E:∀ A N,TkS A N->Cm S K B cov A->(A.ab j).vo.p=b0->(N.ab j).vo.p=b0:=λA N s g e=>by
   have Y:=(s.sF.ev j).vo;have h2:=(d A N s g).le f;rw[e]at Y
   exact DO ((d A N s g).acc f).1 w (by omega)
  have y:=Bl (I:=λN=>Cm S K B cov N/\(N.ab j).vo.p=b0) (λc A N s g=>⟨a c A N s g.1,(s.ug j).trans g.2⟩) C (by omega) ⟨h,o⟩;have V:=Fu (I:=λN=>Cm S K B cov N/\(N.ab i).vo.p=b) (J:=λN=>({ BC 0 with hU:=b,src:=i,dst:=j }:Let)∈N.br) (λc A N s g=>⟨a c A N s g.1,(s.ug i).trans g.2⟩) (λc A N s _ g=>s.calm.sx g) (λA k g v=>⟨g.1.up k v,g.1.sT v⟩) C (by omega) ⟨h,P⟩ R hq (λN l g _ _=>by
   refine mV _ ?_;simp only[Nod.sc];rw[if_neg (λe=>e g.2)];exact Mq { BC 0 with hU:=b } f (Ne.symm hij))
  obtain⟨N,F,x,G,T⟩:=DR (I:=λN=>Cm S K B cov N/\(N.ab j).vo.p=b0) (J:=λN=>Pend.ed i b0∈(N.ab j).bu) (λA N s g=>⟨d A N s g.1,E A N s g.1 g.2⟩) (λA N s _ g=>by
   obtain⟨l,_,_,_,rfl⟩:=s;rw[Am];split
   .rename_i e;rw[<- e];exact Hh g
   .exact g) y.1 y.2 V (λN g=>g.1.up j f) (λN g _=>by
   rw[Am,if_pos rfl];have Z:Cl (N.ab j).vo b=7:=by
    unfold Cl;rw[if_neg (λe=>e (g.1.acc f)),if_neg (λe=>e u),if_pos (by rw[Fc u.pr (g.1.acc f).1,g.2];omega)]
   have h8:(N.ab j).au b=(N.ab j,[],7):=by unfold Nod.au;rw[Z,if_pos (by decide)]
   show Pend.ed i b0∈(if((N.ab j).au b).2.2≠0 then(N.ab j).ed i ((N.ab j).au b).2.2 else _).bu;rw[h8,if_pos (show(7:Int)≠0 by decide)];unfold Nod.ed;rw[if_pos rfl,<- g.2];exact mV _ (D'.2 rfl))
  have t:=y.1.act (by omega) m;rw[F]at t ⊢
  have H:=Bl (I:=Cm S K B cov) a t (by omega) x.1.drop;have W:=Fu (I:=Cm S K B cov) (J:=λN=>({ BC 2 with hU:=b0,src:=j,dst:=i }:Let)∈N.br) a (λc A N s _ g=>s.calm.sx g) (λA k g v=>⟨g.up k v,g.sT v⟩) t (by omega) x.1.drop f (q:=.ed i b0) G (λN l g _ _=>mV _ (D'.2 rfl));obtain⟨U,k5,k6,k7,_⟩:=DR (I:=Cm S K B cov) (J:=λN=>Gr8 K (N.ab i)) d (λA N s _ g=>g.ev (s.sF.ev i)) H.1 H.2 W (λN g=>g.up i R) (λN g _=>by
   rw[Am,if_pos rfl];refine .inl ?_;show K<=5*max (N.ab i).dc b0.r+4;have:b0.key<=5*b0.r+4:=by unfold Ao Ac at w;unfold Bal.key;omega
   omega)
  rw[k5];exact k7
end
def P1(i:Nat)(p:Nod):Prop:=p.av.next=0/\∀ j,j≠i->p.av.rN j=false
theorem P1.uP{i:Nat}{p:Nod}(h:P1 i p):p.av.sh=false:=by
 unfold Rnd.sh Jv;have k:=h.2;have g:∀ j,(p.av.rN j).toNat<=if j=i then 1 else 0:=λj=>by
  split
  .cases p.av.rN j<;>decide
  .rename_i e;rw[k j e];decide
 have a:=g 0;have b:=g 1;have c:=g 2;have d:=g 3;have f:=g 4;refine G' ?_;split at a<;>split at b<;>split at c<;>split at d<;>split at f<;>omega
theorem Stp.p1{c:Nat}{M N:Meet}(s:Stp wh1 c M N){i:Nat}(h:P1 i (M.ab i)):P1 i (N.ab i):=by
 have put:∀ {k:Nat} {p:Nod} {a:List Let} {m:List Tol},(i=k->P1 i p)->P1 i ((M.set k p a m).ab i):=λ{k p a m} g=>by
  rw[Am];split
  .rename_i e;exact g e
  .exact h
 cases s with
 | take _ l hl hd hu ht=>exact False.elim ht
 | br _ a h hd=>exact False.elim hd
 | one _ k c hi hu hc he=>exact put λe=>by subst e;unfold Nod.fv;split<;>exact h
 | ask _ k hi hu =>
  exact put λe=>by
   subst e;unfold Nod.jv;split
   .exact h
   .split
    .unfold Nod.dT;split<;>exact h
    .exact h
 | prop _ k hi hu =>
  exact put λe=>by
   subst e;unfold Nod.cF;rw[if_pos (.inr (.inl h.uP))];exact h
 | sj _ k hi hu hs hT=>exact put λe=>by subst e;exact h
 | run _ k hi hu q l hp hs =>
  exact put λe=>by
   subst e;show P1 i ((M.ab i).ln i q);cases q with
   | began b vs =>
    simp only[Nod.ln];split
    .exact h
    .exact⟨h.1,λj f=>by show upN (M.ab i).av.rN i true j=false;rw[D5 _ _ f];exact h.2 j f⟩
   | prop v =>
    simp only[Nod.ln,Nod.count];split
    .exact h
    .split<;>exact h
   | _=>exact h
 | sg _ k hi hu hL=>exact put λe=>by subst e;exact h
 | lead _ k hi hu hL=>exact False.elim hL
 | sub _ k d hi hu hD=>exact False.elim hD
 | lr _ k x hi hu hk hC=>exact False.elim hC
 | start _ k hi hu hs=>exact False.elim hs
theorem fu{i:Nat}{p:Nod}(h:P1 i p){l:Let}(c:l.kind=1->l.src≠i->l.hU≠p.av.hU):P1 i (p.take l):=by
 have f:∀ v,P1 i (p.cl v).1:=λv=>by
  unfold Nod.cl;split
  .exact h
  .split
   .exact h
   .split<;>exact h
 unfold Nod.take;split
 .split
  .unfold Nod.ed;split<;>exact h
  .show P1 i (p.au l.hU).1;unfold Nod.au;split
   .exact h
   .split
    .exact h
    .split<;>exact h
 .rename_i hk
  simp only;split
  .exact h
  .rename_i hc
   have b:l.hU=p.av.hU:=nQ λe=>hc (.inr (.inl e));have d:l.src=i:=nQ λe=>c hk e b;exact⟨h.1,λj a=>by show upN p.av.rN l.src true j=false;rw[D5 _ _ (by rw[d];exact a)];exact h.2 j a⟩
 .exact h
 .split
  .unfold Nod.ed;split<;>exact h
  .exact f _
 .unfold Nod.count;split
  .exact h
  .split<;>exact h
 .split<;>exact h
 .simp only;unfold Nod.dT;split<;>split<;>exact h
 .exact h
section
variable{S:Cmd->Prop}{K:Int}{B:Nat->Bal}{cov:List (Bal × Nat)}
theorem Cm.top(a:∀ j,j<5->∀ s,s<40->(B j,s)∈cov){c:Nat}{A N:Meet}(s:Stp wh0 c A N)(g:Cm S K B cov A){b:Bal}(h:Ao b)(k:b.key=K){j:Nat}(d:j<5)(e:(A.ab j).vo.p=b):(N.ab j).vo.p=b:=by
 have f:=(s.ev j).vo;have i:=(g.step a s).le d;rw[e]at f
 exact DO ((g.step a s).acc d).1 h (by omega)
theorem er(D:∀ j,j<5->∀ s,s<40->(B j,s)∈cov)(hQ:14*K+38*(cov.length:Int)<=99000){n:Nat}{M:Meet}(Y:MOk n M)(hn:n+12<=1000000)(h:Cm S K B cov M){i:Nat}(L:i<5){b:Bal}(o:Ac b)(X:b.key=K)(hB:B i=b)(hv:(M.ab i).vo.p=b)(R:∀ j,j<5->j≠i->(M.ab j).vo.p.key<K){d:List Vt}(hq:.began b d∈(M.ab i).bu)(T:P1 i (M.ab i)) :
  Cm S K B cov (M.dx An)/\(∀ j,j<5->((M.dx An).ab j).vo.p=b)/\((M.dx An).ab i).av.rN i=true/\(∀ j,j<5->j≠i->∃ d,Pend.prom i b d∈((M.dx An).ab j).bu)/\P1 i ((M.dx An).ab i)/\(M.dx An).br=[]/\MOk (n+6) (M.dx An):=by
 have v:LacOk (acN 7 0):=by rw[<- Dy];decide
 have t:∀ c A N,Stp wh1 c A N->Cm S K B cov A->Cm S K B cov N:=λc A N s g=>g.step D s.calm;have u:∀ A N,TkS A N->Cm S K B cov A->Cm S K B cov N:=λA N s g=>g.step D s.sF;have U:=Bl (I:=λN=>Cm S K B cov N/\(∀ j,(N.ab j).vo.p=(M.ab j).vo.p)/\P1 i (N.ab i)) (λc A N s g=>⟨t c A N s g.1,λj=>(s.ug j).trans (g.2.1 j),s.p1 g.2.2⟩) Y (by omega) ⟨h,λ_=>rfl,T⟩;have F:=Fu (I:=λN=>Cm S K B cov N/\(N.ab i).vo.p=b) (J:=λN=>(∀ j,j<5->j≠i->({ BC 0 with hU:=b,src:=i,dst:=j }:Let)∈N.br)/\(N.ab i).av.rN i=true) (λc A N s g=>⟨t c A N s g.1,(s.ug i).trans g.2⟩) (λc A N s _ g=>⟨λj a e=>s.calm.sx (g.1 j a e),(s.calm.ev i).rN i g.2⟩) (λA k g E=>⟨g.1.up k E,g.1.sT E⟩) Y (by omega) ⟨h,hv⟩ L hq (λN l g _ _=>by
  refine⟨λj a e=>mV _ ?_,?_⟩
  .simp only[Nod.sc];rw[if_neg (λe=>e g.2)];exact Mq { BC 0 with hU:=b } a e
  .rw[Am,if_pos rfl];show((N.ab i).ln i (.began b d)).av.rN i=true;simp only[Nod.ln];rw[if_neg (λe=>e g.2)];exact Dg _ _ _)
 rw[show An=AE 3 5++[acN 7 0]from rfl,AK];generalize M.dx (AE 3 5)=A at U F ⊢;obtain⟨z,f,r,H⟩:=U;have Q:∀ m∈A.br,m.kind=1->m.src≠i->m.hU≠b:=λm Z E hs e=>by
  obtain⟨σ,y,_⟩:=f.ex;have q:=(z.br m Z).src;have G:=((y.lt m Z).k1 E).1.le;have W:=(y.nd _ q).sU;unfold Nod.pk at W;rw[if_pos (f.up _ q),r]at W
  have h4:=R _ q hs;have h6:m.hU.key<=σ.P m.src:=G;rw[e]at h6
  omega
 obtain⟨N,k1,⟨k2,k3,k4,k5,k6⟩,k7⟩:=Ct (I:=λN=>Cm S K B cov N/\(N.ab i).vo.p=b/\P1 i (N.ab i)/\(N.ab i).av.rN i=true/\N.br=A.br) (λC N s g=>by
  refine⟨u C N s g.1,g.1.top D s.sF o.pr X L g.2.1,?_,(s.sF.ev i).rN i g.2.2.2.1,?_⟩
  .obtain⟨l,hl,_,_,rfl⟩:=s;rw[Am];split
   .rename_i e
    rw[<- e];exact fu g.2.2.1 λy G=>by rw[g.1.hU i L,hB];exact Q l (by rw[<- g.2.2.2.2];exact hl) y G
   .exact g.2.2.1
  .obtain⟨l,hl,_,_,rfl⟩:=s;exact g.2.2.2.2) z ⟨f,(r i).trans hv,H,F.2,rfl⟩
 have a:∀ j,j<5->j≠i->((A.act (acN 7 0)).ab j).vo.p=b/\∃ d,Pend.prom i b d∈((A.act (acN 7 0)).ab j).bu:=λj a O=>by
  obtain⟨N',q1,q2,q3,_⟩:=DR (I:=Cm S K B cov) (J:=λN=>(N.ab j).vo.p=b/\∃ d,Pend.prom i b d∈(N.ab j).bu) u (λC N s g e=>⟨g.top D s.sF o.pr X a e.1,by
   obtain⟨d,V⟩:=e.2;refine⟨d,?_⟩;obtain⟨l,_,_,_,rfl⟩:=s;rw[Am];split
   .rename_i e3;rw[<- e3];exact Hh V
   .exact V⟩) z f (F.1 j a O) (λN g=>g.up j a) (λN g _=>by
   rw[Am,if_pos rfl];have a0:=g.le a;have x:=g.prom hQ a o (by rw[Fc o.pr (g.acc a).1];omega);have e:(N.ab j).take ({ BC 0 with hU:=b,src:=i,dst:=j }:Let)=((N.ab j).au b).1.wait (.prom i b ((N.ab j).au b).2.1):=by
    show(if((N.ab j).au b).2.2≠0 then _ else _)=_;rw[if_neg (λg=>g x.1)]
   rw[e];exact⟨x.2,_,mV _ (D'.2 rfl)⟩)
  rw[q1];exact q3
 have w:=z.act (by omega) v;rw[k1]at a w ⊢
 exact⟨k2.drop,λj q=>by
  by_cases e:j=i
  .rw[e];exact k3
  .exact(a j q e).1,k5,λj q e=>(a j q e).2,k4,rfl,w⟩
end
section
theorem fB(f:Cmd->Option Bal)(c:Cmd)(b:Option Bal):BW f c b c=b:=if_pos rfl
theorem Vj(f:Cmd->Option Bal){c d:Cmd}(b:Option Bal)(h:d≠c):BW f c b d=f d:=if_neg h
theorem Lg{b:Bal}(p:b≠Bf)(l:List Cmd)(f:Cmd->Option Bal):(∀ c,c∉l->(Bb b f l).2 c=f c)/\(∀ c∈l,(Bb b f l).2 c=some b)/\(∀ c∈l,f c=some b\/c∈(Bb b f l).1)/\∀ c∈(Bb b f l).1,c∈l:=by
 induction l generalizing f with
 | nil=>exact⟨λ_ _=>rfl,λ_ h=>(by cases h),λ_ h=>(by cases h),λ_ h=>(by cases h)⟩
 | cons c l ih =>
  rw[Bb];split
  .rename_i hc
   obtain⟨j,k,m,n⟩:=ih (BW f c (some b));refine⟨λd a=>?_,λd a=>?_,λd a=>?_,λd a=>?_⟩
   .show(Bb b (BW f c (some b)) l).2 d=f d;rw[j d λe=>a (I' _ e),Vj _ _ λe=>a (by rw[e];exact M')]
   .show(Bb b (BW f c (some b)) l).2 d=some b;by_cases i:d∈l
    .exact k d i
    .rcases nf.1 a with rfl|e
     .rw[j d i,fB]
     .exact absurd e i
   .rcases nf.1 a with rfl|e
    .exact .inr M'
    .by_cases e2:d=c
     .rw[e2];exact .inr M'
     .rcases m d e with g|g
      .rw[Vj _ _ e2]at g;exact .inl g
      .exact .inr (I' _ g)
   .rcases nf.1 a with rfl|e
    .exact M'
    .exact I' _ (n d e)
  .rename_i hc
   have o:f c=some b:=by
    have:=mY.1 hc;cases hh:f c with
    | none=>rw[hh]at this;exact absurd this.symm p
    | some x=>rw[hh]at this;exact congrArg some this
   obtain⟨j,k,m,n⟩:=ih f;refine⟨λd a=>j d λe=>a (I' _ e),λd a=>?_,λd a=>?_,λd a=>I' _ (n d a)⟩
   .by_cases i:d∈l
    .exact k d i
    .rcases nf.1 a with rfl|e
     .rw[j d i];exact o
     .exact absurd e i
   .rcases nf.1 a with rfl|e
    .exact .inl o
    .exact m d e
theorem H5(l q:List Cmd)(h:q.Nodup):(Hk q l).Nodup:=by
 induction l generalizing q with
 | nil=>exact h
 | cons c l ih =>
  rw[Hk];refine ih _ ?_;split
  .rename_i hc
   exact pB.2 ⟨h,pC.2 ⟨Q',oT⟩,λx a y b e=>hc.2 (by rw[<- D'.1 b,<- e];exact a)⟩
  .exact h
theorem Qn{C:List Cmd}(j:C.length<40)(l q:List Cmd)(g:q.Nodup)(a:∀ c∈q,c∈C)(b:∀ c∈l,c∈C):∀ c∈l,c∈Hk q l:=by
 induction l generalizing q with
 | nil=>exact λc hc=>by cases hc
 | cons d l ih =>
  have f:=IA g a;have i:=b d M';intro c hc;rw[Hk];have h:d∈(if q.length<40/\d∉q then q++[d]else q):=by
   by_cases e:d∈q
   .split
    .exact mW _ e
    .exact e
   .rw[if_pos ⟨by omega,e⟩];exact mV _ (D'.2 rfl)
  rcases nf.1 hc with rfl|hc
  .exact(Qo l _).subset h
  .refine ih _ ?_ (λx hx=>?_) (λx hx=>b x (I' _ hx)) c hc
   .exact H5 [d] q g
   .split at hx
    .rcases P'.1 hx with hx|hx
     .exact a x hx
     .rw[D'.1 hx];exact i
    .exact a x hx
structure AskI(p:Nod):Prop where
 nd:p.bn.Nodup
 wa:∀ c,c∈p.bn↔(p.bN c).isSome=true
 le:∀ c x,p.bN c=some x->x.key<=p.vo.p.key
 un:∀ c∈p.bn,c∉p.ae.take p.done
 qn:p.av.fa.Nodup
 dn:p.done<=p.ae.length
theorem R4{α:Type}{l m:List α}{k:Nat}(h:l <+: m)(a:k<=l.length):m.take k=l.take k:=by obtain⟨x,rfl⟩:=h;exact nz a
variable{M N:Meet}{p:Nod}
theorem AskI.qv{q:Nod}(h:AskI p)(e:Ev p q)(i:q.bn=p.bn/\q.bN=p.bN/\q.done=p.done)(f:q.av.fa.Nodup):AskI q:=by
 obtain⟨a,b,d⟩:=i;refine⟨by rw[a];exact h.nd,by rw[a,b];exact h.wa,λc x g=>nA (h.le c x (by rw[<- b];exact g)) e.vo,?_,f,by rw[d];exact mT h.dn e.ag.length_le⟩;rw[a,d,R4 e.ag h.dn];exact h.un
theorem AY(p:Nod)(b:Bal):((p.au b).1.bn=p.bn/\(p.au b).1.bN=p.bN/\(p.au b).1.done=p.done)/\(p.au b).1.av=p.av:=by
 unfold Nod.au;split
 .exact⟨⟨rfl,rfl,rfl⟩,rfl⟩
 .split
  .exact⟨⟨rfl,rfl,rfl⟩,rfl⟩
  .split<;>exact⟨⟨rfl,rfl,rfl⟩,rfl⟩
theorem Cn(p:Nod)(v:Vt):((p.cl v).1.bn=p.bn/\(p.cl v).1.bN=p.bN/\(p.cl v).1.done=p.done)/\(p.cl v).1.av=p.av:=by
 unfold Nod.cl;split
 .exact⟨⟨rfl,rfl,rfl⟩,rfl⟩
 .split
  .exact⟨⟨rfl,rfl,rfl⟩,rfl⟩
  .split<;>exact⟨⟨rfl,rfl,rfl⟩,rfl⟩
theorem ME(p:Nod)(l:Let)(a:p.av.fa.Nodup):((p.take l).bn=p.bn/\(p.take l).bN=p.bN/\(p.take l).done=p.done)/\(p.take l).av.fa.Nodup:=by
 unfold Nod.take;split
 .split
  .unfold Nod.ed;split<;>exact⟨⟨rfl,rfl,rfl⟩,a⟩
  .have:=AY p l.hU;exact⟨this.1,by show(p.au l.hU).1.av.fa.Nodup;rw[this.2];exact a⟩
 .simp only;split<;>exact⟨⟨rfl,rfl,rfl⟩,a⟩
 .exact⟨⟨rfl,rfl,rfl⟩,a⟩
 .split
  .unfold Nod.ed;split<;>exact⟨⟨rfl,rfl,rfl⟩,a⟩
  .have:=Cn p l.cl;exact⟨this.1,by show(p.cl l.cl).1.av.fa.Nodup;rw[this.2];exact a⟩
 .unfold Nod.count;split
  .exact⟨⟨rfl,rfl,rfl⟩,a⟩
  .split<;>exact⟨⟨rfl,rfl,rfl⟩,a⟩
 .split<;>exact⟨⟨rfl,rfl,rfl⟩,a⟩
 .simp only;unfold Nod.dT;split<;>split<;>first|exact⟨⟨rfl,rfl,rfl⟩,a⟩|exact⟨⟨rfl,rfl,rfl⟩,H5 _ _ a⟩
 .exact⟨⟨rfl,rfl,rfl⟩,a⟩
theorem AskI.jv(h:AskI p)(i:Nat)(q:0<=p.vo.p.key):AskI (p.jv i).1:=by
 have key:∀ (l:List Cmd) (f:Cmd->Option Bal),(∀ c,c∈l->(f c).isSome=true)->(∀ c,((Bb p.vo.p f l).2 c).isSome=(f c).isSome)/\∀ c x,(Bb p.vo.p f l).2 c=some x->f c=some x\/x=p.vo.p:=by
  intro l;induction l with
  | nil=>exact λf _=>⟨λ_=>rfl,λ_ _ g=>.inl g⟩
  | cons c l ih =>
   intro f j;rw[Bb];split
   .have hu:∀ d,(BW f c (some p.vo.p) d).isSome=(f d).isSome:=λd=>by
     unfold BW;split
     .rename_i e;rw[e,j c M'];rfl
     .rfl
    obtain⟨a,k⟩:=ih (BW f c (some p.vo.p)) λd b=>by rw[hu];exact j d (I' _ b)
    refine⟨λd=>(a d).trans (hu d),λd x g=>?_⟩;rcases k d x g with g|g
    .unfold BW at g;split at g
     .exact .inr (nO g).symm
     .exact .inl g
    .exact .inr g
   .exact ih f λd b=>j d (I' _ b)
 obtain⟨n,o⟩:=key (p.bn.take 40) p.bN λc m=>(h.wa c).1 (np m);have a:AskI { p with bN:=(Bb p.vo.p p.bN (p.bn.take 40)).2 }:=⟨h.nd,λc=>by show _↔((Bb p.vo.p p.bN (p.bn.take 40)).2 c).isSome=true;rw[n];exact h.wa c,λc x g=>by
  rcases o c x g with g|g
  .exact h.le c x g
  .rw[g];exact mU _,h.un,h.qn,h.dn⟩
 unfold Nod.jv;split
 .exact a
 .split
  .refine a.qv (.uD _ _) ?_ ?_
   .unfold Nod.dT;split<;>exact⟨rfl,rfl,rfl⟩
   .unfold Nod.dT;split
    .exact H5 _ _ h.qn
    .exact h.qn
  .exact a
theorem AskI.one(h:AskI p){c:Cmd}(b:p.ae[p.done]?=some c)(s:Sto):AskI (Nod.fv { p with ni:=s,done:=p.done+1 } c):=by
 have f:=(V'.1 b).1;have i:p.ae.take (p.done+1)=p.ae.take p.done++[c]:=by rw[oS,b];rfl
 unfold Nod.fv;split
 .refine⟨h.nd.erase c,λd=>?_,λd x g=>?_,λd a=>?_,h.qn,f⟩
  .show d∈p.bn.erase c↔(BW p.bN c none d).isSome=true;rw[h.nd.mem_erase_iff];unfold BW;split
   .rename_i e;simp[e]
   .rename_i e;rw[h.wa d];simp[e]
  .have g:BW p.bN c none d=some x:=g;unfold BW at g;split at g
   .cases g
   .exact h.le d x g
  .have a:d∈p.bn.erase c:=a;rw[h.nd.mem_erase_iff]at a
   show d∉p.ae.take (p.done+1);rw[i];intro e;rcases P'.1 e with e|e
   .exact h.un d a.2 e
   .exact a.1 (D'.1 e)
 .rename_i hn
  refine⟨h.nd,h.wa,h.le,λd a=>?_,h.qn,f⟩;show d∉p.ae.take (p.done+1);rw[i];intro e;rcases P'.1 e with e|e
  .exact h.un d a e
  .rw[D'.1 e]at a
   exact hn ((h.wa c).1 a)
theorem AskI.want(h:AskI p){c:Cmd}(b:c∉p.ae.take p.done)(a:0<=p.vo.p.key):AskI (p.want c):=by
 unfold Nod.want;split
 .exact h
 .rename_i hn
  have f:c∉p.bn:=λe=>hn ((h.wa c).1 e);refine⟨pB.2 ⟨h.nd,pC.2 ⟨Q',oT⟩,λx i y j e=>f (by rw[<- D'.1 j,<- e];exact i)⟩,λd=>?_,λd x g=>?_,λd hd=>?_,h.qn,h.dn⟩
  .show d∈p.bn++[c]↔(BW p.bN c (some Bf) d).isSome=true;unfold BW;split
   .rename_i e;simp[e]
   .rename_i e;rw[<- h.wa d];simp[e]
  .have g:BW p.bN c (some Bf) d=some x:=g;unfold BW at g;split at g
   .rw[<- nO g];exact a
   .exact h.le d x g
  .rcases P'.1 hd with hd|hd
   .exact h.un d hd
   .rw[D'.1 hd];exact b
theorem AskI.bare(p:Nod)(u:Bool)(d:List Int)(s:Int)(a:Acc)(x:List Pend):AskI (p.bare u d s a x):=⟨oT,λc=>⟨λe=>(by cases e),λe=>(by cases e)⟩,λc x e=>(by cases e),λc e=>(by cases e),oT,A' _⟩
theorem AskI.step{D:Wh}{c:Nat}(s:Stp D c M N){σ:Gs}(g:AgI σ M)(h:∀ j,j<5->AskI (M.ab j)):∀ j,j<5->AskI (N.ab j):=by
 intro j i;have put:∀ {k:Nat} {p:Nod} {f:List Let} {o:List Tol},(k<5->AskI p)->AskI ((M.set k p f o).ab j):=λ{k p f o} e=>by
  rw[Am];split
  .rename_i e2;exact e (by omega)
  .exact h j i
 have pos:∀ {k:Nat},k<5->(M.ab k).up=true->0<=(M.ab k).vo.p.key:=λ{k} m a=>by
  obtain⟨t,q⟩:=(g.nd k m).up a;have n:=q.tp.ok.acc.1;rw[<- q.tp.vo]at n
  unfold Ao Ac at n;unfold Bal.key;omega
 cases s with
 | take _ l hl hd a ht =>
  have:=ME (M.ab l.dst) l (h _ hd.2).qn;exact put λ_=>(h _ hd.2).qv (.take _ l) this.1 this.2
 | br _ f hl hd=>exact h j i
 | one _ k c hi a hc he=>exact put λ_=>(h k hi).one hc _
 | ask _ k hi a=>exact put λ_=>(h k hi).jv k (pos hi a)
 | prop _ k hi a =>
  refine put λ_=>(h k hi).qv (.cF _) ?_ ?_
  .unfold Nod.cF;split
   .exact⟨rfl,rfl,rfl⟩
   .split
    .exact⟨rfl,rfl,rfl⟩
    .split
     .exact⟨rfl,rfl,rfl⟩
     .exact(Cn (M.ab k) _).1
  .unfold Nod.cF;split
   .exact(h k hi).qn
   .split
    .exact(h k hi).qn
    .split<;>exact(h k hi).qn
 | sj _ k hi a hs hT=>exact put λ_=>⟨(h k hi).nd,(h k hi).wa,(h k hi).le,(h k hi).un,(h k hi).qn,(h k hi).dn⟩
 | run _ k hi a q l hp hs =>
  refine put λ_=>(h k hi).qv ((Ev.ln _ k q).bu l) ?_ ?_
  .show((M.ab k).ln k q).bn=_/\((M.ab k).ln k q).bN=_/\((M.ab k).ln k q).done=_;cases q<;>first|exact⟨rfl,rfl,rfl⟩|(simp only[Nod.ln];split<;>exact⟨rfl,rfl,rfl⟩)|(simp only[Nod.ln,Nod.count];split<;>first|exact⟨rfl,rfl,rfl⟩|(split<;>exact⟨rfl,rfl,rfl⟩))
  .show((M.ab k).ln k q).av.fa.Nodup;have:=(h k hi).qn;cases q<;>first|exact this|(simp only[Nod.ln];split<;>exact this)|(simp only[Nod.ln,Nod.count];split<;>first|exact this|(split<;>exact this))
 | sg _ k hi a hL=>exact put λ_=>⟨(h k hi).nd,(h k hi).wa,(h k hi).le,(h k hi).un,(h k hi).qn,(h k hi).dn⟩
 | lead _ k hi a hL =>
  refine put λ_=>?_;unfold Nod.lead;simp only;split
  .exact h k hi
  .generalize (⟨max (M.ab k).dc (M.ab k).vo.p.r+1,(k:Int)⟩:Bal)=b;have e:=AY (M.ab k) b;have q:=(h k hi).qv (.au _ b) e.1 (by rw[e.2];exact(h k hi).qn);exact⟨q.nd,q.wa,q.le,q.un,oT,q.dn⟩
 | sub _ k d hi a hD =>
  refine put λ_=>?_;unfold Nod.sw Nod.sC;split
  .exact h k hi
  .split
   .exact⟨(h k hi).nd,(h k hi).wa,(h k hi).le,(h k hi).un,(h k hi).qn,(h k hi).dn⟩
   .split
    .exact h k hi
    .rename_i hc;exact(h k hi).want hc (pos hi a)
 | lr _ k x hi a m hC =>
  refine put λ_=>?_;unfold Nod.lr;split
  .exact h k hi
  .exact .bare _ _ _ _ _ _
 | start _ k hi a hs =>
  refine put λ_=>?_;unfold Nod.start;split
  .exact h k hi
  .split<;>exact .bare _ _ _ _ _ _
theorem AskI.zero:∀ j,j<5->AskI (As.ab j):=λj _=>AskI.bare Dc true [] 0 Eo []
theorem Stp.bN{n:Nat}(s:Stp wh0 n M N){j:Nat}{c:Cmd}{x:Bal}(h:(N.ab j).bN c=some x):(M.ab j).bN c=some x\/(j<5/\N=M.set j ((M.ab j).jv j).1 (M.br++((M.ab j).jv j).2) M.ew):=by
 have put:∀ {k:Nat} {p:Nod} {a:List Let} {b:List Tol},((M.set k p a b).ab j).bN c=some x->(p.bN c=some x->(M.ab k).bN c=some x)->(M.ab j).bN c=some x:=λ{k p a b} g e=>by
  rw[Am]at g
  split at g
  .rename_i e2;rw[e2];exact e g
  .exact g
 cases s with
 | take _ l hl hd hu ht =>
  refine .inl (put h λg=>?_);rw[show((M.ab l.dst).take l).bN=(M.ab l.dst).bN from ?_]at g
  .exact g
  .unfold Nod.take;split
   .split
    .unfold Nod.ed;split<;>rfl
    .exact(AY _ _).1.2.1
   .simp only;split<;>rfl
   .rfl
   .split
    .unfold Nod.ed;split<;>rfl
    .exact(Cn _ _).1.2.1
   .unfold Nod.count;split
    .rfl
    .split<;>rfl
   .split<;>rfl
   .simp only;unfold Nod.dT;split<;>split<;>rfl
   .rfl
 | br _ a hl hd=>exact False.elim hd
 | one _ k d hi hu hc he =>
  refine .inl (put h λg=>?_);unfold Nod.fv at g;split at g
  .have g:BW (M.ab k).bN d none c=some x:=g;unfold BW at g;split at g
   .cases g
   .exact g
  .exact g
 | ask _ k hi hu =>
  by_cases e:j=k
  .subst e;exact .inr ⟨hi,rfl⟩
  .rw[Am,if_neg e]at h;exact .inl h
 | prop _ k hi hu =>
  refine .inl (put h λg=>?_);unfold Nod.cF at g;split at g
  .exact g
  .split at g
   .exact g
   .split at g
    .exact g
    .have g:((M.ab k).cl _).1.bN c=some x:=g;rw[(Cn _ _).1.2.1]at g;exact g
 | sj _ k hi hu hs hT=>exact .inl (put h λg=>g)
 | run _ k hi hu q l hp hs =>
  refine .inl (put h λg=>?_);have g:((M.ab k).ln k q).bN c=some x:=g;rw[show((M.ab k).ln k q).bN=(M.ab k).bN from ?_]at g
  .exact g
  .cases q<;>first|rfl|(simp only[Nod.ln];split<;>rfl)|(simp only[Nod.ln,Nod.count];split<;>first|rfl|(split<;>rfl))
 | sg _ k hi hu hL=>exact .inl (put h λg=>g)
 | lead _ k hi hu hL=>exact False.elim hL
 | sub _ k d hi hu hD=>exact False.elim hD
 | lr _ k y hi hu hk hC=>exact False.elim hC
 | start _ k hi hu hs=>exact False.elim hs
end
section
variable{C:List Cmd}{K:Int}{B:Nat->Bal}{cov:List (Bal × Nat)}{i:Nat}{b:Bal}
structure PhB(C:List Cmd)(K:Int)(B:Nat->Bal)(cov:List (Bal × Nat))(i:Nat)(b:Bal)(M:Meet):Prop where
 cm:Cm (λc=>c∈C) K B cov M
 ak:∀ j,j<5->AskI (M.ab j)
 vi:(M.ab i).vo.p=b
structure PhC(C:List Cmd)(K:Int)(B:Nat->Bal)(cov:List (Bal × Nat))(i:Nat)(b:Bal):Prop where
 hc:∀ j,j<5->∀ s,s<40->(B j,s)∈cov
 hC:C.length<40
 hi:i<5
 hb:Ac b
 hn:b.n=(i:Int)
 hB:B i=b
 hK:b.key=K
theorem PhB.step(a:PhC C K B cov i b){n:Nat}{M N:Meet}(s:Stp wh0 n M N)(h:PhB C K B cov i b M):PhB C K B cov i b N:=by
 obtain⟨σ,g,_⟩:=h.cm.ex;exact⟨h.cm.step a.hc s,AskI.step s g h.ak,h.cm.top a.hc s a.hb.pr a.hK a.hi h.vi⟩
theorem PhB.leads(a:PhC C K B cov i b){M:Meet}(h:PhB C K B cov i b M):(M.ab i).leads=true:=by
 have c:=a.hb;unfold Nod.leads;refine O' ⟨?_,?_⟩
 .rw[h.cm.hU i a.hi,a.hB];intro e;rw[e]at c
  exact absurd c (by decide)
 .rw[h.cm.hU i a.hi,a.hB,h.vi]
def QA(i:Nat)(b:Bal)(M:Meet):Prop:=∀ j,j<5->∀ c,(M.ab j).bN c=some b->c∈(M.ab i).av.fa\/∃ m∈M.br,m.kind=6/\m.dst=i/\c∈m.gC
theorem QA.step(t:PhC C K B cov i b){n:Nat}{M N:Meet}(s:Stp wh0 n M N)(h:PhB C K B cov i b M)(q:QA i b M):QA i b N:=by
 intro j x c a;have z:b≠Bf:=λe=>by have:=t.hb;rw[e]at this;exact absurd this (by decide)
 by_cases e:(M.ab j).bN c=some b
 .rcases q j x c e with g|⟨m,g1,g2⟩
  .exact .inl ((s.ev i).qu.subset g)
  .exact .inr ⟨m,s.sx g1,g2⟩
 .rcases s.bN a with g|⟨_,rfl⟩
  .exact absurd g e
  .rw[Am,if_pos rfl]at a
   have E:=h.ak j x;have y:(Bb (M.ab j).vo.p (M.ab j).bN ((M.ab j).bn.take 40)).2 c=some b:=by
    unfold Nod.jv at a;split at a
    .exact a
    .split at a
     .unfold Nod.dT at a;split at a<;>exact a
     .exact a
   have r:(M.ab j).vo.p=b/\c∈(M.ab j).bn.take 40:=by
    have key:∀ (l:List Cmd) (f:Cmd->Option Bal) (p:Bal),(Bb p f l).2 c=some b->f c=some b\/(p=b/\c∈l):=by
     intro l;induction l with
     | nil=>exact λf p g=>.inl g
     | cons d l ih =>
      intro f p g;rw[Bb]at g
      split at g
      .rcases ih _ p g with k|k
       .unfold BW at k;split at k
        .rename_i e;exact .inr ⟨nO k,by rw[e];exact M'⟩
        .exact .inl k
       .exact .inr ⟨k.1,I' _ k.2⟩
      .exact(ih f p g).imp id λk=>⟨k.1,I' _ k.2⟩
    exact(key _ _ _ y).resolve_left e
   obtain⟨r,H⟩:=r;have D:=Lg z ((M.ab j).bn.take 40) (M.ab j).bN;have o:c∈(Bb (M.ab j).vo.p (M.ab j).bN ((M.ab j).bn.take 40)).1:=by rw[r];exact(D.2.2.1 c H).resolve_left e
   have u:¬ (Bb (M.ab j).vo.p (M.ab j).bN ((M.ab j).bn.take 40)).1=[]:=λg=>by rw[g]at o;cases o
   have v:∀ d∈(Bb (M.ab j).vo.p (M.ab j).bN ((M.ab j).bn.take 40)).1,d∈C:=λd w=>by
    rw[r]at w
    exact(h.cm.s.nd j x).wa d (np (D.2.2.2 d w))
   by_cases A:j=i
   .subst A;refine .inl ?_;rw[Am,if_pos rfl];unfold Nod.jv;rw[if_neg u,if_pos (by rw[r];exact t.hn)];have F:({ M.ab j with bN:=(Bb (M.ab j).vo.p (M.ab j).bN ((M.ab j).bn.take 40)).2 }:Nod).leads=true:=h.leads t;unfold Nod.dT;rw[if_pos F];exact Qn t.hC _ _ E.qn (λd w=>(h.cm.s.nd j x).qu d w) v c o
   .refine .inr ?_;have G:¬ (M.ab j).vo.p.n=(j:Int):=by rw[r,t.hn];omega
    unfold Nod.jv;rw[if_neg u,if_neg G];refine⟨_,mV _ (D'.2 rfl),rfl,?_,o⟩;show(M.ab j).vo.p.n.toNat=i;rw[r,t.hn];exact nI i
theorem Rd(a:PhC C K B cov i b){n:Nat}{M:Meet}(E:MOk n M)(L:n+6<=1000000)(h:PhB C K B cov i b M)(q:QA i b M):PhB C K B cov i b (M.dx An)/\(∀ j,j<5->∀ c,((M.dx An).ab j).bN c=some b->c∈((M.dx An).ab i).av.fa)/\(M.dx An).br=[]/\MOk (n+6) (M.dx An):=by
 have v:∀ A N,TkS A N->PhB C K B cov i b A->PhB C K B cov i b N:=λA N s g=>g.step a s.sF;have z:=Bl (I:=λN=>PhB C K B cov i b N/\QA i b N) (λc A N s g=>⟨g.1.step a s.calm,g.2.step a s.calm g.1⟩) E (by omega) ⟨h,q⟩;rw[show An=AE 3 5++[acN 7 0]from rfl,AK];generalize M.dx (AE 3 5)=A at z ⊢;obtain⟨p,k,u⟩:=z;have y:=p.act (by omega) (x:=acN 7 0) (by rw[<- Dy];decide);have t:∀ j,j<5->∀ c,((A.act (acN 7 0)).ab j).bN c=some b->c∈((A.act (acN 7 0)).ab i).av.fa:=λj G c r=>by
  obtain⟨N,f,o,_⟩:=Ct (I:=λN=>PhB C K B cov i b N/\(N.ab j).bN c=(A.ab j).bN c) (λD N s g=>⟨v D N s g.1,by
   obtain⟨l,_,w,_,rfl⟩:=s;rw[Am];split
   .rename_i e
    rw[(ME (D.ab l.dst) l (g.1.ak _ w.2).qn).1.2.1,<- e];exact g.2
   .exact g.2⟩) p ⟨k,rfl⟩
  rw[f]at r
  have r:(N.ab j).bN c=some b:=r;rw[o.2]at r
  rcases u j G c r with g|⟨m,g1,g2,g3,g4⟩
  .obtain⟨N,f,o,_⟩:=Ct (I:=λN=>c∈(N.ab i).av.fa) (λD N s g=>(s.sF.ev i).qu.subset g) p g;rw[f];exact o
  .obtain⟨N,f,_,k3,_⟩:=DR (I:=PhB C K B cov i b) (J:=λN=>c∈(N.ab i).av.fa) v (λD N s _ g=>(s.sF.ev i).qu.subset g) p k g1 (λN g=>g.cm.up _ (by rw[g3];exact a.hi)) (λN g e=>by
    have F:=(g.cm.s.lt m (by rw[e];exact g1)).wh;rw[g3,Am,if_pos rfl];have H:c∈((N.ab i).dT m.gC).av.fa:=by
     unfold Nod.dT;rw[if_pos (g.leads a)];exact Qn a.hC _ _ (g.ak i a.hi).qn (λd w=>(g.cm.s.nd i a.hi).qu d w) F c g4
    unfold Nod.take;rw[g2];simp only;split<;>exact H)
   rw[f];exact k3
 obtain⟨N,f,o,_⟩:=Ct (I:=PhB C K B cov i b) v p k;refine⟨?_,t,by rw[f],y⟩;rw[f];exact⟨o.cm.drop,o.ak,o.vi⟩
theorem WC(a:PhC C K B cov i b){n:Nat}{M:Meet}(t:MOk n M)(I:n+6<=1000000)(h:PhB C K B cov i b M){j:Nat}(y:j<5){H:List Vt}(E:Pend.prom i b H∈(M.ab j).bu):((M.dx An).ab i).av.rN j=true:=by
 have x:∀ A N,TkS A N->PhB C K B cov i b A->PhB C K B cov i b N:=λA N s g=>g.step a s.sF;have d:∀ c A N,Stp wh1 c A N->PhB C K B cov i b A->PhB C K B cov i b N:=λc A N s g=>g.step a s.calm;have f:=Bl d t (by omega) h;have q:=Fu (J:=λN=>∃ m∈N.br,m.kind=1/\m.src=j/\m.dst=i/\m.hU=b) d (λc A N s _ ⟨m,o,p⟩=>⟨m,s.calm.sx o,p⟩) (λA k g u=>⟨g.cm.up k u,g.cm.sT u⟩) t (by omega) h y E (λN l g _ _=>⟨_,mV _ (D'.2 rfl),rfl,rfl,rfl,rfl⟩);rw[show An=AE 3 5++[acN 7 0]from rfl,AK];generalize M.dx (AE 3 5)=A at f q ⊢;obtain⟨m,o,p,v,r,w⟩:=q;obtain⟨N,F,_,G,_⟩:=DR (J:=λN=>(N.ab i).av.rN j=true) x (λD N s _ g=>(s.sF.ev i).rN j g) f.1 f.2 o (λN g=>g.cm.up _ (by rw[r];exact a.hi)) (λN g e=>by
  rw[r,Am,if_pos rfl];have z:((N.ab i).lp 0 m.gC).leads=true:=g.leads a;unfold Nod.take;rw[p];simp only;rw[v,w];split
  .rename_i hc
   rcases hc with hc|hc|hc
   .rw[z]at hc;cases hc
   .exact absurd (show b=(N.ab i).av.hU by rw[g.cm.hU i a.hi,a.hB]) hc
   .exact hc
  .exact Dg _ _ _)
 rw[F];exact G
end
theorem Uw(i:Nat)(l:List Cmd)(p:Nod)(a:List Tol):(so i l p a).1.av=p.av/\(so i l p a).1.ae=p.ae:=by
 induction l generalizing p a with
 | nil=>exact⟨rfl,rfl⟩
 | cons c l ih =>
  rw[so];split
  .exact⟨rfl,rfl⟩
  .have h1:=ih (Nod.fv { p with ni:=doS p.ni c,done:=p.done+1 } c) (if(p.bN c).isSome=true then a++[⟨i,c.c,c.s,doC p.ni c,doA p.ni c⟩]else a);have b:(Nod.fv { p with ni:=doS p.ni c,done:=p.done+1 } c).av=p.av/\(Nod.fv { p with ni:=doS p.ni c,done:=p.done+1 } c).ae=p.ae:=by unfold Nod.fv;split<;>exact⟨rfl,rfl⟩
   exact⟨h1.1.trans b.1,h1.2.trans b.2⟩
theorem Ie{D:Wh}{i:Nat}(c:i<5){M:Meet}(t:(M.ab i).up=true):∃ M0,Sts D 0 M M0/\(M0.ab i).up=true/\(M0.ab i).av=(M.ab i).av/\(M0.ab i).ae=(M.ab i).ae /\
  ∃ M1,M1=M0.set i ((M0.ab i).jv i).1 (M0.br++((M0.ab i).jv i).2) M0.ew/\(M1.ab i).up=true/\Sts D 0 M0 M1/\Sts D 0 (M1.set i (M1.ab i).cF M1.br M1.ew) (M.act (acN 3 (i:Int))):=by
 rw[Hg t];have w:Sts D 0 M (M.set i (M.ab i) M.br M.ew):=by rw[EW];exact .nil 0 M
 obtain⟨p,h⟩:=Sts.so c _ (M.ab i) w t rfl;have q:=Uw i ((M.ab i).ae.drop (M.ab i).done) (M.ab i) M.ew;unfold Nod.piece;simp only;generalize Go.Proofs.YtknnhaeneaaebaaGreatDoor.so i ((M.ab i).ae.drop (M.ab i).done) (M.ab i) M.ew=a at p h q ⊢;refine⟨_,p,by rw[Bp];exact h,by rw[Bp];exact q.1,by rw[Bp];exact q.2,?_⟩;have e:=Bp M i a.1 M.br a.2;have s:=Stp.ask (D:=D) (M.set i a.1 M.br a.2) i c (by rw[e];exact h);have l:=(Ir a.1 i).trans h;rw[e,Cj]at s
 refine⟨M.set i (a.1.jv i).1 (M.br++(a.1.jv i).2) a.2,by rw[e,Cj];rfl,by rw[Bp];exact l,s.s,?_⟩;show Sts D 0 ((M.set i (a.1.jv i).1 (M.br++(a.1.jv i).2) a.2).set i ((M.set i (a.1.jv i).1 (M.br++(a.1.jv i).2) a.2).ab i).cF (M.br++(a.1.jv i).2) a.2) _;clear e s p;generalize (a.1.jv i)=b at l ⊢;rw[Bp,Cj];have g:=(EF b.1).trans l;show Sts D 0 (M.set i b.1.cF (M.br++b.2) a.2) _;generalize b.1.cF=r at g ⊢;generalize M.br++b.2=k at ⊢;have j:Sts D 0 (M.set i r k a.2) (M.set i (r.ov i k).1 (r.ov i k).2 a.2)/\(r.ov i k).1.up=true:=by
  unfold Nod.ov;split
  .exact⟨.nil 0 _,g⟩
  .rename_i hn
   have e:=Bp M i r k a.2;unfold Nod.sj;split
   .rename_i h1
    have m:De r.d r.sy=0:=mY.1 λe=>hn ⟨h1,e⟩;have o:AT r.d r.sy:=by
     unfold De at m;split at m
     .assumption
     .cases m
    have s:=Stp.sj (D:=D) (M.set i r k a.2) i c (by rw[e];exact g) (by rw[e];exact h1) (by rw[e];exact o);rw[e,Cj]at s
    have u:Hl r.d r.sy=r.d:=if_pos o;have v:Ih r.d r.sy=(r.d.length:Int):=if_pos o;rw[u,v];have:=Sts.qk (D:=D) (n:=0) (M:=M.set i r k a.2) (ls:=k) (ts:=a.2) c r.bu { r with sy:=(r.d.length:Int),bu:=[] } (by rw[Cj];exact(Sts.nil 0 _).s0 s) g rfl (rH _);rw[Cj]at this
    exact this
   .rename_i h1
    have:=Sts.qk (D:=D) (n:=0) (M:=M.set i r k a.2) (ls:=k) (ts:=a.2) c r.bu { r with bu:=[] } (by rw[Cj];exact .nil 0 _) g rfl h1;rw[Cj]at this
    exact this
 generalize r.ov i k=f at j ⊢;unfold Nod.bw;split
 .rename_i hL
  have e:=Bp M i f.1 f.2 a.2;have s:=Stp.sg (D:=D) (M.set i f.1 f.2 a.2) i c (by rw[e];exact j.2) (by rw[e];exact hL);rw[e,Cj]at s
  exact j.1.s0 s
 .exact j.1
section
variable{C:List Cmd}{K:Int}{B:Nat->Bal}{cov:List (Bal × Nat)}{i:Nat}{b:Bal}
theorem eC(a:PhC C K B cov i b)(d:14*K+38*(cov.length:Int)<=99000){M:Meet}(h:PhB C K B cov i b M)(j:(M.ab i).av.sh=true)(n:(M.ab i).av.next<=(M.ab i).ae.length){c:Cmd}(f:(M.ab i).rk (M.ab i).ae.length=some c)(l:Ah ⟨((M.ab i).ae.length:Int),b,c⟩) :
  (M.ab i).cF.av.next=(M.ab i).ae.length+1/\Pend.prop ⟨((M.ab i).ae.length:Int),b,c⟩∈(M.ab i).cF.bu:=by
 have e:(M.ab i).av.hU=b:=(h.cm.hU i a.hi).trans a.hB;have k:=h.leads a;have m:=h.cm.ui d a.hi l (λg=>by
  have:b.lt (M.ab i).vo.p:=g;rw[h.vi]at this
  unfold Bal.lt at this;omega)
 unfold Nod.cF;rw[if_neg (λg=>by
  rcases g with g|g|g
  .rw[k]at g;cases g
  .rw[j]at g;cases g
  .omega),f]
 simp only;rw[e,if_neg (λg=>g m.1)];exact⟨rfl,mV _ (D'.2 rfl)⟩
theorem Xq(f:PhC C K B cov i b)(e:14*K+38*(cov.length:Int)<=99000){M:Meet}(h:PhB C K B cov i b M){j:Nat}(a:j<5){v:Vt}(c:Ah v)(o:v.b=b){l:Let}(k:l.kind=3)(m:l.cl=v):Pend.voted l.src v∈((M.ab j).take l).bu:=by
 have n:=h.cm.le a;have d:=h.cm.ui e a c (by rw[Fc c.2.1.pr (h.cm.acc a).1,o,f.hK];omega);unfold Nod.take;rw[k];simp only;rw[m,if_neg (λg=>g d.1)];exact mV _ (D'.2 rfl)
end
section
def NB(p:Nod):Prop:=∀ b vs,Pend.began b vs∉p.bu
variable{M N:Meet}{c j:Nat}{p q:Nod}{v:Vt}
theorem NB.snoc(h:NB p){x:Pend}(e:q.bu=p.bu++[x])(a:∀ b vs,Pend.began b vs≠x):NB q:=λb vs g=>by
 rw[e]at g
 rcases P'.1 g with g|g
 .exact h b vs g
 .exact a b vs (D'.1 g)
theorem NB.same(h:NB p)(e:q.bu=p.bu):NB q:=λb a g=>h b a (by rw[<- e];exact g)
theorem ZT(p:Nod)(b:Bal):(p.au b).1.bu=p.bu:=by
 unfold Nod.au;split
 .rfl
 .split
  .rfl
  .split<;>rfl
theorem RC(p:Nod)(v:Vt):(p.cl v).1.bu=p.bu:=by
 unfold Nod.cl;split
 .rfl
 .split
  .rfl
  .split<;>rfl
theorem jd(p:Nod)(b:Bal):(p.au b).1.ae=p.ae:=by
 unfold Nod.au;split
 .rfl
 .split
  .rfl
  .split<;>rfl
theorem jH(p:Nod)(v:Vt):(p.cl v).1.ae=p.ae:=by
 unfold Nod.cl;split
 .rfl
 .split
  .rfl
  .split<;>rfl
theorem NB.ed(h:NB p)(to:Nat)(e:Int):NB (p.ed to e):=by
 unfold Nod.ed;split
 .exact h.snoc rfl (λ_ _ g=>by cases g)
 .exact h
theorem Sf(p:Nod)(j:Nat)(v:Vt):(p.count j v).bu=p.bu:=by
 unfold Nod.count;split
 .rfl
 .split<;>rfl
theorem NU(p:Nod)(l:List Cmd):(p.dT l).bu=p.bu:=by unfold Nod.dT;split<;>rfl
theorem NB.take(h:NB p)(l:Let):NB (p.take l):=by
 unfold Nod.take;split
 .split
  .exact h.ed _ _
  .exact h.snoc (by show(p.au l.hU).1.bu++_=_;rw[ZT]) (λ_ _ g=>by cases g)
 .simp only;split<;>exact h
 .exact h
 .split
  .exact h.ed _ _
  .exact h.snoc (by show(p.cl l.cl).1.bu++_=_;rw[RC]) (λ_ _ g=>by cases g)
 .exact h.same (Sf _ _ _)
 .split
  .exact h.snoc rfl (λ_ _ g=>by cases g)
  .exact h
 .simp only;split
  .exact h.snoc (by show((p.dT l.gC).bu)++_=_;rw[NU]) (λ_ _ g=>by cases g)
  .exact h.same (NU _ _)
 .exact h
theorem Stp.nb(s:Stp wh0 c M N){j:Nat}(h:NB (M.ab j)):NB (N.ab j):=by
 have put:∀ {i:Nat} {p:Nod} {a:List Let} {f:List Tol},(j=i->NB p)->NB ((M.set i p a f).ab j):=λ{i p a f} g=>by
  rw[Am];split
  .rename_i e;exact g e
  .exact h
 cases s with
 | take _ l hl hd hu ht=>exact put λe=>by rw[<- e];exact h.take l
 | br _ a hl hd=>exact False.elim hd
 | one _ i c hi hu hc he=>exact put λe=>(e▸h:NB (M.ab i)).same (GJ _ _).1
 | ask _ i hi hu=>exact put λe=>(e▸h:NB (M.ab i)).same (Jq _ _).1
 | prop _ i hi hu =>
  refine put λe=>?_;have h:NB (M.ab i):=e▸h;unfold Nod.cF;split
  .exact h
  .split
   .exact h
   .split
    .exact h
    .exact h.snoc (by show((M.ab i).cl _).1.bu++_=_;rw[RC]) (λ_ _ g=>by cases g)
 | sj _ i hi hu hs hT=>exact put λe=>(e▸h:NB (M.ab i)).same rfl
 | run _ i hi hu q l hp hs=>exact put λe b m g=>(e▸h:NB (M.ab i)) b m (by rw[hp];exact I' _ g)
 | sg _ i hi hu hL=>exact put λe=>(e▸h:NB (M.ab i)).same rfl
 | lead _ i hi hu hL=>exact False.elim hL
 | sub _ i d hi hu hD=>exact False.elim hD
 | lr _ i k hi hu hk hC=>exact False.elim hC
 | start _ i hi hu hs=>exact False.elim hs
theorem NR{k:Nat}{u:Vt}(hv:v∈((p.count k u).av.an j).vs):v∈(p.av.an j).vs\/v.b=p.av.hU:=by
 unfold Nod.count at hv;split at hv
 .exact .inl hv
 .rename_i hb
  split at hv
  .exact .inl hv
  .rename_i a
   have a:=mY.1 a;have hv:v∈(upN p.av.an k ⟨BI (p.av.an k) u,Br (p.av.an k) u⟩ j).vs:=hv;unfold upN at hv;split at hv
   .rename_i e
    have hv:v∈Br (p.av.an k) u:=hv;unfold Br at hv;rw[if_pos a,BA (Ap a).1.2.2]at hv
    rcases hv with hv|hv
    .exact .inr (by rw[hv];exact mY.1 hb)
    .exact .inl (by rw[e];exact hv.1)
   .exact .inl hv
theorem Stp.uQ(s:Stp wh0 c M N){i:Nat}(m:NB (M.ab i))(n:∀ j,j<5->(M.ab i).av.rN j=true){j:Nat}{v:Vt}(a:v∈((N.ab i).av.an j).vs):v∈((M.ab i).av.an j).vs\/v.b=(M.ab i).av.hU:=by
 have put:∀ {k:Nat} {p:Nod} {f:List Let} {h:List Tol},v∈(((M.set k p f h).ab i).av.an j).vs->(i=k->v∈(p.av.an j).vs->v∈((M.ab i).av.an j).vs\/v.b=(M.ab i).av.hU)->v∈((M.ab i).av.an j).vs\/v.b=(M.ab i).av.hU:=λ{k p f h} g e=>by
  rw[Am]at g
  split at g
  .rename_i e2;exact e e2 g
  .exact .inl g
 cases s with
 | take _ l hl hd hu ht =>
  refine put a λe g=>?_;rw[<- e]at g
  unfold Nod.take at g;split at g
  .split at g
   .unfold Nod.ed at g;split at g<;>exact .inl g
   .have g:v∈(((M.ab i).au l.hU).1.av.an j).vs:=g;rw[(AY _ _).2]at g;exact .inl g
  .simp only at g;split at g
   .exact .inl g
   .rename_i hc
    exact absurd (.inr (.inr (n l.src hd.1))) hc
  .exact .inl g
  .split at g
   .unfold Nod.ed at g;split at g<;>exact .inl g
   .have g:v∈(((M.ab i).cl l.cl).1.av.an j).vs:=g;rw[(Cn _ _).2]at g;exact .inl g
  .exact NR g
  .split at g<;>exact .inl g
  .simp only at g;unfold Nod.dT at g;split at g<;>split at g<;>exact .inl g
  .exact .inl g
 | br _ f hl hd=>exact False.elim hd
 | one _ k c hi hu hc he =>
  refine put a λe g=>?_;rw[<- e]at g
  unfold Nod.fv at g;split at g<;>exact .inl g
 | ask _ k hi hu =>
  refine put a λe g=>?_;rw[<- e]at g
  unfold Nod.jv at g;split at g
  .exact .inl g
  .split at g
   .unfold Nod.dT at g;split at g<;>exact .inl g
   .exact .inl g
 | prop _ k hi hu =>
  refine put a λe g=>?_;rw[<- e]at g
  unfold Nod.cF at g;split at g
  .exact .inl g
  .split at g
   .exact .inl g
   .split at g<;>exact .inl g
 | sj _ k hi hu hs hT=>exact put a λe g=>by rw[<- e]at g;exact .inl g
 | run _ k hi hu q l hp2 hs =>
  refine put a λe g=>?_;rw[<- e]at g hp2
  have g:v∈(((M.ab i).ln i q).av.an j).vs:=g;cases q with
  | began b vs=>exact absurd (by rw[hp2];exact M') (m b vs)
  | prop u=>exact NR g
  | _=>exact .inl g
 | sg _ k hi hu hL=>exact put a λe g=>by rw[<- e]at g;exact .inl g
 | lead _ k hi hu hL=>exact False.elim hL
 | sub _ k d hi hu hD=>exact False.elim hD
 | lr _ k y hi hu hk hC=>exact False.elim hC
 | start _ k hi hu hs=>exact False.elim hs
theorem X7{b:Bal}(l:List Cmd){f:Cmd->Option Bal}(h:∀ c∈l,f c=some b):(Bb b f l).1=[]:=by
 induction l with
 | nil=>rfl
 | cons c l ih =>
  rw[Bb,if_neg (by rw[h c M'];exact λg=>g rfl)];exact ih λd a=>h d (I' _ a)
end
section
variable{C:List Cmd}{K:Int}{B:Nat->Bal}{cov:List (Bal × Nat)}{i:Nat}{b:Bal}
structure PhE(C:List Cmd)(K:Int)(B:Nat->Bal)(cov:List (Bal × Nat))(i:Nat)(b:Bal)(M:Meet):Prop where
 pb:PhB C K B cov i b M
 va:∀ j,j<5->(M.ab j).vo.p=b
 pr:∀ j,j<5->(M.ab i).av.rN j=true
 nb:NB (M.ab i)
 aw:∀ j,j<5->∀ c x,(M.ab j).bN c=some x->x=b
 l6:∀ m∈M.br,m.kind=6->m.gC=[]
 qw:∀ j,j<5->∀ c∈(M.ab j).bn,c∈(M.ab i).av.fa
theorem PhE.nil{M:Meet}(h:PhE C K B cov i b M){j:Nat}(a:j<5):(Bb (M.ab j).vo.p (M.ab j).bN ((M.ab j).bn.take 40)).1=[]:=by
 rw[h.va j a];refine X7 _ λc e=>?_;obtain⟨x,d⟩:=om.1 (((h.pb.ak j a).wa c).1 (np e));rw[d,h.aw j a c x d]
theorem PhE.jv{M:Meet}(h:PhE C K B cov i b M){j:Nat}(a:j<5):(M.ab j).jv j=({ M.ab j with bN:=(Bb (M.ab j).vo.p (M.ab j).bN ((M.ab j).bn.take 40)).2 },[]):=by
 unfold Nod.jv;rw[if_pos (h.nil a)]
theorem DK{i:Nat}{l m:Let}{k:Nat}(h:m∈BV i l k):m.kind=l.kind/\m.gC=l.gC:=by
 unfold BV at h;obtain⟨j,_,rfl⟩:=ny.1 h;exact⟨rfl,rfl⟩
theorem PhE.step(r:PhC C K B cov i b){n:Nat}{M N:Meet}(s:Stp wh0 n M N)(h:PhE C K B cov i b M):PhE C K B cov i b N:=by
 refine⟨h.pb.step r s,λj a=>h.pb.cm.top r.hc s r.hb.pr r.hK a (h.va j a),λj a=>(s.ev i).rN j (h.pr j a),s.nb h.nb,λj a c x d=>?_,λm f o=>?_,λj a c u=>(s.ev i).qu.subset (h.qw j a c ((s.ev j).wa c u))⟩
 .rcases s.bN d with g|⟨_,rfl⟩
  .exact h.aw j a c x g
  .rw[Am,if_pos rfl,h.jv a]at d
   have d:(Bb (M.ab j).vo.p (M.ab j).bN ((M.ab j).bn.take 40)).2 c=some x:=d;have t:b≠Bf:=λe=>by have:=r.hb;rw[e]at this;exact absurd this (by decide)
   rw[h.va j a]at d
   have f:=Lg t ((M.ab j).bn.take 40) (M.ab j).bN;by_cases e:c∈(M.ab j).bn.take 40
   .rw[f.2.1 c e]at d;exact(nO d).symm
   .rw[f.1 c e]at d;exact h.aw j a c x d
 .have old:m∈M.br->m.gC=[]:=λg=>h.l6 m g o;cases s with
  | br _ ls hl hd=>exact False.elim hd
  | ask _ k hi hu =>
   rw[h.jv hi]at f
   exact old (by simpa[Meet.set]using f)
  | run _ k hi hu q l hp hs =>
   rcases P'.1 f with g|g
   .exact old g
   .cases q with
    | began b vs =>
     unfold Nod.sc at g;simp only at g;split at g
     .cases g
     .have:=(DK g).1;rw[o]at this;cases this
    | prop v=>have:=(DK g).1;rw[o]at this;cases this
    | start=>exact(DK g).2
    | askNews to=>rw[D'.1 g];rfl
    | _=>have e:=D'.1 g;rw[e]at o;cases o
  | sg _ k hi hu hL =>
   rcases P'.1 f with g|g
   .exact old g
   .have:=(JQ 5 m g).1;omega
  | _=>exact old f
end
section
variable{C:List Cmd}{K:Int}{B:Nat->Bal}{cov:List (Bal × Nat)}{i:Nat}{b:Bal}{A:List Cmd}
section
structure Fin_(i:Nat)(A:List Cmd)(M:Meet):Prop where
 ag:(M.ab i).ae=A
 nx:(M.ab i).av.next<=A.length
 hd:A.length<40->∀ j,j<5->∀ v∈((M.ab i).av.an j).vs,v.bt≠(A.length:Int)
 qu:A.length<40->∀ c∈(M.ab i).av.fa,c∈A
variable{M:Meet}{k:Nat}{l:List Cmd}{σ:Gs}
theorem PhE.rd(a:PhC C K B cov i b){M:Meet}(h:PhE C K B cov i b M){σ:Gs}(g:AgI σ M):RdI σ i (M.ab i).av/\(M.ab i).av.hU=b:=by
 obtain⟨c,k⟩:=(g.nd i a.hi).up (h.pb.cm.up i a.hi);exact⟨k.rd,(h.pb.cm.hU i a.hi).trans a.hB⟩
theorem PhE.lt(d:PhC C K B cov i b){M:Meet}(h:PhE C K B cov i b M){σ:Gs}(g:AgI σ M){v:Vt}(a:σ.sG v)(c:v.b=b):v.bt<((M.ab i).av.next:Int):=by
 have k:=h.rd d g;have:=k.1.next v.bt.toNat v.w (by rw[k.2,<- c];exact a.2);have:=a.1.1;omega
theorem PhE.held(a:PhC C K B cov i b){M:Meet}(h:PhE C K B cov i b M){σ:Gs}(g:AgI σ M){s:Nat}(o:(M.ab i).av.next<=s)(m:∀ j,j<5->∀ v∈((M.ab i).av.an j).vs,v.bt≠(s:Int)){q:Nat}(d:q<5){v:Vt}(l:σ.held q v):v.bt≠(s:Int):=by
 intro e;have k:=h.rd a g;have c:=g.gs.hv q v l;have n:=g.sU h.pb.cm.kb.2 c.1.2.1 (g.gs.w3 _ _ _ c.2);by_cases f:v.b.key<b.key
 .obtain⟨u,hu,eu,_⟩:=(k.1.prom q d (h.pr q d)).2 v l (by rw[k.2];exact f);exact m q d u hu (eu.trans e)
 .have e3:v.b=b:=DO c.1.2.1.pr a.hb.pr (by rw[a.hK]at f ⊢;omega);have:=h.lt a g c e3;omega
theorem ik(g:GsI σ){s:Nat}{c:Cmd}(h:σ.tJ s c):∃ q,q<5/\∃ v,σ.held q v/\v.bt=(s:Int)/\v.w=c/\s<40:=by
 obtain⟨k,Q,d,j⟩:=h;obtain⟨q,e,a,_⟩:=Gz Q Q d d;obtain⟨v,b,f,_,i⟩:=j q e a;have:=(g.hv q v b).1.1;exact⟨q,e,v,b,f,i,by omega⟩
theorem Fin_.none(k:PhC C K B cov i b){M:Meet}(h:PhE C K B cov i b M)(f:Fin_ i A M){σ:Gs}(g:AgI σ M)(c:Cmd):¬ σ.tJ A.length c:=λe=>by
 obtain⟨q,l,v,a,d,_,j⟩:=ik g.gs e;exact h.held k g f.nx (f.hd j) l a d
theorem AgL.le{a:Nat}(h:AgL σ l k)(d:∀ c,¬ σ.tJ a c)(f:k<=a):k+l.length<=a:=qP λe=>by
 have b:a-k<l.length:=by omega
 exact d _ (by rw[show a=k+(a-k)by omega];exact h (a-k) _ (E' b))
theorem Fin_.le(a:PhC C K B cov i b){M:Meet}(h:PhE C K B cov i b M)(f:Fin_ i A M){j:Nat}(c:j<5):(M.ab j).ae.length<=A.length:=by
 obtain⟨σ,g,_⟩:=h.pb.cm.ex;have:=(g.nd j c).ag.le (f.none a h g) (nG _);omega
theorem Fin_.rk(f:Fin_ i A M):(M.ab i).rk (M.ab i).ae.length=Option.none:=by
 unfold Nod.rk;rw[f.ag];split
 .rfl
 .rename_i b
  have b:=mY.1 b;have k:A.length<40:=by
   unfold BZ at b;split at b
   .cases b
   .omega
  have m:Ae ((M.ab i).av.hZ.map (·.vs)).flatten (A.length:Int)=[]:=oV.2 λv h=>by
   obtain⟨n,o⟩:=AL.1 h;obtain⟨l,s,h⟩:=o8.1 n;obtain⟨a,d,rfl⟩:=ny.1 s;unfold Rnd.hZ at d;have:∃ j,j<5/\a=(M.ab i).av.an j:=by
    simp only[nf,Q',or_false]at d;rcases d with e|e|e|e|e
    .exact⟨0,by omega,e⟩
    .exact⟨1,by omega,e⟩
    .exact⟨2,by omega,e⟩
    .exact⟨3,by omega,e⟩
    .exact⟨4,by omega,e⟩
   obtain⟨j,r,rfl⟩:=this;exact f.hd k j r v h o
  have p:DY ((M.ab i).av.hZ.map (·.vs)) (A.length:Int)=false:=by
   unfold DY;rw[if_pos b];unfold Ej;rw[m];rfl
  rw[if_neg (by rw[p];decide)];exact oB.2 λc q g=>absurd (f.qu k c q) (nJ g)
theorem Ol{a:List Cmd}(h:k+a.length<=l.length):l++a.drop (l.length-k)=l:=by rw[n7 (by omega),nC]
theorem Zk{r:Rnd}(k:Nat)(h:Db r.hZ (l.length:Int)≠0):FG k r l=l:=by
 cases k with
 | zero=>rfl
 | succ k=>rw[FG,if_neg h]
def Uh(p q:Nod):Prop:=q.ae=p.ae/\q.av.next=p.av.next/\q.av.fa=p.av.fa
theorem Fin_.count(c:PhC C K B cov i b){M:Meet}(h:PhE C K B cov i b M)(f:Fin_ i A M){σ:Gs}(g:AgI σ M){j:Nat}{v:Vt}(m:σ.held j v):Uh (M.ab i) ((M.ab i).count j v):=by
 have k:=(h.rd c g).1;unfold Nod.count;split
 .exact⟨rfl,rfl,rfl⟩
 .rename_i hb
  split
  .exact⟨rfl,rfl,rfl⟩
  .rename_i he
   refine⟨Zk _ λe=>?_,rfl,rfl⟩;have e:Db (Rnd.hZ _) ((M.ab i).ae.length:Int)=0:=e;have a:=Uj (λq d u l=>((k.count (mY.1 hb) (mY.1 he) m).an q d u l).1) e;rw[f.ag]at a
   exact f.none c h g _ a
theorem Fin_.same(m:PhC C K B cov i b){n:Nat}{M N:Meet}(s:Stp wh0 n M N)(h:PhE C K B cov i b M)(f:Fin_ i A M):Uh (M.ab i) (N.ab i):=by
 obtain⟨σ,g,_⟩:=h.pb.cm.ex;have put:∀ {k:Nat} {p:Nod} {r:List Let} {t:List Tol},(i=k->Uh (M.ab i) p)->Uh (M.ab i) ((M.set k p r t).ab i):=λ{k p r t} e=>by
  rw[Am];split
  .rename_i e2;exact e e2
  .exact⟨rfl,rfl,rfl⟩
 have o:∀ {l:List Cmd} {k:Nat},AgL σ l k->k<=A.length->k+l.length<=(M.ab i).ae.length:=λa e=>by rw[f.ag];exact a.le (f.none m h g) e
 cases s with
 | take _ l hl2 hd hu ht =>
  refine put λe=>?_;rw[<- e];have lt:=g.lt l hl2;unfold Nod.take;split
  .split
   .unfold Nod.ed;split<;>exact⟨rfl,rfl,rfl⟩
   .exact⟨jd _ _,by show(Nod.au _ _).1.av.next=_;rw[(AY _ _).2],by show(Nod.au _ _).1.av.fa=_;rw[(AY _ _).2]⟩
  .rename_i hk
   simp only;rw[if_pos (.inr (.inr (h.pr l.src hd.1)))];exact⟨Ol (o (lt.k1 hk).2.2 (nG _)),rfl,rfl⟩
  .exact⟨rfl,rfl,rfl⟩
  .split
   .unfold Nod.ed;split<;>exact⟨rfl,rfl,rfl⟩
   .exact⟨jH _ _,by show(Nod.cl _ _).1.av.next=_;rw[(Cn _ _).2],by show(Nod.cl _ _).1.av.fa=_;rw[(Cn _ _).2]⟩
  .rename_i hk
   exact f.count m h g (lt.k4 hk)
  .rename_i hk
   split
   .exact⟨rfl,rfl,rfl⟩
   .rename_i h5
    exact⟨Ol (o (lt.k5 hk) (by rw[f.ag]at h5;omega)),rfl,rfl⟩
  .rename_i hk
   simp only;rw[h.l6 l hl2 hk];unfold Nod.dT;split<;>split<;>exact⟨rfl,rfl,rfl⟩
  .exact⟨rfl,rfl,rfl⟩
 | br _ r o hd=>exact False.elim hd
 | one _ k c hi hu hc he=>exact put λe=>by rw[<- e];unfold Nod.fv;split<;>exact⟨rfl,rfl,rfl⟩
 | ask _ k hi hu=>exact put λe=>by rw[h.jv hi,<- e];exact⟨rfl,rfl,rfl⟩
 | prop _ k hi hu =>
  refine put λe=>?_;rw[<- e];unfold Nod.cF;split
  .exact⟨rfl,rfl,rfl⟩
  .rw[f.rk];exact⟨rfl,rfl,rfl⟩
 | sj _ k hi hu hs hT=>exact put λe=>by rw[<- e];exact⟨rfl,rfl,rfl⟩
 | run _ k hi hu q l hp hs =>
  refine put λe=>?_;rw[<- e]at hp hs ⊢
  cases q with
  | began b vs=>exact absurd (by rw[hp];exact M') (h.nb b vs)
  | prop v =>
   obtain⟨u,k⟩:=(g.nd i m.hi).up (h.pb.cm.up i m.hi);have:=f.count m h g (j:=i) (v:=v) (by
    have:=k.pe (.prop v) (by rw[hp];exact M');unfold Gs.held;rw[k.tp.all hs];exact this)
   exact this
  | _=>exact⟨rfl,rfl,rfl⟩
 | sg _ k hi hu hL=>exact put λe=>by rw[<- e];exact⟨rfl,rfl,rfl⟩
 | lead _ k hi hu hL=>exact False.elim hL
 | sub _ k d hi hu hD=>exact False.elim hD
 | lr _ k y hi hu hk hC=>exact False.elim hC
 | start _ k hi hu hs=>exact False.elim hs
theorem Fin_.step(a:PhC C K B cov i b){n:Nat}{M N:Meet}(s:Stp wh0 n M N)(h:PhE C K B cov i b M)(f:Fin_ i A M):Fin_ i A N:=by
 have e:=f.same a s h;have d:=h.step a s;obtain⟨τ,g,_⟩:=d.pb.cm.ex;refine⟨e.1.trans f.ag,by rw[e.2.1];exact f.nx,λl j m v o q=>?_,λl c p=>f.qu l c (by rw[<- e.2.2];exact p)⟩;rcases s.uQ h.nb h.pr o with k|k
 .exact f.hd l j m v k q
 .have:=d.lt a g (g.gs.hv j v ((d.rd a g).1.an j m v o).1) (k.trans ((h.pb.cm.hU i a.hi).trans a.hB));have:=e.2.1;have:=f.nx;omega
end
end
section
variable{j:Nat}{p:Nod}{r:Rnd}{v:Vt}
theorem ZA{l:List Vt}(h:v∈l):1<=BK (Ae l v.bt) v:=ri.2 ⟨v,AL.2 ⟨h,rfl⟩,O' rfl⟩
theorem XL(k:∀ j,j<5->Ag (r.an j)){v:Vt}(o:0<=v.bt/\v.bt<=39)(p:∀ j,j<5->v∈(r.an j).vs):Db r.hZ v.bt=0:=by
 have e:D8 r.hZ v.bt=Ae (r.an 0).vs v.bt++(Ae (r.an 1).vs v.bt++(Ae (r.an 2).vs v.bt++(Ae (r.an 3).vs v.bt++Ae (r.an 4).vs v.bt))):=by
  unfold D8 Rnd.hZ Ae;simp[List.filter_append]
 have g:∀ j,j<5->1<=BK (Ae (r.an j).vs v.bt) v:=λj l=>ZA (p j l);have n:5<2*BK (D8 r.hZ v.bt) v:=by
  rw[e,Cy,Cy,Cy,Cy];have:=g 0 (by omega);have:=g 1 (by omega);have:=g 2 (by omega);have:=g 3 (by omega);have:=g 4 (by omega);omega
 have m:v∈D8 r.hZ v.bt:=by
  obtain⟨u,b,d⟩:=ri.1 (show 0<BK (D8 r.hZ v.bt) v by omega);have c:u=v:=nJ d;rw[c]at b;exact b
 have f:∀ a∈r.hZ,Ag a:=λa h=>by
  unfold Rnd.hZ at h;simp only[nf,Q',or_false]at h;rcases h with e|e|e|e|e<;>rw[e]<;>exact k _ (by omega)
 have i:(Hj (D8 r.hZ v.bt) r.hZ.length).isSome=true:=List.find?_isSome.2 ⟨v,m,O' n⟩;unfold Db;rw[if_neg (λg=>g ⟨o,by show(1:Int)<=((5:Nat):Int)/\((5:Nat):Int)<=5;decide⟩),if_neg (λg=>g f),if_pos i]
theorem Qg(c:v.b=p.av.hU)(a:Ag (p.av.an j))(e:Ah v)(f:(p.av.an j).p=p.av.hU):v∈((p.count j v).av.an j).vs:=by
 have d:Ba (p.av.an j) v=0:=by
  unfold Ba;rw[if_neg (λg=>g a),if_neg (λg=>g e),if_neg];rw[f,c];unfold Bal.lt;omega
 unfold Nod.count;rw[if_neg (λg=>g c),if_neg (λg=>g d)];show v∈(upN p.av.an j ⟨BI (p.av.an j) v,Br (p.av.an j) v⟩ j).vs;rw[Dg];show v∈Br (p.av.an j) v;rw[(DN d).2,BA a.2.2];exact .inl rfl
theorem Se{k:Nat}{u:Vt}(a:v∈(p.av.an k).vs)(g:u.b=p.av.hU->u.bt=v.bt->u=v):v∈((p.count j u).av.an k).vs:=by
 unfold Nod.count;split
 .exact a
 .rename_i hb
  split
  .exact a
  .rename_i c
   have c:=mY.1 c;show v∈(upN p.av.an j ⟨BI (p.av.an j) u,Br (p.av.an j) u⟩ k).vs;unfold upN;split
   .rename_i e
    show v∈Br (p.av.an j) u;rw[(DN c).2,BA (Ap c).1.2.2];by_cases d:u.bt=v.bt
    .exact .inl (g (mY.1 hb) d).symm
    .exact .inr ⟨by rw[<- e];exact a,λf=>d f.symm⟩
   .exact a
theorem bM(h:(p.cl v).2=0):Ah v:=by
 unfold Nod.cl at h;split at h
 .rename_i h0;exact absurd h h0
 .rename_i h0;exact(Ap (mY.1 h0)).2.1
theorem Wk{l:List Cmd}(k:Nat)(h:Db r.hZ (l.length:Int)=0):l.length<(FG (k+1) r l).length:=by
 rw[FG,if_pos h];have:=(IB k r (l++[CU r.hZ (l.length:Int)])).length_le;rw[H',nS]at this
 omega
end
section
variable{C:List Cmd}{K:Int}{B:Nat->Bal}{cov:List (Bal × Nat)}{i:Nat}{b:Bal}
theorem Stp.sV{n:Nat}{M N:Meet}(s:Stp wh0 n M N)(m:PhC C K B cov i b)(h:PhE C K B cov i b M){σ:Gs}(g:AgI σ M) :
  ((N.ab i).av.an=(M.ab i).av.an/\(N.ab i).av.next=(M.ab i).av.next)\/((N.ab i).av.an=(M.ab i).av.an/\(N.ab i).av.next=(M.ab i).ae.length+1/\(M.ab i).ae.length<40)\/∃ k u,k<5/\σ.held k u/\(N.ab i).av=((M.ab i).count k u).av/\(N.ab i).ae=((M.ab i).count k u).ae:=by
 have put:∀ {k:Nat} {p:Nod} {f:List Let} {j:List Tol},(i=k->p.av.an=(M.ab k).av.an/\p.av.next=(M.ab k).av.next)->((M.set k p f j).ab i).av.an=(M.ab i).av.an/\((M.set k p f j).ab i).av.next=(M.ab i).av.next:=λ{k p f j} e=>by
  rw[Am];split
  .rename_i e2;rw[e2];exact e e2
  .exact⟨rfl,rfl⟩
 cases s with
 | take _ l hl hd hu ht =>
  have lt:=g.lt l hl;by_cases a:l.kind=4/\i=l.dst
  .refine .inr (.inr ⟨l.src,l.cl,hd.1,lt.k4 a.1,?_⟩);rw[Am,if_pos a.2,<- a.2];unfold Nod.take;rw[a.1];exact⟨rfl,rfl⟩
  .refine .inl (put λe=>?_);rw[<- e];unfold Nod.take;split
   .split
    .unfold Nod.ed;split<;>exact⟨rfl,rfl⟩
    .show((M.ab i).au _).1.av.an=_/\((M.ab i).au _).1.av.next=_;rw[(AY _ _).2];exact⟨rfl,rfl⟩
   .simp only;rw[if_pos (.inr (.inr (h.pr l.src hd.1)))];exact⟨rfl,rfl⟩
   .exact⟨rfl,rfl⟩
   .split
    .unfold Nod.ed;split<;>exact⟨rfl,rfl⟩
    .show((M.ab i).cl _).1.av.an=_/\((M.ab i).cl _).1.av.next=_;rw[(Cn _ _).2];exact⟨rfl,rfl⟩
   .rename_i hk;exact absurd ⟨hk,e⟩ a
   .split<;>exact⟨rfl,rfl⟩
   .simp only;unfold Nod.dT;split<;>split<;>exact⟨rfl,rfl⟩
   .exact⟨rfl,rfl⟩
 | br _ f hl hd=>exact False.elim hd
 | one _ k c hi hu hc he=>exact .inl (put λe=>by unfold Nod.fv;split<;>exact⟨rfl,rfl⟩)
 | ask _ k hi hu=>exact .inl (put λe=>by rw[h.jv hi];exact⟨rfl,rfl⟩)
 | prop _ k hi hu =>
  by_cases e:i=k
  .subst e;rw[Am,if_pos rfl];unfold Nod.cF;split
   .exact .inl ⟨rfl,rfl⟩
   .split
    .exact .inl ⟨rfl,rfl⟩
    .split
     .exact .inl ⟨rfl,rfl⟩
     .rename_i he
      refine .inr (.inl ⟨rfl,rfl,?_⟩);have:=(bM (mY.1 he)).1.2;have:((M.ab i).ae.length:Int)<=39:=this;omega
  .refine .inl ?_;rw[Am,if_neg e];exact⟨rfl,rfl⟩
 | sj _ k hi hu hs hT=>exact .inl (put λe=>⟨rfl,rfl⟩)
 | run _ k hi hu q l hp hs =>
  by_cases e:i=k
  .subst e;cases q with
   | began b vs=>exact absurd (by rw[hp];exact M') (h.nb b vs)
   | prop v =>
    refine .inr (.inr ⟨i,v,hi,?_,?_⟩)
    .obtain⟨rs,k⟩:=(g.nd i hi).up hu;have:=k.pe (.prop v) (by rw[hp];exact M');unfold Gs.held;rw[k.tp.all hs];exact this
    .rw[Am,if_pos rfl];exact⟨rfl,rfl⟩
   | _=>exact .inl (put λ_=>⟨rfl,rfl⟩)
  .refine .inl ?_;rw[Am,if_neg e];exact⟨rfl,rfl⟩
 | sg _ k hi hu hL=>exact .inl (put λe=>⟨rfl,rfl⟩)
 | lead _ k hi hu hL=>exact False.elim hL
 | sub _ k d hi hu hD=>exact False.elim hD
 | lr _ k y hi hu hk hC=>exact False.elim hC
 | start _ k hi hu hs=>exact False.elim hs
structure PhL(C:List Cmd)(K:Int)(B:Nat->Bal)(cov:List (Bal × Nat))(i:Nat)(b:Bal)(M:Meet):Prop where
 pe:PhE C K B cov i b M
 ld:∀ v:Vt,v.b=b->(∀ j,j<5->v∈((M.ab i).av.an j).vs)->v.bt<((M.ab i).ae.length:Int)
 nx:(M.ab i).av.next<=(M.ab i).ae.length+1/\(M.ab i).av.next<=40
theorem PhE.acc(c:PhC C K B cov i b){M:Meet}(h:PhE C K B cov i b M){j:Nat}(a:j<5):Ag ((M.ab i).av.an j)/\((M.ab i).av.an j).p=b:=by
 obtain⟨σ,g,_⟩:=h.pb.cm.ex;have k:=h.rd c g;exact⟨(k.1.acc j a).1,((k.1.acc j a).2 (h.pr j a)).trans k.2⟩
theorem PhE.qv(m:PhC C K B cov i b){n:Nat}{M N:Meet}(s:Stp wh0 n M N)(h:PhE C K B cov i b M){v:Vt}(l:v.b=b){j:Nat}(r:j<5)(a:v∈((M.ab i).av.an j).vs):v∈((N.ab i).av.an j).vs:=by
 obtain⟨σ,g,_⟩:=h.pb.cm.ex;have k:=h.rd m g;rcases s.sV m h g with e|e|⟨q,u,hq,hu,e,_⟩
 .rw[e.1];exact a
 .rw[e.1];exact a
 .rw[e];refine Se a λc d=>?_;have o:=g.gs.hv q u hu;have p:=g.gs.hv j v (k.1.an j r v a).1;have f:=o.2;rw[c,k.2,d,<- l]at f
  exact(Vt.eq_iff u v).1 ⟨d,(c.trans k.2).trans l.symm,g.gs.w1 _ _ _ _ f p.2⟩
theorem PhL.step(d:PhC C K B cov i b){n:Nat}{M N:Meet}(s:Stp wh0 n M N)(h:PhL C K B cov i b M):PhL C K B cov i b N:=by
 have f:=h.pe.step d s;have x:=(s.ev i).ag.length_le;obtain⟨σ,g,_⟩:=h.pe.pb.cm.ex;have p:(N.ab i).av.next<=(N.ab i).ae.length+1/\(N.ab i).av.next<=40:=by
  have:=h.nx;rcases s.sV d h.pe g with e|e|⟨q,u,hq,hu,e,_⟩
  .rw[e.2];omega
  .rw[e.2.1];omega
  .have o:((M.ab i).count q u).av.next=(M.ab i).av.next:=by
    unfold Nod.count;split
    .rfl
    .split<;>rfl
   rw[e,o];omega
 refine⟨f,λv t a=>?_,p⟩;by_cases l:∀ j,j<5->v∈((M.ab i).av.an j).vs
 .have:=h.ld v t l;omega
 .obtain⟨τ,g2,_⟩:=f.pb.cm.ex;have z:=f.rd d g2;have m:=g2.gs.hv 0 v (z.1.an 0 (by omega) v (a 0 (by omega))).1;have k:=f.lt d g2 m t;rcases s.sV d h.pe g with e|e|⟨q,u,hq,hu,e,ea⟩
  .rw[e.1]at a;exact absurd a l
  .rw[e.1]at a;exact absurd a l
  .have hm:=m.1.1;rw[e]at a k
   rw[ea];have c:∀ j,j<5->Ag ((N.ab i).av.an j):=λj y=>(f.acc d y).1;rw[e]at c
   have A:=h.nx;have o:((M.ab i).count q u).av.next=(M.ab i).av.next:=by
    unfold Nod.count;split
    .rfl
    .split<;>rfl
   rw[o]at k
   unfold Nod.count at a c ⊢;split at a
   .exact absurd a l
   .split at a
    .exact absurd a l
    .rename_i h3 h4
     rw[if_neg h3,if_neg h4]at c ⊢
     by_cases w:v.bt<((M.ab i).ae.length:Int)
     .exact Int.lt_of_lt_of_le w (Int.ofNat_le.2 (IB 41 _ _).length_le)
     .have e6:v.bt=((M.ab i).ae.length:Int):=by omega
      have r:=XL c hm a;rw[e6]at r ⊢
      exact Int.ofNat_lt.2 (Wk 40 r)
end
section
variable{I J:Meet->Prop}
theorem Mx(j:∀ c M N,Stp wh1 c M N->I M->I N)(p:∀ c M N,Stp wh1 c M N->I M->J M->J N){n:Nat}{M:Meet}(q:MOk n M)(u:n+5<=1000000)(h:I M){i:Nat}(r:i<5)(d:∀ N m,MOk m N->m+1<=1000000->I N->N.ab i=M.ab i->J (N.act (acN 3 (i:Int)))):J (M.dx (AE 3 5)):=by
 have d:∀ k,k<=5->MOk (n+k) (M.dx (AE 3 k))/\I (M.dx (AE 3 k))/\(k<=i->(M.dx (AE 3 k)).ab i=M.ab i)/\(i<k->J (M.dx (AE 3 k))):=by
  intro k;induction k with
  | zero=>exact λ_=>⟨q,h,λ_=>rfl,λe=>absurd e (pc _)⟩
  | succ k ih =>
   intro t;obtain⟨a,b,f,o⟩:=ih (by omega);rw[BS,AK];refine⟨a.act (by omega) (FU (by omega)),CA j a (by omega) b,λe=>by rw[EH _ (by omega)];exact f (by omega),λe=>?_⟩;by_cases l:i<k
   .exact(CA (I:=λN=>I N/\J N) (λc A B s g=>⟨j c A B s g.1,p c A B s g.1 g.2⟩) a (by omega) ⟨b,o l⟩).2
   .obtain rfl:k=i:=by omega
    exact d _ _ a (by omega) b (f (A' _))
 exact(d 5 (A' _)).2.2.2 r
end
theorem If(M:Meet){i:Nat}(d:i<5):∃ N:Meet,N.ab i=M.ab i/\N=M.dx (AE 3 i)/\(M.dx (AE 3 5)).ab i=(N.act (acN 3 (i:Int))).ab i:=by
 have b:∀ k,k<=i->(M.dx (AE 3 k)).ab i=M.ab i:=by
  intro k;induction k with
  | zero=>exact λ_=>rfl
  | succ k ih=>exact λa=>by rw[BS,AK,EH _ (by omega)];exact ih (by omega)
 refine⟨_,b i (A' _),rfl,?_⟩;have c:∀ k,i<k->(M.dx (AE 3 k)).ab i=((M.dx (AE 3 i)).act (acN 3 (i:Int))).ab i:=by
  intro k a;induction k with
  | zero=>exact absurd a (pc _)
  | succ k ih =>
   rw[BS,AK];by_cases e:k=i
   .rw[e]
   .rw[EH _ (Ne.symm e)];exact ih (by omega)
 exact c 5 d
theorem Stp.sK{M N:Meet}(s:Stp wh0 0 M N)(i:Nat):(N.ab i).av.next=(M.ab i).av.next:=by
 have put:∀ {k:Nat} {p:Nod} {a:List Let} {g:List Tol},p.av.next=(M.ab k).av.next->((M.set k p a g).ab i).av.next=(M.ab i).av.next:=λ{k p a g} e=>by
  rw[Am];split
  .rename_i e2;rw[e2];exact e
  .rfl
 have f:∀ (p:Nod) (j:Nat) (v:Vt),(p.count j v).av.next=p.av.next:=λp j v=>by
  unfold Nod.count;split
  .rfl
  .split<;>rfl
 cases s with
 | take _ l hl hd hu ht =>
  refine put ?_;unfold Nod.take;split
  .split
   .unfold Nod.ed;split<;>rfl
   .show((M.ab l.dst).au _).1.av.next=_;rw[(AY _ _).2]
  .simp only;split<;>rfl
  .rfl
  .split
   .unfold Nod.ed;split<;>rfl
   .show((M.ab l.dst).cl _).1.av.next=_;rw[(Cn _ _).2]
  .exact f _ _ _
  .split<;>rfl
  .simp only;unfold Nod.dT;split<;>split<;>rfl
  .rfl
 | br _ a hl hd=>exact False.elim hd
 | one _ k c hi hu hc he=>exact put (by unfold Nod.fv;split<;>rfl)
 | ask _ k hi hu =>
  refine put ?_;unfold Nod.jv;split
  .rfl
  .split
   .unfold Nod.dT;split<;>rfl
   .rfl
 | sj _ k hi hu hs hT=>exact put rfl
 | run _ k hi hu q l hp hs =>
  refine put ?_;show((M.ab k).ln k q).av.next=_;cases q with
  | began b vs=>simp only[Nod.ln];split<;>rfl
  | prop v=>exact f _ _ _
  | _=>rfl
 | sg _ k hi hu hL=>exact put rfl
 | lead _ k hi hu hL=>exact False.elim hL
 | sub _ k d hi hu hD=>exact False.elim hD
 | lr _ k y hi hu hk hC=>exact False.elim hC
 | start _ k hi hu hs=>exact False.elim hs
theorem Sts.sK{M N:Meet}(s:Sts wh1 0 M N)(i:Nat):(N.ab i).av.next=(M.ab i).av.next:=by
 generalize a:0=z at s;induction s with
 | nil=>rfl
 | @snoc n c m A B E h s hm ih =>
  obtain rfl:c=0:=by omega
  exact(s.calm.sK i).trans (ih (by omega))
theorem Ta{p q:Nod}(a:q.av=p.av)(b:q.ae=p.ae)(s:Nat):q.rk s=p.rk s:=by unfold Nod.rk;rw[a,b]
section
variable{C:List Cmd}{K:Int}{B:Nat->Bal}{cov:List (Bal × Nat)}{i:Nat}{b:Bal}
def J3(i:Nat)(v:Vt)(N:Meet):Prop:=v∈((N.ab i).av.an i).vs/\∀ j,j<5->j≠i->({ BC 3 with cl:=v,src:=i,dst:=j }:Let)∈N.br
theorem J3.step(a:PhC C K B cov i b){n:Nat}{M N:Meet}(s:Stp wh0 n M N)(h:PhE C K B cov i b M){v:Vt}(c:v.b=b)(k:J3 i v M):J3 i v N:=⟨h.qv a s c a.hi k.1,λj d e=>s.sx (k.2 j d e)⟩
theorem PhE.sh{M:Meet}(h:PhE C K B cov i b M):(M.ab i).av.sh=true:=by
 unfold Rnd.sh Jv;rw[h.pr 0 (by omega),h.pr 1 (by omega),h.pr 2 (by omega),h.pr 3 (by omega),h.pr 4 (by omega)];decide
theorem O9(a:PhC C K B cov i b)(H:14*K+38*(cov.length:Int)<=99000)(q:∀ c∈C,c.e=0){M:Meet}(h:PhL C K B cov i b M)(S:(M.ab i).ae.length<40)(L:(M.ab i).av.next<=(M.ab i).ae.length){c:Cmd}(z:(M.ab i).rk (M.ab i).ae.length=some c) :
  J3 i ⟨((M.ab i).ae.length:Int),b,c⟩ (M.act (acN 3 (i:Int)))/\((M.act (acN 3 (i:Int))).ab i).av.next=(M.ab i).ae.length+1:=by
 have E:=h.pe.pb.cm.up i a.hi;obtain⟨R,s0,T,O,a0,n,G,Q,P,F⟩:=Ie (D:=wh1) a.hi E;have r:∀ c A N,Stp wh1 c A N->PhL C K B cov i b A->PhL C K B cov i b N:=λc A N s g=>g.step a s.calm;have x:=s0.inv r h;have o:=P.inv r x;have f:(n.ab i).av=(M.ab i).av/\(n.ab i).ae=(M.ab i).ae:=by
  rw[G,Bp,x.pe.jv a.hi];exact⟨O,a0⟩
 have u:Ah ⟨((M.ab i).ae.length:Int),b,c⟩:=⟨by show(0:Int)<=((M.ab i).ae.length:Int)/\((M.ab i).ae.length:Int)<=39;omega,a.hb,q c (KT (h.pe.pb.cm.s.nd i a.hi) z)⟩;generalize w:(⟨((M.ab i).ae.length:Int),b,c⟩:Vt)=v at u;have m:v.b=b:=by rw[<- w]
 have t:=eC a H o.pe.pb o.pe.sh (by rw[f.1,f.2];exact L) (c:=c) (by rw[Ta f.1 f.2,f.2];exact z) (by rw[f.2,w];exact u);rw[f.2,w]at t
 have p:=(Stp.prop (D:=wh1) n i a.hi Q).calm;have p:=o.step a p;have k:=F.inv (I:=λN=>PhL C K B cov i b N/\(Pend.prop v∈(N.ab i).bu\/J3 i v N)) (λd A N s g=>⟨r d A N s g.1,by
  rcases g.2 with g2|g2
  .rcases Ow s.calm g2 with g3|⟨l,g3,rfl⟩
   .exact .inl g3
   .refine .inr ⟨?_,λj J e=>mV _ (Mq { BC 3 with cl:=v } J e)⟩;rw[Am,if_pos rfl];have ac:=g.1.pe.acc a a.hi;have y:(A.ab i).av.hU=b:=(g.1.pe.pb.cm.hU i a.hi).trans a.hB;exact Qg (m.trans y.symm) ac.1 u (ac.2.trans y.symm)
  .exact .inr (g2.step a s.calm g.1.pe m)⟩) ⟨p,.inl (by rw[Bp];exact t.2)⟩
 refine⟨k.2.resolve_left λg=>?_,by rw[F.sK i,Bp];exact t.1⟩;rw[Hg E,Am,if_pos rfl,Ib (h.pe.pb.cm.sT a.hi)]at g
 cases g
theorem WT(a:PhC C K B cov i b){M:Meet}(h:PhL C K B cov i b M)(m:(M.ab i).ae.length<(M.ab i).av.next):((M.act (acN 3 (i:Int))).ab i).av.next=(M.ab i).av.next:=by
 have l:=h.pe.pb.cm.up i a.hi;obtain⟨p,s0,r,n,a0,e,f,t,q,o⟩:=Ie (D:=wh1) a.hi l;have k:∀ c A N,Stp wh1 c A N->PhL C K B cov i b A->PhL C K B cov i b N:=λc A N s g=>g.step a s.calm;have j:=s0.inv k h;have d:(e.ab i).av=(M.ab i).av/\(e.ab i).ae=(M.ab i).ae:=by
  rw[f,Bp,j.pe.jv a.hi];exact⟨n,a0⟩
 rw[o.sK i,Bp];unfold Nod.cF;rw[if_pos (.inr (.inr (by rw[d.1,d.2];exact m))),d.1]
def Bz(i:Nat)(v:Vt)(N:Meet):Prop:=v∈((N.ab i).av.an i).vs/\∀ j,j<5->j≠i->Pend.voted i v∈(N.ab j).bu
theorem PhL.drop{N:Meet}(h:PhL C K B cov i b N):PhL C K B cov i b { N with br:=[] } :=
 ⟨⟨⟨h.pe.pb.cm.drop,h.pe.pb.ak,h.pe.pb.vi⟩,h.pe.va,h.pe.pr,h.pe.nb,h.pe.aw,λm a=>(by cases a),h.pe.qw⟩,h.ld,h.nx⟩
theorem EP(M:Meet):M.dx An=(M.dx (AE 3 5)).act (acN 7 0):=by rw[show An=AE 3 5++[acN 7 0]from rfl,AK]
theorem PhL.round(f:PhC C K B cov i b){n:Nat}{M:Meet}(k:MOk n M)(m:n+6<=1000000)(h:PhL C K B cov i b M):PhL C K B cov i b (M.dx An)/\MOk (n+6) (M.dx An)/\(M.dx An).br=[]/\(∀ j,Ev (M.ab j) ((M.dx An).ab j))/\((M.dx An).ab i).av.next=((M.dx (AE 3 5)).ab i).av.next:=by
 have d:=Bl (I:=λN=>PhL C K B cov i b N/\∀ j,Ev (M.ab j) (N.ab j)) (λc A N s g=>⟨g.1.step f s.calm,λj=>(g.2 j).trans (s.calm.ev j)⟩) k (by omega) ⟨h,λj=>.refl _⟩;rw[EP];obtain⟨N,l,e,_⟩:=Ct (I:=λN=>PhL C K B cov i b N/\(∀ j,Ev (M.ab j) (N.ab j))/\(N.ab i).av.next=((M.dx (AE 3 5)).ab i).av.next) (λA N s g=>⟨g.1.step f s.sF,λj=>(g.2.1 j).trans (s.sF.ev j),(s.sF.sK i).trans g.2.2⟩) d.1 ⟨d.2.1,d.2.2,rfl⟩;have a:=d.1.act (x:=acN 7 0) (by omega) (by rw[<- Dy];decide);rw[l]at a ⊢
 exact⟨e.1.drop,a,rfl,e.2.1,e.2.2⟩
theorem TC(a:PhC C K B cov i b)(u:14*K+38*(cov.length:Int)<=99000)(f:∀ c∈C,c.e=0){n:Nat}{M:Meet}(r:MOk n M)(P:n+6<=1000000)(h:PhL C K B cov i b M)(F:(M.ab i).ae.length<40)(H:(M.ab i).av.next<=(M.ab i).ae.length){c:Cmd}(x:(M.ab i).rk (M.ab i).ae.length=some c) :
  Bz i ⟨((M.ab i).ae.length:Int),b,c⟩ (M.dx An)/\((M.dx An).ab i).av.next=(M.ab i).ae.length+1:=by
 have G:Ah ⟨((M.ab i).ae.length:Int),b,c⟩:=⟨by show(0:Int)<=((M.ab i).ae.length:Int)/\((M.ab i).ae.length:Int)<=39;omega,a.hb,f c (KT (h.pe.pb.cm.s.nd i a.hi) x)⟩;have w:∀ c A N,Stp wh1 c A N->PhL C K B cov i b A->PhL C K B cov i b N:=λc A N s g=>g.step a s.calm;have E:∀ A N,TkS A N->PhL C K B cov i b A->PhL C K B cov i b N:=λA N s g=>g.step a s.sF;have Q:=h.round a r P;have q:=Mx (J:=λN=>J3 i ⟨((M.ab i).ae.length:Int),b,c⟩ N) w (λd A N s g k=>k.step a s.calm g.pe rfl) r (by omega) h a.hi (λN m _ _ g e=>by
  have:=(O9 a u f g (by rw[e];exact F) (by rw[e];exact H) (c:=c) (by rw[e];exact x)).1;rw[e]at this;exact this)
 obtain⟨N,t,S,T⟩:=If M a.hi;have p:=Bl w r (by omega) h;have O:PhL C K B cov i b N:=by
  rw[S];have R:∀ k,k<=5->MOk (n+k) (M.dx (AE 3 k))/\PhL C K B cov i b (M.dx (AE 3 k)):=by
   intro k;induction k with
   | zero=>exact λ_=>⟨r,h⟩
   | succ k ih =>
    intro U;obtain⟨D,L⟩:=ih (by omega);rw[BS,AK];exact⟨D.act (by omega) (FU (by omega)),CA w D (by omega) L⟩
  have:=a.hi;exact(R i (by omega)).2
 have z:=(O9 a u f O (by rw[t];exact F) (by rw[t];exact H) (c:=c) (by rw[t];exact x)).2;refine⟨?_,by rw[Q.2.2.2.2,T,z,t]⟩;have o:(⟨((M.ab i).ae.length:Int),b,c⟩:Vt).b=b:=rfl;generalize (⟨((M.ab i).ae.length:Int),b,c⟩:Vt)=v at G q o ⊢;rw[EP];generalize M.dx (AE 3 5)=A at p q ⊢;refine⟨?_,λj y e=>?_⟩
 .obtain⟨N,k1,k2,_⟩:=Ct (I:=λN=>PhL C K B cov i b N/\v∈((N.ab i).av.an i).vs) (λA N s g=>⟨E A N s g.1,g.1.pe.qv a s.sF o a.hi g.2⟩) p.1 ⟨p.2,q.1⟩;rw[k1];exact k2.2
 .obtain⟨N,k1,_,k3,_⟩:=DR (J:=λN=>Pend.voted i v∈(N.ab j).bu) E (λA N s _ g=>by
   obtain⟨l,_,_,_,rfl⟩:=s;rw[Am];split
   .rename_i e3;rw[<- e3];exact Hh g
   .exact g) p.1 p.2 (q.2 j y e) (λN g=>g.pe.pb.cm.up j y) (λN g _=>by
   rw[Am,if_pos rfl];exact Xq a u g.pe.pb y G o (l:={ BC 3 with cl:=v,src:=i,dst:=j }) rfl rfl)
  rw[k1];exact k3
end
theorem mN(q:Nod){i j:Nat}(b:j<5)(c:j≠i) :
  (q.ae.length<=q.av.bw j/\(EL q i 5).av.bw j=q.av.bw j)\/(q.av.bw j<q.ae.length/\(EL q i 5).av.bw j=q.ae.length/\({ BC 5 with src:=i,dst:=j,bt:=q.av.bw j,gC:=q.ae.drop (q.av.bw j) }:Let)∈Du q i 5):=by
 have hin:∀ k,j<k->MH q i j=true->({ BC 5 with src:=i,dst:=j,bt:=q.av.bw j,gC:=q.ae.drop (q.av.bw j) }:Let)∈Du q i k:=by
  intro k;induction k with
  | zero=>exact λh=>absurd h (pc _)
  | succ k ih =>
   intro f a;rw[Du];by_cases e:j=k
   .rw[<- e,a,if_pos rfl];exact mV _ (D'.2 rfl)
   .exact mW _ (ih (by omega) a)
 have d:(EL q i 5).av.bw j=if decide (j<5)&&MH q i j then q.ae.length else q.av.bw j:=rfl;by_cases h:q.av.bw j<q.ae.length
 .have a:MH q i j=true:=O' ⟨c,h⟩;exact .inr ⟨h,by rw[d,a,O' b];rfl,hin 5 b a⟩
 .have a:MH q i j=false:=G' λe=>h e.2;exact .inl ⟨by omega,by rw[d,a,O' b];rfl⟩
theorem T4(p:Nod)(i:Nat)(d:List Let)(c:List Tol):∃ (q:Nod) (ks:List Let),(p.piece i d c).1=(q.bw i ks).1/\(p.piece i d c).2.1=(q.bw i ks).2/\q.av.bw=p.av.bw:=by
 unfold Nod.piece;simp only;have e:=Uw i (p.ae.drop p.done) p c;generalize so i (p.ae.drop p.done) p c=a at e ⊢;have f:(a.1.jv i).1.av.bw=a.1.av.bw:=by
  unfold Nod.jv;split
  .rfl
  .split
   .unfold Nod.dT;split<;>rfl
   .rfl
 generalize a.1.jv i=b at f ⊢;have g:b.1.cF.av.bw=b.1.av.bw:=by
  unfold Nod.cF;split
  .rfl
  .split
   .rfl
   .split<;>rfl
 generalize b.1.cF=r at g ⊢;have h:(r.ov i (d++b.2)).1.av.bw=r.av.bw:=by
  have j:∀ (l:List Pend) (x:Nod) (k:List Let),(qk i l x k).1.av.bw=x.av.bw:=by
   intro l;induction l with
   | nil=>exact λx k=>rfl
   | cons y l ih =>
    intro x k;rw[qk,ih];cases y with
    | began b vs=>simp only[Nod.ln];split<;>rfl
    | prop v =>
     simp only[Nod.ln,Nod.count];split
     .rfl
     .split<;>rfl
    | _=>rfl
  unfold Nod.ov;split
  .rfl
  .rw[j];unfold Nod.sj;split<;>rfl
 exact⟨_,_,rfl,rfl,by rw[h,g,f,e.1]⟩
section
variable{C:List Cmd}{K:Int}{B:Nat->Bal}{cov:List (Bal × Nat)}{i:Nat}{b:Bal}
theorem PhE.tk{M N:Meet}(s:TkS M N)(h:PhE C K B cov i b M):(N.ab i).av.bw=(M.ab i).av.bw:=by
 obtain⟨l,c,a,d,rfl⟩:=s;rw[Am];split
 .rename_i e
  rw[<- e];unfold Nod.take;split
  .split
   .unfold Nod.ed;split<;>rfl
   .show((M.ab i).au _).1.av.bw=_;rw[(AY _ _).2]
  .simp only;rw[if_pos (.inr (.inr (h.pr l.src a.1)))];rfl
  .rfl
  .split
   .unfold Nod.ed;split<;>rfl
   .show((M.ab i).cl _).1.av.bw=_;rw[(Cn _ _).2]
  .unfold Nod.count;split
   .rfl
   .split<;>rfl
  .split<;>rfl
  .simp only;unfold Nod.dT;split<;>split<;>rfl
  .rfl
 .rfl
def TT0(i:Nat)(M:Meet):Prop:=∀ j,j<5->j≠i->(M.ab i).av.bw j<=(M.ab j).ae.length
def TTx(i a0:Nat)(N:Meet):Prop:=∀ j,j<5->j≠i->a0<=(N.ab i).av.bw j/\((N.ab i).av.bw j<=(N.ab j).ae.length\/∃ m∈N.br,m.kind=5/\m.dst=j/\m.bt<=(N.ab j).ae.length/\(N.ab i).av.bw j<=m.bt+m.gC.length)
theorem TT(k:PhC C K B cov i b){n:Nat}{M:Meet}(z:MOk n M)(F:n+1<=1000000)(h:PhL C K B cov i b M)(t:TT0 i M):TTx i (M.ab i).ae.length (M.act (acN 3 (i:Int))):=by
 have E:=h.pe.pb.cm.up i k.hi;have u:=CA (I:=λN=>PhL C K B cov i b N/\Ev (M.ab i) (N.ab i)) (λc A N s g=>⟨g.1.step k s.calm,g.2.trans (s.calm.ev i)⟩) z k.hi ⟨h,.refl _⟩;have l:=u.1.pe.pb.leads k;have d:=u.2.ag.length_le;intro j v a;have o:=EH M (i:=i) a;have f:=t j v a;have e:M.act (acN 3 (i:Int))=M.set i ((M.ab i).piece i M.br M.ew).1 ((M.ab i).piece i M.br M.ew).2.1 ((M.ab i).piece i M.br M.ew).2.2:=Hg E;obtain⟨q,w,x,y,r⟩:=T4 (M.ab i) i M.br M.ew;rw[o];rw[e,Bp,x]at l d ⊢
 have D:q.leads=true:=by
  refine nQ λg=>?_;unfold Nod.bw at l;rw[if_neg g]at l
  exact g l
 have p:q.bw i w=(EL q i 5,w++Du q i 5):=by unfold Nod.bw;rw[if_pos D]
 rw[p]at d ⊢
 have d:(M.ab i).ae.length<=q.ae.length:=d;show _<=(EL q i 5).av.bw j/\((EL q i 5).av.bw j<=_\/∃ m∈((M.ab i).piece i M.br M.ew).2.1,_/\_/\_/\(EL q i 5).av.bw j<=_);rw[y,p];rcases mN q v a with⟨g1,g2⟩|⟨g1,g2,g3⟩
 .rw[g2];exact⟨by omega,.inl (by rw[r];exact f)⟩
 .rw[g2];refine⟨d,.inr ⟨_,mV _ g3,rfl,rfl,by show q.av.bw j<=_;rw[r];exact f,?_⟩⟩;show q.ae.length<=q.av.bw j+(q.ae.drop (q.av.bw j)).length;rw[nc];omega
theorem MK(u:PhC C K B cov i b){n:Nat}{M:Meet}(E:MOk n M)(L:n+6<=1000000)(h:PhL C K B cov i b M)(t:TT0 i M):TT0 i (M.dx An)/\∀ j,j<5->(M.ab i).ae.length<=((M.dx An).ab j).ae.length:=by
 have G:∀ c A N,Stp wh1 c A N->PhL C K B cov i b A->PhL C K B cov i b N:=λc A N s g=>g.step u s.calm;have O:∀ k,k<=5->MOk (n+k) (M.dx (AE 3 k))/\PhL C K B cov i b (M.dx (AE 3 k))/\(∀ j,Ev (M.ab j) ((M.dx (AE 3 k)).ab j))/\(k<=i->(M.dx (AE 3 k)).ab i=M.ab i)/\(i<k->TTx i (M.ab i).ae.length (M.dx (AE 3 k))):=by
  intro k;induction k with
  | zero=>exact λ_=>⟨E,h,λj=>.refl _,λ_=>rfl,λe=>absurd e (pc _)⟩
  | succ k ih =>
   intro P;obtain⟨d,o,r,y,p⟩:=ih (by omega);rw[BS,AK];generalize M.dx (AE 3 k)=A at d o r y p ⊢;have q:=CA (I:=λN=>(∀ j,Ev (A.ab j) (N.ab j))/\∀ m∈A.br,m∈N.br) (λc X N s g=>⟨λj=>(g.1 j).trans (s.calm.ev j),λm z=>s.calm.sx (g.2 m z)⟩) d (show k<5 by omega) ⟨λj=>.refl _,λm z=>z⟩;refine⟨d.act (by omega) (FU (by omega)),CA G d (by omega) o,λj=>(r j).trans (q.1 j),λe=>by rw[EH _ (by omega)];exact y (by omega),λe=>?_⟩;by_cases F:i<k
   .intro j f a;obtain⟨x,l⟩:=p F j f a;rw[EH A (i:=k) (j:=i) (by omega)];have:=(q.1 j).ag.length_le;refine⟨x,?_⟩;rcases l with l|⟨m,l,g3,g4,g5,g6⟩
    .exact .inl (by omega)
    .exact .inr ⟨m,q.2 m l,g3,g4,by omega,g6⟩
   .obtain rfl:k=i:=by omega
    have D:=y (A' _);have:=TT u d (by omega) o (λj f a=>by
     have:=(r j).ag.length_le;have:=t j f a;rw[D];omega)
    rw[D]at this;exact this
 obtain⟨d,o,r,_,p⟩:=O 5 (A' _);have p:=p u.hi;rw[EP];generalize M.dx (AE 3 5)=A at d o r p ⊢;have key:∀ j,j<5->j≠i->((A.act (acN 7 0)).ab i).av.bw j<=((A.act (acN 7 0)).ab j).ae.length/\(M.ab i).ae.length<=((A.act (acN 7 0)).ab i).av.bw j:=λj f a=>by
  obtain⟨x,l⟩:=p j f a;rcases l with l|⟨m,l,g3,g4,g5,g6⟩
  .obtain⟨N,w,v,_⟩:=Ct (I:=λN=>PhL C K B cov i b N/\(N.ab i).av.bw=(A.ab i).av.bw/\Ev (A.ab j) (N.ab j)) (λX N s g=>⟨g.1.step u s.sF,(g.1.pe.tk s).trans g.2.1,g.2.2.trans (s.sF.ev j)⟩) d ⟨o,rfl,.refl _⟩;rw[w];show(N.ab i).av.bw j<=(N.ab j).ae.length/\_<=(N.ab i).av.bw j;have:=v.2.2.ag.length_le;rw[v.2.1];omega
  .obtain⟨N,w,v,k3,_⟩:=DR (I:=λN=>PhL C K B cov i b N/\(N.ab i).av.bw=(A.ab i).av.bw/\Ev (A.ab j) (N.ab j)) (J:=λN=>(A.ab i).av.bw j<=(N.ab j).ae.length) (λX N s g=>⟨g.1.step u s.sF,(g.1.pe.tk s).trans g.2.1,g.2.2.trans (s.sF.ev j)⟩) (λX N s g k=>by have:=(s.sF.ev j).ag.length_le;omega) d ⟨o,rfl,.refl _⟩ l (λN g=>by rw[g4];exact g.1.pe.pb.cm.up j f) (λN g _=>by
    have H:=g.2.2.ag.length_le;rw[g4,Am,if_pos rfl];unfold Nod.take;rw[g3];simp only;rw[if_neg (by omega)];show _<=((N.ab j).ae++m.gC.drop ((N.ab j).ae.length-m.bt)).length;rw[H',nc];omega)
   rw[w];show(N.ab i).av.bw j<=(N.ab j).ae.length/\_<=(N.ab i).av.bw j;rw[v.2.1];exact⟨k3,x⟩
 refine⟨λj f a=>(key j f a).1,λj f=>?_⟩;by_cases e:j=i
 .subst e;have:=h.round u E L;rw[EP]at this
  obtain⟨N,w,v,_⟩:=Ct (I:=λN=>Ev (A.ab j) (N.ab j)) (λX N s g=>g.trans (s.sF.ev j)) d (.refl _);rw[w];exact((r j).trans v).ag.length_le
 .have:=key j f e;omega
def K1(M:Meet):Prop:=∀ m∈M.br,m.kind=1->m.gC.length<=(M.ab m.src).ae.length
theorem K1.step{c:Nat}{M N:Meet}(s:Stp wh0 c M N)(h:K1 M):K1 N:=by
 have f:∀ m∈M.br,m.kind=1->m.gC.length<=(N.ab m.src).ae.length:=λm i a=>mT (h m i a) (s.ev m.src).ag.length_le;intro m i a;cases s with
 | br _ ls hl hd=>exact False.elim hd
 | ask _ k hi hu =>
  rcases P'.1 i with g|g
  .exact f m g a
  .unfold Nod.jv at g;split at g
   .cases g
   .split at g
    .cases g
    .rw[D'.1 g]at a;cases a
 | run _ k hi hu q l hp hs =>
  rcases P'.1 i with g|g
  .exact f m g a
  .cases q with
   | began b vs =>
    unfold Nod.sc at g;simp only at g;split at g
    .cases g
    .have:=(DK g).1;rw[a]at this;cases this
   | prop v=>have:=(DK g).1;rw[a]at this;cases this
   | start=>have:=(DK g).1;rw[a]at this;cases this
   | prom to b vs =>
    rw[D'.1 g];show(M.ab k).ae.length<=((M.set k { (M.ab k).ln k (.prom to b vs)with bu:=l } _ _).ab k).ae.length;rw[Bp];exact A' _
   | _=>have e:=D'.1 g;rw[e]at a;cases a
 | sg _ k hi hu hL =>
  rcases P'.1 i with g|g
  .exact f m g a
  .have:=(JQ 5 m g).1;omega
 | lead _ k hi hu hL=>exact False.elim hL
 | sub _ k d hi hu hD=>exact False.elim hD
 | lr _ k x hi hu a hC=>exact False.elim hC
 | start _ k hi hu hs=>exact False.elim hs
 | _=>exact f m i a
end
section
variable{C:List Cmd}{K:Int}{B:Nat->Bal}{cov:List (Bal × Nat)}{i:Nat}{b:Bal}
theorem TD(a:PhC C K B cov i b){n:Nat}{M:Meet}(o:MOk n M)(O:n+6<=1000000)(h:PhL C K B cov i b M){v:Vt}(L:Ah v)(d:v.b=b)(z:Bz i v M)(Q:(M.ab i).ae.length<(M.ab i).av.next) :
  v.bt<(((M.dx An).ab i).ae.length:Int)/\((M.dx An).ab i).av.next=(M.ab i).av.next:=by
 have q:∀ c A N,Stp wh1 c A N->PhL C K B cov i b A->PhL C K B cov i b N:=λc A N s g=>g.step a s.calm;have x:∀ A N,TkS A N->PhL C K B cov i b A->PhL C K B cov i b N:=λA N s g=>g.step a s.sF;have E:=h.round a o O;have m:=Bl q o (by omega) h;have t:((M.dx (AE 3 5)).ab i).av.next=(M.ab i).av.next:=by
  obtain⟨N,F,S,T⟩:=If M a.hi;have H:PhL C K B cov i b N:=by
   rw[S];have P:∀ k,k<=5->MOk (n+k) (M.dx (AE 3 k))/\PhL C K B cov i b (M.dx (AE 3 k)):=by
    intro k;induction k with
    | zero=>exact λ_=>⟨o,h⟩
    | succ k ih =>
     intro r;obtain⟨w,G⟩:=ih (by omega);rw[BS,AK];exact⟨w.act (by omega) (FU (by omega)),CA q w (by omega) G⟩
   have:=a.hi;exact(P i (by omega)).2
  rw[T,WT a H (by rw[F];exact Q),F]
 refine⟨?_,by rw[E.2.2.2.2,t]⟩;have p:=Bl (I:=λN=>PhL C K B cov i b N/\v∈((N.ab i).av.an i).vs) (λc A N s g=>⟨q c A N s g.1,g.1.pe.qv a s.calm d a.hi g.2⟩) o (by omega) ⟨h,z.1⟩;have D:∀ j,j<5->j≠i->({ BC 4 with cl:=v,src:=j,dst:=i }:Let)∈(M.dx (AE 3 5)).br:=λj f e =>
  Fu (J:=λN=>({ BC 4 with cl:=v,src:=j,dst:=i }:Let)∈N.br) q (λc A N s _ g=>s.calm.sx g) (λA k g r=>⟨g.pe.pb.cm.up k r,g.pe.pb.cm.sT r⟩) o (by omega) h f (z.2 j f e) λN l g _ _=>mV _ (D'.2 rfl)
 refine E.1.ld v d λj f=>?_;rw[EP];generalize M.dx (AE 3 5)=A at m D p ⊢;by_cases e:j=i
 .subst e;obtain⟨N,u,R,_⟩:=Ct (I:=λN=>PhL C K B cov j b N/\v∈((N.ab j).av.an j).vs) (λA N s g=>⟨x A N s g.1,g.1.pe.qv a s.sF d f g.2⟩) m.1 ⟨m.2,p.2.2⟩;rw[u];exact R.2
 .obtain⟨N,u,_,k3,_⟩:=DR (J:=λN=>v∈((N.ab i).av.an j).vs) x (λA N s g k=>g.pe.qv a s.sF d f k) m.1 m.2 (D j f e) (λN g=>g.pe.pb.cm.up i a.hi) (λN g _=>by
   rw[Am,if_pos rfl];have ac:=g.pe.acc a f;have y:(N.ab i).av.hU=b:=(g.pe.pb.cm.hU i a.hi).trans a.hB;exact Qg (d.trans y.symm) ac.1 L (ac.2.trans y.symm))
  rw[u];exact k3
def mu(i:Nat)(M:Meet):Nat:=2*(40-(M.ab i).ae.length)+(if(M.ab i).av.next<=(M.ab i).ae.length then 1 else 0)
def Zz(i:Nat)(b:Bal)(M:Meet):Prop:=(M.ab i).av.next<=(M.ab i).ae.length\/∃ v:Vt,Ah v/\v.b=b/\v.bt=((M.ab i).ae.length:Int)/\Bz i v M
theorem iz(q:PhC C K B cov i b){M:Meet}(h:PhL C K B cov i b M)(x:(M.ab i).av.next<=(M.ab i).ae.length)(d:(M.ab i).ae.length<40->(M.ab i).rk (M.ab i).ae.length=Option.none):Fin_ i (M.ab i).ae M:=by
 refine⟨rfl,x,λf j s v t e=>?_,λf c n=>nQ λe=>?_⟩
 .have d:=d f;unfold Nod.rk at d;have p:∀ l∈(M.ab i).av.hZ.map (·.vs),∀ u∈l,Ah u:=λl o u k=>by
   obtain⟨a,f,rfl⟩:=ny.1 o;unfold Rnd.hZ at f;simp only[nf,Q',or_false]at f;rcases f with e|e|e|e|e<;>(rw[e]at k;exact((h.pe.acc q (by omega)).1.2.1 u k).1)
  have m:BZ ((M.ab i).av.hZ.map (·.vs)) ((M.ab i).ae.length:Int)=0:=by unfold BZ;rw[if_neg (λg=>g (by omega)),if_pos p]
  have r:DY ((M.ab i).av.hZ.map (·.vs)) ((M.ab i).ae.length:Int)=true:=by
   unfold DY;rw[if_pos m];have:v∈Ae ((M.ab i).av.hZ.map (·.vs)).flatten ((M.ab i).ae.length:Int):=AL.2 ⟨o8.2 ⟨((M.ab i).av.an j).vs,ny.2 ⟨(M.ab i).av.an j,by unfold Rnd.hZ;rcases se s with rfl|rfl|rfl|rfl|rfl<;>simp,rfl⟩,t⟩,e⟩;unfold Ej;generalize Ae _ _=l at this;have key:∀ (l:List Vt) (u:Vt),(BR l (some u)).isSome=true:=by
    intro l;induction l with
    | nil=>exact λu=>rfl
    | cons w l ih=>intro u;rw[BR];split<;>exact ih _
   cases l with
   | nil=>cases this
   | cons w l=>exact key l w
  rw[if_neg (λg=>g m),if_pos r]at d
  cases d
 .have d:=d f;unfold Nod.rk at d;have p:∀ l∈(M.ab i).av.hZ.map (·.vs),∀ u∈l,Ah u:=λl o u k=>by
   obtain⟨a,f,rfl⟩:=ny.1 o;unfold Rnd.hZ at f;simp only[nf,Q',or_false]at f;rcases f with e|e|e|e|e<;>(rw[e]at k;exact((h.pe.acc q (by omega)).1.2.1 u k).1)
  have m:BZ ((M.ab i).av.hZ.map (·.vs)) ((M.ab i).ae.length:Int)=0:=by unfold BZ;rw[if_neg (λg=>g (by omega)),if_pos p]
  rw[if_neg (λg=>g m)]at d
  split at d
  .cases d
  .exact absurd (oB.1 d c n) (by simpa using e)
theorem L8(m:Nat):An++Al m=Al (m+1):=by
 induction m with
 | zero=>rfl
 | succ m ih=>show An++(Al m++An)=Al (m+1)++An;rw[<- mZ,ih]
theorem iG(a:PhC C K B cov i b)(A:14*K+38*(cov.length:Int)<=99000)(j:∀ c∈C,c.e=0)(k:Nat){n:Nat}{M:Meet}(d:MOk n M)(H:n+6*k<=999000)(h:PhL C K B cov i b M)(z:Zz i b M)(t:TT0 i M)(f:mu i M<=k) :
  ∃ m,m<=k/\Fin_ i ((M.dx (Al m)).ab i).ae (M.dx (Al m))/\PhL C K B cov i b (M.dx (Al m))/\TT0 i (M.dx (Al m))/\MOk (n+6*m) (M.dx (Al m)):=by
 induction k generalizing n M with
 | zero =>
  have:=h.nx;unfold mu at f;split at f<;>omega
 | succ k ih =>
  have F:=h.nx;have D:=(d.ab i a.hi).ag;by_cases o:(M.ab i).av.next<=(M.ab i).ae.length
  .by_cases hf:(M.ab i).ae.length<40->(M.ab i).rk (M.ab i).ae.length=Option.none
   .exact⟨0,nG _,iz a h o hf,h,t,d⟩
   .obtain⟨ha,p⟩:=Classical.not_imp.1 hf;obtain⟨c,p⟩:=pg.1 p;have g:=h.round a d (by omega);have l:=TC a A j d (by omega) h ha o p;have E:=(g.2.2.2.1 i).ag.length_le;have q:Ah ⟨((M.ab i).ae.length:Int),b,c⟩:=⟨by show(0:Int)<=((M.ab i).ae.length:Int)/\((M.ab i).ae.length:Int)<=39;omega,a.hb,j c (KT (h.pe.pb.cm.s.nd i a.hi) p)⟩;obtain⟨m,y,r,u,x,w⟩:=ih (M:=M.dx An) (n:=n+6) g.2.1 (by omega) g.1 (by
     by_cases e:((M.dx An).ab i).ae.length=(M.ab i).ae.length
     .exact .inr ⟨_,q,rfl,by rw[e],l.1⟩
     .exact .inl (by rw[l.2];omega)) (MK a d (by omega) h t).1 (by
     unfold mu at f ⊢;rw[if_pos o]at f
     split<;>omega)
    refine⟨m+1,by omega,?_⟩;rw[<- L8,AI];exact⟨r,u,x,by rw[show n+6*(m+1)=n+6+6*m by omega];exact w⟩
  .rcases z with z|⟨v,q,hvb,hs,z⟩
   .exact absurd z o
   .have g:=h.round a d (by omega);have l:=TD a d (by omega) h q hvb z (by omega);rw[hs]at l
    have G:=q.1.2;obtain⟨m,y,r,u,x,w⟩:=ih (M:=M.dx An) (n:=n+6) g.2.1 (by omega) g.1 (.inl (by rw[l.2];omega)) (MK a d (by omega) h t).1 (by
     unfold mu at f ⊢;rw[if_neg o]at f
     split<;>omega)
    refine⟨m+1,by omega,?_⟩;rw[<- L8,AI];exact⟨r,u,x,by rw[show n+6*(m+1)=n+6+6*m by omega];exact w⟩
end
section
variable{C:List Cmd}{K:Int}{B:Nat->Bal}{cov:List (Bal × Nat)}{i:Nat}{b:Bal}
def AW(b:Bal)(j:Nat)(N:Meet):Prop:=(N.ab j).vo.p=b/\∀ c x,(N.ab j).bN c=some x->x=b
theorem Ul(d:b≠Bf){p:Nod}{j:Nat}(g:p.vo.p=b){c:Cmd}{x:Bal}(a:(p.jv j).1.bN c=some x):x=b\/(p.bN c=some x/\c∉p.bn.take 40):=by
 have a:(Bb p.vo.p p.bN (p.bn.take 40)).2 c=some x:=by
  unfold Nod.jv at a;split at a
  .exact a
  .split at a
   .unfold Nod.dT at a;split at a<;>exact a
   .exact a
 rw[g]at a
 have f:=Lg d (p.bn.take 40) p.bN;by_cases e:c∈p.bn.take 40
 .rw[f.2.1 c e]at a;exact .inl (nO a).symm
 .rw[f.1 c e]at a;exact .inr ⟨a,e⟩
theorem PhC.b0(a:PhC C K B cov i b):b≠Bf:=λe=>by have:=a.hb;rw[e]at this;exact absurd this (by decide)
theorem AW.step(d:PhC C K B cov i b){n:Nat}{M N:Meet}(s:Stp wh0 n M N)(h:PhB C K B cov i b M){j:Nat}(f:j<5)(a:AW b j M):AW b j N:=by
 refine⟨h.cm.top d.hc s d.hb.pr d.hK f a.1,λc x e=>?_⟩;rcases s.bN e with g|⟨_,rfl⟩
 .exact a.2 c x g
 .rw[Am,if_pos rfl]at e
  exact(Ul d.b0 a.1 e).elim id λg=>a.2 c x g.1
theorem fd(a:PhC C K B cov i b){M:Meet}(h:PhB C K B cov i b M){j:Nat}(d:j<5)(w:(M.ab j).vo.p=b):AW b j (M.act (acN 3 (j:Int))):=by
 have v:=h.cm.up j d;obtain⟨k,s0,J,H,a0,l,q,F,z,E⟩:=Ie (D:=wh1) d v;have m:∀ c A N,Stp wh1 c A N->(PhB C K B cov i b A/\(A.ab j).vo.p=b)->PhB C K B cov i b N/\(N.ab j).vo.p=b:=λc A N s g=>⟨g.1.step a s.calm,(s.ug j).trans g.2⟩;have e:=s0.inv m ⟨h,w⟩;have f:=z.inv m e;have n:=e.1.ak j d;have G:=IA n.nd λc r=>(e.1.cm.s.nd j d).wa c r;have t:=a.hC;have u:(k.ab j).bn.take 40=(k.ab j).bn:=ng (by omega);have y:AW b j l:=⟨f.2,λc x o=>by
  rw[q,Bp]at o
  refine(Ul a.b0 e.2 o).elim id λg=>absurd ?_ g.2;rw[u,n.wa c,g.1];rfl⟩
 have s3:=Stp.prop (D:=wh1) l j d F;exact(E.inv (I:=λN=>PhB C K B cov i b N/\AW b j N) (λc A N s g=>⟨g.1.step a s.calm,g.2.step a s.calm g.1 d⟩) ⟨f.1.step a s3.calm,y.step a s3.calm f.1 d⟩).2
def T1(i:Nat)(N:Meet):Prop:=∀ j,j<5->j≠i->(N.ab i).av.rN j=true->(N.ab i).av.bw j<=(N.ab j).ae.length
theorem T1.tk{M N:Meet}(s:TkS M N)(k:K1 M)(t:T1 i M):T1 i N:=by
 intro j n d f;have p:=(s.sF.ev j).ag.length_le;have a:(N.ab i).av.bw j=(M.ab i).av.bw j->(N.ab i).av.rN j=(M.ab i).av.rN j->(N.ab i).av.bw j<=(N.ab j).ae.length:=λq h=>by
  have:=t j n d (by rw[<- h];exact f);omega
 obtain⟨l,o,r,u,rfl⟩:=s;by_cases e:i=l.dst
 .have en:((M.set l.dst ((M.ab l.dst).take l) M.br M.ew).ab i)=(M.ab i).take l:=by rw[Am,if_pos e,<- e]
  by_cases c:l.kind=1
  .rw[en]at a f ⊢
   have m:(M.ab i).take l=if((M.ab i).lp 0 l.gC).leads=false\/l.hU≠(M.ab i).av.hU\/(M.ab i).av.rN l.src=true then(M.ab i).lp 0 l.gC else Nod.sf { (M.ab i).lp 0 l.gC with av:={ (M.ab i).av.sr l.src l.mv with bw:=upN (M.ab i).av.bw l.src l.gC.length } }:=by
    unfold Nod.take;rw[c];rfl
   rw[m]at a f ⊢
   split
   .rename_i hc
    rw[if_pos hc]at a
    exact a rfl rfl
   .rename_i hc
    rw[if_neg hc]at a
    show upN (M.ab i).av.bw l.src l.gC.length j<=_;by_cases b:j=l.src
    .rw[<- b,Dg];have:=k l o c;rw[<- b]at this
     omega
    .rw[D5 _ _ b];have:=a (by show upN (M.ab i).av.bw l.src l.gC.length j=_;rw[D5 _ _ b]) (by show upN (M.ab i).av.rN l.src true j=_;rw[D5 _ _ b]);have g:upN (M.ab i).av.bw l.src l.gC.length j<=_:=this;rw[D5 _ _ b]at g
     exact g
  .have:((M.ab i).take l).av.bw=(M.ab i).av.bw/\((M.ab i).take l).av.rN=(M.ab i).av.rN:=by
    unfold Nod.take;split
    .split
     .unfold Nod.ed;split<;>exact⟨rfl,rfl⟩
     .show((M.ab i).au _).1.av.bw=_/\((M.ab i).au _).1.av.rN=_;rw[(AY _ _).2];exact⟨rfl,rfl⟩
    .rename_i hk;exact absurd hk c
    .exact⟨rfl,rfl⟩
    .split
     .unfold Nod.ed;split<;>exact⟨rfl,rfl⟩
     .show((M.ab i).cl _).1.av.bw=_/\((M.ab i).cl _).1.av.rN=_;rw[(Cn _ _).2];exact⟨rfl,rfl⟩
    .unfold Nod.count;split
     .exact⟨rfl,rfl⟩
     .split<;>exact⟨rfl,rfl⟩
    .split<;>exact⟨rfl,rfl⟩
    .simp only;unfold Nod.dT;split<;>split<;>exact⟨rfl,rfl⟩
    .exact⟨rfl,rfl⟩
   exact a (by rw[en,this.1]) (by rw[en,this.2])
 .have en:((M.set l.dst ((M.ab l.dst).take l) M.br M.ew).ab i)=M.ab i:=by rw[Am,if_neg e]
  exact a (by rw[en]) (by rw[en])
theorem ey(f:PhC C K B cov i b){n:Nat}{M:Meet}(u:MOk n M)(U:n+6<=1000000)(h:PhB C K B cov i b M)(q:QA i b M)(y:∀ j,j<5->(M.ab j).vo.p=b)(hp:(M.ab i).av.rN i=true)(hw:∀ j,j<5->j≠i->∃ vs,Pend.prom i b vs∈(M.ab j).bu)(o:P1 i (M.ab i))(hl:M.br=[]) :
  PhL C K B cov i b (M.dx An)/\Zz i b (M.dx An)/\TT0 i (M.dx An)/\MOk (n+6) (M.dx An):=by
 have hP:∀ A N,TkS A N->PhB C K B cov i b A->PhB C K B cov i b N:=λA N s g=>g.step f s.sF;have T:∀ c A N,Stp wh1 c A N->PhB C K B cov i b A->PhB C K B cov i b N:=λc A N s g=>g.step f s.calm;have hq:=Rd f u U h q;have d:∀ j,j<5->j≠i->((M.dx An).ab i).av.rN j=true:=λj a l=>by
  obtain⟨vs,g⟩:=hw j a l;exact WC f u U h a g
 have Q:=Bl (I:=λN=>PhB C K B cov i b N/\(∀ j,j<5->(N.ab j).vo.p=b)/\P1 i (N.ab i)/\K1 N/\(N.ab i).av.rN i=true) (λc A N s g=>⟨T c A N s g.1,λj a=>(s.ug j).trans (g.2.1 j a),s.p1 g.2.2.1,g.2.2.2.1.step s.calm,(s.calm.ev i).rN i g.2.2.2.2⟩) u (by omega) ⟨h,y,o,λm w=>by rw[hl]at w;(cases w),hp⟩;have R:∀ j,j<5->AW b j (M.dx (AE 3 5)):=λj a=>Mx (I:=λN=>PhB C K B cov i b N/\(N.ab j).vo.p=b) (J:=AW b j) (λc A N s g=>⟨T c A N s g.1,(s.ug j).trans g.2⟩) (λc A N s g k=>k.step f s.calm g.1 a) u (by omega) ⟨h,y j a⟩ a λN m _ _ g _=>fd f g.1 a g.2;have S:NB ((M.dx (AE 3 5)).ab i):=by
  obtain⟨N,W,n2,n3⟩:=If M f.hi;rw[n3,Hg (by rw[W];exact h.cm.up i f.hi),Am,if_pos rfl];intro x vs g;rw[Ib (by rw[W];exact h.cm.sT f.hi)]at g
  cases g
 obtain⟨z,D,L,E⟩:=hq;rw[EP]at z D L E d ⊢
 generalize M.dx (AE 3 5)=A at Q R S z D L E d ⊢;obtain⟨Y,Z,a0,o,F,G⟩:=Q;obtain⟨N,k1,k2,_⟩:=Ct (I:=λN=>PhB C K B cov i b N/\(∀ j,j<5->AW b j N)/\NB (N.ab i)/\(N.ab i).av.rN i=true/\(N.ab i).av.next=0/\K1 N/\T1 i N) (λX N s g=>⟨hP X N s g.1,λj a=>(g.2.1 j a).step f s.sF g.1 a,s.sF.nb g.2.2.1,(s.sF.ev i).rN i g.2.2.2.1,(s.sF.sK i).trans g.2.2.2.2.1,g.2.2.2.2.2.1.step s.sF,g.2.2.2.2.2.2.tk s g.2.2.2.2.2.1⟩) Y ⟨Z,R,S,G,o.1,F,λj a l e=>by rw[o.2 j l]at e;cases e⟩;rw[k1]at z D L E d ⊢
 obtain⟨r1,O,r3,r4,P,r6,r7⟩:=k2;have d:∀ j,j<5->(N.ab i).av.rN j=true:=λj a=>by
  by_cases e:j=i
  .rw[e];exact r4
  .exact d j a e
 have t:PhE C K B cov i b { N with br:=[] }:=⟨z,λj a=>(O j a).1,d,r3,λj a=>(O j a).2,λm w=>(by cases w),λj a c hc=>by
  have ha:=((r1.ak j a).wa c).1 hc;obtain⟨x,V⟩:=om.1 ha;exact D j a c (by rw[show((({ N with br:=[] }:Meet).ab j).bN c)=some x from V,(O j a).2 c x V])⟩
 refine⟨⟨t,λv H y=>?_,by show(N.ab i).av.next<=_/\(N.ab i).av.next<=40;rw[P];omega⟩,.inl (by show(N.ab i).av.next<=_;rw[P];exact nG _),λj a l=>r7 j a l (d j a),E⟩;obtain⟨σ,g,_⟩:=t.pb.cm.ex;have r:=g.gs.hv 0 v ((t.rd f g).1.an 0 (by omega) v (y 0 (by omega))).1;have:=t.lt f g r H;have e:(({ N with br:=[] }:Meet).ab i).av.next=0:=P;rw[e]at this
 have:=r.1.1;omega
end
end
end Go.Proofs.YtknnhaeneaaebaaGreatDoor
