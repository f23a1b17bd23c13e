/- Part 14 of the walk. -/
import Derived.Test.YtcjcngceghfoeaaGreatDoorZ13
set_option maxRecDepth 100000
set_option maxHeartbeats 4000000
set_option linter.unusedVariables false
namespace Go.Proofs.YtcjcngceghfoeaaGreatDoor
section
theorem eV(f:Cmd->Option Bal)(c:Cmd)(b:Option Bal):BV f c b c=b:=if_pos rfl
theorem UN(f:Cmd->Option Bal){c d:Cmd}(b:Option Bal)(h:d≠c):BV f c b d=f d:=if_neg h
theorem KQ{b:Bal}(p:b≠Bd)(l:List Cmd)(f:Cmd->Option Bal):(∀ c,c∉l->(Ba b f l).2 c=f c)/\(∀ c∈l,(Ba b f l).2 c=some b)/\(∀ c∈l,f c=some b\/c∈(Ba b f l).1)/\∀ c∈(Ba b f l).1,c∈l:=by
 induction l generalizing f with
 | nil=>exact⟨λ_ _=>rfl,λ_ h=>(by cases h),λ_ h=>(by cases h),λ_ h=>(by cases h)⟩
 | cons c l ih =>
  rw[Ba];split
  .rename_i hc
   obtain⟨j,k,m,n⟩:=ih (BV f c (some b));refine⟨λd a=>?_,λd a=>?_,λd a=>?_,λd a=>?_⟩
   .show(Ba b (BV f c (some b)) l).2 d=f d;rw[j d λe=>a (I' _ e),UN _ _ λe=>a (by rw[e];exact O')]
   .show(Ba b (BV f c (some b)) l).2 d=some b;by_cases i:d∈l
    .exact k d i
    .rcases mG.1 a with rfl|e
     .rw[j d i,eV]
     .exact absurd e i
   .rcases mG.1 a with rfl|e
    .exact .inr O'
    .by_cases e2:d=c
     .rw[e2];exact .inr O'
     .rcases m d e with g|g
      .rw[UN _ _ e2]at g;exact .inl g
      .exact .inr (I' _ g)
   .rcases mG.1 a with rfl|e
    .exact O'
    .exact I' _ (n d e)
  .rename_i hc
   have o:f c=some b:=by
    have:=mz.1 hc;cases hh:f c with
    | none=>rw[hh]at this;exact absurd this.symm p
    | some x=>rw[hh]at this;exact congrArg some this
   obtain⟨j,k,m,n⟩:=ih f;refine⟨λd a=>j d λe=>a (I' _ e),λd a=>?_,λd a=>?_,λd a=>I' _ (n d a)⟩
   .by_cases i:d∈l
    .exact k d i
    .rcases mG.1 a with rfl|e
     .rw[j d i];exact o
     .exact absurd e i
   .rcases mG.1 a with rfl|e
    .exact .inl o
    .exact m d e
theorem Hx(l q:List Cmd)(h:q.Nodup):(Hb q l).Nodup:=by
 induction l generalizing q with
 | nil=>exact h
 | cons c l ih =>
  rw[Hb];refine ih _ ?_;split
  .rename_i hc
   exact oJ.2 ⟨h,oK.2 ⟨Q',nX⟩,λx a y b e=>hc.2 (by rw[<- D'.1 b,<- e];exact a)⟩
  .exact h
theorem PW{C:List Cmd}(j:C.length<40)(l q:List Cmd)(g:q.Nodup)(a:∀ c∈q,c∈C)(b:∀ c∈l,c∈C):∀ c∈l,c∈Hb q l:=by
 induction l generalizing q with
 | nil=>exact λc hc=>by cases hc
 | cons d l ih =>
  have f:=OU g a;have i:=b d O';intro c hc;rw[Hb];have h:d∈(if q.length<40/\d∉q then q++[d]else q):=by
   by_cases e:d∈q
   .split
    .exact mD _ e
    .exact e
   .rw[if_pos ⟨by omega,e⟩];exact mB _ (D'.2 rfl)
  rcases mG.1 hc with rfl|hc
  .exact(PX l _).subset h
  .refine ih _ ?_ (λx hx=>?_) (λx hx=>b x (I' _ hx)) c hc
   .exact Hx [d] q g
   .split at hx
    .rcases P'.1 hx with hx|hx
     .exact a x hx
     .rw[D'.1 hx];exact i
    .exact a x hx
structure AskI(p:Nod):Prop where
 nd:p.bn.Nodup
 wa:∀ c,c∈p.bn↔(p.cl c).isSome=true
 le:∀ c x,p.cl c=some x->x.key<=p.vo.p.key
 un:∀ c∈p.bn,c∉p.ab.take p.done
 qn:p.av.fv.Nodup
 dn:p.done<=p.ab.length
theorem Rl{α:Type}{l m:List α}{k:Nat}(h:l <+: m)(a:k<=l.length):m.take k=l.take k:=by obtain⟨x,rfl⟩:=h;exact m8 a
variable{M N:Meet}{p:Nod}
theorem AskI.qX{q:Nod}(h:AskI p)(e:Ev p q)(i:q.bn=p.bn/\q.cl=p.cl/\q.done=p.done)(f:q.av.fv.Nodup):AskI q:=by
 obtain⟨a,b,d⟩:=i;refine⟨by rw[a];exact h.nd,by rw[a,b];exact h.wa,λc x g=>mR (h.le c x (by rw[<- b];exact g)) e.vo,?_,f,by rw[d];exact my h.dn e.ag.length_le⟩;rw[a,d,Rl e.ag h.dn];exact h.un
theorem Bh(p:Nod)(b:Bal):((p.au b).1.bn=p.bn/\(p.au b).1.cl=p.cl/\(p.au b).1.done=p.done)/\(p.au b).1.av=p.av:=by
 unfold Nod.au;split
 .exact⟨⟨rfl,rfl,rfl⟩,rfl⟩
 .split
  .exact⟨⟨rfl,rfl,rfl⟩,rfl⟩
  .split<;>exact⟨⟨rfl,rfl,rfl⟩,rfl⟩
theorem C6(p:Nod)(v:Vt):((p.cn v).1.bn=p.bn/\(p.cn v).1.cl=p.cl/\(p.cn v).1.done=p.done)/\(p.cn v).1.av=p.av:=by
 unfold Nod.cn;split
 .exact⟨⟨rfl,rfl,rfl⟩,rfl⟩
 .split
  .exact⟨⟨rfl,rfl,rfl⟩,rfl⟩
  .split<;>exact⟨⟨rfl,rfl,rfl⟩,rfl⟩
theorem Rj(p:Nod)(l:Let)(a:p.av.fv.Nodup):((p.take l).bn=p.bn/\(p.take l).cl=p.cl/\(p.take l).done=p.done)/\(p.take l).av.fv.Nodup:=by
 unfold Nod.take;split
 .split
  .unfold Nod.ew;split<;>exact⟨⟨rfl,rfl,rfl⟩,a⟩
  .have:=Bh p l.hU;exact⟨this.1,by show(p.au l.hU).1.av.fv.Nodup;rw[this.2];exact a⟩
 .simp only;split<;>exact⟨⟨rfl,rfl,rfl⟩,a⟩
 .exact⟨⟨rfl,rfl,rfl⟩,a⟩
 .split
  .unfold Nod.ew;split<;>exact⟨⟨rfl,rfl,rfl⟩,a⟩
  .have:=C6 p l.cn;exact⟨this.1,by show(p.cn l.cn).1.av.fv.Nodup;rw[this.2];exact a⟩
 .unfold Nod.count;split
  .exact⟨⟨rfl,rfl,rfl⟩,a⟩
  .split<;>exact⟨⟨rfl,rfl,rfl⟩,a⟩
 .split<;>exact⟨⟨rfl,rfl,rfl⟩,a⟩
 .simp only;unfold Nod.dT;split<;>split<;>first|exact⟨⟨rfl,rfl,rfl⟩,a⟩|exact⟨⟨rfl,rfl,rfl⟩,Hx _ _ a⟩
 .exact⟨⟨rfl,rfl,rfl⟩,a⟩
theorem AskI.kc(h:AskI p)(i:Nat)(q:0<=p.vo.p.key):AskI (p.kc i).1:=by
 have key:∀ (l:List Cmd) (f:Cmd->Option Bal),(∀ c,c∈l->(f c).isSome=true)->(∀ c,((Ba p.vo.p f l).2 c).isSome=(f c).isSome)/\∀ c x,(Ba p.vo.p f l).2 c=some x->f c=some x\/x=p.vo.p:=by
  intro l;induction l with
  | nil=>exact λf _=>⟨λ_=>rfl,λ_ _ g=>.inl g⟩
  | cons c l ih =>
   intro f j;rw[Ba];split
   .have hu:∀ d,(BV f c (some p.vo.p) d).isSome=(f d).isSome:=λd=>by
     unfold BV;split
     .rename_i e;rw[e,j c O'];rfl
     .rfl
    obtain⟨a,k⟩:=ih (BV f c (some p.vo.p)) λd b=>by rw[hu];exact j d (I' _ b)
    refine⟨λd=>(a d).trans (hu d),λd x g=>?_⟩;rcases k d x g with g|g
    .unfold BV at g;split at g
     .exact .inr (nf g).symm
     .exact .inl g
    .exact .inr g
   .exact ih f λd b=>j d (I' _ b)
 obtain⟨n,o⟩:=key (p.bn.take 40) p.cl λc m=>(h.wa c).1 (mL m);have a:AskI { p with cl:=(Ba p.vo.p p.cl (p.bn.take 40)).2 }:=⟨h.nd,λc=>by show _↔((Ba p.vo.p p.cl (p.bn.take 40)).2 c).isSome=true;rw[n];exact h.wa c,λc x g=>by
  rcases o c x g with g|g
  .exact h.le c x g
  .rw[g];exact mx _,h.un,h.qn,h.dn⟩
 unfold Nod.kc;split
 .exact a
 .split
  .refine a.qX (.tN _ _) ?_ ?_
   .unfold Nod.dT;split<;>exact⟨rfl,rfl,rfl⟩
   .unfold Nod.dT;split
    .exact Hx _ _ h.qn
    .exact h.qn
  .exact a
theorem AskI.one(h:AskI p){c:Cmd}(b:p.ab[p.done]?=some c)(s:Sto):AskI (Nod.hZ { p with ni:=s,done:=p.done+1 } c):=by
 have f:=(V'.1 b).1;have i:p.ab.take (p.done+1)=p.ab.take p.done++[c]:=by rw[oq,b];rfl
 unfold Nod.hZ;split
 .refine⟨h.nd.erase c,λd=>?_,λd x g=>?_,λd a=>?_,h.qn,f⟩
  .show d∈p.bn.erase c↔(BV p.cl c none d).isSome=true;rw[h.nd.mem_erase_iff];unfold BV;split
   .rename_i e;simp[e]
   .rename_i e;rw[h.wa d];simp[e]
  .have g:BV p.cl c none d=some x:=g;unfold BV at g;split at g
   .cases g
   .exact h.le d x g
  .have a:d∈p.bn.erase c:=a;rw[h.nd.mem_erase_iff]at a
   show d∉p.ab.take (p.done+1);rw[i];intro e;rcases P'.1 e with e|e
   .exact h.un d a.2 e
   .exact a.1 (D'.1 e)
 .rename_i hn
  refine⟨h.nd,h.wa,h.le,λd a=>?_,h.qn,f⟩;show d∉p.ab.take (p.done+1);rw[i];intro e;rcases P'.1 e with e|e
  .exact h.un d a e
  .rw[D'.1 e]at a
   exact hn ((h.wa c).1 a)
theorem AskI.want(h:AskI p){c:Cmd}(b:c∉p.ab.take p.done)(a:0<=p.vo.p.key):AskI (p.want c):=by
 unfold Nod.want;split
 .exact h
 .rename_i hn
  have f:c∉p.bn:=λe=>hn ((h.wa c).1 e);refine⟨oJ.2 ⟨h.nd,oK.2 ⟨Q',nX⟩,λx i y j e=>f (by rw[<- D'.1 j,<- e];exact i)⟩,λd=>?_,λd x g=>?_,λd hd=>?_,h.qn,h.dn⟩
  .show d∈p.bn++[c]↔(BV p.cl c (some Bd) d).isSome=true;unfold BV;split
   .rename_i e;simp[e]
   .rename_i e;rw[<- h.wa d];simp[e]
  .have g:BV p.cl c (some Bd) d=some x:=g;unfold BV at g;split at g
   .rw[<- nf g];exact a
   .exact h.le d x g
  .rcases P'.1 hd with hd|hd
   .exact h.un d hd
   .rw[D'.1 hd];exact b
theorem AskI.bare(p:Nod)(u:Bool)(d:List Int)(s:Int)(a:Acc)(x:List Pend):AskI (p.bare u d s a x):=⟨nX,λc=>⟨λe=>(by cases e),λe=>(by cases e)⟩,λc x e=>(by cases e),λc e=>(by cases e),nX,A' _⟩
theorem AskI.step{D:Wh}{c:Nat}(s:Stp D c M N){σ:Gs}(g:AgI σ M)(h:∀ j,j<5->AskI (M.ae j)):∀ j,j<5->AskI (N.ae j):=by
 intro j i;have put:∀ {k:Nat} {p:Nod} {f:List Let} {o:List Tol},(k<5->AskI p)->AskI ((M.set k p f o).ae j):=λ{k p f o} e=>by
  rw[Am];split
  .rename_i e2;exact e (by omega)
  .exact h j i
 have pos:∀ {k:Nat},k<5->(M.ae k).up=true->0<=(M.ae k).vo.p.key:=λ{k} m a=>by
  obtain⟨t,q⟩:=(g.nd k m).up a;have n:=q.tp.ok.acc.1;rw[<- q.tp.vo]at n
  unfold Ao Ac at n;unfold Bal.key;omega
 cases s with
 | take _ l hl hd a ht =>
  have:=Rj (M.ae l.dst) l (h _ hd.2).qn;exact put λ_=>(h _ hd.2).qX (.take _ l) this.1 this.2
 | br _ f hl hd=>exact h j i
 | one _ k c hi a hc he=>exact put λ_=>(h k hi).one hc _
 | ask _ k hi a=>exact put λ_=>(h k hi).kc k (pos hi a)
 | prop _ k hi a =>
  refine put λ_=>(h k hi).qX (.cF _) ?_ ?_
  .unfold Nod.cF;split
   .exact⟨rfl,rfl,rfl⟩
   .split
    .exact⟨rfl,rfl,rfl⟩
    .split
     .exact⟨rfl,rfl,rfl⟩
     .exact(C6 (M.ae k) _).1
  .unfold Nod.cF;split
   .exact(h k hi).qn
   .split
    .exact(h k hi).qn
    .split<;>exact(h k hi).qn
 | ry _ k hi a hs hT=>exact put λ_=>⟨(h k hi).nd,(h k hi).wa,(h k hi).le,(h k hi).un,(h k hi).qn,(h k hi).dn⟩
 | run _ k hi a q l hp hs =>
  refine put λ_=>(h k hi).qX ((Ev.lr _ k q).bw l) ?_ ?_
  .show((M.ae k).lr k q).bn=_/\((M.ae k).lr k q).cl=_/\((M.ae k).lr k q).done=_;cases q<;>first|exact⟨rfl,rfl,rfl⟩|(simp only[Nod.lr];split<;>exact⟨rfl,rfl,rfl⟩)|(simp only[Nod.lr,Nod.count];split<;>first|exact⟨rfl,rfl,rfl⟩|(split<;>exact⟨rfl,rfl,rfl⟩))
  .show((M.ae k).lr k q).av.fv.Nodup;have:=(h k hi).qn;cases q<;>first|exact this|(simp only[Nod.lr];split<;>exact this)|(simp only[Nod.lr,Nod.count];split<;>first|exact this|(split<;>exact this))
 | rk _ k hi a hL=>exact put λ_=>⟨(h k hi).nd,(h k hi).wa,(h k hi).le,(h k hi).un,(h k hi).qn,(h k hi).dn⟩
 | lead _ k hi a hL =>
  refine put λ_=>?_;unfold Nod.lead;simp only;split
  .exact h k hi
  .generalize (⟨max (M.ae k).dc (M.ae k).vo.p.r+1,(k:Int)⟩:Bal)=b;have e:=Bh (M.ae k) b;have q:=(h k hi).qX (.au _ b) e.1 (by rw[e.2];exact(h k hi).qn);exact⟨q.nd,q.wa,q.le,q.un,nX,q.dn⟩
 | sub _ k d hi a hD =>
  refine put λ_=>?_;unfold Nod.rE Nod.rG;split
  .exact h k hi
  .split
   .exact⟨(h k hi).nd,(h k hi).wa,(h k hi).le,(h k hi).un,(h k hi).qn,(h k hi).dn⟩
   .split
    .exact h k hi
    .rename_i hc;exact(h k hi).want hc (pos hi a)
 | lp _ k x hi a m hC =>
  refine put λ_=>?_;unfold Nod.lp;split
  .exact h k hi
  .exact .bare _ _ _ _ _ _
 | start _ k hi a hs =>
  refine put λ_=>?_;unfold Nod.start;split
  .exact h k hi
  .split<;>exact .bare _ _ _ _ _ _
theorem AskI.zero:∀ j,j<5->AskI (AI.ae j):=λj _=>AskI.bare CV true [] 0 Ea []
theorem Stp.cl{n:Nat}(s:Stp wh0 n M N){j:Nat}{c:Cmd}{x:Bal}(h:(N.ae j).cl c=some x):(M.ae j).cl c=some x\/(j<5/\N=M.set j ((M.ae j).kc j).1 (M.br++((M.ae j).kc j).2) M.ed):=by
 have put:∀ {k:Nat} {p:Nod} {a:List Let} {b:List Tol},((M.set k p a b).ae j).cl c=some x->(p.cl c=some x->(M.ae k).cl c=some x)->(M.ae j).cl c=some x:=λ{k p a b} g e=>by
  rw[Am]at g
  split at g
  .rename_i e2;rw[e2];exact e g
  .exact g
 cases s with
 | take _ l hl hd hu ht =>
  refine .inl (put h λg=>?_);rw[show((M.ae l.dst).take l).cl=(M.ae l.dst).cl from ?_]at g
  .exact g
  .unfold Nod.take;split
   .split
    .unfold Nod.ew;split<;>rfl
    .exact(Bh _ _).1.2.1
   .simp only;split<;>rfl
   .rfl
   .split
    .unfold Nod.ew;split<;>rfl
    .exact(C6 _ _).1.2.1
   .unfold Nod.count;split
    .rfl
    .split<;>rfl
   .split<;>rfl
   .simp only;unfold Nod.dT;split<;>split<;>rfl
   .rfl
 | br _ a hl hd=>exact False.elim hd
 | one _ k d hi hu hc he =>
  refine .inl (put h λg=>?_);unfold Nod.hZ at g;split at g
  .have g:BV (M.ae k).cl d none c=some x:=g;unfold BV at g;split at g
   .cases g
   .exact g
  .exact g
 | ask _ k hi hu =>
  by_cases e:j=k
  .subst e;exact .inr ⟨hi,rfl⟩
  .rw[Am,if_neg e]at h;exact .inl h
 | prop _ k hi hu =>
  refine .inl (put h λg=>?_);unfold Nod.cF at g;split at g
  .exact g
  .split at g
   .exact g
   .split at g
    .exact g
    .have g:((M.ae k).cn _).1.cl c=some x:=g;rw[(C6 _ _).1.2.1]at g;exact g
 | ry _ k hi hu hs hT=>exact .inl (put h λg=>g)
 | run _ k hi hu q l hp hs =>
  refine .inl (put h λg=>?_);have g:((M.ae k).lr k q).cl c=some x:=g;rw[show((M.ae k).lr k q).cl=(M.ae k).cl from ?_]at g
  .exact g
  .cases q<;>first|rfl|(simp only[Nod.lr];split<;>rfl)|(simp only[Nod.lr,Nod.count];split<;>first|rfl|(split<;>rfl))
 | rk _ k hi hu hL=>exact .inl (put h λg=>g)
 | lead _ k hi hu hL=>exact False.elim hL
 | sub _ k d hi hu hD=>exact False.elim hD
 | lp _ k y hi hu hk hC=>exact False.elim hC
 | start _ k hi hu hs=>exact False.elim hs
end
section
variable{C:List Cmd}{K:Int}{B:Nat->Bal}{cov:List (Bal × Nat)}{i:Nat}{b:Bal}
structure PhB(C:List Cmd)(K:Int)(B:Nat->Bal)(cov:List (Bal × Nat))(i:Nat)(b:Bal)(M:Meet):Prop where
 cm:Cm (λc=>c∈C) K B cov M
 ak:∀ j,j<5->AskI (M.ae j)
 vi:(M.ae i).vo.p=b
structure PhC(C:List Cmd)(K:Int)(B:Nat->Bal)(cov:List (Bal × Nat))(i:Nat)(b:Bal):Prop where
 hc:∀ j,j<5->∀ s,s<40->(B j,s)∈cov
 hC:C.length<40
 hi:i<5
 hb:Ac b
 hn:b.n=(i:Int)
 hB:B i=b
 hK:b.key=K
theorem PhB.step(a:PhC C K B cov i b){n:Nat}{M N:Meet}(s:Stp wh0 n M N)(h:PhB C K B cov i b M):PhB C K B cov i b N:=by
 obtain⟨σ,g,_⟩:=h.cm.ex;exact⟨h.cm.step a.hc s,AskI.step s g h.ak,h.cm.top a.hc s a.hb.pr a.hK a.hi h.vi⟩
theorem PhB.leads(a:PhC C K B cov i b){M:Meet}(h:PhB C K B cov i b M):(M.ae i).leads=true:=by
 have c:=a.hb;unfold Nod.leads;refine M' ⟨?_,?_⟩
 .rw[h.cm.hU i a.hi,a.hB];intro e;rw[e]at c
  exact absurd c (by decide)
 .rw[h.cm.hU i a.hi,a.hB,h.vi]
def QA(i:Nat)(b:Bal)(M:Meet):Prop:=∀ j,j<5->∀ c,(M.ae j).cl c=some b->c∈(M.ae i).av.fv\/∃ m∈M.br,m.kind=6/\m.dst=i/\c∈m.gC
theorem QA.step(t:PhC C K B cov i b){n:Nat}{M N:Meet}(s:Stp wh0 n M N)(h:PhB C K B cov i b M)(q:QA i b M):QA i b N:=by
 intro j x c a;have z:b≠Bd:=λe=>by have:=t.hb;rw[e]at this;exact absurd this (by decide)
 by_cases e:(M.ae j).cl c=some b
 .rcases q j x c e with g|⟨m,g1,g2⟩
  .exact .inl ((s.ev i).qu.subset g)
  .exact .inr ⟨m,s.rF g1,g2⟩
 .rcases s.cl a with g|⟨_,rfl⟩
  .exact absurd g e
  .rw[Am,if_pos rfl]at a
   have E:=h.ak j x;have y:(Ba (M.ae j).vo.p (M.ae j).cl ((M.ae j).bn.take 40)).2 c=some b:=by
    unfold Nod.kc at a;split at a
    .exact a
    .split at a
     .unfold Nod.dT at a;split at a<;>exact a
     .exact a
   have r:(M.ae j).vo.p=b/\c∈(M.ae j).bn.take 40:=by
    have key:∀ (l:List Cmd) (f:Cmd->Option Bal) (p:Bal),(Ba p f l).2 c=some b->f c=some b\/(p=b/\c∈l):=by
     intro l;induction l with
     | nil=>exact λf p g=>.inl g
     | cons d l ih =>
      intro f p g;rw[Ba]at g
      split at g
      .rcases ih _ p g with k|k
       .unfold BV at k;split at k
        .rename_i e;exact .inr ⟨nf k,by rw[e];exact O'⟩
        .exact .inl k
       .exact .inr ⟨k.1,I' _ k.2⟩
      .exact(ih f p g).imp id λk=>⟨k.1,I' _ k.2⟩
    exact(key _ _ _ y).resolve_left e
   obtain⟨r,H⟩:=r;have D:=KQ z ((M.ae j).bn.take 40) (M.ae j).cl;have o:c∈(Ba (M.ae j).vo.p (M.ae j).cl ((M.ae j).bn.take 40)).1:=by rw[r];exact(D.2.2.1 c H).resolve_left e
   have u:¬ (Ba (M.ae j).vo.p (M.ae j).cl ((M.ae j).bn.take 40)).1=[]:=λg=>by rw[g]at o;cases o
   have v:∀ d∈(Ba (M.ae j).vo.p (M.ae j).cl ((M.ae j).bn.take 40)).1,d∈C:=λd w=>by
    rw[r]at w
    exact(h.cm.s.nd j x).wa d (mL (D.2.2.2 d w))
   by_cases A:j=i
   .subst A;refine .inl ?_;rw[Am,if_pos rfl];unfold Nod.kc;rw[if_neg u,if_pos (by rw[r];exact t.hn)];have F:({ M.ae j with cl:=(Ba (M.ae j).vo.p (M.ae j).cl ((M.ae j).bn.take 40)).2 }:Nod).leads=true:=h.leads t;unfold Nod.dT;rw[if_pos F];exact PW t.hC _ _ E.qn (λd w=>(h.cm.s.nd j x).qu d w) v c o
   .refine .inr ?_;have G:¬ (M.ae j).vo.p.n=(j:Int):=by rw[r,t.hn];omega
    unfold Nod.kc;rw[if_neg u,if_neg G];refine⟨_,mB _ (D'.2 rfl),rfl,?_,o⟩;show(M.ae j).vo.p.n.toNat=i;rw[r,t.hn];exact nk i
theorem QJ(a:PhC C K B cov i b){n:Nat}{M:Meet}(E:MOk n M)(L:n+6<=1000000)(h:PhB C K B cov i b M)(q:QA i b M):PhB C K B cov i b (M.fa An)/\(∀ j,j<5->∀ c,((M.fa An).ae j).cl c=some b->c∈((M.fa An).ae i).av.fv)/\(M.fa An).br=[]/\MOk (n+6) (M.fa An):=by
 have v:∀ A N,TkS A N->PhB C K B cov i b A->PhB C K B cov i b N:=λA N s g=>g.step a s.rJ;have z:=Bl (I:=λN=>PhB C K B cov i b N/\QA i b N) (λc A N s g=>⟨g.1.step a s.calm,g.2.step a s.calm g.1⟩) E (by omega) ⟨h,q⟩;rw[show An=AD 3 5++[acN 7 0]from rfl,AJ];generalize M.fa (AD 3 5)=A at z ⊢;obtain⟨p,k,u⟩:=z;have y:=p.act (by omega) (x:=acN 7 0) (by rw[<- DF];decide);have t:∀ j,j<5->∀ c,((A.act (acN 7 0)).ae j).cl c=some b->c∈((A.act (acN 7 0)).ae i).av.fv:=λj G c r=>by
  obtain⟨N,f,o,_⟩:=Cn (I:=λN=>PhB C K B cov i b N/\(N.ae j).cl c=(A.ae j).cl c) (λD N s g=>⟨v D N s g.1,by
   obtain⟨l,_,w,_,rfl⟩:=s;rw[Am];split
   .rename_i e
    rw[(Rj (D.ae l.dst) l (g.1.ak _ w.2).qn).1.2.1,<- e];exact g.2
   .exact g.2⟩) p ⟨k,rfl⟩
  rw[f]at r
  have r:(N.ae j).cl c=some b:=r;rw[o.2]at r
  rcases u j G c r with g|⟨m,g1,g2,g3,g4⟩
  .obtain⟨N,f,o,_⟩:=Cn (I:=λN=>c∈(N.ae i).av.fv) (λD N s g=>(s.rJ.ev i).qu.subset g) p g;rw[f];exact o
  .obtain⟨N,f,_,k3,_⟩:=DI (I:=PhB C K B cov i b) (J:=λN=>c∈(N.ae i).av.fv) v (λD N s _ g=>(s.rJ.ev i).qu.subset g) p k g1 (λN g=>g.cm.up _ (by rw[g3];exact a.hi)) (λN g e=>by
    have F:=(g.cm.s.lt m (by rw[e];exact g1)).wh;rw[g3,Am,if_pos rfl];have H:c∈((N.ae i).dT m.gC).av.fv:=by
     unfold Nod.dT;rw[if_pos (g.leads a)];exact PW a.hC _ _ (g.ak i a.hi).qn (λd w=>(g.cm.s.nd i a.hi).qu d w) F c g4
    unfold Nod.take;rw[g2];simp only;split<;>exact H)
   rw[f];exact k3
 obtain⟨N,f,o,_⟩:=Cn (I:=PhB C K B cov i b) v p k;refine⟨?_,t,by rw[f],y⟩;rw[f];exact⟨o.cm.drop,o.ak,o.vi⟩
theorem Wf(a:PhC C K B cov i b){n:Nat}{M:Meet}(t:MOk n M)(I:n+6<=1000000)(h:PhB C K B cov i b M){j:Nat}(y:j<5){H:List Vt}(E:Pend.prom i b H∈(M.ae j).bw):((M.fa An).ae i).av.qZ j=true:=by
 have x:∀ A N,TkS A N->PhB C K B cov i b A->PhB C K B cov i b N:=λA N s g=>g.step a s.rJ;have d:∀ c A N,Stp wh1 c A N->PhB C K B cov i b A->PhB C K B cov i b N:=λc A N s g=>g.step a s.calm;have f:=Bl d t (by omega) h;have q:=Fp (J:=λN=>∃ m∈N.br,m.kind=1/\m.src=j/\m.dst=i/\m.hU=b) d (λc A N s _ ⟨m,o,p⟩=>⟨m,s.calm.rF o,p⟩) (λA k g u=>⟨g.cm.up k u,g.cm.rY u⟩) t (by omega) h y E (λN l g _ _=>⟨_,mB _ (D'.2 rfl),rfl,rfl,rfl,rfl⟩);rw[show An=AD 3 5++[acN 7 0]from rfl,AJ];generalize M.fa (AD 3 5)=A at f q ⊢;obtain⟨m,o,p,v,r,w⟩:=q;obtain⟨N,F,_,G,_⟩:=DI (J:=λN=>(N.ae i).av.qZ j=true) x (λD N s _ g=>(s.rJ.ev i).qZ j g) f.1 f.2 o (λN g=>g.cm.up _ (by rw[r];exact a.hi)) (λN g e=>by
  rw[r,Am,if_pos rfl];have z:((N.ae i).ln 0 m.gC).leads=true:=g.leads a;unfold Nod.take;rw[p];simp only;rw[v,w];split
  .rename_i hc
   rcases hc with hc|hc|hc
   .rw[z]at hc;cases hc
   .exact absurd (show b=(N.ae i).av.hU by rw[g.cm.hU i a.hi,a.hB]) hc
   .exact hc
  .exact CZ _ _ _)
 rw[F];exact G
end
theorem Uc(i:Nat)(l:List Cmd)(p:Nod)(a:List Tol):(rz i l p a).1.av=p.av/\(rz i l p a).1.ab=p.ab:=by
 induction l generalizing p a with
 | nil=>exact⟨rfl,rfl⟩
 | cons c l ih =>
  rw[rz];split
  .exact⟨rfl,rfl⟩
  .have h1:=ih (Nod.hZ { p with ni:=doS p.ni c,done:=p.done+1 } c) (if(p.cl c).isSome=true then a++[⟨i,c.c,c.s,doC p.ni c,doA p.ni c⟩]else a);have b:(Nod.hZ { p with ni:=doS p.ni c,done:=p.done+1 } c).av=p.av/\(Nod.hZ { p with ni:=doS p.ni c,done:=p.done+1 } c).ab=p.ab:=by unfold Nod.hZ;split<;>exact⟨rfl,rfl⟩
   exact⟨h1.1.trans b.1,h1.2.trans b.2⟩
theorem Ic{D:Wh}{i:Nat}(c:i<5){M:Meet}(t:(M.ae i).up=true):∃ M0,Sts D 0 M M0/\(M0.ae i).up=true/\(M0.ae i).av=(M.ae i).av/\(M0.ae i).ab=(M.ae i).ab /\
  ∃ M1,M1=M0.set i ((M0.ae i).kc i).1 (M0.br++((M0.ae i).kc i).2) M0.ed/\(M1.ae i).up=true/\Sts D 0 M0 M1/\Sts D 0 (M1.set i (M1.ae i).cF M1.br M1.ed) (M.act (acN 3 (i:Int))):=by
 rw[GX t];have w:Sts D 0 M (M.set i (M.ae i) M.br M.ed):=by rw[EM];exact .nil 0 M
 obtain⟨p,h⟩:=Sts.rz c _ (M.ae i) w t rfl;have q:=Uc i ((M.ae i).ab.drop (M.ae i).done) (M.ae i) M.ed;unfold Nod.piece;simp only;generalize Go.Proofs.YtcjcngceghfoeaaGreatDoor.rz i ((M.ae i).ab.drop (M.ae i).done) (M.ae i) M.ed=a at p h q ⊢;refine⟨_,p,by rw[Bv];exact h,by rw[Bv];exact q.1,by rw[Bv];exact q.2,?_⟩;have e:=Bv M i a.1 M.br a.2;have s:=Stp.ask (D:=D) (M.set i a.1 M.br a.2) i c (by rw[e];exact h);have l:=(Im a.1 i).trans h;rw[e,Cd]at s
 refine⟨M.set i (a.1.kc i).1 (M.br++(a.1.kc i).2) a.2,by rw[e,Cd];rfl,by rw[Bv];exact l,s.s,?_⟩;show Sts D 0 ((M.set i (a.1.kc i).1 (M.br++(a.1.kc i).2) a.2).set i ((M.set i (a.1.kc i).1 (M.br++(a.1.kc i).2) a.2).ae i).cF (M.br++(a.1.kc i).2) a.2) _;clear e s p;generalize (a.1.kc i)=b at l ⊢;rw[Bv,Cd];have g:=(E2 b.1).trans l;show Sts D 0 (M.set i b.1.cF (M.br++b.2) a.2) _;generalize b.1.cF=r at g ⊢;generalize M.br++b.2=k at ⊢;have j:Sts D 0 (M.set i r k a.2) (M.set i (r.ov i k).1 (r.ov i k).2 a.2)/\(r.ov i k).1.up=true:=by
  unfold Nod.ov;split
  .exact⟨.nil 0 _,g⟩
  .rename_i hn
   have e:=Bv M i r k a.2;unfold Nod.ry;split
   .rename_i h1
    have m:CX r.d r.sy=0:=mz.1 λe=>hn ⟨h1,e⟩;have o:AR r.d r.sy:=by
     unfold CX at m;split at m
     .assumption
     .cases m
    have s:=Stp.ry (D:=D) (M.set i r k a.2) i c (by rw[e];exact g) (by rw[e];exact h1) (by rw[e];exact o);rw[e,Cd]at s
    have u:Hf r.d r.sy=r.d:=if_pos o;have v:If r.d r.sy=(r.d.length:Int):=if_pos o;rw[u,v];have:=Sts.qW (D:=D) (n:=0) (M:=M.set i r k a.2) (ls:=k) (ts:=a.2) c r.bw { r with sy:=(r.d.length:Int),bw:=[] } (by rw[Cd];exact(Sts.nil 0 _).s0 s) g rfl (qr _);rw[Cd]at this
    exact this
   .rename_i h1
    have:=Sts.qW (D:=D) (n:=0) (M:=M.set i r k a.2) (ls:=k) (ts:=a.2) c r.bw { r with bw:=[] } (by rw[Cd];exact .nil 0 _) g rfl h1;rw[Cd]at this
    exact this
 generalize r.ov i k=f at j ⊢;unfold Nod.bN;split
 .rename_i hL
  have e:=Bv M i f.1 f.2 a.2;have s:=Stp.rk (D:=D) (M.set i f.1 f.2 a.2) i c (by rw[e];exact j.2) (by rw[e];exact hL);rw[e,Cd]at s
  exact j.1.s0 s
 .exact j.1
section
variable{C:List Cmd}{K:Int}{B:Nat->Bal}{cov:List (Bal × Nat)}{i:Nat}{b:Bal}
theorem dU(a:PhC C K B cov i b)(d:14*K+38*(cov.length:Int)<=99000){M:Meet}(h:PhB C K B cov i b M)(j:(M.ae i).av.rm=true)(n:(M.ae i).av.next<=(M.ae i).ab.length){c:Cmd}(f:(M.ae i).qY (M.ae i).ab.length=some c)(l:Ah ⟨((M.ae i).ab.length:Int),b,c⟩) :
  (M.ae i).cF.av.next=(M.ae i).ab.length+1/\Pend.prop ⟨((M.ae i).ab.length:Int),b,c⟩∈(M.ae i).cF.bw:=by
 have e:(M.ae i).av.hU=b:=(h.cm.hU i a.hi).trans a.hB;have k:=h.leads a;have m:=h.cm.sX d a.hi l (λg=>by
  have:b.lt (M.ae i).vo.p:=g;rw[h.vi]at this
  unfold Bal.lt at this;omega)
 unfold Nod.cF;rw[if_neg (λg=>by
  rcases g with g|g|g
  .rw[k]at g;cases g
  .rw[j]at g;cases g
  .omega),f]
 simp only;rw[e,if_neg (λg=>g m.1)];exact⟨rfl,mB _ (D'.2 rfl)⟩
theorem WV(f:PhC C K B cov i b)(e:14*K+38*(cov.length:Int)<=99000){M:Meet}(h:PhB C K B cov i b M){j:Nat}(a:j<5){v:Vt}(c:Ah v)(o:v.b=b){l:Let}(k:l.kind=3)(m:l.cn=v):Pend.voted l.src v∈((M.ae j).take l).bw:=by
 have n:=h.cm.le a;have d:=h.cm.sX e a c (by rw[EV c.2.1.pr (h.cm.acc a).1,o,f.hK];omega);unfold Nod.take;rw[k];simp only;rw[m,if_neg (λg=>g d.1)];exact mB _ (D'.2 rfl)
end
section
def NB(p:Nod):Prop:=∀ b vs,Pend.began b vs∉p.bw
variable{M N:Meet}{c j:Nat}{p q:Nod}{v:Vt}
theorem NB.snoc(h:NB p){x:Pend}(e:q.bw=p.bw++[x])(a:∀ b vs,Pend.began b vs≠x):NB q:=λb vs g=>by
 rw[e]at g
 rcases P'.1 g with g|g
 .exact h b vs g
 .exact a b vs (D'.1 g)
theorem NB.same(h:NB p)(e:q.bw=p.bw):NB q:=λb a g=>h b a (by rw[<- e];exact g)
theorem Zt(p:Nod)(b:Bal):(p.au b).1.bw=p.bw:=by
 unfold Nod.au;split
 .rfl
 .split
  .rfl
  .split<;>rfl
theorem Ru(p:Nod)(v:Vt):(p.cn v).1.bw=p.bw:=by
 unfold Nod.cn;split
 .rfl
 .split
  .rfl
  .split<;>rfl
theorem iI(p:Nod)(b:Bal):(p.au b).1.ab=p.ab:=by
 unfold Nod.au;split
 .rfl
 .split
  .rfl
  .split<;>rfl
theorem ju(p:Nod)(v:Vt):(p.cn v).1.ab=p.ab:=by
 unfold Nod.cn;split
 .rfl
 .split
  .rfl
  .split<;>rfl
theorem NB.ew(h:NB p)(to:Nat)(e:Int):NB (p.ew to e):=by
 unfold Nod.ew;split
 .exact h.snoc rfl (λ_ _ g=>by cases g)
 .exact h
theorem RN(p:Nod)(j:Nat)(v:Vt):(p.count j v).bw=p.bw:=by
 unfold Nod.count;split
 .rfl
 .split<;>rfl
theorem NA(p:Nod)(l:List Cmd):(p.dT l).bw=p.bw:=by unfold Nod.dT;split<;>rfl
theorem NB.take(h:NB p)(l:Let):NB (p.take l):=by
 unfold Nod.take;split
 .split
  .exact h.ew _ _
  .exact h.snoc (by show(p.au l.hU).1.bw++_=_;rw[Zt]) (λ_ _ g=>by cases g)
 .simp only;split<;>exact h
 .exact h
 .split
  .exact h.ew _ _
  .exact h.snoc (by show(p.cn l.cn).1.bw++_=_;rw[Ru]) (λ_ _ g=>by cases g)
 .exact h.same (RN _ _ _)
 .split
  .exact h.snoc rfl (λ_ _ g=>by cases g)
  .exact h
 .simp only;split
  .exact h.snoc (by show((p.dT l.gC).bw)++_=_;rw[NA]) (λ_ _ g=>by cases g)
  .exact h.same (NA _ _)
 .exact h
theorem Stp.nb(s:Stp wh0 c M N){j:Nat}(h:NB (M.ae j)):NB (N.ae j):=by
 have put:∀ {i:Nat} {p:Nod} {a:List Let} {f:List Tol},(j=i->NB p)->NB ((M.set i p a f).ae j):=λ{i p a f} g=>by
  rw[Am];split
  .rename_i e;exact g e
  .exact h
 cases s with
 | take _ l hl hd hu ht=>exact put λe=>by rw[<- e];exact h.take l
 | br _ a hl hd=>exact False.elim hd
 | one _ i c hi hu hc he=>exact put λe=>(e▸h:NB (M.ae i)).same (GA _ _).1
 | ask _ i hi hu=>exact put λe=>(e▸h:NB (M.ae i)).same (IX _ _).1
 | prop _ i hi hu =>
  refine put λe=>?_;have h:NB (M.ae i):=e▸h;unfold Nod.cF;split
  .exact h
  .split
   .exact h
   .split
    .exact h
    .exact h.snoc (by show((M.ae i).cn _).1.bw++_=_;rw[Ru]) (λ_ _ g=>by cases g)
 | ry _ i hi hu hs hT=>exact put λe=>(e▸h:NB (M.ae i)).same rfl
 | run _ i hi hu q l hp hs=>exact put λe b m g=>(e▸h:NB (M.ae i)) b m (by rw[hp];exact I' _ g)
 | rk _ i hi hu hL=>exact put λe=>(e▸h:NB (M.ae i)).same rfl
 | lead _ i hi hu hL=>exact False.elim hL
 | sub _ i d hi hu hD=>exact False.elim hD
 | lp _ i k hi hu hk hC=>exact False.elim hC
 | start _ i hi hu hs=>exact False.elim hs
theorem Ny{k:Nat}{u:Vt}(hv:v∈((p.count k u).av.an j).vs):v∈(p.av.an j).vs\/v.b=p.av.hU:=by
 unfold Nod.count at hv;split at hv
 .exact .inl hv
 .rename_i hb
  split at hv
  .exact .inl hv
  .rename_i a
   have a:=mz.1 a;have hv:v∈(upN p.av.an k ⟨BG (p.av.an k) u,Br (p.av.an k) u⟩ j).vs:=hv;unfold upN at hv;split at hv
   .rename_i e
    have hv:v∈Br (p.av.an k) u:=hv;unfold Br at hv;rw[if_pos a,BB (Ap a).1.2.2]at hv
    rcases hv with hv|hv
    .exact .inr (by rw[hv];exact mz.1 hb)
    .exact .inl (by rw[e];exact hv.1)
   .exact .inl hv
theorem Stp.ug(s:Stp wh0 c M N){i:Nat}(m:NB (M.ae i))(n:∀ j,j<5->(M.ae i).av.qZ j=true){j:Nat}{v:Vt}(a:v∈((N.ae i).av.an j).vs):v∈((M.ae i).av.an j).vs\/v.b=(M.ae i).av.hU:=by
 have put:∀ {k:Nat} {p:Nod} {f:List Let} {h:List Tol},v∈(((M.set k p f h).ae i).av.an j).vs->(i=k->v∈(p.av.an j).vs->v∈((M.ae i).av.an j).vs\/v.b=(M.ae i).av.hU)->v∈((M.ae i).av.an j).vs\/v.b=(M.ae i).av.hU:=λ{k p f h} g e=>by
  rw[Am]at g
  split at g
  .rename_i e2;exact e e2 g
  .exact .inl g
 cases s with
 | take _ l hl hd hu ht =>
  refine put a λe g=>?_;rw[<- e]at g
  unfold Nod.take at g;split at g
  .split at g
   .unfold Nod.ew at g;split at g<;>exact .inl g
   .have g:v∈(((M.ae i).au l.hU).1.av.an j).vs:=g;rw[(Bh _ _).2]at g;exact .inl g
  .simp only at g;split at g
   .exact .inl g
   .rename_i hc
    exact absurd (.inr (.inr (n l.src hd.1))) hc
  .exact .inl g
  .split at g
   .unfold Nod.ew at g;split at g<;>exact .inl g
   .have g:v∈(((M.ae i).cn l.cn).1.av.an j).vs:=g;rw[(C6 _ _).2]at g;exact .inl g
  .exact Ny g
  .split at g<;>exact .inl g
  .simp only at g;unfold Nod.dT at g;split at g<;>split at g<;>exact .inl g
  .exact .inl g
 | br _ f hl hd=>exact False.elim hd
 | one _ k c hi hu hc he =>
  refine put a λe g=>?_;rw[<- e]at g
  unfold Nod.hZ at g;split at g<;>exact .inl g
 | ask _ k hi hu =>
  refine put a λe g=>?_;rw[<- e]at g
  unfold Nod.kc at g;split at g
  .exact .inl g
  .split at g
   .unfold Nod.dT at g;split at g<;>exact .inl g
   .exact .inl g
 | prop _ k hi hu =>
  refine put a λe g=>?_;rw[<- e]at g
  unfold Nod.cF at g;split at g
  .exact .inl g
  .split at g
   .exact .inl g
   .split at g<;>exact .inl g
 | ry _ k hi hu hs hT=>exact put a λe g=>by rw[<- e]at g;exact .inl g
 | run _ k hi hu q l hp2 hs =>
  refine put a λe g=>?_;rw[<- e]at g hp2
  have g:v∈(((M.ae i).lr i q).av.an j).vs:=g;cases q with
  | began b vs=>exact absurd (by rw[hp2];exact O') (m b vs)
  | prop u=>exact Ny g
  | _=>exact .inl g
 | rk _ k hi hu hL=>exact put a λe g=>by rw[<- e]at g;exact .inl g
 | lead _ k hi hu hL=>exact False.elim hL
 | sub _ k d hi hu hD=>exact False.elim hD
 | lp _ k y hi hu hk hC=>exact False.elim hC
 | start _ k hi hu hs=>exact False.elim hs
theorem Xn{b:Bal}(l:List Cmd){f:Cmd->Option Bal}(h:∀ c∈l,f c=some b):(Ba b f l).1=[]:=by
 induction l with
 | nil=>rfl
 | cons c l ih =>
  rw[Ba,if_neg (by rw[h c O'];exact λg=>g rfl)];exact ih λd a=>h d (I' _ a)
end
section
variable{C:List Cmd}{K:Int}{B:Nat->Bal}{cov:List (Bal × Nat)}{i:Nat}{b:Bal}
structure PhE(C:List Cmd)(K:Int)(B:Nat->Bal)(cov:List (Bal × Nat))(i:Nat)(b:Bal)(M:Meet):Prop where
 pb:PhB C K B cov i b M
 va:∀ j,j<5->(M.ae j).vo.p=b
 pr:∀ j,j<5->(M.ae i).av.qZ j=true
 nb:NB (M.ae i)
 aw:∀ j,j<5->∀ c x,(M.ae j).cl c=some x->x=b
 l6:∀ m∈M.br,m.kind=6->m.gC=[]
 qw:∀ j,j<5->∀ c∈(M.ae j).bn,c∈(M.ae i).av.fv
theorem PhE.nil{M:Meet}(h:PhE C K B cov i b M){j:Nat}(a:j<5):(Ba (M.ae j).vo.p (M.ae j).cl ((M.ae j).bn.take 40)).1=[]:=by
 rw[h.va j a];refine Xn _ λc e=>?_;obtain⟨x,d⟩:=nF.1 (((h.pb.ak j a).wa c).1 (mL e));rw[d,h.aw j a c x d]
theorem PhE.kc{M:Meet}(h:PhE C K B cov i b M){j:Nat}(a:j<5):(M.ae j).kc j=({ M.ae j with cl:=(Ba (M.ae j).vo.p (M.ae j).cl ((M.ae j).bn.take 40)).2 },[]):=by
 unfold Nod.kc;rw[if_pos (h.nil a)]
theorem DA{i:Nat}{l m:Let}{k:Nat}(h:m∈BU i l k):m.kind=l.kind/\m.gC=l.gC:=by
 unfold BU at h;obtain⟨j,_,rfl⟩:=mQ.1 h;exact⟨rfl,rfl⟩
theorem PhE.step(r:PhC C K B cov i b){n:Nat}{M N:Meet}(s:Stp wh0 n M N)(h:PhE C K B cov i b M):PhE C K B cov i b N:=by
 refine⟨h.pb.step r s,λj a=>h.pb.cm.top r.hc s r.hb.pr r.hK a (h.va j a),λj a=>(s.ev i).qZ j (h.pr j a),s.nb h.nb,λj a c x d=>?_,λm f o=>?_,λj a c u=>(s.ev i).qu.subset (h.qw j a c ((s.ev j).wa c u))⟩
 .rcases s.cl d with g|⟨_,rfl⟩
  .exact h.aw j a c x g
  .rw[Am,if_pos rfl,h.kc a]at d
   have d:(Ba (M.ae j).vo.p (M.ae j).cl ((M.ae j).bn.take 40)).2 c=some x:=d;have t:b≠Bd:=λe=>by have:=r.hb;rw[e]at this;exact absurd this (by decide)
   rw[h.va j a]at d
   have f:=KQ t ((M.ae j).bn.take 40) (M.ae j).cl;by_cases e:c∈(M.ae j).bn.take 40
   .rw[f.2.1 c e]at d;exact(nf d).symm
   .rw[f.1 c e]at d;exact h.aw j a c x d
 .have old:m∈M.br->m.gC=[]:=λg=>h.l6 m g o;cases s with
  | br _ ls hl hd=>exact False.elim hd
  | ask _ k hi hu =>
   rw[h.kc hi]at f
   exact old (by simpa[Meet.set]using f)
  | run _ k hi hu q l hp hs =>
   rcases P'.1 f with g|g
   .exact old g
   .cases q with
    | began b vs =>
     unfold Nod.rh at g;simp only at g;split at g
     .cases g
     .have:=(DA g).1;rw[o]at this;cases this
    | prop v=>have:=(DA g).1;rw[o]at this;cases this
    | start=>exact(DA g).2
    | askNews to=>rw[D'.1 g];rfl
    | _=>have e:=D'.1 g;rw[e]at o;cases o
  | rk _ k hi hu hL =>
   rcases P'.1 f with g|g
   .exact old g
   .have:=(J5 5 m g).1;omega
  | _=>exact old f
end
section
variable{C:List Cmd}{K:Int}{B:Nat->Bal}{cov:List (Bal × Nat)}{i:Nat}{b:Bal}{A:List Cmd}
section
structure Fin_(i:Nat)(A:List Cmd)(M:Meet):Prop where
 ag:(M.ae i).ab=A
 nx:(M.ae i).av.next<=A.length
 hd:A.length<40->∀ j,j<5->∀ v∈((M.ae i).av.an j).vs,v.bu≠(A.length:Int)
 qu:A.length<40->∀ c∈(M.ae i).av.fv,c∈A
variable{M:Meet}{k:Nat}{l:List Cmd}{σ:Gs}
theorem PhE.rd(a:PhC C K B cov i b){M:Meet}(h:PhE C K B cov i b M){σ:Gs}(g:AgI σ M):RdI σ i (M.ae i).av/\(M.ae i).av.hU=b:=by
 obtain⟨c,k⟩:=(g.nd i a.hi).up (h.pb.cm.up i a.hi);exact⟨k.rd,(h.pb.cm.hU i a.hi).trans a.hB⟩
theorem PhE.lt(d:PhC C K B cov i b){M:Meet}(h:PhE C K B cov i b M){σ:Gs}(g:AgI σ M){v:Vt}(a:σ.rK v)(c:v.b=b):v.bu<((M.ae i).av.next:Int):=by
 have k:=h.rd d g;have:=k.1.next v.bu.toNat v.w (by rw[k.2,<- c];exact a.2);have:=a.1.1;omega
theorem PhE.held(a:PhC C K B cov i b){M:Meet}(h:PhE C K B cov i b M){σ:Gs}(g:AgI σ M){s:Nat}(o:(M.ae i).av.next<=s)(m:∀ j,j<5->∀ v∈((M.ae i).av.an j).vs,v.bu≠(s:Int)){q:Nat}(d:q<5){v:Vt}(l:σ.held q v):v.bu≠(s:Int):=by
 intro e;have k:=h.rd a g;have c:=g.gs.hv q v l;have n:=g.rZ h.pb.cm.kb.2 c.1.2.1 (g.gs.w3 _ _ _ c.2);by_cases f:v.b.key<b.key
 .obtain⟨u,hu,eu,_⟩:=(k.1.prom q d (h.pr q d)).2 v l (by rw[k.2];exact f);exact m q d u hu (eu.trans e)
 .have e3:v.b=b:=DE c.1.2.1.pr a.hb.pr (by rw[a.hK]at f ⊢;omega);have:=h.lt a g c e3;omega
theorem gL(g:GsI σ){s:Nat}{c:Cmd}(h:σ.sD s c):∃ q,q<5/\∃ v,σ.held q v/\v.bu=(s:Int)/\v.w=c/\s<40:=by
 obtain⟨k,Q,d,j⟩:=h;obtain⟨q,e,a,_⟩:=I4 Q Q d d;obtain⟨v,b,f,_,i⟩:=j q e a;have:=(g.hv q v b).1.1;exact⟨q,e,v,b,f,i,by omega⟩
theorem Fin_.none(k:PhC C K B cov i b){M:Meet}(h:PhE C K B cov i b M)(f:Fin_ i A M){σ:Gs}(g:AgI σ M)(c:Cmd):¬ σ.sD A.length c:=λe=>by
 obtain⟨q,l,v,a,d,_,j⟩:=gL g.gs e;exact h.held k g f.nx (f.hd j) l a d
theorem AgL.le{a:Nat}(h:AgL σ l k)(d:∀ c,¬ σ.sD a c)(f:k<=a):k+l.length<=a:=pV λe=>by
 have b:a-k<l.length:=by omega
 exact d _ (by rw[show a=k+(a-k)by omega];exact h (a-k) _ (G' b))
theorem Fin_.le(a:PhC C K B cov i b){M:Meet}(h:PhE C K B cov i b M)(f:Fin_ i A M){j:Nat}(c:j<5):(M.ae j).ab.length<=A.length:=by
 obtain⟨σ,g,_⟩:=h.pb.cm.ex;have:=(g.nd j c).ag.le (f.none a h g) (mV _);omega
theorem Fin_.qY(f:Fin_ i A M):(M.ae i).qY (M.ae i).ab.length=Option.none:=by
 unfold Nod.qY;rw[f.ag];split
 .rfl
 .rename_i b
  have b:=mz.1 b;have k:A.length<40:=by
   unfold Ce at b;split at b
   .cases b
   .omega
  have m:Ae ((M.ae i).av.jv.map (·.vs)).flatten (A.length:Int)=[]:=pR.2 λv h=>by
   obtain⟨n,o⟩:=Be.1 h;obtain⟨l,s,h⟩:=oT.1 n;obtain⟨a,d,rfl⟩:=mQ.1 s;unfold Rnd.jv at d;have:∃ j,j<5/\a=(M.ae i).av.an j:=by
    simp only[mG,Q',or_false]at d;rcases d with e|e|e|e|e
    .exact⟨0,by omega,e⟩
    .exact⟨1,by omega,e⟩
    .exact⟨2,by omega,e⟩
    .exact⟨3,by omega,e⟩
    .exact⟨4,by omega,e⟩
   obtain⟨j,r,rfl⟩:=this;exact f.hd k j r v h o
  have p:DX ((M.ae i).av.jv.map (·.vs)) (A.length:Int)=false:=by
   unfold DX;rw[if_pos b];unfold FY;rw[m];rfl
  rw[if_neg (by rw[p];decide)];exact nK.2 λc q g=>absurd (f.qu k c q) (m5 g)
theorem NO{a:List Cmd}(h:k+a.length<=l.length):l++a.drop (l.length-k)=l:=by rw[nr (by omega),mT]
theorem YN{r:Rnd}(k:Nat)(h:CU r.jv (l.length:Int)≠0):FB k r l=l:=by
 cases k with
 | zero=>rfl
 | succ k=>rw[FB,if_neg h]
def TK(p q:Nod):Prop:=q.ab=p.ab/\q.av.next=p.av.next/\q.av.fv=p.av.fv
theorem Fin_.count(c:PhC C K B cov i b){M:Meet}(h:PhE C K B cov i b M)(f:Fin_ i A M){σ:Gs}(g:AgI σ M){j:Nat}{v:Vt}(m:σ.held j v):TK (M.ae i) ((M.ae i).count j v):=by
 have k:=(h.rd c g).1;unfold Nod.count;split
 .exact⟨rfl,rfl,rfl⟩
 .rename_i hb
  split
  .exact⟨rfl,rfl,rfl⟩
  .rename_i he
   refine⟨YN _ λe=>?_,rfl,rfl⟩;have e:CU (Rnd.jv _) ((M.ae i).ab.length:Int)=0:=e;have a:=TP (λq d u l=>((k.count (mz.1 hb) (mz.1 he) m).an q d u l).1) e;rw[f.ag]at a
   exact f.none c h g _ a
theorem Fin_.same(m:PhC C K B cov i b){n:Nat}{M N:Meet}(s:Stp wh0 n M N)(h:PhE C K B cov i b M)(f:Fin_ i A M):TK (M.ae i) (N.ae i):=by
 obtain⟨σ,g,_⟩:=h.pb.cm.ex;have put:∀ {k:Nat} {p:Nod} {r:List Let} {t:List Tol},(i=k->TK (M.ae i) p)->TK (M.ae i) ((M.set k p r t).ae i):=λ{k p r t} e=>by
  rw[Am];split
  .rename_i e2;exact e e2
  .exact⟨rfl,rfl,rfl⟩
 have o:∀ {l:List Cmd} {k:Nat},AgL σ l k->k<=A.length->k+l.length<=(M.ae i).ab.length:=λa e=>by rw[f.ag];exact a.le (f.none m h g) e
 cases s with
 | take _ l hl2 hd hu ht =>
  refine put λe=>?_;rw[<- e];have lt:=g.lt l hl2;unfold Nod.take;split
  .split
   .unfold Nod.ew;split<;>exact⟨rfl,rfl,rfl⟩
   .exact⟨iI _ _,by show(Nod.au _ _).1.av.next=_;rw[(Bh _ _).2],by show(Nod.au _ _).1.av.fv=_;rw[(Bh _ _).2]⟩
  .rename_i hk
   simp only;rw[if_pos (.inr (.inr (h.pr l.src hd.1)))];exact⟨NO (o (lt.k1 hk).2.2 (mV _)),rfl,rfl⟩
  .exact⟨rfl,rfl,rfl⟩
  .split
   .unfold Nod.ew;split<;>exact⟨rfl,rfl,rfl⟩
   .exact⟨ju _ _,by show(Nod.cn _ _).1.av.next=_;rw[(C6 _ _).2],by show(Nod.cn _ _).1.av.fv=_;rw[(C6 _ _).2]⟩
  .rename_i hk
   exact f.count m h g (lt.k4 hk)
  .rename_i hk
   split
   .exact⟨rfl,rfl,rfl⟩
   .rename_i h5
    exact⟨NO (o (lt.k5 hk) (by rw[f.ag]at h5;omega)),rfl,rfl⟩
  .rename_i hk
   simp only;rw[h.l6 l hl2 hk];unfold Nod.dT;split<;>split<;>exact⟨rfl,rfl,rfl⟩
  .exact⟨rfl,rfl,rfl⟩
 | br _ r o hd=>exact False.elim hd
 | one _ k c hi hu hc he=>exact put λe=>by rw[<- e];unfold Nod.hZ;split<;>exact⟨rfl,rfl,rfl⟩
 | ask _ k hi hu=>exact put λe=>by rw[h.kc hi,<- e];exact⟨rfl,rfl,rfl⟩
 | prop _ k hi hu =>
  refine put λe=>?_;rw[<- e];unfold Nod.cF;split
  .exact⟨rfl,rfl,rfl⟩
  .rw[f.qY];exact⟨rfl,rfl,rfl⟩
 | ry _ k hi hu hs hT=>exact put λe=>by rw[<- e];exact⟨rfl,rfl,rfl⟩
 | run _ k hi hu q l hp hs =>
  refine put λe=>?_;rw[<- e]at hp hs ⊢
  cases q with
  | began b vs=>exact absurd (by rw[hp];exact O') (h.nb b vs)
  | prop v =>
   obtain⟨u,k⟩:=(g.nd i m.hi).up (h.pb.cm.up i m.hi);have:=f.count m h g (j:=i) (v:=v) (by
    have:=k.pe (.prop v) (by rw[hp];exact O');unfold Gs.held;rw[k.tp.all hs];exact this)
   exact this
  | _=>exact⟨rfl,rfl,rfl⟩
 | rk _ k hi hu hL=>exact put λe=>by rw[<- e];exact⟨rfl,rfl,rfl⟩
 | lead _ k hi hu hL=>exact False.elim hL
 | sub _ k d hi hu hD=>exact False.elim hD
 | lp _ k y hi hu hk hC=>exact False.elim hC
 | start _ k hi hu hs=>exact False.elim hs
theorem Fin_.step(a:PhC C K B cov i b){n:Nat}{M N:Meet}(s:Stp wh0 n M N)(h:PhE C K B cov i b M)(f:Fin_ i A M):Fin_ i A N:=by
 have e:=f.same a s h;have d:=h.step a s;obtain⟨τ,g,_⟩:=d.pb.cm.ex;refine⟨e.1.trans f.ag,by rw[e.2.1];exact f.nx,λl j m v o q=>?_,λl c p=>f.qu l c (by rw[<- e.2.2];exact p)⟩;rcases s.ug h.nb h.pr o with k|k
 .exact f.hd l j m v k q
 .have:=d.lt a g (g.gs.hv j v ((d.rd a g).1.an j m v o).1) (k.trans ((h.pb.cm.hU i a.hi).trans a.hB));have:=e.2.1;have:=f.nx;omega
end
end
section
variable{j:Nat}{p:Nod}{r:Rnd}{v:Vt}
theorem Zb{l:List Vt}(h:v∈l):1<=BJ (Ae l v.bu) v:=qd.2 ⟨v,Be.2 ⟨h,rfl⟩,M' rfl⟩
theorem X3(k:∀ j,j<5->Ag (r.an j)){v:Vt}(o:0<=v.bu/\v.bu<=39)(p:∀ j,j<5->v∈(r.an j).vs):CU r.jv v.bu=0:=by
 have e:Dz r.jv v.bu=Ae (r.an 0).vs v.bu++(Ae (r.an 1).vs v.bu++(Ae (r.an 2).vs v.bu++(Ae (r.an 3).vs v.bu++Ae (r.an 4).vs v.bu))):=by
  unfold Dz Rnd.jv Ae;simp[List.filter_append]
 have g:∀ j,j<5->1<=BJ (Ae (r.an j).vs v.bu) v:=λj l=>Zb (p j l);have n:5<2*BJ (Dz r.jv v.bu) v:=by
  rw[e,Cv,Cv,Cv,Cv];have:=g 0 (by omega);have:=g 1 (by omega);have:=g 2 (by omega);have:=g 3 (by omega);have:=g 4 (by omega);omega
 have m:v∈Dz r.jv v.bu:=by
  obtain⟨u,b,d⟩:=qd.1 (show 0<BJ (Dz r.jv v.bu) v by omega);have c:u=v:=m5 d;rw[c]at b;exact b
 have f:∀ a∈r.jv,Ag a:=λa h=>by
  unfold Rnd.jv at h;simp only[mG,Q',or_false]at h;rcases h with e|e|e|e|e<;>rw[e]<;>exact k _ (by omega)
 have i:(Ha (Dz r.jv v.bu) r.jv.length).isSome=true:=List.find?_isSome.2 ⟨v,m,M' n⟩;unfold CU;rw[if_neg (λg=>g ⟨o,by show(1:Int)<=((5:Nat):Int)/\((5:Nat):Int)<=5;decide⟩),if_neg (λg=>g f),if_pos i]
theorem PO(c:v.b=p.av.hU)(a:Ag (p.av.an j))(e:Ah v)(f:(p.av.an j).p=p.av.hU):v∈((p.count j v).av.an j).vs:=by
 have d:AY (p.av.an j) v=0:=by
  unfold AY;rw[if_neg (λg=>g a),if_neg (λg=>g e),if_neg];rw[f,c];unfold Bal.lt;omega
 unfold Nod.count;rw[if_neg (λg=>g c),if_neg (λg=>g d)];show v∈(upN p.av.an j ⟨BG (p.av.an j) v,Br (p.av.an j) v⟩ j).vs;rw[CZ];show v∈Br (p.av.an j) v;rw[(DD d).2,BB a.2.2];exact .inl rfl
theorem RM{k:Nat}{u:Vt}(a:v∈(p.av.an k).vs)(g:u.b=p.av.hU->u.bu=v.bu->u=v):v∈((p.count j u).av.an k).vs:=by
 unfold Nod.count;split
 .exact a
 .rename_i hb
  split
  .exact a
  .rename_i c
   have c:=mz.1 c;show v∈(upN p.av.an j ⟨BG (p.av.an j) u,Br (p.av.an j) u⟩ k).vs;unfold upN;split
   .rename_i e
    show v∈Br (p.av.an j) u;rw[(DD c).2,BB (Ap c).1.2.2];by_cases d:u.bu=v.bu
    .exact .inl (g (mz.1 hb) d).symm
    .exact .inr ⟨by rw[<- e];exact a,λf=>d f.symm⟩
   .exact a
theorem bg(h:(p.cn v).2=0):Ah v:=by
 unfold Nod.cn at h;split at h
 .rename_i h0;exact absurd h h0
 .rename_i h0;exact(Ap (mz.1 h0)).2.1
theorem VJ{l:List Cmd}(k:Nat)(h:CU r.jv (l.length:Int)=0):l.length<(FB (k+1) r l).length:=by
 rw[FB,if_pos h];have:=(I3 k r (l++[CN r.jv (l.length:Int)])).length_le;rw[H',ny]at this
 omega
end
section
variable{C:List Cmd}{K:Int}{B:Nat->Bal}{cov:List (Bal × Nat)}{i:Nat}{b:Bal}
theorem Stp.sa{n:Nat}{M N:Meet}(s:Stp wh0 n M N)(m:PhC C K B cov i b)(h:PhE C K B cov i b M){σ:Gs}(g:AgI σ M) :
  ((N.ae i).av.an=(M.ae i).av.an/\(N.ae i).av.next=(M.ae i).av.next)\/((N.ae i).av.an=(M.ae i).av.an/\(N.ae i).av.next=(M.ae i).ab.length+1/\(M.ae i).ab.length<40)\/∃ k u,k<5/\σ.held k u/\(N.ae i).av=((M.ae i).count k u).av/\(N.ae i).ab=((M.ae i).count k u).ab:=by
 have put:∀ {k:Nat} {p:Nod} {f:List Let} {j:List Tol},(i=k->p.av.an=(M.ae k).av.an/\p.av.next=(M.ae k).av.next)->((M.set k p f j).ae i).av.an=(M.ae i).av.an/\((M.set k p f j).ae i).av.next=(M.ae i).av.next:=λ{k p f j} e=>by
  rw[Am];split
  .rename_i e2;rw[e2];exact e e2
  .exact⟨rfl,rfl⟩
 cases s with
 | take _ l hl hd hu ht =>
  have lt:=g.lt l hl;by_cases a:l.kind=4/\i=l.dst
  .refine .inr (.inr ⟨l.src,l.cn,hd.1,lt.k4 a.1,?_⟩);rw[Am,if_pos a.2,<- a.2];unfold Nod.take;rw[a.1];exact⟨rfl,rfl⟩
  .refine .inl (put λe=>?_);rw[<- e];unfold Nod.take;split
   .split
    .unfold Nod.ew;split<;>exact⟨rfl,rfl⟩
    .show((M.ae i).au _).1.av.an=_/\((M.ae i).au _).1.av.next=_;rw[(Bh _ _).2];exact⟨rfl,rfl⟩
   .simp only;rw[if_pos (.inr (.inr (h.pr l.src hd.1)))];exact⟨rfl,rfl⟩
   .exact⟨rfl,rfl⟩
   .split
    .unfold Nod.ew;split<;>exact⟨rfl,rfl⟩
    .show((M.ae i).cn _).1.av.an=_/\((M.ae i).cn _).1.av.next=_;rw[(C6 _ _).2];exact⟨rfl,rfl⟩
   .rename_i hk;exact absurd ⟨hk,e⟩ a
   .split<;>exact⟨rfl,rfl⟩
   .simp only;unfold Nod.dT;split<;>split<;>exact⟨rfl,rfl⟩
   .exact⟨rfl,rfl⟩
 | br _ f hl hd=>exact False.elim hd
 | one _ k c hi hu hc he=>exact .inl (put λe=>by unfold Nod.hZ;split<;>exact⟨rfl,rfl⟩)
 | ask _ k hi hu=>exact .inl (put λe=>by rw[h.kc hi];exact⟨rfl,rfl⟩)
 | prop _ k hi hu =>
  by_cases e:i=k
  .subst e;rw[Am,if_pos rfl];unfold Nod.cF;split
   .exact .inl ⟨rfl,rfl⟩
   .split
    .exact .inl ⟨rfl,rfl⟩
    .split
     .exact .inl ⟨rfl,rfl⟩
     .rename_i he
      refine .inr (.inl ⟨rfl,rfl,?_⟩);have:=(bg (mz.1 he)).1.2;have:((M.ae i).ab.length:Int)<=39:=this;omega
  .refine .inl ?_;rw[Am,if_neg e];exact⟨rfl,rfl⟩
 | ry _ k hi hu hs hT=>exact .inl (put λe=>⟨rfl,rfl⟩)
 | run _ k hi hu q l hp hs =>
  by_cases e:i=k
  .subst e;cases q with
   | began b vs=>exact absurd (by rw[hp];exact O') (h.nb b vs)
   | prop v =>
    refine .inr (.inr ⟨i,v,hi,?_,?_⟩)
    .obtain⟨rs,k⟩:=(g.nd i hi).up hu;have:=k.pe (.prop v) (by rw[hp];exact O');unfold Gs.held;rw[k.tp.all hs];exact this
    .rw[Am,if_pos rfl];exact⟨rfl,rfl⟩
   | _=>exact .inl (put λ_=>⟨rfl,rfl⟩)
  .refine .inl ?_;rw[Am,if_neg e];exact⟨rfl,rfl⟩
 | rk _ k hi hu hL=>exact .inl (put λe=>⟨rfl,rfl⟩)
 | lead _ k hi hu hL=>exact False.elim hL
 | sub _ k d hi hu hD=>exact False.elim hD
 | lp _ k y hi hu hk hC=>exact False.elim hC
 | start _ k hi hu hs=>exact False.elim hs
structure PhL(C:List Cmd)(K:Int)(B:Nat->Bal)(cov:List (Bal × Nat))(i:Nat)(b:Bal)(M:Meet):Prop where
 pe:PhE C K B cov i b M
 ld:∀ v:Vt,v.b=b->(∀ j,j<5->v∈((M.ae i).av.an j).vs)->v.bu<((M.ae i).ab.length:Int)
 nx:(M.ae i).av.next<=(M.ae i).ab.length+1/\(M.ae i).av.next<=40
theorem PhE.acc(c:PhC C K B cov i b){M:Meet}(h:PhE C K B cov i b M){j:Nat}(a:j<5):Ag ((M.ae i).av.an j)/\((M.ae i).av.an j).p=b:=by
 obtain⟨σ,g,_⟩:=h.pb.cm.ex;have k:=h.rd c g;exact⟨(k.1.acc j a).1,((k.1.acc j a).2 (h.pr j a)).trans k.2⟩
theorem PhE.qX(m:PhC C K B cov i b){n:Nat}{M N:Meet}(s:Stp wh0 n M N)(h:PhE C K B cov i b M){v:Vt}(l:v.b=b){j:Nat}(r:j<5)(a:v∈((M.ae i).av.an j).vs):v∈((N.ae i).av.an j).vs:=by
 obtain⟨σ,g,_⟩:=h.pb.cm.ex;have k:=h.rd m g;rcases s.sa m h g with e|e|⟨q,u,hq,hu,e,_⟩
 .rw[e.1];exact a
 .rw[e.1];exact a
 .rw[e];refine RM a λc d=>?_;have o:=g.gs.hv q u hu;have p:=g.gs.hv j v (k.1.an j r v a).1;have f:=o.2;rw[c,k.2,d,<- l]at f
  exact(Vt.eq_iff u v).1 ⟨d,(c.trans k.2).trans l.symm,g.gs.w1 _ _ _ _ f p.2⟩
theorem PhL.step(d:PhC C K B cov i b){n:Nat}{M N:Meet}(s:Stp wh0 n M N)(h:PhL C K B cov i b M):PhL C K B cov i b N:=by
 have f:=h.pe.step d s;have x:=(s.ev i).ag.length_le;obtain⟨σ,g,_⟩:=h.pe.pb.cm.ex;have p:(N.ae i).av.next<=(N.ae i).ab.length+1/\(N.ae i).av.next<=40:=by
  have:=h.nx;rcases s.sa d h.pe g with e|e|⟨q,u,hq,hu,e,_⟩
  .rw[e.2];omega
  .rw[e.2.1];omega
  .have o:((M.ae i).count q u).av.next=(M.ae i).av.next:=by
    unfold Nod.count;split
    .rfl
    .split<;>rfl
   rw[e,o];omega
 refine⟨f,λv t a=>?_,p⟩;by_cases l:∀ j,j<5->v∈((M.ae i).av.an j).vs
 .have:=h.ld v t l;omega
 .obtain⟨τ,g2,_⟩:=f.pb.cm.ex;have z:=f.rd d g2;have m:=g2.gs.hv 0 v (z.1.an 0 (by omega) v (a 0 (by omega))).1;have k:=f.lt d g2 m t;rcases s.sa d h.pe g with e|e|⟨q,u,hq,hu,e,ea⟩
  .rw[e.1]at a;exact absurd a l
  .rw[e.1]at a;exact absurd a l
  .have hm:=m.1.1;rw[e]at a k
   rw[ea];have c:∀ j,j<5->Ag ((N.ae i).av.an j):=λj y=>(f.acc d y).1;rw[e]at c
   have A:=h.nx;have o:((M.ae i).count q u).av.next=(M.ae i).av.next:=by
    unfold Nod.count;split
    .rfl
    .split<;>rfl
   rw[o]at k
   unfold Nod.count at a c ⊢;split at a
   .exact absurd a l
   .split at a
    .exact absurd a l
    .rename_i h3 h4
     rw[if_neg h3,if_neg h4]at c ⊢
     by_cases w:v.bu<((M.ae i).ab.length:Int)
     .exact Int.lt_of_lt_of_le w (Int.ofNat_le.2 (I3 41 _ _).length_le)
     .have e6:v.bu=((M.ae i).ab.length:Int):=by omega
      have r:=X3 c hm a;rw[e6]at r ⊢
      exact Int.ofNat_lt.2 (VJ 40 r)
end
section
variable{I J:Meet->Prop}
theorem Mg(j:∀ c M N,Stp wh1 c M N->I M->I N)(p:∀ c M N,Stp wh1 c M N->I M->J M->J N){n:Nat}{M:Meet}(q:MOk n M)(u:n+5<=1000000)(h:I M){i:Nat}(r:i<5)(d:∀ N m,MOk m N->m+1<=1000000->I N->N.ae i=M.ae i->J (N.act (acN 3 (i:Int)))):J (M.fa (AD 3 5)):=by
 have d:∀ k,k<=5->MOk (n+k) (M.fa (AD 3 k))/\I (M.fa (AD 3 k))/\(k<=i->(M.fa (AD 3 k)).ae i=M.ae i)/\(i<k->J (M.fa (AD 3 k))):=by
  intro k;induction k with
  | zero=>exact λ_=>⟨q,h,λ_=>rfl,λe=>absurd e (ou _)⟩
  | succ k ih =>
   intro t;obtain⟨a,b,f,o⟩:=ih (by omega);rw[BR,AJ];refine⟨a.act (by omega) (FQ (by omega)),Cx j a (by omega) b,λe=>by rw[E5 _ (by omega)];exact f (by omega),λe=>?_⟩;by_cases l:i<k
   .exact(Cx (I:=λN=>I N/\J N) (λc A B s g=>⟨j c A B s g.1,p c A B s g.1 g.2⟩) a (by omega) ⟨b,o l⟩).2
   .obtain rfl:k=i:=by omega
    exact d _ _ a (by omega) b (f (A' _))
 exact(d 5 (A' _)).2.2.2 r
end
theorem Id(M:Meet){i:Nat}(d:i<5):∃ N:Meet,N.ae i=M.ae i/\N=M.fa (AD 3 i)/\(M.fa (AD 3 5)).ae i=(N.act (acN 3 (i:Int))).ae i:=by
 have b:∀ k,k<=i->(M.fa (AD 3 k)).ae i=M.ae i:=by
  intro k;induction k with
  | zero=>exact λ_=>rfl
  | succ k ih=>exact λa=>by rw[BR,AJ,E5 _ (by omega)];exact ih (by omega)
 refine⟨_,b i (A' _),rfl,?_⟩;have c:∀ k,i<k->(M.fa (AD 3 k)).ae i=((M.fa (AD 3 i)).act (acN 3 (i:Int))).ae i:=by
  intro k a;induction k with
  | zero=>exact absurd a (ou _)
  | succ k ih =>
   rw[BR,AJ];by_cases e:k=i
   .rw[e]
   .rw[E5 _ (Ne.symm e)];exact ih (by omega)
 exact c 5 d
theorem Stp.rO{M N:Meet}(s:Stp wh0 0 M N)(i:Nat):(N.ae i).av.next=(M.ae i).av.next:=by
 have put:∀ {k:Nat} {p:Nod} {a:List Let} {g:List Tol},p.av.next=(M.ae k).av.next->((M.set k p a g).ae i).av.next=(M.ae i).av.next:=λ{k p a g} e=>by
  rw[Am];split
  .rename_i e2;rw[e2];exact e
  .rfl
 have f:∀ (p:Nod) (j:Nat) (v:Vt),(p.count j v).av.next=p.av.next:=λp j v=>by
  unfold Nod.count;split
  .rfl
  .split<;>rfl
 cases s with
 | take _ l hl hd hu ht =>
  refine put ?_;unfold Nod.take;split
  .split
   .unfold Nod.ew;split<;>rfl
   .show((M.ae l.dst).au _).1.av.next=_;rw[(Bh _ _).2]
  .simp only;split<;>rfl
  .rfl
  .split
   .unfold Nod.ew;split<;>rfl
   .show((M.ae l.dst).cn _).1.av.next=_;rw[(C6 _ _).2]
  .exact f _ _ _
  .split<;>rfl
  .simp only;unfold Nod.dT;split<;>split<;>rfl
  .rfl
 | br _ a hl hd=>exact False.elim hd
 | one _ k c hi hu hc he=>exact put (by unfold Nod.hZ;split<;>rfl)
 | ask _ k hi hu =>
  refine put ?_;unfold Nod.kc;split
  .rfl
  .split
   .unfold Nod.dT;split<;>rfl
   .rfl
 | ry _ k hi hu hs hT=>exact put rfl
 | run _ k hi hu q l hp hs =>
  refine put ?_;show((M.ae k).lr k q).av.next=_;cases q with
  | began b vs=>simp only[Nod.lr];split<;>rfl
  | prop v=>exact f _ _ _
  | _=>rfl
 | rk _ k hi hu hL=>exact put rfl
 | lead _ k hi hu hL=>exact False.elim hL
 | sub _ k d hi hu hD=>exact False.elim hD
 | lp _ k y hi hu hk hC=>exact False.elim hC
 | start _ k hi hu hs=>exact False.elim hs
theorem Sts.rO{M N:Meet}(s:Sts wh1 0 M N)(i:Nat):(N.ae i).av.next=(M.ae i).av.next:=by
 generalize a:0=z at s;induction s with
 | nil=>rfl
 | @snoc n c m A B E h s hm ih =>
  obtain rfl:c=0:=by omega
  exact(s.calm.rO i).trans (ih (by omega))
theorem SK{p q:Nod}(a:q.av=p.av)(b:q.ab=p.ab)(s:Nat):q.qY s=p.qY s:=by unfold Nod.qY;rw[a,b]
section
variable{C:List Cmd}{K:Int}{B:Nat->Bal}{cov:List (Bal × Nat)}{i:Nat}{b:Bal}
def J3(i:Nat)(v:Vt)(N:Meet):Prop:=v∈((N.ae i).av.an i).vs/\∀ j,j<5->j≠i->({ BC 3 with cn:=v,src:=i,dst:=j }:Let)∈N.br
theorem J3.step(a:PhC C K B cov i b){n:Nat}{M N:Meet}(s:Stp wh0 n M N)(h:PhE C K B cov i b M){v:Vt}(c:v.b=b)(k:J3 i v M):J3 i v N:=⟨h.qX a s c a.hi k.1,λj d e=>s.rF (k.2 j d e)⟩
theorem PhE.rm{M:Meet}(h:PhE C K B cov i b M):(M.ae i).av.rm=true:=by
 unfold Rnd.rm Jd;rw[h.pr 0 (by omega),h.pr 1 (by omega),h.pr 2 (by omega),h.pr 3 (by omega),h.pr 4 (by omega)];decide
theorem On(a:PhC C K B cov i b)(H:14*K+38*(cov.length:Int)<=99000)(q:∀ c∈C,c.e=0){M:Meet}(h:PhL C K B cov i b M)(S:(M.ae i).ab.length<40)(L:(M.ae i).av.next<=(M.ae i).ab.length){c:Cmd}(z:(M.ae i).qY (M.ae i).ab.length=some c) :
  J3 i ⟨((M.ae i).ab.length:Int),b,c⟩ (M.act (acN 3 (i:Int)))/\((M.act (acN 3 (i:Int))).ae i).av.next=(M.ae i).ab.length+1:=by
 have E:=h.pe.pb.cm.up i a.hi;obtain⟨R,s0,T,O,a0,n,G,Q,P,F⟩:=Ic (D:=wh1) a.hi E;have r:∀ c A N,Stp wh1 c A N->PhL C K B cov i b A->PhL C K B cov i b N:=λc A N s g=>g.step a s.calm;have x:=s0.inv r h;have o:=P.inv r x;have f:(n.ae i).av=(M.ae i).av/\(n.ae i).ab=(M.ae i).ab:=by
  rw[G,Bv,x.pe.kc a.hi];exact⟨O,a0⟩
 have u:Ah ⟨((M.ae i).ab.length:Int),b,c⟩:=⟨by show(0:Int)<=((M.ae i).ab.length:Int)/\((M.ae i).ab.length:Int)<=39;omega,a.hb,q c (KD (h.pe.pb.cm.s.nd i a.hi) z)⟩;generalize w:(⟨((M.ae i).ab.length:Int),b,c⟩:Vt)=v at u;have m:v.b=b:=by rw[<- w]
 have t:=dU a H o.pe.pb o.pe.rm (by rw[f.1,f.2];exact L) (c:=c) (by rw[SK f.1 f.2,f.2];exact z) (by rw[f.2,w];exact u);rw[f.2,w]at t
 have p:=(Stp.prop (D:=wh1) n i a.hi Q).calm;have p:=o.step a p;have k:=F.inv (I:=λN=>PhL C K B cov i b N/\(Pend.prop v∈(N.ae i).bw\/J3 i v N)) (λd A N s g=>⟨r d A N s g.1,by
  rcases g.2 with g2|g2
  .rcases NY s.calm g2 with g3|⟨l,g3,rfl⟩
   .exact .inl g3
   .refine .inr ⟨?_,λj J e=>mB _ (Ma { BC 3 with cn:=v } J e)⟩;rw[Am,if_pos rfl];have ac:=g.1.pe.acc a a.hi;have y:(A.ae i).av.hU=b:=(g.1.pe.pb.cm.hU i a.hi).trans a.hB;exact PO (m.trans y.symm) ac.1 u (ac.2.trans y.symm)
  .exact .inr (g2.step a s.calm g.1.pe m)⟩) ⟨p,.inl (by rw[Bv];exact t.2)⟩
 refine⟨k.2.resolve_left λg=>?_,by rw[F.rO i,Bv];exact t.1⟩;rw[GX E,Am,if_pos rfl,H9 (h.pe.pb.cm.rY a.hi)]at g
 cases g
theorem W6(a:PhC C K B cov i b){M:Meet}(h:PhL C K B cov i b M)(m:(M.ae i).ab.length<(M.ae i).av.next):((M.act (acN 3 (i:Int))).ae i).av.next=(M.ae i).av.next:=by
 have l:=h.pe.pb.cm.up i a.hi;obtain⟨p,s0,r,n,a0,e,f,t,q,o⟩:=Ic (D:=wh1) a.hi l;have k:∀ c A N,Stp wh1 c A N->PhL C K B cov i b A->PhL C K B cov i b N:=λc A N s g=>g.step a s.calm;have j:=s0.inv k h;have d:(e.ae i).av=(M.ae i).av/\(e.ae i).ab=(M.ae i).ab:=by
  rw[f,Bv,j.pe.kc a.hi];exact⟨n,a0⟩
 rw[o.rO i,Bv];unfold Nod.cF;rw[if_pos (.inr (.inr (by rw[d.1,d.2];exact m))),d.1]
def Bz(i:Nat)(v:Vt)(N:Meet):Prop:=v∈((N.ae i).av.an i).vs/\∀ j,j<5->j≠i->Pend.voted i v∈(N.ae j).bw
theorem PhL.drop{N:Meet}(h:PhL C K B cov i b N):PhL C K B cov i b { N with br:=[] } :=
 ⟨⟨⟨h.pe.pb.cm.drop,h.pe.pb.ak,h.pe.pb.vi⟩,h.pe.va,h.pe.pr,h.pe.nb,h.pe.aw,λm a=>(by cases a),h.pe.qw⟩,h.ld,h.nx⟩
theorem EC(M:Meet):M.fa An=(M.fa (AD 3 5)).act (acN 7 0):=by rw[show An=AD 3 5++[acN 7 0]from rfl,AJ]
theorem PhL.round(f:PhC C K B cov i b){n:Nat}{M:Meet}(k:MOk n M)(m:n+6<=1000000)(h:PhL C K B cov i b M):PhL C K B cov i b (M.fa An)/\MOk (n+6) (M.fa An)/\(M.fa An).br=[]/\(∀ j,Ev (M.ae j) ((M.fa An).ae j))/\((M.fa An).ae i).av.next=((M.fa (AD 3 5)).ae i).av.next:=by
 have d:=Bl (I:=λN=>PhL C K B cov i b N/\∀ j,Ev (M.ae j) (N.ae j)) (λc A N s g=>⟨g.1.step f s.calm,λj=>(g.2 j).trans (s.calm.ev j)⟩) k (by omega) ⟨h,λj=>.refl _⟩;rw[EC];obtain⟨N,l,e,_⟩:=Cn (I:=λN=>PhL C K B cov i b N/\(∀ j,Ev (M.ae j) (N.ae j))/\(N.ae i).av.next=((M.fa (AD 3 5)).ae i).av.next) (λA N s g=>⟨g.1.step f s.rJ,λj=>(g.2.1 j).trans (s.rJ.ev j),(s.rJ.rO i).trans g.2.2⟩) d.1 ⟨d.2.1,d.2.2,rfl⟩;have a:=d.1.act (x:=acN 7 0) (by omega) (by rw[<- DF];decide);rw[l]at a ⊢
 exact⟨e.1.drop,a,rfl,e.2.1,e.2.2⟩
theorem Tu(a:PhC C K B cov i b)(u:14*K+38*(cov.length:Int)<=99000)(f:∀ c∈C,c.e=0){n:Nat}{M:Meet}(r:MOk n M)(P:n+6<=1000000)(h:PhL C K B cov i b M)(F:(M.ae i).ab.length<40)(H:(M.ae i).av.next<=(M.ae i).ab.length){c:Cmd}(x:(M.ae i).qY (M.ae i).ab.length=some c) :
  Bz i ⟨((M.ae i).ab.length:Int),b,c⟩ (M.fa An)/\((M.fa An).ae i).av.next=(M.ae i).ab.length+1:=by
 have G:Ah ⟨((M.ae i).ab.length:Int),b,c⟩:=⟨by show(0:Int)<=((M.ae i).ab.length:Int)/\((M.ae i).ab.length:Int)<=39;omega,a.hb,f c (KD (h.pe.pb.cm.s.nd i a.hi) x)⟩;have w:∀ c A N,Stp wh1 c A N->PhL C K B cov i b A->PhL C K B cov i b N:=λc A N s g=>g.step a s.calm;have E:∀ A N,TkS A N->PhL C K B cov i b A->PhL C K B cov i b N:=λA N s g=>g.step a s.rJ;have Q:=h.round a r P;have q:=Mg (J:=λN=>J3 i ⟨((M.ae i).ab.length:Int),b,c⟩ N) w (λd A N s g k=>k.step a s.calm g.pe rfl) r (by omega) h a.hi (λN m _ _ g e=>by
  have:=(On a u f g (by rw[e];exact F) (by rw[e];exact H) (c:=c) (by rw[e];exact x)).1;rw[e]at this;exact this)
 obtain⟨N,t,S,T⟩:=Id M a.hi;have p:=Bl w r (by omega) h;have O:PhL C K B cov i b N:=by
  rw[S];have R:∀ k,k<=5->MOk (n+k) (M.fa (AD 3 k))/\PhL C K B cov i b (M.fa (AD 3 k)):=by
   intro k;induction k with
   | zero=>exact λ_=>⟨r,h⟩
   | succ k ih =>
    intro U;obtain⟨D,L⟩:=ih (by omega);rw[BR,AJ];exact⟨D.act (by omega) (FQ (by omega)),Cx w D (by omega) L⟩
  have:=a.hi;exact(R i (by omega)).2
 have z:=(On a u f O (by rw[t];exact F) (by rw[t];exact H) (c:=c) (by rw[t];exact x)).2;refine⟨?_,by rw[Q.2.2.2.2,T,z,t]⟩;have o:(⟨((M.ae i).ab.length:Int),b,c⟩:Vt).b=b:=rfl;generalize (⟨((M.ae i).ab.length:Int),b,c⟩:Vt)=v at G q o ⊢;rw[EC];generalize M.fa (AD 3 5)=A at p q ⊢;refine⟨?_,λj y e=>?_⟩
 .obtain⟨N,k1,k2,_⟩:=Cn (I:=λN=>PhL C K B cov i b N/\v∈((N.ae i).av.an i).vs) (λA N s g=>⟨E A N s g.1,g.1.pe.qX a s.rJ o a.hi g.2⟩) p.1 ⟨p.2,q.1⟩;rw[k1];exact k2.2
 .obtain⟨N,k1,_,k3,_⟩:=DI (J:=λN=>Pend.voted i v∈(N.ae j).bw) E (λA N s _ g=>by
   obtain⟨l,_,_,_,rfl⟩:=s;rw[Am];split
   .rename_i e3;rw[<- e3];exact GY g
   .exact g) p.1 p.2 (q.2 j y e) (λN g=>g.pe.pb.cm.up j y) (λN g _=>by
   rw[Am,if_pos rfl];exact WV a u g.pe.pb y G o (l:={ BC 3 with cn:=v,src:=i,dst:=j }) rfl rfl)
  rw[k1];exact k3
end
theorem mo(q:Nod){i j:Nat}(b:j<5)(c:j≠i) :
  (q.ab.length<=q.av.bN j/\(E7 q i 5).av.bN j=q.av.bN j)\/(q.av.bN j<q.ab.length/\(E7 q i 5).av.bN j=q.ab.length/\({ BC 5 with src:=i,dst:=j,bu:=q.av.bN j,gC:=q.ab.drop (q.av.bN j) }:Let)∈Dl q i 5):=by
 have hin:∀ k,j<k->Mr q i j=true->({ BC 5 with src:=i,dst:=j,bu:=q.av.bN j,gC:=q.ab.drop (q.av.bN j) }:Let)∈Dl q i k:=by
  intro k;induction k with
  | zero=>exact λh=>absurd h (ou _)
  | succ k ih =>
   intro f a;rw[Dl];by_cases e:j=k
   .rw[<- e,a,if_pos rfl];exact mB _ (D'.2 rfl)
   .exact mD _ (ih (by omega) a)
 have d:(E7 q i 5).av.bN j=if decide (j<5)&&Mr q i j then q.ab.length else q.av.bN j:=rfl;by_cases h:q.av.bN j<q.ab.length
 .have a:Mr q i j=true:=M' ⟨c,h⟩;exact .inr ⟨h,by rw[d,a,M' b];rfl,hin 5 b a⟩
 .have a:Mr q i j=false:=E' λe=>h e.2;exact .inl ⟨by omega,by rw[d,a,M' b];rfl⟩
theorem Tn(p:Nod)(i:Nat)(d:List Let)(c:List Tol):∃ (q:Nod) (ks:List Let),(p.piece i d c).1=(q.bN i ks).1/\(p.piece i d c).2.1=(q.bN i ks).2/\q.av.bN=p.av.bN:=by
 unfold Nod.piece;simp only;have e:=Uc i (p.ab.drop p.done) p c;generalize rz i (p.ab.drop p.done) p c=a at e ⊢;have f:(a.1.kc i).1.av.bN=a.1.av.bN:=by
  unfold Nod.kc;split
  .rfl
  .split
   .unfold Nod.dT;split<;>rfl
   .rfl
 generalize a.1.kc i=b at f ⊢;have g:b.1.cF.av.bN=b.1.av.bN:=by
  unfold Nod.cF;split
  .rfl
  .split
   .rfl
   .split<;>rfl
 generalize b.1.cF=r at g ⊢;have h:(r.ov i (d++b.2)).1.av.bN=r.av.bN:=by
  have j:∀ (l:List Pend) (x:Nod) (k:List Let),(qW i l x k).1.av.bN=x.av.bN:=by
   intro l;induction l with
   | nil=>exact λx k=>rfl
   | cons y l ih =>
    intro x k;rw[qW,ih];cases y with
    | began b vs=>simp only[Nod.lr];split<;>rfl
    | prop v =>
     simp only[Nod.lr,Nod.count];split
     .rfl
     .split<;>rfl
    | _=>rfl
  unfold Nod.ov;split
  .rfl
  .rw[j];unfold Nod.ry;split<;>rfl
 exact⟨_,_,rfl,rfl,by rw[h,g,f,e.1]⟩
section
variable{C:List Cmd}{K:Int}{B:Nat->Bal}{cov:List (Bal × Nat)}{i:Nat}{b:Bal}
theorem PhE.tk{M N:Meet}(s:TkS M N)(h:PhE C K B cov i b M):(N.ae i).av.bN=(M.ae i).av.bN:=by
 obtain⟨l,c,a,d,rfl⟩:=s;rw[Am];split
 .rename_i e
  rw[<- e];unfold Nod.take;split
  .split
   .unfold Nod.ew;split<;>rfl
   .show((M.ae i).au _).1.av.bN=_;rw[(Bh _ _).2]
  .simp only;rw[if_pos (.inr (.inr (h.pr l.src a.1)))];rfl
  .rfl
  .split
   .unfold Nod.ew;split<;>rfl
   .show((M.ae i).cn _).1.av.bN=_;rw[(C6 _ _).2]
  .unfold Nod.count;split
   .rfl
   .split<;>rfl
  .split<;>rfl
  .simp only;unfold Nod.dT;split<;>split<;>rfl
  .rfl
 .rfl
def TT0(i:Nat)(M:Meet):Prop:=∀ j,j<5->j≠i->(M.ae i).av.bN j<=(M.ae j).ab.length
def TTx(i a0:Nat)(N:Meet):Prop:=∀ j,j<5->j≠i->a0<=(N.ae i).av.bN j/\((N.ae i).av.bN j<=(N.ae j).ab.length\/∃ m∈N.br,m.kind=5/\m.dst=j/\m.bu<=(N.ae j).ab.length/\(N.ae i).av.bN j<=m.bu+m.gC.length)
theorem T5(k:PhC C K B cov i b){n:Nat}{M:Meet}(z:MOk n M)(F:n+1<=1000000)(h:PhL C K B cov i b M)(t:TT0 i M):TTx i (M.ae i).ab.length (M.act (acN 3 (i:Int))):=by
 have E:=h.pe.pb.cm.up i k.hi;have u:=Cx (I:=λN=>PhL C K B cov i b N/\Ev (M.ae i) (N.ae i)) (λc A N s g=>⟨g.1.step k s.calm,g.2.trans (s.calm.ev i)⟩) z k.hi ⟨h,.refl _⟩;have l:=u.1.pe.pb.leads k;have d:=u.2.ag.length_le;intro j v a;have o:=E5 M (i:=i) a;have f:=t j v a;have e:M.act (acN 3 (i:Int))=M.set i ((M.ae i).piece i M.br M.ed).1 ((M.ae i).piece i M.br M.ed).2.1 ((M.ae i).piece i M.br M.ed).2.2:=GX E;obtain⟨q,w,x,y,r⟩:=Tn (M.ae i) i M.br M.ed;rw[o];rw[e,Bv,x]at l d ⊢
 have D:q.leads=true:=by
  refine nc λg=>?_;unfold Nod.bN at l;rw[if_neg g]at l
  exact g l
 have p:q.bN i w=(E7 q i 5,w++Dl q i 5):=by unfold Nod.bN;rw[if_pos D]
 rw[p]at d ⊢
 have d:(M.ae i).ab.length<=q.ab.length:=d;show _<=(E7 q i 5).av.bN j/\((E7 q i 5).av.bN j<=_\/∃ m∈((M.ae i).piece i M.br M.ed).2.1,_/\_/\_/\(E7 q i 5).av.bN j<=_);rw[y,p];rcases mo q v a with⟨g1,g2⟩|⟨g1,g2,g3⟩
 .rw[g2];exact⟨by omega,.inl (by rw[r];exact f)⟩
 .rw[g2];refine⟨d,.inr ⟨_,mB _ g3,rfl,rfl,by show q.av.bN j<=_;rw[r];exact f,?_⟩⟩;show q.ab.length<=q.av.bN j+(q.ab.drop (q.av.bN j)).length;rw[mF];omega
theorem Mu(u:PhC C K B cov i b){n:Nat}{M:Meet}(E:MOk n M)(L:n+6<=1000000)(h:PhL C K B cov i b M)(t:TT0 i M):TT0 i (M.fa An)/\∀ j,j<5->(M.ae i).ab.length<=((M.fa An).ae j).ab.length:=by
 have G:∀ c A N,Stp wh1 c A N->PhL C K B cov i b A->PhL C K B cov i b N:=λc A N s g=>g.step u s.calm;have O:∀ k,k<=5->MOk (n+k) (M.fa (AD 3 k))/\PhL C K B cov i b (M.fa (AD 3 k))/\(∀ j,Ev (M.ae j) ((M.fa (AD 3 k)).ae j))/\(k<=i->(M.fa (AD 3 k)).ae i=M.ae i)/\(i<k->TTx i (M.ae i).ab.length (M.fa (AD 3 k))):=by
  intro k;induction k with
  | zero=>exact λ_=>⟨E,h,λj=>.refl _,λ_=>rfl,λe=>absurd e (ou _)⟩
  | succ k ih =>
   intro P;obtain⟨d,o,r,y,p⟩:=ih (by omega);rw[BR,AJ];generalize M.fa (AD 3 k)=A at d o r y p ⊢;have q:=Cx (I:=λN=>(∀ j,Ev (A.ae j) (N.ae j))/\∀ m∈A.br,m∈N.br) (λc X N s g=>⟨λj=>(g.1 j).trans (s.calm.ev j),λm z=>s.calm.rF (g.2 m z)⟩) d (show k<5 by omega) ⟨λj=>.refl _,λm z=>z⟩;refine⟨d.act (by omega) (FQ (by omega)),Cx G d (by omega) o,λj=>(r j).trans (q.1 j),λe=>by rw[E5 _ (by omega)];exact y (by omega),λe=>?_⟩;by_cases F:i<k
   .intro j f a;obtain⟨x,l⟩:=p F j f a;rw[E5 A (i:=k) (j:=i) (by omega)];have:=(q.1 j).ag.length_le;refine⟨x,?_⟩;rcases l with l|⟨m,l,g3,g4,g5,g6⟩
    .exact .inl (by omega)
    .exact .inr ⟨m,q.2 m l,g3,g4,by omega,g6⟩
   .obtain rfl:k=i:=by omega
    have D:=y (A' _);have:=T5 u d (by omega) o (λj f a=>by
     have:=(r j).ag.length_le;have:=t j f a;rw[D];omega)
    rw[D]at this;exact this
 obtain⟨d,o,r,_,p⟩:=O 5 (A' _);have p:=p u.hi;rw[EC];generalize M.fa (AD 3 5)=A at d o r p ⊢;have key:∀ j,j<5->j≠i->((A.act (acN 7 0)).ae i).av.bN j<=((A.act (acN 7 0)).ae j).ab.length/\(M.ae i).ab.length<=((A.act (acN 7 0)).ae i).av.bN j:=λj f a=>by
  obtain⟨x,l⟩:=p j f a;rcases l with l|⟨m,l,g3,g4,g5,g6⟩
  .obtain⟨N,w,v,_⟩:=Cn (I:=λN=>PhL C K B cov i b N/\(N.ae i).av.bN=(A.ae i).av.bN/\Ev (A.ae j) (N.ae j)) (λX N s g=>⟨g.1.step u s.rJ,(g.1.pe.tk s).trans g.2.1,g.2.2.trans (s.rJ.ev j)⟩) d ⟨o,rfl,.refl _⟩;rw[w];show(N.ae i).av.bN j<=(N.ae j).ab.length/\_<=(N.ae i).av.bN j;have:=v.2.2.ag.length_le;rw[v.2.1];omega
  .obtain⟨N,w,v,k3,_⟩:=DI (I:=λN=>PhL C K B cov i b N/\(N.ae i).av.bN=(A.ae i).av.bN/\Ev (A.ae j) (N.ae j)) (J:=λN=>(A.ae i).av.bN j<=(N.ae j).ab.length) (λX N s g=>⟨g.1.step u s.rJ,(g.1.pe.tk s).trans g.2.1,g.2.2.trans (s.rJ.ev j)⟩) (λX N s g k=>by have:=(s.rJ.ev j).ag.length_le;omega) d ⟨o,rfl,.refl _⟩ l (λN g=>by rw[g4];exact g.1.pe.pb.cm.up j f) (λN g _=>by
    have H:=g.2.2.ag.length_le;rw[g4,Am,if_pos rfl];unfold Nod.take;rw[g3];simp only;rw[if_neg (by omega)];show _<=((N.ae j).ab++m.gC.drop ((N.ae j).ab.length-m.bu)).length;rw[H',mF];omega)
   rw[w];show(N.ae i).av.bN j<=(N.ae j).ab.length/\_<=(N.ae i).av.bN j;rw[v.2.1];exact⟨k3,x⟩
 refine⟨λj f a=>(key j f a).1,λj f=>?_⟩;by_cases e:j=i
 .subst e;have:=h.round u E L;rw[EC]at this
  obtain⟨N,w,v,_⟩:=Cn (I:=λN=>Ev (A.ae j) (N.ae j)) (λX N s g=>g.trans (s.rJ.ev j)) d (.refl _);rw[w];exact((r j).trans v).ag.length_le
 .have:=key j f e;omega
def K1(M:Meet):Prop:=∀ m∈M.br,m.kind=1->m.gC.length<=(M.ae m.src).ab.length
theorem K1.step{c:Nat}{M N:Meet}(s:Stp wh0 c M N)(h:K1 M):K1 N:=by
 have f:∀ m∈M.br,m.kind=1->m.gC.length<=(N.ae m.src).ab.length:=λm i a=>my (h m i a) (s.ev m.src).ag.length_le;intro m i a;cases s with
 | br _ ls hl hd=>exact False.elim hd
 | ask _ k hi hu =>
  rcases P'.1 i with g|g
  .exact f m g a
  .unfold Nod.kc at g;split at g
   .cases g
   .split at g
    .cases g
    .rw[D'.1 g]at a;cases a
 | run _ k hi hu q l hp hs =>
  rcases P'.1 i with g|g
  .exact f m g a
  .cases q with
   | began b vs =>
    unfold Nod.rh at g;simp only at g;split at g
    .cases g
    .have:=(DA g).1;rw[a]at this;cases this
   | prop v=>have:=(DA g).1;rw[a]at this;cases this
   | start=>have:=(DA g).1;rw[a]at this;cases this
   | prom to b vs =>
    rw[D'.1 g];show(M.ae k).ab.length<=((M.set k { (M.ae k).lr k (.prom to b vs)with bw:=l } _ _).ae k).ab.length;rw[Bv];exact A' _
   | _=>have e:=D'.1 g;rw[e]at a;cases a
 | rk _ k hi hu hL =>
  rcases P'.1 i with g|g
  .exact f m g a
  .have:=(J5 5 m g).1;omega
 | lead _ k hi hu hL=>exact False.elim hL
 | sub _ k d hi hu hD=>exact False.elim hD
 | lp _ k x hi hu a hC=>exact False.elim hC
 | start _ k hi hu hs=>exact False.elim hs
 | _=>exact f m i a
end
section
variable{C:List Cmd}{K:Int}{B:Nat->Bal}{cov:List (Bal × Nat)}{i:Nat}{b:Bal}
theorem Tv(a:PhC C K B cov i b){n:Nat}{M:Meet}(o:MOk n M)(O:n+6<=1000000)(h:PhL C K B cov i b M){v:Vt}(L:Ah v)(d:v.b=b)(z:Bz i v M)(Q:(M.ae i).ab.length<(M.ae i).av.next) :
  v.bu<(((M.fa An).ae i).ab.length:Int)/\((M.fa An).ae i).av.next=(M.ae i).av.next:=by
 have q:∀ c A N,Stp wh1 c A N->PhL C K B cov i b A->PhL C K B cov i b N:=λc A N s g=>g.step a s.calm;have x:∀ A N,TkS A N->PhL C K B cov i b A->PhL C K B cov i b N:=λA N s g=>g.step a s.rJ;have E:=h.round a o O;have m:=Bl q o (by omega) h;have t:((M.fa (AD 3 5)).ae i).av.next=(M.ae i).av.next:=by
  obtain⟨N,F,S,T⟩:=Id M a.hi;have H:PhL C K B cov i b N:=by
   rw[S];have P:∀ k,k<=5->MOk (n+k) (M.fa (AD 3 k))/\PhL C K B cov i b (M.fa (AD 3 k)):=by
    intro k;induction k with
    | zero=>exact λ_=>⟨o,h⟩
    | succ k ih =>
     intro r;obtain⟨w,G⟩:=ih (by omega);rw[BR,AJ];exact⟨w.act (by omega) (FQ (by omega)),Cx q w (by omega) G⟩
   have:=a.hi;exact(P i (by omega)).2
  rw[T,W6 a H (by rw[F];exact Q),F]
 refine⟨?_,by rw[E.2.2.2.2,t]⟩;have p:=Bl (I:=λN=>PhL C K B cov i b N/\v∈((N.ae i).av.an i).vs) (λc A N s g=>⟨q c A N s g.1,g.1.pe.qX a s.calm d a.hi g.2⟩) o (by omega) ⟨h,z.1⟩;have D:∀ j,j<5->j≠i->({ BC 4 with cn:=v,src:=j,dst:=i }:Let)∈(M.fa (AD 3 5)).br:=λj f e =>
  Fp (J:=λN=>({ BC 4 with cn:=v,src:=j,dst:=i }:Let)∈N.br) q (λc A N s _ g=>s.calm.rF g) (λA k g r=>⟨g.pe.pb.cm.up k r,g.pe.pb.cm.rY r⟩) o (by omega) h f (z.2 j f e) λN l g _ _=>mB _ (D'.2 rfl)
 refine E.1.ld v d λj f=>?_;rw[EC];generalize M.fa (AD 3 5)=A at m D p ⊢;by_cases e:j=i
 .subst e;obtain⟨N,u,R,_⟩:=Cn (I:=λN=>PhL C K B cov j b N/\v∈((N.ae j).av.an j).vs) (λA N s g=>⟨x A N s g.1,g.1.pe.qX a s.rJ d f g.2⟩) m.1 ⟨m.2,p.2.2⟩;rw[u];exact R.2
 .obtain⟨N,u,_,k3,_⟩:=DI (J:=λN=>v∈((N.ae i).av.an j).vs) x (λA N s g k=>g.pe.qX a s.rJ d f k) m.1 m.2 (D j f e) (λN g=>g.pe.pb.cm.up i a.hi) (λN g _=>by
   rw[Am,if_pos rfl];have ac:=g.pe.acc a f;have y:(N.ae i).av.hU=b:=(g.pe.pb.cm.hU i a.hi).trans a.hB;exact PO (d.trans y.symm) ac.1 L (ac.2.trans y.symm))
  rw[u];exact k3
def mu(i:Nat)(M:Meet):Nat:=2*(40-(M.ae i).ab.length)+(if(M.ae i).av.next<=(M.ae i).ab.length then 1 else 0)
def Zz(i:Nat)(b:Bal)(M:Meet):Prop:=(M.ae i).av.next<=(M.ae i).ab.length\/∃ v:Vt,Ah v/\v.b=b/\v.bu=((M.ae i).ab.length:Int)/\Bz i v M
theorem gY(q:PhC C K B cov i b){M:Meet}(h:PhL C K B cov i b M)(x:(M.ae i).av.next<=(M.ae i).ab.length)(d:(M.ae i).ab.length<40->(M.ae i).qY (M.ae i).ab.length=Option.none):Fin_ i (M.ae i).ab M:=by
 refine⟨rfl,x,λf j s v t e=>?_,λf c n=>nc λe=>?_⟩
 .have d:=d f;unfold Nod.qY at d;have p:∀ l∈(M.ae i).av.jv.map (·.vs),∀ u∈l,Ah u:=λl o u k=>by
   obtain⟨a,f,rfl⟩:=mQ.1 o;unfold Rnd.jv at f;simp only[mG,Q',or_false]at f;rcases f with e|e|e|e|e<;>(rw[e]at k;exact((h.pe.acc q (by omega)).1.2.1 u k).1)
  have m:Ce ((M.ae i).av.jv.map (·.vs)) ((M.ae i).ab.length:Int)=0:=by unfold Ce;rw[if_neg (λg=>g (by omega)),if_pos p]
  have r:DX ((M.ae i).av.jv.map (·.vs)) ((M.ae i).ab.length:Int)=true:=by
   unfold DX;rw[if_pos m];have:v∈Ae ((M.ae i).av.jv.map (·.vs)).flatten ((M.ae i).ab.length:Int):=Be.2 ⟨oT.2 ⟨((M.ae i).av.an j).vs,mQ.2 ⟨(M.ae i).av.an j,by unfold Rnd.jv;rcases ri s with rfl|rfl|rfl|rfl|rfl<;>simp,rfl⟩,t⟩,e⟩;unfold FY;generalize Ae _ _=l at this;have key:∀ (l:List Vt) (u:Vt),(BQ l (some u)).isSome=true:=by
    intro l;induction l with
    | nil=>exact λu=>rfl
    | cons w l ih=>intro u;rw[BQ];split<;>exact ih _
   cases l with
   | nil=>cases this
   | cons w l=>exact key l w
  rw[if_neg (λg=>g m),if_pos r]at d
  cases d
 .have d:=d f;unfold Nod.qY at d;have p:∀ l∈(M.ae i).av.jv.map (·.vs),∀ u∈l,Ah u:=λl o u k=>by
   obtain⟨a,f,rfl⟩:=mQ.1 o;unfold Rnd.jv at f;simp only[mG,Q',or_false]at f;rcases f with e|e|e|e|e<;>(rw[e]at k;exact((h.pe.acc q (by omega)).1.2.1 u k).1)
  have m:Ce ((M.ae i).av.jv.map (·.vs)) ((M.ae i).ab.length:Int)=0:=by unfold Ce;rw[if_neg (λg=>g (by omega)),if_pos p]
  rw[if_neg (λg=>g m)]at d
  split at d
  .cases d
  .exact absurd (nK.1 d c n) (by simpa using e)
theorem Ln(m:Nat):An++Ak m=Ak (m+1):=by
 induction m with
 | zero=>rfl
 | succ m ih=>show An++(Ak m++An)=Ak (m+1)++An;rw[<- mA,ih]
theorem im(a:PhC C K B cov i b)(A:14*K+38*(cov.length:Int)<=99000)(j:∀ c∈C,c.e=0)(k:Nat){n:Nat}{M:Meet}(d:MOk n M)(H:n+6*k<=999000)(h:PhL C K B cov i b M)(z:Zz i b M)(t:TT0 i M)(f:mu i M<=k) :
  ∃ m,m<=k/\Fin_ i ((M.fa (Ak m)).ae i).ab (M.fa (Ak m))/\PhL C K B cov i b (M.fa (Ak m))/\TT0 i (M.fa (Ak m))/\MOk (n+6*m) (M.fa (Ak m)):=by
 induction k generalizing n M with
 | zero =>
  have:=h.nx;unfold mu at f;split at f<;>omega
 | succ k ih =>
  have F:=h.nx;have D:=(d.ae i a.hi).ag;by_cases o:(M.ae i).av.next<=(M.ae i).ab.length
  .by_cases hf:(M.ae i).ab.length<40->(M.ae i).qY (M.ae i).ab.length=Option.none
   .exact⟨0,mV _,gY a h o hf,h,t,d⟩
   .obtain⟨ha,p⟩:=Classical.not_imp.1 hf;obtain⟨c,p⟩:=oz.1 p;have g:=h.round a d (by omega);have l:=Tu a A j d (by omega) h ha o p;have E:=(g.2.2.2.1 i).ag.length_le;have q:Ah ⟨((M.ae i).ab.length:Int),b,c⟩:=⟨by show(0:Int)<=((M.ae i).ab.length:Int)/\((M.ae i).ab.length:Int)<=39;omega,a.hb,j c (KD (h.pe.pb.cm.s.nd i a.hi) p)⟩;obtain⟨m,y,r,u,x,w⟩:=ih (M:=M.fa An) (n:=n+6) g.2.1 (by omega) g.1 (by
     by_cases e:((M.fa An).ae i).ab.length=(M.ae i).ab.length
     .exact .inr ⟨_,q,rfl,by rw[e],l.1⟩
     .exact .inl (by rw[l.2];omega)) (Mu a d (by omega) h t).1 (by
     unfold mu at f ⊢;rw[if_pos o]at f
     split<;>omega)
    refine⟨m+1,by omega,?_⟩;rw[<- Ln,AK];exact⟨r,u,x,by rw[show n+6*(m+1)=n+6+6*m by omega];exact w⟩
  .rcases z with z|⟨v,q,hvb,hs,z⟩
   .exact absurd z o
   .have g:=h.round a d (by omega);have l:=Tv a d (by omega) h q hvb z (by omega);rw[hs]at l
    have G:=q.1.2;obtain⟨m,y,r,u,x,w⟩:=ih (M:=M.fa An) (n:=n+6) g.2.1 (by omega) g.1 (.inl (by rw[l.2];omega)) (Mu a d (by omega) h t).1 (by
     unfold mu at f ⊢;rw[if_neg o]at f
     split<;>omega)
    refine⟨m+1,by omega,?_⟩;rw[<- Ln,AK];exact⟨r,u,x,by rw[show n+6*(m+1)=n+6+6*m by omega];exact w⟩
end
section
variable{C:List Cmd}{K:Int}{B:Nat->Bal}{cov:List (Bal × Nat)}{i:Nat}{b:Bal}
def AW(b:Bal)(j:Nat)(N:Meet):Prop:=(N.ae j).vo.p=b/\∀ c x,(N.ae j).cl c=some x->x=b
theorem TS(d:b≠Bd){p:Nod}{j:Nat}(g:p.vo.p=b){c:Cmd}{x:Bal}(a:(p.kc j).1.cl c=some x):x=b\/(p.cl c=some x/\c∉p.bn.take 40):=by
 have a:(Ba p.vo.p p.cl (p.bn.take 40)).2 c=some x:=by
  unfold Nod.kc at a;split at a
  .exact a
  .split at a
   .unfold Nod.dT at a;split at a<;>exact a
   .exact a
 rw[g]at a
 have f:=KQ d (p.bn.take 40) p.cl;by_cases e:c∈p.bn.take 40
 .rw[f.2.1 c e]at a;exact .inl (nf a).symm
 .rw[f.1 c e]at a;exact .inr ⟨a,e⟩
theorem PhC.b0(a:PhC C K B cov i b):b≠Bd:=λe=>by have:=a.hb;rw[e]at this;exact absurd this (by decide)
theorem AW.step(d:PhC C K B cov i b){n:Nat}{M N:Meet}(s:Stp wh0 n M N)(h:PhB C K B cov i b M){j:Nat}(f:j<5)(a:AW b j M):AW b j N:=by
 refine⟨h.cm.top d.hc s d.hb.pr d.hK f a.1,λc x e=>?_⟩;rcases s.cl e with g|⟨_,rfl⟩
 .exact a.2 c x g
 .rw[Am,if_pos rfl]at e
  exact(TS d.b0 a.1 e).elim id λg=>a.2 c x g.1
theorem eG(a:PhC C K B cov i b){M:Meet}(h:PhB C K B cov i b M){j:Nat}(d:j<5)(w:(M.ae j).vo.p=b):AW b j (M.act (acN 3 (j:Int))):=by
 have v:=h.cm.up j d;obtain⟨k,s0,J,H,a0,l,q,F,z,E⟩:=Ic (D:=wh1) d v;have m:∀ c A N,Stp wh1 c A N->(PhB C K B cov i b A/\(A.ae j).vo.p=b)->PhB C K B cov i b N/\(N.ae j).vo.p=b:=λc A N s g=>⟨g.1.step a s.calm,(s.sU j).trans g.2⟩;have e:=s0.inv m ⟨h,w⟩;have f:=z.inv m e;have n:=e.1.ak j d;have G:=OU n.nd λc r=>(e.1.cm.s.nd j d).wa c r;have t:=a.hC;have u:(k.ae j).bn.take 40=(k.ae j).bn:=mJ (by omega);have y:AW b j l:=⟨f.2,λc x o=>by
  rw[q,Bv]at o
  refine(TS a.b0 e.2 o).elim id λg=>absurd ?_ g.2;rw[u,n.wa c,g.1];rfl⟩
 have s3:=Stp.prop (D:=wh1) l j d F;exact(E.inv (I:=λN=>PhB C K B cov i b N/\AW b j N) (λc A N s g=>⟨g.1.step a s.calm,g.2.step a s.calm g.1 d⟩) ⟨f.1.step a s3.calm,y.step a s3.calm f.1 d⟩).2
def T1(i:Nat)(N:Meet):Prop:=∀ j,j<5->j≠i->(N.ae i).av.qZ j=true->(N.ae i).av.bN j<=(N.ae j).ab.length
theorem T1.tk{M N:Meet}(s:TkS M N)(k:K1 M)(t:T1 i M):T1 i N:=by
 intro j n d f;have p:=(s.rJ.ev j).ag.length_le;have a:(N.ae i).av.bN j=(M.ae i).av.bN j->(N.ae i).av.qZ j=(M.ae i).av.qZ j->(N.ae i).av.bN j<=(N.ae j).ab.length:=λq h=>by
  have:=t j n d (by rw[<- h];exact f);omega
 obtain⟨l,o,r,u,rfl⟩:=s;by_cases e:i=l.dst
 .have en:((M.set l.dst ((M.ae l.dst).take l) M.br M.ed).ae i)=(M.ae i).take l:=by rw[Am,if_pos e,<- e]
  by_cases c:l.kind=1
  .rw[en]at a f ⊢
   have m:(M.ae i).take l=if((M.ae i).ln 0 l.gC).leads=false\/l.hU≠(M.ae i).av.hU\/(M.ae i).av.qZ l.src=true then(M.ae i).ln 0 l.gC else Nod.rj { (M.ae i).ln 0 l.gC with av:={ (M.ae i).av.rC l.src l.mv with bN:=upN (M.ae i).av.bN l.src l.gC.length } }:=by
    unfold Nod.take;rw[c];rfl
   rw[m]at a f ⊢
   split
   .rename_i hc
    rw[if_pos hc]at a
    exact a rfl rfl
   .rename_i hc
    rw[if_neg hc]at a
    show upN (M.ae i).av.bN l.src l.gC.length j<=_;by_cases b:j=l.src
    .rw[<- b,CZ];have:=k l o c;rw[<- b]at this
     omega
    .rw[Dw _ _ b];have:=a (by show upN (M.ae i).av.bN l.src l.gC.length j=_;rw[Dw _ _ b]) (by show upN (M.ae i).av.qZ l.src true j=_;rw[Dw _ _ b]);have g:upN (M.ae i).av.bN l.src l.gC.length j<=_:=this;rw[Dw _ _ b]at g
     exact g
  .have:((M.ae i).take l).av.bN=(M.ae i).av.bN/\((M.ae i).take l).av.qZ=(M.ae i).av.qZ:=by
    unfold Nod.take;split
    .split
     .unfold Nod.ew;split<;>exact⟨rfl,rfl⟩
     .show((M.ae i).au _).1.av.bN=_/\((M.ae i).au _).1.av.qZ=_;rw[(Bh _ _).2];exact⟨rfl,rfl⟩
    .rename_i hk;exact absurd hk c
    .exact⟨rfl,rfl⟩
    .split
     .unfold Nod.ew;split<;>exact⟨rfl,rfl⟩
     .show((M.ae i).cn _).1.av.bN=_/\((M.ae i).cn _).1.av.qZ=_;rw[(C6 _ _).2];exact⟨rfl,rfl⟩
    .unfold Nod.count;split
     .exact⟨rfl,rfl⟩
     .split<;>exact⟨rfl,rfl⟩
    .split<;>exact⟨rfl,rfl⟩
    .simp only;unfold Nod.dT;split<;>split<;>exact⟨rfl,rfl⟩
    .exact⟨rfl,rfl⟩
   exact a (by rw[en,this.1]) (by rw[en,this.2])
 .have en:((M.set l.dst ((M.ae l.dst).take l) M.br M.ed).ae i)=M.ae i:=by rw[Am,if_neg e]
  exact a (by rw[en]) (by rw[en])
theorem dO(f:PhC C K B cov i b){n:Nat}{M:Meet}(u:MOk n M)(U:n+6<=1000000)(h:PhB C K B cov i b M)(q:QA i b M)(y:∀ j,j<5->(M.ae j).vo.p=b)(hp:(M.ae i).av.qZ i=true)(hw:∀ j,j<5->j≠i->∃ vs,Pend.prom i b vs∈(M.ae j).bw)(o:P1 i (M.ae i))(hl:M.br=[]) :
  PhL C K B cov i b (M.fa An)/\Zz i b (M.fa An)/\TT0 i (M.fa An)/\MOk (n+6) (M.fa An):=by
 have hP:∀ A N,TkS A N->PhB C K B cov i b A->PhB C K B cov i b N:=λA N s g=>g.step f s.rJ;have T:∀ c A N,Stp wh1 c A N->PhB C K B cov i b A->PhB C K B cov i b N:=λc A N s g=>g.step f s.calm;have hq:=QJ f u U h q;have d:∀ j,j<5->j≠i->((M.fa An).ae i).av.qZ j=true:=λj a l=>by
  obtain⟨vs,g⟩:=hw j a l;exact Wf f u U h a g
 have Q:=Bl (I:=λN=>PhB C K B cov i b N/\(∀ j,j<5->(N.ae j).vo.p=b)/\P1 i (N.ae i)/\K1 N/\(N.ae i).av.qZ i=true) (λc A N s g=>⟨T c A N s g.1,λj a=>(s.sU j).trans (g.2.1 j a),s.p1 g.2.2.1,g.2.2.2.1.step s.calm,(s.calm.ev i).qZ i g.2.2.2.2⟩) u (by omega) ⟨h,y,o,λm w=>by rw[hl]at w;(cases w),hp⟩;have R:∀ j,j<5->AW b j (M.fa (AD 3 5)):=λj a=>Mg (I:=λN=>PhB C K B cov i b N/\(N.ae j).vo.p=b) (J:=AW b j) (λc A N s g=>⟨T c A N s g.1,(s.sU j).trans g.2⟩) (λc A N s g k=>k.step f s.calm g.1 a) u (by omega) ⟨h,y j a⟩ a λN m _ _ g _=>eG f g.1 a g.2;have S:NB ((M.fa (AD 3 5)).ae i):=by
  obtain⟨N,W,n2,n3⟩:=Id M f.hi;rw[n3,GX (by rw[W];exact h.cm.up i f.hi),Am,if_pos rfl];intro x vs g;rw[H9 (by rw[W];exact h.cm.rY f.hi)]at g
  cases g
 obtain⟨z,D,L,E⟩:=hq;rw[EC]at z D L E d ⊢
 generalize M.fa (AD 3 5)=A at Q R S z D L E d ⊢;obtain⟨Y,Z,a0,o,F,G⟩:=Q;obtain⟨N,k1,k2,_⟩:=Cn (I:=λN=>PhB C K B cov i b N/\(∀ j,j<5->AW b j N)/\NB (N.ae i)/\(N.ae i).av.qZ i=true/\(N.ae i).av.next=0/\K1 N/\T1 i N) (λX N s g=>⟨hP X N s g.1,λj a=>(g.2.1 j a).step f s.rJ g.1 a,s.rJ.nb g.2.2.1,(s.rJ.ev i).qZ i g.2.2.2.1,(s.rJ.rO i).trans g.2.2.2.2.1,g.2.2.2.2.2.1.step s.rJ,g.2.2.2.2.2.2.tk s g.2.2.2.2.2.1⟩) Y ⟨Z,R,S,G,o.1,F,λj a l e=>by rw[o.2 j l]at e;cases e⟩;rw[k1]at z D L E d ⊢
 obtain⟨r1,O,r3,r4,P,r6,r7⟩:=k2;have d:∀ j,j<5->(N.ae i).av.qZ j=true:=λj a=>by
  by_cases e:j=i
  .rw[e];exact r4
  .exact d j a e
 have t:PhE C K B cov i b { N with br:=[] }:=⟨z,λj a=>(O j a).1,d,r3,λj a=>(O j a).2,λm w=>(by cases w),λj a c hc=>by
  have ha:=((r1.ak j a).wa c).1 hc;obtain⟨x,V⟩:=nF.1 ha;exact D j a c (by rw[show((({ N with br:=[] }:Meet).ae j).cl c)=some x from V,(O j a).2 c x V])⟩
 refine⟨⟨t,λv H y=>?_,by show(N.ae i).av.next<=_/\(N.ae i).av.next<=40;rw[P];omega⟩,.inl (by show(N.ae i).av.next<=_;rw[P];exact mV _),λj a l=>r7 j a l (d j a),E⟩;obtain⟨σ,g,_⟩:=t.pb.cm.ex;have r:=g.gs.hv 0 v ((t.rd f g).1.an 0 (by omega) v (y 0 (by omega))).1;have:=t.lt f g r H;have e:(({ N with br:=[] }:Meet).ae i).av.next=0:=P;rw[e]at this
 have:=r.1.1;omega
end
end Go.Proofs.YtcjcngceghfoeaaGreatDoor
