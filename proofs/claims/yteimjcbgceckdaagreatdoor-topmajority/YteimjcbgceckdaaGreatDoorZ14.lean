/- Part 14 of the walk. -/
import Derived.Test.YteimjcbgceckdaaGreatDoorZ13
set_option maxRecDepth 100000
set_option maxHeartbeats 4000000
set_option linter.unusedVariables false
namespace Go.Proofs.YteimjcbgceckdaaGreatDoor
structure Up(U:Nat->Bool)(j:Nat):Prop where
 lt:j<5
 up:U j=true
instance {U:Nat->Bool} {j:Nat}:CoeOut (Up U j) (j<5):=⟨Up.lt⟩
section
variable{I J:Meet->Prop}
theorem Gu(f:∀ c M N,Stp wh1 c M N->I M->I N)(i:∀ c M N,Stp wh1 c M N->I M->J M->J N){n:Nat}{M:Meet}(o:MOk n M)(r:n+5<=1000000)(h:I M){j:Nat}(k:j<5)(v:∀ M,I M->(M.ab j).up=true/\Be (M.ab j).d (M.ab j).sy){q:Pend}(t:q∈(M.ab j).bu)
  (u:∀ N l,I N->Ev (M.ab j) (N.ab j)->(N.ab j).bu=q::l->J (N.set j { (N.ab j).nf j q with bu:=l } (N.br++(N.ab j).qq j q) N.ed)):J (M.ew (Bz 3 5)) :=
 IB (I:=I) f i o r h k λN m p w a e=>by
  have b:=v N a;exact Wr (I:=λX=>I X/\Ev (M.ab j) (X.ab j)) (λc A B s g=>⟨f c A B s g.1,g.2.trans (s.calm.ev j)⟩) (λc A B s g=>i c A B s g.1) p k b.1 b.2 (by rw[e];exact t) ⟨a,by rw[e];exact .refl _⟩ λX l g=>u X l g.1 g.2
end
section
variable{U:Nat->Bool}{S:Cmd->Prop}{K:Int}{B:Nat->Bal}{cov:List (Bal × Nat)}{M:Meet}
section
structure Um(U:Nat->Bool)(S:Cmd->Prop)(K:Int)(B:Nat->Bal)(cov:List (Bal × Nat))(M:Meet):Prop where
 ex:∃ σ,AgI σ M/\∀ b s c,σ.W b s c->(b,s)∈cov
 kb:K<=3600/\KbI K 3600 M
 ub:∀ j,j<5->(M.ab j).up=U j
 jv:∀ j,j<5->(M.ab j).bn.jv=B j
 s:MtS S M
 ls:∀ m∈M.br,U m.src=true
variable{M N:Meet}{c:Nat}
theorem Um.up(h:Um U S K B cov M)(j:Nat)(a:Up U j):(M.ab j).up=true:=(h.ub j a.lt).trans a.up
theorem Um.of(h:Um U S K B cov M){k:Nat}(a:k<5)(b:(M.ab k).up=true):Up U k:=⟨a,(h.ub k a).symm.trans b⟩
theorem Stp.sL(s:Stp wh0 c M N){m:Let}(f:m∈N.br):m∈M.br\/(m.src<5/\(M.ab m.src).up=true):=by
 have a:∀ {i:Nat} {l:Let} {k:Nat},m∈BA i l k->m.src=i:=λ{i l k} h=>by
  unfold BA at h;obtain⟨j,_,rfl⟩:=mt.1 h;rfl
 cases s with
 | br _ ls hl hd=>exact False.elim hd
 | ask _ i hi hu =>
  rcases U'.1 f with g|g
  .exact .inl g
  .right;unfold Nod.lp at g;split at g
   .cases g
   .split at g
    .cases g
    .rw[D'.1 g];exact⟨hi,hu⟩
 | run _ i hi hu q l hp hs2 =>
  rcases U'.1 f with g|g
  .exact .inl g
  .right;have e:m.src=i:=by
    cases q with
    | began b vs =>
     simp only[Nod.qq]at g;split at g
     .cases g
     .exact a g
    | prop v=>exact a g
    | start=>exact a g
    | _=>rw[D'.1 g]
   rw[e];exact⟨hi,hu⟩
 | teach _ i hi hu hL =>
  rcases U'.1 f with g|g
  .exact .inl g
  .right;have e:∀ k,m∈CS (M.ab i) i k->m.src=i:=by
    intro k;induction k with
    | zero=>intro g;cases g
    | succ k ih =>
     intro g;rw[CS]at g
     rcases U'.1 g with g|g
     .exact ih g
     .split at g
      .rw[D'.1 g]
      .cases g
   rw[e 5 g];exact⟨hi,hu⟩
 | lead _ i hi hu hL=>exact False.elim hL
 | sub _ i d hi hu hD=>exact False.elim hD
 | lr _ i k hi hu hk hC=>exact False.elim hC
 | start _ i hi hu a=>exact False.elim a
 | _=>exact .inl f
theorem Um.src(h:Um U S K B cov M){m:Let}(b:m∈M.br)(a:m.src<5):Up U m.src:=⟨a,h.ls m b⟩
theorem Um.step(o:∀ j,j<5->∀ s,s<40->(B j,s)∈cov){c:Nat}{M N:Meet}(s:Stp wh0 c M N)(h:Um U S K B cov M):Um U S K B cov N:=by
 obtain⟨σ,d,f⟩:=h.ex;obtain⟨τ,q,r,k,l,n⟩:=d.step s;refine⟨⟨τ,k,λb t c g=>?_⟩,⟨h.kb.1,h.kb.2.step (λe=>e) d s h.kb.1⟩,λj a=>(s.ev j).up.trans (h.ub j a),λj a=>(s.ev j).jv.trans (h.jv j a),h.s.step (λ_ _ e=>False.elim e) s,λm p=>(s.sL p).elim (h.ls m) λg=>(h.ub _ g.1).symm.trans g.2⟩;rcases l b t c g with g|g
 .exact f b t c g
 .obtain⟨_,h7,i,hi,e⟩:=n b t g;rw[e,h.jv i hi];exact o i hi t h7
theorem Um.rC(h:Um U S K B cov M){j:Nat}(a:Up U j):Be (M.ab j).d (M.ab j).sy:=by
 obtain⟨σ,b,_⟩:=h.ex;obtain⟨c,k⟩:=(b.nd j a).up (h.up j a);exact k.tp.rC
theorem Um.le(h:Um U S K B cov M){j:Nat}(a:Up U j):(M.ab j).vo.p.key<=K:=by
 have:=(h.kb.2 j a).1;unfold Nod.pk at this
 rwa [if_pos (h.up j a)]at this
theorem Um.len(h:Um U S K B cov M){j:Nat}(a:Up U j):((M.ab j).d.length:Int)<=14*K+38*(cov.length:Int):=by
 obtain⟨σ,b,c⟩:=h.ex;have e:=ao b c a (h.up j a);have:=h.le a;omega
theorem Um.acc(h:Um U S K B cov M){j:Nat}(a:Up U j):Ag (M.ab j).vo:=by
 obtain⟨σ,b,_⟩:=h.ex;obtain⟨c,k⟩:=(b.nd j a).up (h.up j a);rw[k.tp.vo];exact k.tp.ok.acc
theorem Um.prom(h:Um U S K B cov M)(k:14*K+38*(cov.length:Int)<=99000){j:Nat}(a:Up U j){b:Bal}(c:Ab b)(i:¬ b.lt (M.ab j).vo.p):((M.ab j).av b).2.2=0/\((M.ab j).av b).1.vo.p=b:=by
 have e:Ck (M.ab j).vo b=0:=by unfold Ck;rw[if_neg (λg=>g (h.acc a)),if_neg (λg=>g c),if_neg i]
 have f:Cx (M.ab j).d (M.ab j).sy (Ab b) (Bm b)=0:=by
  have:=h.len a;unfold Cx;rw[Uv (h.rC a) (by rw[JU];omega),if_neg (λg=>g rfl),if_pos c]
 unfold Nod.av;rw[if_neg (λg=>g e)];split
 .exact⟨rfl,rfl⟩
 .rw[if_neg (λg=>g f)];exact⟨rfl,rfl⟩
theorem Um.sA(h:Um U S K B cov M)(k:14*K+38*(cov.length:Int)<=99000){j:Nat}(a:Up U j){v:Vt}(c:Ah v)(i:¬ v.b.lt (M.ab j).vo.p):((M.ab j).cl v).2=0/\((M.ab j).cl v).1.vo.p=v.b:=by
 have e:AT (M.ab j).vo v=0:=by unfold AT;rw[if_neg (λg=>g (h.acc a)),if_neg (λg=>g c),if_neg i]
 have f:Cx (M.ab j).d (M.ab j).sy (Ah v) (Bf v)=0:=by
  have:=h.len a;unfold Cx;rw[Uv (h.rC a) (by rw[Gz];omega),if_neg (λg=>g rfl),if_pos c]
 unfold Nod.cl;rw[if_neg (λg=>g e)];split
 .exact⟨rfl,rfl⟩
 .rw[if_neg (λg=>g f)];exact⟨rfl,rfl⟩
theorem Um.drop(h:Um U S K B cov M):Um U S K B cov { M with br:=[] }:=by
 obtain⟨σ,b,c⟩:=h.ex;exact⟨⟨σ,⟨b.gs,b.nd,λl a=>by cases a⟩,c⟩,h.kb,h.ub,h.jv,⟨h.s.nd,λl a=>by cases a⟩,λl a=>by cases a⟩
theorem Um.top(a:∀ j,j<5->∀ s,s<40->(B j,s)∈cov){c:Nat}{A N:Meet}(s:Stp wh0 c A N)(g:Um U S K B cov A){b:Bal}(h:Ao b)(k:b.key=K){j:Nat}(d:Up U j)(e:(A.ab j).vo.p=b):(N.ab j).vo.p=b:=by
 have f:=(s.ev j).vo;have i:=(g.step a s).le d;rw[e]at f
 exact DU ((g.step a s).acc d).1 h (by omega)
theorem WJ(D:∀ j,j<5->∀ s,s<40->(B j,s)∈cov)(hQ:14*K+38*(cov.length:Int)<=99000){n:Nat}{M:Meet}(Y:MOk n M)(hn:n+12<=1000000)(h:Um U S K B cov M){i:Nat}(u:Up U i){b:Bal}(k:Ab b)(X:b.key=K)(hB:B i=b)(Z:(M.ab i).vo.p=b)(O:∀ j,Up U j->j≠i->(M.ab j).vo.p.key<K){f:List Vt}(hq:.began b f∈(M.ab i).bu)(R:P1 i (M.ab i)) :
  Um U S K B cov (M.ew Am)/\(∀ j,Up U j->((M.ew Am).ab j).vo.p=b)/\((M.ew Am).ab i).bn.ql i=true/\(∀ j,Up U j->j≠i->∃ f,Pend.prom i b f∈((M.ew Am).ab j).bu)/\P1 i ((M.ew Am).ab i)/\(M.ew Am).br=[]/\MOk (n+6) (M.ew Am):=by
 have v:LacOk (acN 7 0):=by rw[<- Ez];decide
 have r:∀ c A N,Stp wh1 c A N->Um U S K B cov A->Um U S K B cov N:=λc A N s g=>g.step D s.calm;have t:∀ A N,TkS A N->Um U S K B cov A->Um U S K B cov N:=λA N s g=>g.step D s.qQ;have T:=Cf (I:=λN=>Um U S K B cov N/\(∀ j,(N.ab j).vo.p=(M.ab j).vo.p)/\P1 i (N.ab i)) (λc A N s g=>⟨r c A N s g.1,λj=>(s.sQ j).trans (g.2.1 j),s.p1 g.2.2⟩) Y (by omega) ⟨h,λ_=>rfl,R⟩;have E:=Gu (I:=λN=>Um U S K B cov N/\(N.ab i).vo.p=b) (J:=λN=>(∀ j,Up U j->j≠i->({ BI 0 with jv:=b,src:=i,dst:=j }:Let)∈N.br)/\(N.ab i).bn.ql i=true) (λc A N s g=>⟨r c A N s g.1,(s.sQ i).trans g.2⟩) (λc A N s _ g=>⟨λj a e=>s.calm.qK (g.1 j a e),(s.calm.ev i).ql i g.2⟩) Y (by omega) ⟨h,Z⟩ u (λA g=>⟨g.1.up i u,g.1.rC u⟩) hq (λN l g _ _=>by
  refine⟨λj a e=>lV _ ?_,?_⟩
  .simp only[Nod.qq];rw[if_neg (λe=>e g.2)];exact QH { BI 0 with jv:=b } a e
  .rw[Al,if_pos rfl];show((N.ab i).nf i (.began b f)).bn.ql i=true;simp only[Nod.nf];rw[if_neg (λe=>e g.2)];exact CT _ _ _)
 rw[show Am=Bz 3 5++[acN 7 0]from rfl,B2];generalize M.ew (Bz 3 5)=A at T E ⊢;obtain⟨z,d,q,G⟩:=T;have L:∀ m∈A.br,m.kind=1->m.src≠i->m.jv≠b:=λm Q hk hs e=>by
  obtain⟨σ,y,_⟩:=d.ex;have o:=d.src Q (z.br m Q).src;have F:=((y.lt m Q).k1 hk).1.le;have W:=(y.nd _ o.lt).rz;unfold Nod.pk at W;rw[if_pos (d.up _ o),q]at W
  have h4:=O _ o hs;have h6:m.jv.key<=σ.P m.src:=F;rw[e]at h6
  omega
 obtain⟨N,k1,⟨k2,k3,k4,k5,k6⟩,k7⟩:=CI (I:=λN=>Um U S K B cov N/\(N.ab i).vo.p=b/\P1 i (N.ab i)/\(N.ab i).bn.ql i=true/\N.br=A.br) (λC N s g=>by
  refine⟨t C N s g.1,g.1.top D s.qQ k.pr X u g.2.1,?_,(s.qQ.ev i).ql i g.2.2.2.1,?_⟩
  .obtain⟨l,hl,_,_,rfl⟩:=s;rw[Al];split
   .rename_i e
    rw[<- e];exact ef g.2.2.1 λy F=>by rw[g.1.jv i u,hB];exact L l (by rw[<- g.2.2.2.2];exact hl) y F
   .exact g.2.2.1
  .obtain⟨l,hl,_,_,rfl⟩:=s;exact g.2.2.2.2) z ⟨d,(q i).trans Z,G,E.2,rfl⟩
 have a:∀ j,Up U j->j≠i->((A.act (acN 7 0)).ab j).vo.p=b/\∃ f,Pend.prom i b f∈((A.act (acN 7 0)).ab j).bu:=λj a H=>by
  obtain⟨N',q1,q2,q3,_⟩:=EH (I:=Um U S K B cov) (J:=λN=>(N.ab j).vo.p=b/\∃ f,Pend.prom i b f∈(N.ab j).bu) t (λC N s g e=>⟨g.top D s.qQ k.pr X a e.1,by
   obtain⟨f,V⟩:=e.2;refine⟨f,?_⟩;obtain⟨l,_,_,_,rfl⟩:=s;rw[Al];split
   .rename_i e3;rw[<- e3];exact J3 V
   .exact V⟩) z d (E.1 j a H) (λN g=>g.up j a) (λN g _=>by
   rw[Al,if_pos rfl];have a0:=g.le a;have x:=g.prom hQ a k (by rw[Fr k.pr (g.acc a).1];omega);have e:(N.ab j).take ({ BI 0 with jv:=b,src:=i,dst:=j }:Let)=((N.ab j).av b).1.wait (.prom i b ((N.ab j).av b).2.1):=by
    show(if((N.ab j).av b).2.2≠0 then _ else _)=_;rw[if_neg (λg=>g x.1)]
   rw[e];exact⟨x.2,_,lV _ (D'.2 rfl)⟩)
  rw[q1];exact q3
 have w:=z.act (by omega) v;rw[k1]at a w ⊢
 exact⟨k2.drop,λj o=>by
  by_cases e:j=i
  .rw[e];exact k3
  .exact(a j o e).1,k5,λj o e=>(a j o e).2,k4,rfl,w⟩
end
end
section
variable{U:Nat->Bool}{C:List Cmd}{K:Int}{B:Nat->Bal}{cov:List (Bal × Nat)}{i:Nat}{b:Bal}{A:List Cmd}
structure UB(U:Nat->Bool)(C:List Cmd)(K:Int)(B:Nat->Bal)(cov:List (Bal × Nat))(i:Nat)(b:Bal)(M:Meet):Prop where
 cm:Um U (λc=>c∈C) K B cov M
 ak:∀ j,j<5->AskI (M.ab j)
 vi:(M.ab i).vo.p=b
structure UC(U:Nat->Bool)(C:List Cmd)(K:Int)(B:Nat->Bal)(cov:List (Bal × Nat))(i:Nat)(b:Bal):Prop where
 hc:∀ j,j<5->∀ s,s<40->(B j,s)∈cov
 hC:C.length<40
 hi:Up U i
 hb:Ab b
 hU:3<=FJ U
 hn:b.n=(i:Int)
 hB:B i=b
 hK:b.key=K
theorem UB.step(a:UC U C K B cov i b){n:Nat}{M N:Meet}(s:Stp wh0 n M N)(h:UB U C K B cov i b M):UB U C K B cov i b N:=by
 obtain⟨σ,g,_⟩:=h.cm.ex;exact⟨h.cm.step a.hc s,AskI.step s g h.ak,h.cm.top a.hc s a.hb.pr a.hK a.hi h.vi⟩
theorem UB.leads(a:UC U C K B cov i b){M:Meet}(h:UB U C K B cov i b M):(M.ab i).leads=true:=by
 have c:=a.hb;unfold Nod.leads;refine O' ⟨?_,?_⟩
 .rw[h.cm.jv i a.hi,a.hB];intro e;rw[e]at c
  exact absurd c (by decide)
 .rw[h.cm.jv i a.hi,a.hB,h.vi]
def UQ(U:Nat->Bool)(i:Nat)(b:Bal)(M:Meet):Prop:=∀ j,Up U j->∀ c,(M.ab j).bN c=some b->c∈(M.ab i).bn.fv\/∃ m∈M.br,m.kind=6/\m.dst=i/\c∈m.hZ
theorem UQ.step(t:UC U C K B cov i b){n:Nat}{M N:Meet}(s:Stp wh0 n M N)(h:UB U C K B cov i b M)(q:UQ U i b M):UQ U i b N:=by
 intro j x c a;have z:b≠AY:=λe=>by have:=t.hb;rw[e]at this;exact absurd this (by decide)
 by_cases e:(M.ab j).bN c=some b
 .rcases q j x c e with g|⟨m,g1,g2⟩
  .exact .inl ((s.ev i).qu.subset g)
  .exact .inr ⟨m,s.qK g1,g2⟩
 .rcases s.bN a with g|⟨_,rfl⟩
  .exact absurd g e
  .rw[Al,if_pos rfl]at a
   have E:=h.ak j x;have y:(AV (M.ab j).vo.p (M.ab j).bN ((M.ab j).au.take 40)).2 c=some b:=by
    unfold Nod.lp at a;split at a
    .exact a
    .split at a
     .unfold Nod.eb at a;split at a<;>exact a
     .exact a
   have r:(M.ab j).vo.p=b/\c∈(M.ab j).au.take 40:=by
    have key:∀ (l:List Cmd) (f:Cmd->Option Bal) (p:Bal),(AV p f l).2 c=some b->f c=some b\/(p=b/\c∈l):=by
     intro l;induction l with
     | nil=>exact λf p g=>.inl g
     | cons d l ih =>
      intro f p g;rw[AV]at g
      split at g
      .rcases ih _ p g with k|k
       .unfold BO at k;split at k
        .rename_i e;exact .inr ⟨mI k,by rw[e];exact M'⟩
        .exact .inl k
       .exact .inr ⟨k.1,I' _ k.2⟩
      .exact(ih f p g).imp id λk=>⟨k.1,I' _ k.2⟩
    exact(key _ _ _ y).resolve_left e
   obtain⟨r,H⟩:=r;have D:=KR z ((M.ab j).au.take 40) (M.ab j).bN;have o:c∈(AV (M.ab j).vo.p (M.ab j).bN ((M.ab j).au.take 40)).1:=by rw[r];exact(D.2.2.1 c H).resolve_left e
   have u:¬ (AV (M.ab j).vo.p (M.ab j).bN ((M.ab j).au.take 40)).1=[]:=λg=>by rw[g]at o;cases o
   have v:∀ d∈(AV (M.ab j).vo.p (M.ab j).bN ((M.ab j).au.take 40)).1,d∈C:=λd w=>by
    rw[r]at w
    exact(h.cm.s.nd j x).wa d (mh (D.2.2.2 d w))
   by_cases A:j=i
   .subst A;refine .inl ?_;rw[Al,if_pos rfl];unfold Nod.lp;rw[if_neg u,if_pos (by rw[r];exact t.hn)];have F:({ M.ab j with bN:=(AV (M.ab j).vo.p (M.ab j).bN ((M.ab j).au.take 40)).2 }:Nod).leads=true:=h.leads t;unfold Nod.eb;rw[if_pos F];exact PI t.hC _ _ E.qn (λd w=>(h.cm.s.nd j x).qu d w) v c o
   .refine .inr ?_;have G:¬ (M.ab j).vo.p.n=(j:Int):=by rw[r,t.hn];omega
    unfold Nod.lp;rw[if_neg u,if_neg G];refine⟨_,lV _ (D'.2 rfl),rfl,?_,o⟩;show(M.ab j).vo.p.n.toNat=i;rw[r,t.hn];exact mC i
theorem Mo(a:UC U C K B cov i b){n:Nat}{M:Meet}(E:MOk n M)(L:n+6<=1000000)(h:UB U C K B cov i b M)(q:UQ U i b M):UB U C K B cov i b (M.ew Am)/\(∀ j,Up U j->∀ c,((M.ew Am).ab j).bN c=some b->c∈((M.ew Am).ab i).bn.fv)/\(M.ew Am).br=[]/\MOk (n+6) (M.ew Am):=by
 have v:∀ A N,TkS A N->UB U C K B cov i b A->UB U C K B cov i b N:=λA N s g=>g.step a s.qQ;have z:=Cf (I:=λN=>UB U C K B cov i b N/\UQ U i b N) (λc A N s g=>⟨g.1.step a s.calm,g.2.step a s.calm g.1⟩) E (by omega) ⟨h,q⟩;rw[show Am=Bz 3 5++[acN 7 0]from rfl,B2];generalize M.ew (Bz 3 5)=A at z ⊢;obtain⟨p,k,u⟩:=z;have y:=p.act (by omega) (x:=acN 7 0) (by rw[<- Ez];decide);have t:∀ j,Up U j->∀ c,((A.act (acN 7 0)).ab j).bN c=some b->c∈((A.act (acN 7 0)).ab i).bn.fv:=λj G c r=>by
  obtain⟨N,f,o,_⟩:=CI (I:=λN=>UB U C K B cov i b N/\(N.ab j).bN c=(A.ab j).bN c) (λD N s g=>⟨v D N s g.1,by
   obtain⟨l,_,w,_,rfl⟩:=s;rw[Al];split
   .rename_i e
    rw[(IH (D.ab l.dst) l (g.1.ak _ w.2).qn).1.2.1,<- e];exact g.2
   .exact g.2⟩) p ⟨k,rfl⟩
  rw[f]at r
  have r:(N.ab j).bN c=some b:=r;rw[o.2]at r
  rcases u j G c r with g|⟨m,g1,g2,g3,g4⟩
  .obtain⟨N,f,o,_⟩:=CI (I:=λN=>c∈(N.ab i).bn.fv) (λD N s g=>(s.qQ.ev i).qu.subset g) p g;rw[f];exact o
  .obtain⟨N,f,_,k3,_⟩:=EH (I:=UB U C K B cov i b) (J:=λN=>c∈(N.ab i).bn.fv) v (λD N s _ g=>(s.qQ.ev i).qu.subset g) p k g1 (λN g=>g.cm.up _ (by rw[g3];exact a.hi)) (λN g e=>by
    have F:=(g.cm.s.lt m (by rw[e];exact g1)).wh;rw[g3,Al,if_pos rfl];have H:c∈((N.ab i).eb m.hZ).bn.fv:=by
     unfold Nod.eb;rw[if_pos (g.leads a)];exact PI a.hC _ _ (g.ak i a.hi).qn (λd w=>(g.cm.s.nd i a.hi).qu d w) F c g4
    unfold Nod.take;rw[g2];simp only;split<;>exact H)
   rw[f];exact k3
 obtain⟨N,f,o,_⟩:=CI (I:=UB U C K B cov i b) v p k;refine⟨?_,t,by rw[f],y⟩;rw[f];exact⟨o.cm.drop,o.ak,o.vi⟩
theorem QZ(a:UC U C K B cov i b){n:Nat}{M:Meet}(t:MOk n M)(G:n+6<=1000000)(h:UB U C K B cov i b M){j:Nat}(p:Up U j){F:List Vt}(y:Pend.prom i b F∈(M.ab j).bu):((M.ew Am).ab i).bn.ql j=true:=by
 have w:∀ A N,TkS A N->UB U C K B cov i b A->UB U C K B cov i b N:=λA N s g=>g.step a s.qQ;have d:∀ c A N,Stp wh1 c A N->UB U C K B cov i b A->UB U C K B cov i b N:=λc A N s g=>g.step a s.calm;have f:=Cf d t (by omega) h;have q:=Gu (J:=λN=>∃ m∈N.br,m.kind=1/\m.src=j/\m.dst=i/\m.jv=b) d (λc A N s _ ⟨m,k,o⟩=>⟨m,s.calm.qK k,o⟩) t (by omega) h p (λA g=>⟨g.cm.up j p,g.cm.rC p⟩) y (λN l g _ _=>⟨_,lV _ (D'.2 rfl),rfl,rfl,rfl,rfl⟩);rw[show Am=Bz 3 5++[acN 7 0]from rfl,B2];generalize M.ew (Bz 3 5)=A at f q ⊢;obtain⟨m,k,o,u,r,v⟩:=q;obtain⟨N,z,_,E,_⟩:=EH (J:=λN=>(N.ab i).bn.ql j=true) w (λD N s _ g=>(s.qQ.ev i).ql j g) f.1 f.2 k (λN g=>g.cm.up _ (by rw[r];exact a.hi)) (λN g e=>by
  rw[r,Al,if_pos rfl];have x:((N.ab i).mv 0 m.hZ).leads=true:=g.leads a;unfold Nod.take;rw[o];simp only;rw[u,v];split
  .rename_i hc
   rcases hc with hc|hc|hc
   .rw[x]at hc;cases hc
   .exact absurd (show b=(N.ab i).bn.jv by rw[g.cm.jv i a.hi,a.hB]) hc
   .exact hc
  .exact CT _ _ _)
 rw[z];exact E
theorem WL(a:UC U C K B cov i b)(d:14*K+38*(cov.length:Int)<=99000){M:Meet}(h:UB U C K B cov i b M)(j:(M.ab i).bn.qt=true)(n:(M.ab i).bn.next<=(M.ab i).ae.length){c:Cmd}(f:(M.ab i).pd (M.ab i).ae.length=some c)(l:Ah ⟨((M.ab i).ae.length:Int),b,c⟩) :
  (M.ab i).cF.bn.next=(M.ab i).ae.length+1/\Pend.prop ⟨((M.ab i).ae.length:Int),b,c⟩∈(M.ab i).cF.bu:=by
 have e:(M.ab i).bn.jv=b:=(h.cm.jv i a.hi).trans a.hB;have k:=h.leads a;have m:=h.cm.sA d a.hi l (λg=>by
  have:b.lt (M.ab i).vo.p:=g;rw[h.vi]at this
  unfold Bal.lt at this;omega)
 unfold Nod.cF;rw[if_neg (λg=>by
  rcases g with g|g|g
  .rw[k]at g;cases g
  .rw[j]at g;cases g
  .omega),f]
 simp only;rw[e,if_neg (λg=>g m.1)];exact⟨rfl,lV _ (D'.2 rfl)⟩
theorem Rd(f:UC U C K B cov i b)(e:14*K+38*(cov.length:Int)<=99000){M:Meet}(h:UB U C K B cov i b M){j:Nat}(a:Up U j){v:Vt}(c:Ah v)(o:v.b=b){l:Let}(k:l.kind=3)(m:l.cl=v):Pend.voted l.src v∈((M.ab j).take l).bu:=by
 have n:=h.cm.le a;have d:=h.cm.sA e a c (by rw[Fr c.2.1.pr (h.cm.acc a).1,o,f.hK];omega);unfold Nod.take;rw[k];simp only;rw[m,if_neg (λg=>g d.1)];exact lV _ (D'.2 rfl)
end
theorem Stp.td{c:Nat}{M N:Meet}(s:Stp wh0 c M N){i:Nat}(m:NB (M.ab i))(n:∀ l∈M.br,l.src<5->(M.ab i).bn.ql l.src=true){j:Nat}{v:Vt}(a:v∈((N.ab i).bn.an j).vs):v∈((M.ab i).bn.an j).vs\/v.b=(M.ab i).bn.jv:=by
 have put:∀ {k:Nat} {p:Nod} {f:List Let} {h:List Tol},v∈(((M.set k p f h).ab i).bn.an j).vs->(i=k->v∈(p.bn.an j).vs->v∈((M.ab i).bn.an j).vs\/v.b=(M.ab i).bn.jv)->v∈((M.ab i).bn.an j).vs\/v.b=(M.ab i).bn.jv:=λ{k p f h} g e=>by
  rw[Al]at g
  split at g
  .rename_i e2;exact e e2 g
  .exact .inl g
 cases s with
 | take _ l hl hd hu ht =>
  refine put a λe g=>?_;rw[<- e]at g
  unfold Nod.take at g;split at g
  .split at g
   .unfold Nod.fa at g;split at g<;>exact .inl g
   .have g:v∈(((M.ab i).av l.jv).1.bn.an j).vs:=g;rw[(AF _ _).2]at g;exact .inl g
  .simp only at g;split at g
   .exact .inl g
   .rename_i hc
    exact absurd (.inr (.inr (n l hl hd.1))) hc
  .exact .inl g
  .split at g
   .unfold Nod.fa at g;split at g<;>exact .inl g
   .have g:v∈(((M.ab i).cl l.cl).1.bn.an j).vs:=g;rw[(BP _ _).2]at g;exact .inl g
  .exact Nm g
  .split at g<;>exact .inl g
  .simp only at g;unfold Nod.eb at g;split at g<;>split at g<;>exact .inl g
  .exact .inl g
 | br _ f hl hd=>exact False.elim hd
 | one _ k c hi hu hc he =>
  refine put a λe g=>?_;rw[<- e]at g
  unfold Nod.gC at g;split at g<;>exact .inl g
 | ask _ k hi hu =>
  refine put a λe g=>?_;rw[<- e]at g
  unfold Nod.lp at g;split at g
  .exact .inl g
  .split at g
   .unfold Nod.eb at g;split at g<;>exact .inl g
   .exact .inl g
 | prop _ k hi hu =>
  refine put a λe g=>?_;rw[<- e]at g
  unfold Nod.cF at g;split at g
  .exact .inl g
  .split at g
   .exact .inl g
   .split at g<;>exact .inl g
 | qD _ k hi hu hs hT=>exact put a λe g=>by rw[<- e]at g;exact .inl g
 | run _ k hi hu q l hp2 hs =>
  refine put a λe g=>?_;rw[<- e]at g hp2
  have g:v∈(((M.ab i).nf i q).bn.an j).vs:=g;cases q with
  | began b vs=>exact absurd (by rw[hp2];exact M') (m b vs)
  | prop u=>exact Nm g
  | _=>exact .inl g
 | teach _ k hi hu hL=>exact put a λe g=>by rw[<- e]at g;exact .inl g
 | lead _ k hi hu hL=>exact False.elim hL
 | sub _ k d hi hu hD=>exact False.elim hD
 | lr _ k y hi hu hk hC=>exact False.elim hC
 | start _ k hi hu hs=>exact False.elim hs
theorem iL{r:Rnd}(l:∀ j,j<5->Ag (r.an j)){U:Nat->Bool}(k:3<=FJ U){v:Vt}(p:0<=v.bt/\v.bt<=39)(q:∀ j,Up U j->v∈(r.an j).vs):CN r.ln v.bt=0:=by
 have e:Dq r.ln v.bt=Ae (r.an 0).vs v.bt++(Ae (r.an 1).vs v.bt++(Ae (r.an 2).vs v.bt++(Ae (r.an 3).vs v.bt++Ae (r.an 4).vs v.bt))):=by
  unfold Dq Rnd.ln Ae;simp[List.filter_append]
 have g:∀ j,j<5->(U j).toNat<=BE (Ae (r.an j).vs v.bt) v:=λj m=>by
  cases e:U j with
  | false=>exact mA _
  | true=>exact YP (q j ⟨m,e⟩)
 unfold FJ at k;have o:5<2*BE (Dq r.ln v.bt) v:=by
  rw[e,Co,Co,Co,Co];have:=g 0 (by omega);have:=g 1 (by omega);have:=g 2 (by omega);have:=g 3 (by omega);have:=g 4 (by omega);omega
 have n:v∈Dq r.ln v.bt:=by
  obtain⟨u,b,d⟩:=pC.1 (show 0<BE (Dq r.ln v.bt) v by omega);have c:u=v:=my d;rw[c]at b;exact b
 have f:∀ a∈r.ln,Ag a:=λa h=>by
  unfold Rnd.ln at h;simp only[ma,P',or_false]at h;rcases h with e|e|e|e|e<;>rw[e]<;>exact l _ (by omega)
 have i:(GQ (Dq r.ln v.bt) r.ln.length).isSome=true:=List.find?_isSome.2 ⟨v,n,O' o⟩;unfold CN;rw[if_neg (λg=>g ⟨p,by show(1:Int)<=((5:Nat):Int)/\((5:Nat):Int)<=5;decide⟩),if_neg (λg=>g f),if_pos i]
section
variable{U:Nat->Bool}{C:List Cmd}{K:Int}{B:Nat->Bal}{cov:List (Bal × Nat)}{i:Nat}{b:Bal}{A:List Cmd}
structure UE(U:Nat->Bool)(C:List Cmd)(K:Int)(B:Nat->Bal)(cov:List (Bal × Nat))(i:Nat)(b:Bal)(M:Meet):Prop where
 pb:UB U C K B cov i b M
 va:∀ j,Up U j->(M.ab j).vo.p=b
 pr:∀ j,Up U j->(M.ab i).bn.ql j=true
 nb:NB (M.ab i)
 aw:∀ j,Up U j->∀ c x,(M.ab j).bN c=some x->x=b
 l6:∀ m∈M.br,m.kind=6->m.hZ=[]
 qw:∀ j,Up U j->∀ c∈(M.ab j).au,c∈(M.ab i).bn.fv
theorem UE.nil{M:Meet}(h:UE U C K B cov i b M){j:Nat}(a:Up U j):(AV (M.ab j).vo.p (M.ab j).bN ((M.ab j).au.take 40)).1=[]:=by
 rw[h.va j a];refine Xe _ λc e=>?_;obtain⟨x,d⟩:=m5.1 (((h.pb.ak j a).wa c).1 (mh e));rw[d,h.aw j a c x d]
theorem UE.lp{M:Meet}(h:UE U C K B cov i b M){j:Nat}(a:Up U j):(M.ab j).lp j=({ M.ab j with bN:=(AV (M.ab j).vo.p (M.ab j).bN ((M.ab j).au.take 40)).2 },[]):=by
 unfold Nod.lp;rw[if_pos (h.nil a)]
theorem UE.step(r:UC U C K B cov i b){n:Nat}{M N:Meet}(s:Stp wh0 n M N)(h:UE U C K B cov i b M):UE U C K B cov i b N:=by
 refine⟨h.pb.step r s,λj a=>h.pb.cm.top r.hc s r.hb.pr r.hK a (h.va j a),λj a=>(s.ev i).ql j (h.pr j a),s.nb h.nb,λj a c x d=>?_,λm f o=>?_,λj a c u=>(s.ev i).qu.subset (h.qw j a c ((s.ev j).wa c u))⟩
 .rcases s.bN d with g|⟨_,rfl⟩
  .exact h.aw j a c x g
  .rw[Al,if_pos rfl,h.lp a]at d
   have d:(AV (M.ab j).vo.p (M.ab j).bN ((M.ab j).au.take 40)).2 c=some x:=d;have t:b≠AY:=λe=>by have:=r.hb;rw[e]at this;exact absurd this (by decide)
   rw[h.va j a]at d
   have f:=KR t ((M.ab j).au.take 40) (M.ab j).bN;by_cases e:c∈(M.ab j).au.take 40
   .rw[f.2.1 c e]at d;exact(mI d).symm
   .rw[f.1 c e]at d;exact h.aw j a c x d
 .have old:m∈M.br->m.hZ=[]:=λg=>h.l6 m g o;cases s with
  | br _ ls hl hd=>exact False.elim hd
  | ask _ k hi hu =>
   rw[h.lp (h.pb.cm.of hi hu)]at f
   exact old (by simpa[Meet.set]using f)
  | run _ k hi hu q l hp hs =>
   rcases U'.1 f with g|g
   .exact old g
   .cases q with
    | began b vs =>
     unfold Nod.qq at g;simp only at g;split at g
     .cases g
     .have:=(D3 g).1;rw[o]at this;cases this
    | prop v=>have:=(D3 g).1;rw[o]at this;cases this
    | start=>exact(D3 g).2
    | askNews to=>rw[D'.1 g];rfl
    | _=>have e:=D'.1 g;rw[e]at o;cases o
  | teach _ k hi hu hL =>
   rcases U'.1 f with g|g
   .exact old g
   .have:=(J5 5 m g).1;omega
  | _=>exact old f
theorem UE.rd(a:UC U C K B cov i b){M:Meet}(h:UE U C K B cov i b M){σ:Gs}(g:AgI σ M):RdI σ i (M.ab i).bn/\(M.ab i).bn.jv=b:=by
 obtain⟨c,k⟩:=(g.nd i a.hi).up (h.pb.cm.up i a.hi);exact⟨k.rd,(h.pb.cm.jv i a.hi).trans a.hB⟩
theorem UE.lt(d:UC U C K B cov i b){M:Meet}(h:UE U C K B cov i b M){σ:Gs}(g:AgI σ M){v:Vt}(a:σ.qP v)(c:v.b=b):v.bt<((M.ab i).bn.next:Int):=by
 have k:=h.rd d g;have:=k.1.next v.bt.toNat v.w (by rw[k.2,<- c];exact a.2);have:=a.1.1;omega
theorem UE.held(a:UC U C K B cov i b){M:Meet}(h:UE U C K B cov i b M){σ:Gs}(g:AgI σ M){s:Nat}(o:(M.ab i).bn.next<=s)(m:∀ j,j<5->∀ v∈((M.ab i).bn.an j).vs,v.bt≠(s:Int)){q:Nat}(d:Up U q){v:Vt}(l:σ.held q v):v.bt≠(s:Int):=by
 intro e;have k:=h.rd a g;have c:=g.gs.hv q v l;have n:=g.rz h.pb.cm.kb.2 c.1.2.1 (g.gs.w3 _ _ _ c.2);by_cases f:v.b.key<b.key
 .obtain⟨u,hu,eu,_⟩:=(k.1.prom q d (h.pr q d)).2 v l (by rw[k.2];exact f);exact m q d u hu (eu.trans e)
 .have e3:v.b=b:=DU c.1.2.1.pr a.hb.pr (by rw[a.hK]at f ⊢;omega);have:=h.lt a g c e3;omega
theorem kH(m:UC U C K B cov i b){σ:Gs}(g:GsI σ){s:Nat}{c:Cmd}(h:σ.rZ s c):∃ q,Up U q/\∃ v,σ.held q v/\v.bt=(s:Int)/\v.w=c/\s<40:=by
 obtain⟨o,Q,j,l⟩:=h;obtain⟨q,e,a,n⟩:=Gd Q U j m.hU;obtain⟨v,d,f,_,k⟩:=l q e a;have:=(g.hv q v d).1.1;exact⟨q,⟨e,n⟩,v,d,f,k,by omega⟩
theorem Fin_.rD(a:UC U C K B cov i b){M:Meet}(h:UE U C K B cov i b M)(f:Fin_ i A M){σ:Gs}(g:AgI σ M)(c:Cmd):¬ σ.rZ A.length c:=λe=>by
 obtain⟨q,l,v,d,j,_,k⟩:=kH a g.gs e;exact h.held a g f.nx (f.hd k) l d j
theorem Fin_.sZ(a:UC U C K B cov i b){M:Meet}(h:UE U C K B cov i b M)(f:Fin_ i A M){j:Nat}(c:Up U j):(M.ab j).ae.length<=A.length:=by
 obtain⟨σ,g,_⟩:=h.pb.cm.ex;have:=(g.nd j c).ag.le (f.rD a h g) (mA _);omega
theorem Fin_.rJ(c:UC U C K B cov i b){M:Meet}(h:UE U C K B cov i b M)(f:Fin_ i A M){σ:Gs}(g:AgI σ M){j:Nat}{v:Vt}(m:σ.held j v):T4 (M.ab i) ((M.ab i).count j v):=by
 have k:=(h.rd c g).1;unfold Nod.count;split
 .exact⟨rfl,rfl,rfl⟩
 .rename_i hb
  split
  .exact⟨rfl,rfl,rfl⟩
  .rename_i he
   refine⟨Y9 _ λe=>?_,rfl,rfl⟩;have e:CN (Rnd.ln _) ((M.ab i).ae.length:Int)=0:=e;have a:=T5 (λq d u l=>((k.count (lX.1 hb) (lX.1 he) m).an q d u l).1) e;rw[f.ag]at a
   exact f.rD c h g _ a
theorem Fin_.sw(m:UC U C K B cov i b){n:Nat}{M N:Meet}(s:Stp wh0 n M N)(h:UE U C K B cov i b M)(f:Fin_ i A M):T4 (M.ab i) (N.ab i):=by
 obtain⟨σ,g,_⟩:=h.pb.cm.ex;have put:∀ {k:Nat} {p:Nod} {r:List Let} {t:List Tol},(i=k->T4 (M.ab i) p)->T4 (M.ab i) ((M.set k p r t).ab i):=λ{k p r t} e=>by
  rw[Al];split
  .rename_i e2;exact e e2
  .exact⟨rfl,rfl,rfl⟩
 have o:∀ {l:List Cmd} {k:Nat},AgL σ l k->k<=A.length->k+l.length<=(M.ab i).ae.length:=λa e=>by rw[f.ag];exact a.le (f.rD m h g) e
 cases s with
 | take _ l hl2 hd hu ht =>
  refine put λe=>?_;rw[<- e];have lt:=g.lt l hl2;unfold Nod.take;split
  .split
   .unfold Nod.fa;split<;>exact⟨rfl,rfl,rfl⟩
   .exact⟨ij _ _,by show(Nod.av _ _).1.bn.next=_;rw[(AF _ _).2],by show(Nod.av _ _).1.bn.fv=_;rw[(AF _ _).2]⟩
  .rename_i hk
   simp only;rw[if_pos (.inr (.inr (h.pr l.src ⟨hd.1,h.pb.cm.ls l hl2⟩)))];exact⟨NG (o (lt.k1 hk).2.2 (mA _)),rfl,rfl⟩
  .exact⟨rfl,rfl,rfl⟩
  .split
   .unfold Nod.fa;split<;>exact⟨rfl,rfl,rfl⟩
   .exact⟨iP _ _,by show(Nod.cl _ _).1.bn.next=_;rw[(BP _ _).2],by show(Nod.cl _ _).1.bn.fv=_;rw[(BP _ _).2]⟩
  .rename_i hk
   exact f.rJ m h g (lt.k4 hk)
  .rename_i hk
   split
   .exact⟨rfl,rfl,rfl⟩
   .rename_i h5
    exact⟨NG (o (lt.k5 hk) (by rw[f.ag]at h5;omega)),rfl,rfl⟩
  .rename_i hk
   simp only;rw[h.l6 l hl2 hk];unfold Nod.eb;split<;>split<;>exact⟨rfl,rfl,rfl⟩
  .exact⟨rfl,rfl,rfl⟩
 | br _ r o hd=>exact False.elim hd
 | one _ k c hi hu hc he=>exact put λe=>by rw[<- e];unfold Nod.gC;split<;>exact⟨rfl,rfl,rfl⟩
 | ask _ k hi hu=>exact put λe=>by rw[h.lp (h.pb.cm.of hi hu),<- e];exact⟨rfl,rfl,rfl⟩
 | prop _ k hi hu =>
  refine put λe=>?_;rw[<- e];unfold Nod.cF;split
  .exact⟨rfl,rfl,rfl⟩
  .rw[f.pd];exact⟨rfl,rfl,rfl⟩
 | qD _ k hi hu hs hT=>exact put λe=>by rw[<- e];exact⟨rfl,rfl,rfl⟩
 | run _ k hi hu q l hp hs =>
  refine put λe=>?_;rw[<- e]at hp hs ⊢
  cases q with
  | began b vs=>exact absurd (by rw[hp];exact M') (h.nb b vs)
  | prop v =>
   obtain⟨u,k⟩:=(g.nd i m.hi).up (h.pb.cm.up i m.hi);have:=f.rJ m h g (j:=i) (v:=v) (by
    have:=k.pe (.prop v) (by rw[hp];exact M');unfold Gs.held;rw[k.tp.all hs];exact this)
   exact this
  | _=>exact⟨rfl,rfl,rfl⟩
 | teach _ k hi hu hL=>exact put λe=>by rw[<- e];exact⟨rfl,rfl,rfl⟩
 | lead _ k hi hu hL=>exact False.elim hL
 | sub _ k d hi hu hD=>exact False.elim hD
 | lr _ k y hi hu hk hC=>exact False.elim hC
 | start _ k hi hu hs=>exact False.elim hs
theorem Fin_.rY(a:UC U C K B cov i b){n:Nat}{M N:Meet}(s:Stp wh0 n M N)(h:UE U C K B cov i b M)(f:Fin_ i A M):Fin_ i A N:=by
 have e:=f.sw a s h;have d:=h.step a s;obtain⟨τ,g,_⟩:=d.pb.cm.ex;refine⟨e.1.trans f.ag,by rw[e.2.1];exact f.nx,λm j o v p u=>?_,λm c r=>f.qu m c (by rw[<- e.2.2];exact r)⟩;rcases s.td h.nb (λl t q=>h.pr l.src ⟨q,h.pb.cm.ls l t⟩) p with k|k
 .exact f.hd m j o v k u
 .have:=d.lt a g (g.gs.hv j v ((d.rd a g).1.an j o v p).1) (k.trans ((h.pb.cm.jv i a.hi).trans a.hB));have:=e.2.1;have:=f.nx;omega
theorem Stp.rE{n:Nat}{M N:Meet}(s:Stp wh0 n M N)(m:UC U C K B cov i b)(h:UE U C K B cov i b M){σ:Gs}(g:AgI σ M) :
  ((N.ab i).bn.an=(M.ab i).bn.an/\(N.ab i).bn.next=(M.ab i).bn.next)\/((N.ab i).bn.an=(M.ab i).bn.an/\(N.ab i).bn.next=(M.ab i).ae.length+1/\(M.ab i).ae.length<40)\/∃ k u,k<5/\σ.held k u/\(N.ab i).bn=((M.ab i).count k u).bn/\(N.ab i).ae=((M.ab i).count k u).ae:=by
 have put:∀ {k:Nat} {p:Nod} {f:List Let} {j:List Tol},(i=k->p.bn.an=(M.ab k).bn.an/\p.bn.next=(M.ab k).bn.next)->((M.set k p f j).ab i).bn.an=(M.ab i).bn.an/\((M.set k p f j).ab i).bn.next=(M.ab i).bn.next:=λ{k p f j} e=>by
  rw[Al];split
  .rename_i e2;rw[e2];exact e e2
  .exact⟨rfl,rfl⟩
 cases s with
 | take _ l hl hd hu ht =>
  have lt:=g.lt l hl;by_cases a:l.kind=4/\i=l.dst
  .refine .inr (.inr ⟨l.src,l.cl,hd.1,lt.k4 a.1,?_⟩);rw[Al,if_pos a.2,<- a.2];unfold Nod.take;rw[a.1];exact⟨rfl,rfl⟩
  .refine .inl (put λe=>?_);rw[<- e];unfold Nod.take;split
   .split
    .unfold Nod.fa;split<;>exact⟨rfl,rfl⟩
    .show((M.ab i).av _).1.bn.an=_/\((M.ab i).av _).1.bn.next=_;rw[(AF _ _).2];exact⟨rfl,rfl⟩
   .simp only;rw[if_pos (.inr (.inr (h.pr l.src ⟨hd.1,h.pb.cm.ls l hl⟩)))];exact⟨rfl,rfl⟩
   .exact⟨rfl,rfl⟩
   .split
    .unfold Nod.fa;split<;>exact⟨rfl,rfl⟩
    .show((M.ab i).cl _).1.bn.an=_/\((M.ab i).cl _).1.bn.next=_;rw[(BP _ _).2];exact⟨rfl,rfl⟩
   .rename_i hk;exact absurd ⟨hk,e⟩ a
   .split<;>exact⟨rfl,rfl⟩
   .simp only;unfold Nod.eb;split<;>split<;>exact⟨rfl,rfl⟩
   .exact⟨rfl,rfl⟩
 | br _ f hl hd=>exact False.elim hd
 | one _ k c hi hu hc he=>exact .inl (put λe=>by unfold Nod.gC;split<;>exact⟨rfl,rfl⟩)
 | ask _ k hi hu=>exact .inl (put λe=>by rw[h.lp (h.pb.cm.of hi hu)];exact⟨rfl,rfl⟩)
 | prop _ k hi hu =>
  by_cases e:i=k
  .subst e;rw[Al,if_pos rfl];unfold Nod.cF;split
   .exact .inl ⟨rfl,rfl⟩
   .split
    .exact .inl ⟨rfl,rfl⟩
    .split
     .exact .inl ⟨rfl,rfl⟩
     .rename_i he
      refine .inr (.inl ⟨rfl,rfl,?_⟩);have:=(aK (lX.1 he)).1.2;have:((M.ab i).ae.length:Int)<=39:=this;omega
  .refine .inl ?_;rw[Al,if_neg e];exact⟨rfl,rfl⟩
 | qD _ k hi hu hs hT=>exact .inl (put λe=>⟨rfl,rfl⟩)
 | run _ k hi hu q l hp hs =>
  by_cases e:i=k
  .subst e;cases q with
   | began b vs=>exact absurd (by rw[hp];exact M') (h.nb b vs)
   | prop v =>
    refine .inr (.inr ⟨i,v,hi,?_,?_⟩)
    .obtain⟨rs,k⟩:=(g.nd i hi).up hu;have:=k.pe (.prop v) (by rw[hp];exact M');unfold Gs.held;rw[k.tp.all hs];exact this
    .rw[Al,if_pos rfl];exact⟨rfl,rfl⟩
   | _=>exact .inl (put λ_=>⟨rfl,rfl⟩)
  .refine .inl ?_;rw[Al,if_neg e];exact⟨rfl,rfl⟩
 | teach _ k hi hu hL=>exact .inl (put λe=>⟨rfl,rfl⟩)
 | lead _ k hi hu hL=>exact False.elim hL
 | sub _ k d hi hu hD=>exact False.elim hD
 | lr _ k y hi hu hk hC=>exact False.elim hC
 | start _ k hi hu hs=>exact False.elim hs
structure UL(U:Nat->Bool)(C:List Cmd)(K:Int)(B:Nat->Bal)(cov:List (Bal × Nat))(i:Nat)(b:Bal)(M:Meet):Prop where
 pe:UE U C K B cov i b M
 ld:∀ v:Vt,v.b=b->(∀ j,Up U j->v∈((M.ab i).bn.an j).vs)->v.bt<((M.ab i).ae.length:Int)
 nx:(M.ab i).bn.next<=(M.ab i).ae.length+1/\(M.ab i).bn.next<=40
theorem UE.sU(a:UC U C K B cov i b){M:Meet}(h:UE U C K B cov i b M){j:Nat}(c:j<5):Ag ((M.ab i).bn.an j):=by
 obtain⟨σ,g,_⟩:=h.pb.cm.ex;exact((h.rd a g).1.acc j c).1
theorem UE.acc(c:UC U C K B cov i b){M:Meet}(h:UE U C K B cov i b M){j:Nat}(a:Up U j):Ag ((M.ab i).bn.an j)/\((M.ab i).bn.an j).p=b:=by
 obtain⟨σ,g,_⟩:=h.pb.cm.ex;have k:=h.rd c g;exact⟨(k.1.acc j a).1,((k.1.acc j a).2 (h.pr j a)).trans k.2⟩
theorem UE.nn(m:UC U C K B cov i b){n:Nat}{M N:Meet}(s:Stp wh0 n M N)(h:UE U C K B cov i b M){v:Vt}(l:v.b=b){j:Nat}(r:Up U j)(a:v∈((M.ab i).bn.an j).vs):v∈((N.ab i).bn.an j).vs:=by
 obtain⟨σ,g,_⟩:=h.pb.cm.ex;have k:=h.rd m g;rcases s.rE m h g with e|e|⟨q,u,hq,hu,e,_⟩
 .rw[e.1];exact a
 .rw[e.1];exact a
 .rw[e];refine RA a λc d=>?_;have o:=g.gs.hv q u hu;have p:=g.gs.hv j v (k.1.an j r v a).1;have f:=o.2;rw[c,k.2,d,<- l]at f
  exact(Vt.eq_iff u v).1 ⟨d,(c.trans k.2).trans l.symm,g.gs.w1 _ _ _ _ f p.2⟩
theorem UL.step(d:UC U C K B cov i b){n:Nat}{M N:Meet}(s:Stp wh0 n M N)(h:UL U C K B cov i b M):UL U C K B cov i b N:=by
 have f:=h.pe.step d s;have x:=(s.ev i).ag.length_le;obtain⟨σ,g,_⟩:=h.pe.pb.cm.ex;have p:(N.ab i).bn.next<=(N.ab i).ae.length+1/\(N.ab i).bn.next<=40:=by
  have:=h.nx;rcases s.rE d h.pe g with e|e|⟨q,u,hq,hu,e,_⟩
  .rw[e.2];omega
  .rw[e.2.1];omega
  .have o:((M.ab i).count q u).bn.next=(M.ab i).bn.next:=by
    unfold Nod.count;split
    .rfl
    .split<;>rfl
   rw[e,o];omega
 refine⟨f,λv t a=>?_,p⟩;by_cases l:∀ j,Up U j->v∈((M.ab i).bn.an j).vs
 .have:=h.ld v t l;omega
 .obtain⟨τ,g2,_⟩:=f.pb.cm.ex;have z:=f.rd d g2;have m:=g2.gs.hv i v (z.1.an i d.hi.lt v (a i d.hi)).1;have k:=f.lt d g2 m t;rcases s.rE d h.pe g with e|e|⟨q,u,hq,hu,e,ea⟩
  .rw[e.1]at a;exact absurd a l
  .rw[e.1]at a;exact absurd a l
  .have hm:=m.1.1;rw[e]at a k
   rw[ea];have c:∀ j,j<5->Ag ((N.ab i).bn.an j):=λj y=>f.sU d y;rw[e]at c
   have A:=h.nx;have o:((M.ab i).count q u).bn.next=(M.ab i).bn.next:=by
    unfold Nod.count;split
    .rfl
    .split<;>rfl
   rw[o]at k
   unfold Nod.count at a c ⊢;split at a
   .exact absurd a l
   .split at a
    .exact absurd a l
    .rename_i h3 h4
     rw[if_neg h3,if_neg h4]at c ⊢
     by_cases w:v.bt<((M.ab i).ae.length:Int)
     .exact Int.lt_of_lt_of_le w (Int.ofNat_le.2 (It 41 _ _).length_le)
     .have e6:v.bt=((M.ab i).ae.length:Int):=by omega
      have r:=iL c d.hU hm a;rw[e6]at r ⊢
      exact Int.ofNat_lt.2 (VG 40 r)
end
section
variable{U:Nat->Bool}{C:List Cmd}{K:Int}{B:Nat->Bal}{cov:List (Bal × Nat)}{i:Nat}{b:Bal}{A:List Cmd}
def U3(U:Nat->Bool)(i:Nat)(v:Vt)(N:Meet):Prop:=v∈((N.ab i).bn.an i).vs/\∀ j,Up U j->j≠i->({ BI 3 with cl:=v,src:=i,dst:=j }:Let)∈N.br
theorem U3.step(a:UC U C K B cov i b){n:Nat}{M N:Meet}(s:Stp wh0 n M N)(h:UE U C K B cov i b M){v:Vt}(c:v.b=b)(k:U3 U i v M):U3 U i v N:=⟨h.nn a s c a.hi k.1,λj d e=>s.qK (k.2 j d e)⟩
theorem UE.qt(a:UC U C K B cov i b){M:Meet}(h:UE U C K B cov i b M):(M.ab i).bn.qt=true:=by
 have g:∀ j,j<5->(U j).toNat<=((M.ab i).bn.ql j).toNat:=λj c=>by
  cases e:U j with
  | false=>exact mA _
  | true=>rw[h.pr j ⟨c,e⟩];exact A' _
 have d:=a.hU;unfold Rnd.qt;unfold FJ at *;have:=g 0 (by omega);have:=g 1 (by omega);have:=g 2 (by omega);have:=g 3 (by omega);have:=g 4 (by omega);exact O' (by omega)
theorem Ke(a:UC U C K B cov i b)(J:14*K+38*(cov.length:Int)<=99000)(q:∀ c∈C,c.e=0){M:Meet}(h:UL U C K B cov i b M)(T:(M.ab i).ae.length<40)(O:(M.ab i).bn.next<=(M.ab i).ae.length){c:Cmd}(E:(M.ab i).pd (M.ab i).ae.length=some c) :
  U3 U i ⟨((M.ab i).ae.length:Int),b,c⟩ (M.act (acN 3 (i:Int)))/\((M.act (acN 3 (i:Int))).ab i).bn.next=(M.ab i).ae.length+1:=by
 have F:=h.pe.pb.cm.up i a.hi;obtain⟨S,s0,V,P,a0,n,H,R,Q,G⟩:=Hv (D:=wh1) a.hi F;have r:∀ c A N,Stp wh1 c A N->UL U C K B cov i b A->UL U C K B cov i b N:=λc A N s g=>g.step a s.calm;have y:=s0.inv r h;have o:=Q.inv r y;have f:(n.ab i).bn=(M.ab i).bn/\(n.ab i).ae=(M.ab i).ae:=by
  rw[H,Bn,y.pe.lp a.hi];exact⟨P,a0⟩
 have u:Ah ⟨((M.ab i).ae.length:Int),b,c⟩:=⟨by show(0:Int)<=((M.ab i).ae.length:Int)/\((M.ab i).ae.length:Int)<=39;omega,a.hb,q c (KF (h.pe.pb.cm.s.nd i a.hi) E)⟩;generalize w:(⟨((M.ab i).ae.length:Int),b,c⟩:Vt)=v at u;have m:v.b=b:=by rw[<- w]
 have t:=WL a J o.pe.pb (o.pe.qt a) (by rw[f.1,f.2];exact O) (c:=c) (by rw[Sy f.1 f.2,f.2];exact E) (by rw[f.2,w];exact u);rw[f.2,w]at t
 have p:=(Stp.prop (D:=wh1) n i a.hi R).calm;have p:=o.step a p;have k:=G.inv (I:=λN=>UL U C K B cov i b N/\(Pend.prop v∈(N.ab i).bu\/U3 U i v N)) (λd A N s g=>⟨r d A N s g.1,by
  rcases g.2 with g2|g2
  .rcases NQ s.calm g2 with g3|⟨l,g3,rfl⟩
   .exact .inl g3
   .refine .inr ⟨?_,λj L e=>lV _ (QH { BI 3 with cl:=v } L e)⟩;rw[Al,if_pos rfl];have x:=g.1.pe.acc a a.hi;have z:(A.ab i).bn.jv=b:=(g.1.pe.pb.cm.jv i a.hi).trans a.hB;exact PB (m.trans z.symm) x.1 u (x.2.trans z.symm)
  .exact .inr (g2.step a s.calm g.1.pe m)⟩) ⟨p,.inl (by rw[Bn];exact t.2)⟩
 refine⟨k.2.resolve_left λg=>?_,by rw[G.rh i,Bn];exact t.1⟩;rw[GN F,Al,if_pos rfl,Hr (h.pe.pb.cm.rC a.hi)]at g
 cases g
theorem Ra(a:UC U C K B cov i b){M:Meet}(h:UL U C K B cov i b M)(m:(M.ab i).ae.length<(M.ab i).bn.next):((M.act (acN 3 (i:Int))).ab i).bn.next=(M.ab i).bn.next:=by
 have l:=h.pe.pb.cm.up i a.hi;obtain⟨p,s0,r,n,a0,e,f,t,q,o⟩:=Hv (D:=wh1) a.hi l;have k:∀ c A N,Stp wh1 c A N->UL U C K B cov i b A->UL U C K B cov i b N:=λc A N s g=>g.step a s.calm;have j:=s0.inv k h;have d:(e.ab i).bn=(M.ab i).bn/\(e.ab i).ae=(M.ab i).ae:=by
  rw[f,Bn,j.pe.lp a.hi];exact⟨n,a0⟩
 rw[o.rh i,Bn];unfold Nod.cF;rw[if_pos (.inr (.inr (by rw[d.1,d.2];exact m))),d.1]
def Uz(U:Nat->Bool)(i:Nat)(v:Vt)(N:Meet):Prop:=v∈((N.ab i).bn.an i).vs/\∀ j,Up U j->j≠i->Pend.voted i v∈(N.ab j).bu
theorem UL.drop{N:Meet}(h:UL U C K B cov i b N):UL U C K B cov i b { N with br:=[] } :=
 ⟨⟨⟨h.pe.pb.cm.drop,h.pe.pb.ak,h.pe.pb.vi⟩,h.pe.va,h.pe.pr,h.pe.nb,h.pe.aw,λm a=>(by cases a),h.pe.qw⟩,h.ld,h.nx⟩
theorem UL.round(f:UC U C K B cov i b){n:Nat}{M:Meet}(k:MOk n M)(m:n+6<=1000000)(h:UL U C K B cov i b M):UL U C K B cov i b (M.ew Am)/\MOk (n+6) (M.ew Am)/\(M.ew Am).br=[]/\(∀ j,Ev (M.ab j) ((M.ew Am).ab j))/\((M.ew Am).ab i).bn.next=((M.ew (Bz 3 5)).ab i).bn.next:=by
 have d:=Cf (I:=λN=>UL U C K B cov i b N/\∀ j,Ev (M.ab j) (N.ab j)) (λc A N s g=>⟨g.1.step f s.calm,λj=>(g.2 j).trans (s.calm.ev j)⟩) k (by omega) ⟨h,λj=>.refl _⟩;rw[Ex];obtain⟨N,l,e,_⟩:=CI (I:=λN=>UL U C K B cov i b N/\(∀ j,Ev (M.ab j) (N.ab j))/\(N.ab i).bn.next=((M.ew (Bz 3 5)).ab i).bn.next) (λA N s g=>⟨g.1.step f s.qQ,λj=>(g.2.1 j).trans (s.qQ.ev j),(s.qQ.rh i).trans g.2.2⟩) d.1 ⟨d.2.1,d.2.2,rfl⟩;have a:=d.1.act (x:=acN 7 0) (by omega) (by rw[<- Ez];decide);rw[l]at a ⊢
 exact⟨e.1.drop,a,rfl,e.2.1,e.2.2⟩
theorem Pk(a:UC U C K B cov i b)(u:14*K+38*(cov.length:Int)<=99000)(f:∀ c∈C,c.e=0){n:Nat}{M:Meet}(r:MOk n M)(P:n+6<=1000000)(h:UL U C K B cov i b M)(F:(M.ab i).ae.length<40)(H:(M.ab i).bn.next<=(M.ab i).ae.length){c:Cmd}(x:(M.ab i).pd (M.ab i).ae.length=some c) :
  Uz U i ⟨((M.ab i).ae.length:Int),b,c⟩ (M.ew Am)/\((M.ew Am).ab i).bn.next=(M.ab i).ae.length+1:=by
 have G:Ah ⟨((M.ab i).ae.length:Int),b,c⟩:=⟨by show(0:Int)<=((M.ab i).ae.length:Int)/\((M.ab i).ae.length:Int)<=39;omega,a.hb,f c (KF (h.pe.pb.cm.s.nd i a.hi) x)⟩;have w:∀ c A N,Stp wh1 c A N->UL U C K B cov i b A->UL U C K B cov i b N:=λc A N s g=>g.step a s.calm;have E:∀ A N,TkS A N->UL U C K B cov i b A->UL U C K B cov i b N:=λA N s g=>g.step a s.qQ;have Q:=h.round a r P;have q:=IB (J:=λN=>U3 U i ⟨((M.ab i).ae.length:Int),b,c⟩ N) w (λd A N s g k=>k.step a s.calm g.pe rfl) r (by omega) h a.hi (λN m _ _ g e=>by
  have:=(Ke a u f g (by rw[e];exact F) (by rw[e];exact H) (c:=c) (by rw[e];exact x)).1;rw[e]at this;exact this)
 obtain⟨N,t,S,T⟩:=Hw M a.hi.lt;have p:=Cf w r (by omega) h;have O:UL U C K B cov i b N:=by
  rw[S];have R:∀ k,k<=5->MOk (n+k) (M.ew (Bz 3 k))/\UL U C K B cov i b (M.ew (Bz 3 k)):=by
   intro k;induction k with
   | zero=>exact λ_=>⟨r,h⟩
   | succ k ih =>
    intro V;obtain⟨D,L⟩:=ih (by omega);rw[Dv,B2];exact⟨D.act (by omega) (GO (by omega)),Dk w D (by omega) L⟩
  have:=a.hi.lt;exact(R i (by omega)).2
 have z:=(Ke a u f O (by rw[t];exact F) (by rw[t];exact H) (c:=c) (by rw[t];exact x)).2;refine⟨?_,by rw[Q.2.2.2.2,T,z,t]⟩;have o:(⟨((M.ab i).ae.length:Int),b,c⟩:Vt).b=b:=rfl;generalize (⟨((M.ab i).ae.length:Int),b,c⟩:Vt)=v at G q o ⊢;rw[Ex];generalize M.ew (Bz 3 5)=A at p q ⊢;refine⟨?_,λj y e=>?_⟩
 .obtain⟨N,k1,k2,_⟩:=CI (I:=λN=>UL U C K B cov i b N/\v∈((N.ab i).bn.an i).vs) (λA N s g=>⟨E A N s g.1,g.1.pe.nn a s.qQ o a.hi g.2⟩) p.1 ⟨p.2,q.1⟩;rw[k1];exact k2.2
 .obtain⟨N,k1,_,k3,_⟩:=EH (J:=λN=>Pend.voted i v∈(N.ab j).bu) E (λA N s _ g=>by
   obtain⟨l,_,_,_,rfl⟩:=s;rw[Al];split
   .rename_i e3;rw[<- e3];exact J3 g
   .exact g) p.1 p.2 (q.2 j y e) (λN g=>g.pe.pb.cm.up j y) (λN g _=>by
   rw[Al,if_pos rfl];exact Rd a u g.pe.pb y G o (l:={ BI 3 with cl:=v,src:=i,dst:=j }) rfl rfl)
  rw[k1];exact k3
theorem UE.tk{M N:Meet}(s:TkS M N)(h:UE U C K B cov i b M):(N.ab i).bn.bw=(M.ab i).bn.bw:=by
 obtain⟨l,c,a,d,rfl⟩:=s;rw[Al];split
 .rename_i e
  rw[<- e];unfold Nod.take;split
  .split
   .unfold Nod.fa;split<;>rfl
   .show((M.ab i).av _).1.bn.bw=_;rw[(AF _ _).2]
  .simp only;rw[if_pos (.inr (.inr (h.pr l.src ⟨a.1,h.pb.cm.ls l c⟩)))];rfl
  .rfl
  .split
   .unfold Nod.fa;split<;>rfl
   .show((M.ab i).cl _).1.bn.bw=_;rw[(BP _ _).2]
  .unfold Nod.count;split
   .rfl
   .split<;>rfl
  .split<;>rfl
  .simp only;unfold Nod.eb;split<;>split<;>rfl
  .rfl
 .rfl
def U0(U:Nat->Bool)(i:Nat)(M:Meet):Prop:=∀ j,Up U j->j≠i->(M.ab i).bn.bw j<=(M.ab j).ae.length
def U1(U:Nat->Bool)(i a0:Nat)(N:Meet):Prop:=∀ j,Up U j->j≠i->a0<=(N.ab i).bn.bw j/\((N.ab i).bn.bw j<=(N.ab j).ae.length\/∃ m∈N.br,m.kind=5/\m.dst=j/\m.bt<=(N.ab j).ae.length/\(N.ab i).bn.bw j<=m.bt+m.hZ.length)
theorem Pm(k:UC U C K B cov i b){n:Nat}{M:Meet}(z:MOk n M)(F:n+1<=1000000)(h:UL U C K B cov i b M)(t:U0 U i M):U1 U i (M.ab i).ae.length (M.act (acN 3 (i:Int))):=by
 have E:=h.pe.pb.cm.up i k.hi;have u:=Dk (I:=λN=>UL U C K B cov i b N/\Ev (M.ab i) (N.ab i)) (λc A N s g=>⟨g.1.step k s.calm,g.2.trans (s.calm.ev i)⟩) z k.hi.lt ⟨h,.refl _⟩;have l:=u.1.pe.pb.leads k;have d:=u.2.ag.length_le;intro j v a;have o:=EX M (i:=i) a;have f:=t j v a;have e:M.act (acN 3 (i:Int))=M.set i ((M.ab i).piece i M.br M.ed).1 ((M.ab i).piece i M.br M.ed).2.1 ((M.ab i).piece i M.br M.ed).2.2:=GN E;obtain⟨q,w,x,y,r⟩:=SV (M.ab i) i M.br M.ed;rw[o];rw[e,Bn,x]at l d ⊢
 have D:q.leads=true:=by
  refine mK λg=>?_;unfold Nod.bw at l;rw[if_neg g]at l
  exact g l
 have p:q.bw i w=(Ew q i 5,w++CS q i 5):=by unfold Nod.bw;rw[if_pos D]
 rw[p]at d ⊢
 have d:(M.ab i).ae.length<=q.ae.length:=d;show _<=(Ew q i 5).bn.bw j/\((Ew q i 5).bn.bw j<=_\/∃ m∈((M.ab i).piece i M.br M.ed).2.1,_/\_/\_/\(Ew q i 5).bn.bw j<=_);rw[y,p];rcases lL q v a with⟨g1,g2⟩|⟨g1,g2,g3⟩
 .rw[g2];exact⟨by omega,.inl (by rw[r];exact f)⟩
 .rw[g2];refine⟨d,.inr ⟨_,lV _ g3,rfl,rfl,by show q.bn.bw j<=_;rw[r];exact f,?_⟩⟩;show q.ae.length<=q.bn.bw j+(q.ae.drop (q.bn.bw j)).length;rw[lZ];omega
theorem H5(u:UC U C K B cov i b){n:Nat}{M:Meet}(E:MOk n M)(L:n+6<=1000000)(h:UL U C K B cov i b M)(t:U0 U i M):U0 U i (M.ew Am)/\∀ j,Up U j->(M.ab i).ae.length<=((M.ew Am).ab j).ae.length:=by
 have G:∀ c A N,Stp wh1 c A N->UL U C K B cov i b A->UL U C K B cov i b N:=λc A N s g=>g.step u s.calm;have O:∀ k,k<=5->MOk (n+k) (M.ew (Bz 3 k))/\UL U C K B cov i b (M.ew (Bz 3 k))/\(∀ j,Ev (M.ab j) ((M.ew (Bz 3 k)).ab j))/\(k<=i->(M.ew (Bz 3 k)).ab i=M.ab i)/\(i<k->U1 U i (M.ab i).ae.length (M.ew (Bz 3 k))):=by
  intro k;induction k with
  | zero=>exact λ_=>⟨E,h,λj=>.refl _,λ_=>rfl,λe=>absurd e (nY _)⟩
  | succ k ih =>
   intro P;obtain⟨d,o,r,y,p⟩:=ih (by omega);rw[Dv,B2];generalize M.ew (Bz 3 k)=A at d o r y p ⊢;have q:=Dk (I:=λN=>(∀ j,Ev (A.ab j) (N.ab j))/\∀ m∈A.br,m∈N.br) (λc X N s g=>⟨λj=>(g.1 j).trans (s.calm.ev j),λm z=>s.calm.qK (g.2 m z)⟩) d (show k<5 by omega) ⟨λj=>.refl _,λm z=>z⟩;refine⟨d.act (by omega) (GO (by omega)),Dk G d (by omega) o,λj=>(r j).trans (q.1 j),λe=>by rw[EX _ (by omega)];exact y (by omega),λe=>?_⟩;by_cases F:i<k
   .intro j f a;obtain⟨x,l⟩:=p F j f a;rw[EX A (i:=k) (j:=i) (by omega)];have:=(q.1 j).ag.length_le;refine⟨x,?_⟩;rcases l with l|⟨m,l,g3,g4,g5,g6⟩
    .exact .inl (by omega)
    .exact .inr ⟨m,q.2 m l,g3,g4,by omega,g6⟩
   .obtain rfl:k=i:=by omega
    have D:=y (A' _);have:=Pm u d (by omega) o (λj f a=>by
     have:=(r j).ag.length_le;have:=t j f a;rw[D];omega)
    rw[D]at this;exact this
 obtain⟨d,o,r,_,p⟩:=O 5 (A' _);have p:=p u.hi;rw[Ex];generalize M.ew (Bz 3 5)=A at d o r p ⊢;have key:∀ j,Up U j->j≠i->((A.act (acN 7 0)).ab i).bn.bw j<=((A.act (acN 7 0)).ab j).ae.length/\(M.ab i).ae.length<=((A.act (acN 7 0)).ab i).bn.bw j:=λj f a=>by
  obtain⟨x,l⟩:=p j f a;rcases l with l|⟨m,l,g3,g4,g5,g6⟩
  .obtain⟨N,w,v,_⟩:=CI (I:=λN=>UL U C K B cov i b N/\(N.ab i).bn.bw=(A.ab i).bn.bw/\Ev (A.ab j) (N.ab j)) (λX N s g=>⟨g.1.step u s.qQ,(g.1.pe.tk s).trans g.2.1,g.2.2.trans (s.qQ.ev j)⟩) d ⟨o,rfl,.refl _⟩;rw[w];show(N.ab i).bn.bw j<=(N.ab j).ae.length/\_<=(N.ab i).bn.bw j;have:=v.2.2.ag.length_le;rw[v.2.1];omega
  .obtain⟨N,w,v,k3,_⟩:=EH (I:=λN=>UL U C K B cov i b N/\(N.ab i).bn.bw=(A.ab i).bn.bw/\Ev (A.ab j) (N.ab j)) (J:=λN=>(A.ab i).bn.bw j<=(N.ab j).ae.length) (λX N s g=>⟨g.1.step u s.qQ,(g.1.pe.tk s).trans g.2.1,g.2.2.trans (s.qQ.ev j)⟩) (λX N s g k=>by have:=(s.qQ.ev j).ag.length_le;omega) d ⟨o,rfl,.refl _⟩ l (λN g=>by rw[g4];exact g.1.pe.pb.cm.up j f) (λN g _=>by
    have H:=g.2.2.ag.length_le;rw[g4,Al,if_pos rfl];unfold Nod.take;rw[g3];simp only;rw[if_neg (by omega)];show _<=((N.ab j).ae++m.hZ.drop ((N.ab j).ae.length-m.bt)).length;rw[H',lZ];omega)
   rw[w];show(N.ab i).bn.bw j<=(N.ab j).ae.length/\_<=(N.ab i).bn.bw j;rw[v.2.1];exact⟨k3,x⟩
 refine⟨λj f a=>(key j f a).1,λj f=>?_⟩;by_cases e:j=i
 .subst e;have:=h.round u E L;rw[Ex]at this
  obtain⟨N,w,v,_⟩:=CI (I:=λN=>Ev (A.ab j) (N.ab j)) (λX N s g=>g.trans (s.qQ.ev j)) d (.refl _);rw[w];exact((r j).trans v).ag.length_le
 .have:=key j f e;omega
theorem Pl(a:UC U C K B cov i b){n:Nat}{M:Meet}(o:MOk n M)(O:n+6<=1000000)(h:UL U C K B cov i b M){v:Vt}(L:Ah v)(d:v.b=b)(z:Uz U i v M)(Q:(M.ab i).ae.length<(M.ab i).bn.next) :
  v.bt<(((M.ew Am).ab i).ae.length:Int)/\((M.ew Am).ab i).bn.next=(M.ab i).bn.next:=by
 have q:∀ c A N,Stp wh1 c A N->UL U C K B cov i b A->UL U C K B cov i b N:=λc A N s g=>g.step a s.calm;have x:∀ A N,TkS A N->UL U C K B cov i b A->UL U C K B cov i b N:=λA N s g=>g.step a s.qQ;have E:=h.round a o O;have m:=Cf q o (by omega) h;have r:((M.ew (Bz 3 5)).ab i).bn.next=(M.ab i).bn.next:=by
  obtain⟨N,F,S,T⟩:=Hw M a.hi.lt;have H:UL U C K B cov i b N:=by
   rw[S];have P:∀ k,k<=5->MOk (n+k) (M.ew (Bz 3 k))/\UL U C K B cov i b (M.ew (Bz 3 k)):=by
    intro k;induction k with
    | zero=>exact λ_=>⟨o,h⟩
    | succ k ih =>
     intro V;obtain⟨w,G⟩:=ih (by omega);rw[Dv,B2];exact⟨w.act (by omega) (GO (by omega)),Dk q w (by omega) G⟩
   have:=a.hi.lt;exact(P i (by omega)).2
  rw[T,Ra a H (by rw[F];exact Q),F]
 refine⟨?_,by rw[E.2.2.2.2,r]⟩;have p:=Cf (I:=λN=>UL U C K B cov i b N/\v∈((N.ab i).bn.an i).vs) (λc A N s g=>⟨q c A N s g.1,g.1.pe.nn a s.calm d a.hi g.2⟩) o (by omega) ⟨h,z.1⟩;have D:∀ j,Up U j->j≠i->({ BI 4 with cl:=v,src:=j,dst:=i }:Let)∈(M.ew (Bz 3 5)).br:=λj f e =>
  Gu (J:=λN=>({ BI 4 with cl:=v,src:=j,dst:=i }:Let)∈N.br) q (λc A N s _ g=>s.calm.qK g) o (by omega) h f (λA g=>⟨g.pe.pb.cm.up j f,g.pe.pb.cm.rC f⟩) (z.2 j f e) λN l g _ _=>lV _ (D'.2 rfl)
 refine E.1.ld v d λj f=>?_;rw[Ex];generalize M.ew (Bz 3 5)=A at m D p ⊢;by_cases e:j=i
 .subst e;obtain⟨N,t,R,_⟩:=CI (I:=λN=>UL U C K B cov j b N/\v∈((N.ab j).bn.an j).vs) (λA N s g=>⟨x A N s g.1,g.1.pe.nn a s.qQ d f g.2⟩) m.1 ⟨m.2,p.2.2⟩;rw[t];exact R.2
 .obtain⟨N,t,_,k3,_⟩:=EH (J:=λN=>v∈((N.ab i).bn.an j).vs) x (λA N s g k=>g.pe.nn a s.qQ d f k) m.1 m.2 (D j f e) (λN g=>g.pe.pb.cm.up i a.hi) (λN g _=>by
   rw[Al,if_pos rfl];have u:=g.pe.acc a f;have y:(N.ab i).bn.jv=b:=(g.pe.pb.cm.jv i a.hi).trans a.hB;exact PB (d.trans y.symm) u.1 L (u.2.trans y.symm))
  rw[t];exact k3
def Uy(U:Nat->Bool)(i:Nat)(b:Bal)(M:Meet):Prop:=(M.ab i).bn.next<=(M.ab i).ae.length\/∃ v:Vt,Ah v/\v.b=b/\v.bt=((M.ab i).ae.length:Int)/\Uz U i v M
theorem aB(q:UC U C K B cov i b){M:Meet}(h:UL U C K B cov i b M)(x:(M.ab i).bn.next<=(M.ab i).ae.length)(d:(M.ab i).ae.length<40->(M.ab i).pd (M.ab i).ae.length=Option.none):Fin_ i (M.ab i).ae M:=by
 refine⟨rfl,x,λf j s v t e=>?_,λf c n=>mK λe=>?_⟩
 .have d:=d f;unfold Nod.pd at d;have p:∀ l∈(M.ab i).bn.ln.map (·.vs),∀ u∈l,Ah u:=λl o u k=>by
   obtain⟨a,f,rfl⟩:=mt.1 o;unfold Rnd.ln at f;simp only[ma,P',or_false]at f;rcases f with e|e|e|e|e<;>(rw[e]at k;exact((h.pe.sU q (by omega)).2.1 u k).1)
  have m:BR ((M.ab i).bn.ln.map (·.vs)) ((M.ab i).ae.length:Int)=0:=by unfold BR;rw[if_neg (λg=>g (by omega)),if_pos p]
  have r:DI ((M.ab i).bn.ln.map (·.vs)) ((M.ab i).ae.length:Int)=true:=by
   unfold DI;rw[if_pos m];have:v∈Ae ((M.ab i).bn.ln.map (·.vs)).flatten ((M.ab i).ae.length:Int):=AH.2 ⟨nH.2 ⟨((M.ab i).bn.an j).vs,mt.2 ⟨(M.ab i).bn.an j,by unfold Rnd.ln;rcases qm s with rfl|rfl|rfl|rfl|rfl<;>simp,rfl⟩,t⟩,e⟩;unfold DP;generalize Ae _ _=l at this;have key:∀ (l:List Vt) (u:Vt),(BM l (some u)).isSome=true:=by
    intro l;induction l with
    | nil=>exact λu=>rfl
    | cons w l ih=>intro u;rw[BM];split<;>exact ih _
   cases l with
   | nil=>cases this
   | cons w l=>exact key l w
  rw[if_neg (λg=>g m),if_pos r]at d
  cases d
 .have d:=d f;unfold Nod.pd at d;have p:∀ l∈(M.ab i).bn.ln.map (·.vs),∀ u∈l,Ah u:=λl o u k=>by
   obtain⟨a,f,rfl⟩:=mt.1 o;unfold Rnd.ln at f;simp only[ma,P',or_false]at f;rcases f with e|e|e|e|e<;>(rw[e]at k;exact((h.pe.sU q (by omega)).2.1 u k).1)
  have m:BR ((M.ab i).bn.ln.map (·.vs)) ((M.ab i).ae.length:Int)=0:=by unfold BR;rw[if_neg (λg=>g (by omega)),if_pos p]
  rw[if_neg (λg=>g m)]at d
  split at d
  .cases d
  .exact absurd (nk.1 d c n) (by simpa using e)
theorem aC(a:UC U C K B cov i b)(A:14*K+38*(cov.length:Int)<=99000)(j:∀ c∈C,c.e=0)(k:Nat){n:Nat}{M:Meet}(d:MOk n M)(H:n+6*k<=999000)(h:UL U C K B cov i b M)(z:Uy U i b M)(t:U0 U i M)(f:mu i M<=k) :
  ∃ m,m<=k/\Fin_ i ((M.ew (Au m)).ab i).ae (M.ew (Au m))/\UL U C K B cov i b (M.ew (Au m))/\U0 U i (M.ew (Au m))/\MOk (n+6*m) (M.ew (Au m)):=by
 induction k generalizing n M with
 | zero =>
  have:=h.nx;unfold mu at f;split at f<;>omega
 | succ k ih =>
  have F:=h.nx;have D:=(d.ab i a.hi).ag;by_cases o:(M.ab i).bn.next<=(M.ab i).ae.length
  .by_cases hf:(M.ab i).ae.length<40->(M.ab i).pd (M.ab i).ae.length=Option.none
   .exact⟨0,mA _,aB a h o hf,h,t,d⟩
   .obtain⟨ha,p⟩:=Classical.not_imp.1 hf;obtain⟨c,p⟩:=nL.1 p;have g:=h.round a d (by omega);have l:=Pk a A j d (by omega) h ha o p;have E:=(g.2.2.2.1 i).ag.length_le;have q:Ah ⟨((M.ab i).ae.length:Int),b,c⟩:=⟨by show(0:Int)<=((M.ab i).ae.length:Int)/\((M.ab i).ae.length:Int)<=39;omega,a.hb,j c (KF (h.pe.pb.cm.s.nd i a.hi) p)⟩;obtain⟨m,y,r,u,x,w⟩:=ih (M:=M.ew Am) (n:=n+6) g.2.1 (by omega) g.1 (by
     by_cases e:((M.ew Am).ab i).ae.length=(M.ab i).ae.length
     .exact .inr ⟨_,q,rfl,by rw[e],l.1⟩
     .exact .inl (by rw[l.2];omega)) (H5 a d (by omega) h t).1 (by
     unfold mu at f ⊢;rw[if_pos o]at f
     split<;>omega)
    refine⟨m+1,by omega,?_⟩;rw[<- Ln,AU];exact⟨r,u,x,by rw[show n+6*(m+1)=n+6+6*m by omega];exact w⟩
  .rcases z with z|⟨v,q,hvb,hs,z⟩
   .exact absurd z o
   .have g:=h.round a d (by omega);have l:=Pl a d (by omega) h q hvb z (by omega);rw[hs]at l
    have G:=q.1.2;obtain⟨m,y,r,u,x,w⟩:=ih (M:=M.ew Am) (n:=n+6) g.2.1 (by omega) g.1 (.inl (by rw[l.2];omega)) (H5 a d (by omega) h t).1 (by
     unfold mu at f ⊢;rw[if_neg o]at f
     split<;>omega)
    refine⟨m+1,by omega,?_⟩;rw[<- Ln,AU];exact⟨r,u,x,by rw[show n+6*(m+1)=n+6+6*m by omega];exact w⟩
theorem UC.b0(a:UC U C K B cov i b):b≠AY:=λe=>by have:=a.hb;rw[e]at this;exact absurd this (by decide)
theorem AW.rL(d:UC U C K B cov i b){n:Nat}{M N:Meet}(s:Stp wh0 n M N)(h:UB U C K B cov i b M){j:Nat}(f:Up U j)(a:AW b j M):AW b j N:=by
 refine⟨h.cm.top d.hc s d.hb.pr d.hK f a.1,λc x e=>?_⟩;rcases s.bN e with g|⟨_,rfl⟩
 .exact a.2 c x g
 .rw[Al,if_pos rfl]at e
  exact(T7 d.b0 a.1 e).elim id λg=>a.2 c x g.1
theorem WM(a:UC U C K B cov i b){M:Meet}(h:UB U C K B cov i b M){j:Nat}(d:Up U j)(w:(M.ab j).vo.p=b):AW b j (M.act (acN 3 (j:Int))):=by
 have v:=h.cm.up j d;obtain⟨k,s0,J,H,a0,l,q,F,z,E⟩:=Hv (D:=wh1) d v;have m:∀ c A N,Stp wh1 c A N->(UB U C K B cov i b A/\(A.ab j).vo.p=b)->UB U C K B cov i b N/\(N.ab j).vo.p=b:=λc A N s g=>⟨g.1.step a s.calm,(s.sQ j).trans g.2⟩;have e:=s0.inv m ⟨h,w⟩;have f:=z.inv m e;have n:=e.1.ak j d;have G:=KE n.nd λc r=>(e.1.cm.s.nd j d).wa c r;have t:=a.hC;have u:(k.ab j).au.take 40=(k.ab j).au:=mc (by omega);have y:AW b j l:=⟨f.2,λc x o=>by
  rw[q,Bn]at o
  refine(T7 a.b0 e.2 o).elim id λg=>absurd ?_ g.2;rw[u,n.wa c,g.1];rfl⟩
 have s3:=Stp.prop (D:=wh1) l j d F;exact(E.inv (I:=λN=>UB U C K B cov i b N/\AW b j N) (λc A N s g=>⟨g.1.step a s.calm,g.2.rL a s.calm g.1 d⟩) ⟨f.1.step a s3.calm,y.rL a s3.calm f.1 d⟩).2
theorem WK(f:UC U C K B cov i b){n:Nat}{M:Meet}(u:MOk n M)(V:n+6<=1000000)(h:UB U C K B cov i b M)(q:UQ U i b M)(y:∀ j,Up U j->(M.ab j).vo.p=b)(hp:(M.ab i).bn.ql i=true)(hw:∀ j,Up U j->j≠i->∃ vs,Pend.prom i b vs∈(M.ab j).bu)(o:P1 i (M.ab i))(hl:M.br=[]) :
  UL U C K B cov i b (M.ew Am)/\Uy U i b (M.ew Am)/\U0 U i (M.ew Am)/\MOk (n+6) (M.ew Am):=by
 have hP:∀ A N,TkS A N->UB U C K B cov i b A->UB U C K B cov i b N:=λA N s g=>g.step f s.qQ;have T:∀ c A N,Stp wh1 c A N->UB U C K B cov i b A->UB U C K B cov i b N:=λc A N s g=>g.step f s.calm;have hq:=Mo f u V h q;have d:∀ j,Up U j->j≠i->((M.ew Am).ab i).bn.ql j=true:=λj a l=>by
  obtain⟨vs,g⟩:=hw j a l;exact QZ f u V h a g
 have Q:=Cf (I:=λN=>UB U C K B cov i b N/\(∀ j,Up U j->(N.ab j).vo.p=b)/\P1 i (N.ab i)/\K1 N/\(N.ab i).bn.ql i=true) (λc A N s g=>⟨T c A N s g.1,λj a=>(s.sQ j).trans (g.2.1 j a),s.p1 g.2.2.1,g.2.2.2.1.step s.calm,(s.calm.ev i).ql i g.2.2.2.2⟩) u (by omega) ⟨h,y,o,λm w=>by rw[hl]at w;(cases w),hp⟩;have R:∀ j,Up U j->AW b j (M.ew (Bz 3 5)):=λj a=>IB (I:=λN=>UB U C K B cov i b N/\(N.ab j).vo.p=b) (J:=AW b j) (λc A N s g=>⟨T c A N s g.1,(s.sQ j).trans g.2⟩) (λc A N s g k=>k.rL f s.calm g.1 a) u (by omega) ⟨h,y j a⟩ a λN m _ _ g _=>WM f g.1 a g.2;have S:NB ((M.ew (Bz 3 5)).ab i):=by
  obtain⟨N,Y,n2,n3⟩:=Hw M f.hi.lt;rw[n3,GN (by rw[Y];exact h.cm.up i f.hi),Al,if_pos rfl];intro x vs g;rw[Hr (by rw[Y];exact h.cm.rC f.hi)]at g
  cases g
 obtain⟨z,D,L,E⟩:=hq;rw[Ex]at z D L E d ⊢
 generalize M.ew (Bz 3 5)=A at Q R S z D L E d ⊢;obtain⟨Z,hB,a0,o,F,G⟩:=Q;obtain⟨N,k1,k2,_⟩:=CI (I:=λN=>UB U C K B cov i b N/\(∀ j,Up U j->AW b j N)/\NB (N.ab i)/\(N.ab i).bn.ql i=true/\(N.ab i).bn.next=0/\K1 N/\T1 i N) (λX N s g=>⟨hP X N s g.1,λj a=>(g.2.1 j a).rL f s.qQ g.1 a,s.qQ.nb g.2.2.1,(s.qQ.ev i).ql i g.2.2.2.1,(s.qQ.rh i).trans g.2.2.2.2.1,g.2.2.2.2.2.1.step s.qQ,g.2.2.2.2.2.2.tk s g.2.2.2.2.2.1⟩) Z ⟨hB,R,S,G,o.1,F,λj a l e=>by rw[o.2 j l]at e;cases e⟩;rw[k1]at z D L E d ⊢
 obtain⟨r1,O,r3,r4,P,r6,r7⟩:=k2;have d:∀ j,Up U j->(N.ab i).bn.ql j=true:=λj a=>by
  by_cases e:j=i
  .rw[e];exact r4
  .exact d j a e
 have t:UE U C K B cov i b { N with br:=[] }:=⟨z,λj a=>(O j a).1,d,r3,λj a=>(O j a).2,λm w=>(by cases w),λj a c hc=>by
  have ha:=((r1.ak j a).wa c).1 hc;obtain⟨x,W⟩:=m5.1 ha;exact D j a c (by rw[show((({ N with br:=[] }:Meet).ab j).bN c)=some x from W,(O j a).2 c x W])⟩
 refine⟨⟨t,λv H y=>?_,by show(N.ab i).bn.next<=_/\(N.ab i).bn.next<=40;rw[P];omega⟩,.inl (by show(N.ab i).bn.next<=_;rw[P];exact mA _),λj a l=>r7 j a l (d j a),E⟩;obtain⟨σ,g,_⟩:=t.pb.cm.ex;have r:=g.gs.hv i v ((t.rd f g).1.an i f.hi v (y i f.hi)).1;have:=t.lt f g r H;have e:(({ N with br:=[] }:Meet).ab i).bn.next=0:=P;rw[e]at this
 have:=r.1.1;omega
end
section
variable{U:Nat->Bool}{S:Cmd->Prop}{K:Int}{B:Nat->Bal}{cov:List (Bal × Nat)}{M:Meet}
theorem Um.to{M:Meet}(h:Um U S K B cov M){K':Int}(c:∀ j,j<5->(M.ab j).pk<=K')(b:K'<=3600):Um U S K' B cov M :=
 ⟨h.ex,⟨b,λj a=>⟨c j a,(h.kb.2 j a).2⟩⟩,h.ub,h.jv,h.s,h.ls⟩
theorem Um.lead{M:Meet}(h:Um U S K B cov M)(z:14*K+38*(cov.length:Int)<=99000){i:Nat}(a:Up U i)(J:K<=3591)(L:0<=(M.ab i).dc/\5*(M.ab i).dc<=3591) :
  ∃ b,Led i (M.ab i) ((M.ab i).lead i) b/\Um U S 3600 (upN B i b) (cov++If b) (M.set i ((M.ab i).lead i) M.br M.ed):=by
 have v:=h.up i a;have C:=a.lt;have P:=h.le a;have t:=(h.acc a).1;have O:=Yu t;have G:0<=(M.ab i).vo.p.r/\0<=(M.ab i).vo.p.n/\(M.ab i).vo.p.n<=4:=by unfold Ao Ab at t;omega
 obtain⟨b,l⟩:∃ b:Bal,(⟨max (M.ab i).dc (M.ab i).vo.p.r+1,(i:Int)⟩:Bal)=b:=⟨_,rfl⟩;have N:b.key=5*(max (M.ab i).dc (M.ab i).vo.p.r+1)+(i:Int):=by rw[<- l];rfl
 have E:(M.ab i).vo.p.key=5*(M.ab i).vo.p.r+(M.ab i).vo.p.n:=rfl;have q:Ab b:=by rw[<- l];refine⟨⟨?_,?_⟩,?_,?_⟩<;>simp only<;>omega
 have f:=h.prom z a q (by rw[Fr q.pr t];omega);have F:(M.ab i).lead i=Nod.wait { ((M.ab i).av b).1 with bn:=⟨b,λ_=>false,λ_=>DA,λ_=>(M.ab i).ae.length,0,[]⟩ } (.began b ((M.ab i).av b).2.1):=by
  unfold Nod.lead;simp only;rw[l,if_neg (λg=>g f.1)]
 have u:((M.ab i).av b).1.dc=(M.ab i).dc:=by
  unfold Nod.av;split
  .rfl
  .split
   .rfl
   .split<;>rfl
 have d:Led i (M.ab i) ((M.ab i).lead i) b:=by
  rw[F];exact⟨q,by rw[<- l],by omega,by omega,(Ev.av _ b).up,f.2,rfl,⟨rfl,λ_ _=>rfl⟩,⟨_,lV _ (D'.2 rfl)⟩,(AF _ b).1,u⟩
 refine⟨b,d,?_⟩;obtain⟨σ,g,A⟩:=h.ex;obtain⟨τ,H,I,w,x,y⟩:=g.step (D:=whT) (.lead M i a.lt v trivial);refine⟨⟨τ,w,λm s c k=>?_⟩,⟨lU _,?_⟩,λj o=>?_,λj o=>?_,h.s.step (D:=⟨λ_ _=>False,True,False,False,False,False⟩) (λ_ _ e=>False.elim e) (.lead M i a.lt v trivial),h.ls⟩
 .rcases x m s c k with k|k
  .exact lT _ (A m s c k)
  .exact absurd (y m s k).1 (by decide)
 .refine(h.kb.2.mono h.kb.1 (lU _)).set ⟨?_,by rw[d.ro];omega⟩ _ _;unfold Nod.pk;rw[if_pos (d.up.trans v),d.vo];omega
 .rw[Al];split
  .rename_i e;rw[e];exact d.up.trans (h.ub i a)
  .exact h.ub j o
 .rw[Al];unfold upN;split
  .exact d.jv
  .exact h.jv j o
end
section
variable{U:Nat->Bool}{C:List Cmd}{K:Int}{B:Nat->Bal}{cov:List (Bal × Nat)}{i:Nat}{b:Bal}{A:List Cmd}
theorem Fin_.rK(a:UC U C K B cov i b){M:Meet}(h:UE U C K B cov i b M)(f:Fin_ i A M){j:Nat}(c:Up U j)(p:A.length<=(M.ab j).ae.length):(M.ab j).ae=A:=by
 have o:=f.sZ a h c;obtain⟨σ,g,_⟩:=h.pb.cm.ex;refine ol (by omega) λs k l=>?_;obtain⟨m,d⟩:=(g.nd j c).ag s _ (G' k);obtain⟨n,e⟩:=(g.nd i a.hi).ag s _ (by rw[f.ag];exact G' l);exact g.gs.rW.agree d e
structure Ufz(U:Nat->Bool)(C:List Cmd)(K:Int)(B:Nat->Bal)(cov:List (Bal × Nat))(i:Nat)(b:Bal)(A:List Cmd)(M:Meet):Prop where
 l:UL U C K B cov i b M
 f:Fin_ i A M
 a:∀ j,Up U j->(M.ab j).ae=A
 s:∀ j,j<5->StI (M.ab j)
theorem Ufz.step(d:UC U C K B cov i b){n:Nat}{M N:Meet}(s:Stp wh0 n M N)(h:Ufz U C K B cov i b A M):Ufz U C K B cov i b A N:=by
 have e:=h.l.step d s;have g:=Fin_.rY d s h.l.pe h.f;exact⟨e,g,λj c=>g.rK d e.pe c (by have:=(s.ev j).ag.length_le;rw[h.a j c]at this;exact this),StI.step s (λj c=>(h.l.pe.pb.ak j c).dn) h.s⟩
theorem Ufz.drop{N:Meet}(h:Ufz U C K B cov i b A N):Ufz U C K B cov i b A { N with br:=[] }:=⟨h.l.drop,h.f.drop,h.a,h.s⟩
structure Urst(U:Nat->Bool)(C:List Cmd)(K:Int)(B:Nat->Bal)(cov:List (Bal × Nat))(i:Nat)(b:Bal)(A:List Cmd)(M:Meet):Prop where
 z:Ufz U C K B cov i b A M
 d:∀ j,Up U j->(M.ab j).done=A.length
theorem JA(g:UC U C K B cov i b){n:Nat}{M N:Meet}(s:Stp wh0 n M N)(h:Ufz U C K B cov i b A M){j:Nat}(e:Up U j)(d:(M.ab j).done=A.length):(N.ab j).done=A.length:=by
 have c:=h.step g s;have k:=(s.ev j).dn;have f:=(c.l.pe.pb.ak j e).dn;rw[c.a j e]at f
 omega
theorem Urst.step(a:UC U C K B cov i b){n:Nat}{M N:Meet}(s:Stp wh0 n M N)(h:Urst U C K B cov i b A M):Urst U C K B cov i b A N:=⟨h.z.step a s,λj c=>JA a s h.z c (h.d j c)⟩
theorem Rb(o:UC U C K B cov i b)(g:∀ c∈C,c.e=0){M:Meet}(h:Ufz U C K B cov i b A M){j:Nat}(d:Up U j):((M.act (acN 3 (j:Int))).ab j).done=A.length:=by
 have n:=h.l.pe.pb.cm.up j d;have m:=(h.l.pe.pb.ak j d).dn;have k:∀ c∈(M.ab j).ae,c.e=0:=λc f=>g c ((h.l.pe.pb.cm.s.nd j d).ag c f);rw[GN n,Al,if_pos rfl,SS,bE]
 .rw[lZ,h.a j d];rw[h.a j d]at m
  omega
 .rw[h.s j d];exact ZK _ λc f=>k c (mh f)
 .exact λc f=>k c (nI f)
theorem eo(S:∀ c∈C,c.e=0)(hC:C.length<40){K1:Int}{n:Nat}{M:Meet}(hM:MOk n M){m:Nat}(hm:85<=m)(hn:n+6*m+20<=990000)(hc:∀ j,j<5->∀ s,s<40->(B j,s)∈cov)(h:Um U (λc=>c∈C) K B cov M)(gr:Gr8 K (M.ab i))(hk:KbI K1 K1 M)(hK:K<=K1)(a4:K1<=3510)(hQ:14*K1+38*(cov.length:Int)<=97000)(t:Up U i)(hA:∀ j,j<5->AskI (M.ab j))(hS:∀ j,j<5->StI (M.ab j))(hU:3<=FJ U)(hz:∀ j,j<5->U j=false->(M.ab j).pk<=K) :
  ∃ K' B' cov' b A,UC U C K' B' cov' i b/\Urst U C K' B' cov' i b A ((M.act (acN 2 (i:Int))).ew (Au m)):=by
 have hu:=h.up i t;have a6:=t.lt;have hr:=hk i t;have a3:=(hM.ab i t).ro;have u:=hM.act (x:=acN 2 (i:Int)) (by omega) (KN ⟨.inl rfl,by omega,by omega⟩);obtain⟨b,q,o⟩:=h.lead (by omega) t (by omega) ⟨a3.1,by omega⟩;obtain⟨σ,g,_⟩:=h.ex;have O:=AskI.step (Stp.lead (D:=whT) M i t.lt hu trivial) g hA;have T:=StI.step (Stp.lead (D:=whT) M i t.lt hu trivial) (λj f=>(hA j f).dn) hS;have a5:=gr.gt (h.acc t).1 q;have a7:b.key<=K1+9:=by
  have:=q.le;have:=h.le t;omega
 rw[Qb hu]at u ⊢
 have G:=Bn M i ((M.ab i).lead i) M.br M.ed;have H:∀ j,j≠i->((M.set i ((M.ab i).lead i) M.br M.ed).ab j)=M.ab j:=λj f=>by rw[Al,if_neg f]
 have a0:∀ j,j<5->U j=false->((M.set i ((M.ab i).lead i) M.br M.ed).ab j).pk<b.key:=λj f e=>by
  rw[H j (λg=>by rw[g,t.up]at e;cases e)];have:=hz j f e;omega
 have W:UQ U i b (M.set i ((M.ab i).lead i) M.br M.ed):=λj f c hx=>by
  refine absurd ?_ (show ¬ b.key<=max K (M.ab i).vo.p.key by have:=q.gt;omega);by_cases e:j=i
  .rw[e,G,q.ask.2.1]at hx
   have:=(hA i t).le c b hx;omega
  .rw[H j e]at hx
   have:=(hA j f).le c b hx;have:=h.le f;omega
 have F:∀ j,Up U j->j≠i->((M.set i ((M.ab i).lead i) M.br M.ed).ab j).vo.p.key<b.key:=λj f e=>by
  rw[H j e];have:=h.le f;omega
 generalize M.set i ((M.ab i).lead i) M.br M.ed=N at o u G O T W F a0 ⊢;rw[<- G]at q
 have o:=o.to (K':=b.key) (λj f=>by
  cases e0:U j with
  | false=>exact oI (a0 j f e0)
  | true =>
   unfold Nod.pk;rw[if_pos (o.up j ⟨f,e0⟩)];by_cases e:j=i
   .rw[e,q.vo];exact lU _
   .have:=F j ⟨f,e0⟩ e;omega) (by omega)
 have E:∀ k,k<5->∀ s,s<40->(upN B i b k,s)∈cov++If b:=λk hk s hs=>by
  unfold upN;split
  .exact lV _ (GA b hs)
  .exact lT _ (hc k hk s hs)
 have l:UC U C b.key (upN B i b) (cov++If b) i b:=⟨E,hC,t,q.may,hU,q.n,CT _ _ _,rfl⟩;have y:14*b.key+38*((cov++If b).length:Int)<=99000:=by
  have:(cov++If b).length=cov.length+40:=by rw[H'];unfold If;rw[mm,oX]
  omega
 obtain⟨vs,hq⟩:=q.pe;generalize cov++If b=cov' at o E l y;generalize upN B i b=B' at o E l;generalize a1:b.key=K' at o l y F;have R:UB U C K' B' cov' i b N:=⟨o,O,q.vo⟩;obtain⟨p1,p2,p3,p4,p5,p6,p7⟩:=WJ E y u (by omega) o t q.may a1 l.hB q.vo F hq q.p1;obtain⟨q1,q2,_,_⟩:=Mo l u (by omega) R W;have V:=Eb (I:=λX=>UB U C K' B' cov' i b X/\∀ j,j<5->StI (X.ab j)) (λc X Y s g=>⟨g.1.step l s,StI.step s (λj f=>(g.1.ak j f).dn) g.2⟩) (λX g=>⟨⟨g.1.cm.drop,g.1.ak,g.1.vi⟩,g.2⟩);have L:∀ a X k,MOk k X->k+6*a<=1000000->UB U C K' B' cov' i b X->(∀ j,j<5->StI (X.ab j))->∀ j,j<5->StI ((X.ew (Au a)).ab j):=λa X k h1 h2 h3 h4=>(V a h1 h2 ⟨h3,h4⟩).1.2;clear V;have s1:=L 1 N _ u (by omega) R T;rw[show Au 1=Am from rfl]at s1
 obtain⟨r1,r2,r3,r4⟩:=WK l p7 (by omega) q1 (λj f c e=>.inl (q2 j f c e)) p2 p3 p4 p5 p6;have s2:=L 1 _ _ p7 (by omega) q1 s1;rw[show Au 1=Am from rfl]at s2
 obtain⟨m0,t1,t2,t3,t4,t5⟩:=aC l y S 81 r4 (by omega) r1 r2 r3 (by unfold mu;split<;>omega);have s3:=L m0 _ _ r4 (by omega) r1.pe.pb s2;obtain⟨r,rfl⟩:∃ r,m=1+(1+(m0+(1+(1+r)))):=⟨m-m0-4,by omega⟩;rw[EM,AU,EM,AU,EM,AU,EM,AU,EM,AU];simp only[show Au 1=Am from rfl];generalize (((N.ew Am).ew Am).ew (Au m0))=X at t2 t3 t4 t5 s3 ⊢;generalize (X.ab i).ae=A at t2;obtain⟨u1,u2⟩:=H5 l t5 (by omega) t3 t4;rw[t2.ag]at u2
 have v:=Eb (I:=λY=>UL U C K' B' cov' i b Y/\Fin_ i A Y/\∀ j,j<5->StI (Y.ab j)) (λc Y Z s g=>⟨g.1.step l s,Fin_.rY l s g.1.pe g.2.1,StI.step s (λj f=>(g.1.pe.pb.ak j f).dn) g.2.2⟩) (λY g=>⟨g.1.drop,g.2.1.drop,g.2.2⟩) 1 t5 (by omega) ⟨t3,t2,s3⟩;rw[show Au 1=Am from rfl]at v
 obtain⟨⟨v1,v2,v3⟩,v4⟩:=v;have w:Ufz U C K' B' cov' i b A (X.ew Am):=⟨v1,v2,λj f=>v2.rK l v1.pe f (u2 j f),v3⟩;generalize X.ew Am=Y at w v4 ⊢;have x:Urst U C K' B' cov' i b A (Y.ew Am):=by
  have hz:=Eb (λc Y Z s g=>Ufz.step l s g) (λY g=>Ufz.drop g) 1 v4 (by omega) w;rw[show Au 1=Am from rfl]at hz
  refine⟨hz.1,λj f=>?_⟩;have a:=Cf (λc A N s g=>Ufz.step l s.calm g) v4 (by omega) w;have d:=IB (J:=λZ=>(Z.ab j).done=A.length) (λc A N s g=>Ufz.step l s.calm g) (λc A N s g d=>JA l s.calm g f d) v4 (by omega) w f λZ _ _ _ g _=>Rb l S g f;rw[Ex];obtain⟨Z,k1,k2,_⟩:=CI (I:=λZ=>Ufz U C K' B' cov' i b A Z/\(Z.ab j).done=A.length) (λP Q s g=>⟨g.1.step l s.qQ,JA l s.qQ g.1 f g.2⟩) a.1 ⟨a.2,d⟩;rw[k1];exact k2.2
 have a2:MOk (n+1+6+6+6*m0+6*1+6*1) (Y.ew Am):=(Eb (λc Y Z s g=>Ufz.step l s g) (λY g=>Ufz.drop g) 1 v4 (by omega) w).2;exact⟨K',B',cov',b,A,l,(Eb (λc Y Z s g=>Urst.step l s g) (λY g=>⟨g.z.drop,g.d⟩) r a2 (by omega) x).1⟩
end
section
def kl(l:List Int):Cmd:=⟨Ac (unQ l) 0,Ac (unQ l) 4,Ac (unQ l) 8,Ac (unQ l) 12,Ac (unQ l) 16⟩
variable{L:List Lac}{M N:Meet}{c:Cmd}{k0 n:Nat}{l:List Int}{now:Int}{x:Lac}{σ:Gs}
theorem jE(h:opE l now=0):unE l=0:=by
 unfold opE at h;split at h
 .rename_i g;exact absurd h g
 .rename_i g;exact lX.1 g
theorem km(h:unE l=0):(kl l).e=0:=by
 have:=(Re h).2;unfold Cb at this;split at this
 .cases this
 .exact this
def QO(L:List Lac):List Cmd:=(L.filter λx=>decide (x.k=1/\unE x.d=0)).map λx=>kl x.d
theorem dX(c:x∈L)(b:x.k=1){a:Int}(h:opE x.d a=0):Hq x.d a∈QO L:=by
 refine mt.2 ⟨x,nW.2 ⟨c,O' ⟨b,jE h⟩⟩,?_⟩;unfold Hq;rw[if_pos h];rfl
theorem iG(L:List Lac):∀ c∈QO L,c.e=0:=λc a=>by
 obtain⟨x,b,rfl⟩:=mt.1 a;exact km (my (nW.1 b).2).2
theorem KO(L:List Lac)(e:∀ x∈L,LacOk x)(k:L.length<=100000):(∀ j,j<5->AskI ((At.ew L).ab j))/\∀ j,j<5->StI ((At.ew L).ab j):=by
 have s:Sts whT L.length At (At.ew L):=FO L MOk.zero (by omega) λx i=>⟨e x i,UO x⟩;exact(s.inv (I:=λM=>(∃ σ,AgI σ M)/\(∀ j,j<5->AskI (M.ab j))/\∀ j,j<5->StI (M.ab j)) (λc M N h ⟨⟨σ,g⟩,a,b⟩=>by
  obtain⟨τ,_,_,d,_⟩:=g.step h;exact⟨⟨τ,d⟩,AskI.step h g a,StI.step h (λj f=>(a j f).dn) b⟩) ⟨⟨_,AgI.zero⟩,AskI.zero,StI.zero⟩).2
theorem ZL(L:List Lac):(QO L).length<=L.countP λx=>decide (x.k=1):=by
 unfold QO;rw[mm,<- List.countP_eq_length_filter];exact List.countP_mono_left λx _ h=>O' (my h).1
theorem YL{p:Nod}{s:Nat}(h:p.pd s=some c):(∃ j,j<5/\∃ v∈(p.bn.an j).vs,v.bt=(s:Int)/\v.w=c)\/c∉p.ae:=by
 unfold Nod.pd at h;split at h
 .cases h
 .rename_i d
  have d:=lX.1 d;split at h
  .rename_i hF
   left;have f:DI (p.bn.ln.map (·.vs)) (s:Int)=(DP (p.bn.ln.map (·.vs)) (s:Int)).isSome:=if_pos d;have o:Gg (p.bn.ln.map (·.vs)) (s:Int)=((DP (p.bn.ln.map (·.vs)) (s:Int)).map (·.w)).getD ⟨0,0,0,0,0⟩:=if_pos d;have g:∀ l∈p.bn.ln.map (·.vs),∀ v∈l,Ah v:=by
    unfold BR at d;split at d
    .cases d
    .split at d
     .assumption
     .cases d
   have n:∀ v∈Ae (p.bn.ln.map (·.vs)).flatten (s:Int),Ao v.b:=λv e=>by
    obtain⟨l,q,r⟩:=nH.1 (AH.1 e).1;exact(g l q v r).2.1.pr
   rcases KT _ n with⟨h0,hO⟩|⟨x,hO,hx,_⟩
   .have hO:DP (p.bn.ln.map (·.vs)) (s:Int)=none:=hO;rw[hO]at f;rw[f]at hF;cases hF
   .have hO:DP (p.bn.ln.map (·.vs)) (s:Int)=some x:=hO;rw[hO]at o
    obtain⟨u,i⟩:=AH.1 hx;obtain⟨l,t,e⟩:=nH.1 u;obtain⟨a,m,rfl⟩:=mt.1 t;have k:x.w=c:=o.symm.trans (mI h);unfold Rnd.ln at m;simp only[ma,P',or_false]at m;rcases m with rfl|rfl|rfl|rfl|rfl
    .exact⟨0,by decide,x,e,i,k⟩
    .exact⟨1,by decide,x,e,i,k⟩
    .exact⟨2,by decide,x,e,i,k⟩
    .exact⟨3,by decide,x,e,i,k⟩
    .exact⟨4,by decide,x,e,i,k⟩
  .exact .inr (by have:=qb h;simpa using this)
def NdW(σ:Gs):Prop:=∀ b s c,σ.W b s c->∃ l:List Cmd,l.length=s/\AgL σ l 0/\c∉l
theorem NdW.step{D:Wh}(h:AgI σ M)(k:NdW σ)(s:Stp D n M N):∃ τ,AgI τ N/\NdW τ:=by
 obtain⟨τ,w,d,r,t,u⟩:=h.sh s;refine⟨τ,r,λb s c g=>?_⟩;have a:∀ {b s c},σ.W b s c->∃ l:List Cmd,l.length=s/\AgL τ l 0/\c∉l:=λ{b s c} g=>by
  obtain⟨l,m,o,p⟩:=k b s c g;exact⟨l,m,o.mono d,p⟩
 rcases t b s c g with g2|e
 .exact a g2
 .obtain⟨_,_,i,hi,_,hu,rfl,hx⟩:=u b s e;rcases YL (hx c g)with⟨j,hj,v,hv,hs,rfl⟩|hc
  .obtain⟨rs,q⟩:=(h.nd i hi).up hu;have f:=(h.gs.hv j v (q.rd.an j hj v hv).1).2;rw[hs,mC]at f
   exact a f
  .exact⟨_,rfl,(h.nd i hi).ag.mono d,hc⟩
theorem NdW.ew(L:List Lac)(a:∀ x∈L,LacOk x)(c:L.length<=100000):∃ σ,AgI σ (At.ew L)/\NdW σ:=by
 have s:Sts whT L.length At (At.ew L):=FO L MOk.zero (by omega) λx b=>⟨a x b,UO x⟩;exact s.inv (I:=λM=>∃ σ,AgI σ M/\NdW σ) (λ_ M N g ⟨σ,h,k⟩=>NdW.step h k g) ⟨_,AgI.zero,λ_ _ _ g=>g.elim⟩
theorem AgI.nodup(h:AgI σ M)(k:NdW σ){j:Nat}(r:j<5):(M.ab j).ae.Nodup:=by
 refine mS.2 λs t w y x e=>?_;have c:=(h.nd j r).ag;obtain⟨b,Q,E,d⟩:=c t _ (G' y);rw[mJ]at d
 obtain⟨q,u,p,_⟩:=Gd Q Q (by omega) (by omega);obtain⟨v,g,z,F,A⟩:=d q u p;have f:=(h.gs.hv q v g).2;rw[z,mC]at f
 obtain⟨l,D,n,o⟩:=k _ _ _ f;have a:s<l.length:=by omega
 obtain⟨B,i⟩:=n s _ (G' a);obtain⟨C,m⟩:=c s _ (G' w);have:=h.gs.rW.agree i m;exact o (by rw[A,<- e,<- this];exact mE a)
theorem Ou(a:∀ x∈L,LacOk x)(c:L.length<=100000){j:Nat}(b:j<5):((At.ew L).ab j).ae.Nodup:=by
 obtain⟨σ,h,k⟩:=NdW.ew L a c;exact h.nodup k b
def whS:Wh:=⟨λ_ _=>True,True,False,True,True,False⟩
def Ro(n:Nat)(c:Cmd)(ts:List Tol):Prop:=∃ t∈ts,t.n=n/\t.c=c.c/\t.s=c.s
def SvI(n:Nat)(c:Cmd)(M:Meet):Prop:=(M.ab n).up=true/\(c∈(M.ab n).au\/c∈(M.ab n).ae.take (M.ab n).done/\Ro n c M.ed)
theorem gM{α:Type}{l m:List α}{k a:Nat}(h:l <+: m)(d:k<=a){c:α}(b:c∈l.take k):c∈m.take a :=
 (List.prefix_take_iff.2 ⟨(om _ _).trans h,by rw[Z'];omega⟩).subset b
theorem SvI.step(s:Stp whS k0 M N)(y:∀ j,j<5->AskI (M.ab j))(h:SvI n c M):SvI n c N:=by
 obtain⟨a,h⟩:=h;have put:∀ {i:Nat} {p:Nod} (b:List Let) {m:List Tol},(∀ t∈M.ed,t∈m)->(p.up=(M.ab i).up)->(M.ab i).done<=p.done->(M.ab i).ae <+: p.ae->(i=n->c∈(M.ab i).au->c∈p.au\/c∈p.ae.take p.done/\Ro n c m)->SvI n c (M.set i p b m):=λ{i p} b {m} u A B C D=>by
  unfold SvI;rw[Al];split
  .rename_i e
   subst e;refine⟨A.trans a,?_⟩;rcases h with h|⟨g1,t,g2,g3⟩
   .exact D rfl h
   .exact .inr ⟨gM C B g1,t,u t g2,g3⟩
  .refine⟨a,?_⟩;rcases h with h|⟨g1,t,g2,g3⟩
   .exact .inl h
   .exact .inr ⟨g1,t,u t g2,g3⟩
 have k:∀ {i:Nat} {p:Nod} (b:List Let),Ev (M.ab i) p->p.au=(M.ab i).au/\p.done=(M.ab i).done->SvI n c (M.set i p b M.ed):=λ{i p} b e w=>put b (λ_ h=>h) e.up (pH w.2.symm) e.ag λ_ g=>.inl (by rw[w.1];exact g);cases s with
 | take _ l hl hd hu z =>
  have:=(IH (M.ab l.dst) l (y _ hd.2).qn).1;exact k _ (Ev.take _ l) ⟨this.1,this.2.2⟩
 | br _ b hl hd=>exact⟨a,h⟩
 | one _ i d hi hu hc he =>
  have z:(M.ab i).ae.take ((M.ab i).done+1)=(M.ab i).ae.take (M.ab i).done++[d]:=by rw[nA,hc];rfl
  have o:=congrArg Prod.fst (Oh { M.ab i with ov:=doS (M.ab i).ov d,done:=(M.ab i).done+1 } d);refine put M.br (λt h=>?_) o ?_ ?_ λe g=>?_
  .split
   .exact lT _ h
   .exact h
  .unfold Nod.gC;split<;>exact mP _
  .unfold Nod.gC;split<;>exact lR _
  .by_cases e2:c=d
   .subst e2;have f:=((y i hi).wa c).1 g;right;rw[if_pos f];unfold Nod.gC;rw[if_pos f];exact⟨by show c∈(M.ab i).ae.take ((M.ab i).done+1);rw[z];exact lV _ (D'.2 rfl),_,lV _ (D'.2 rfl),e,rfl,rfl⟩
   .left;unfold Nod.gC;split
    .exact(px e2).2 g
    .exact g
 | ask _ i hi hu =>
  refine k _ (Ev.lp _ i) ?_;unfold Nod.lp;split
  .exact⟨rfl,rfl⟩
  .split
   .unfold Nod.eb;split<;>exact⟨rfl,rfl⟩
   .exact⟨rfl,rfl⟩
 | prop _ i hi hu =>
  refine k _ (Ev.cF _) ?_;unfold Nod.cF;split
  .exact⟨rfl,rfl⟩
  .split
   .exact⟨rfl,rfl⟩
   .split
    .exact⟨rfl,rfl⟩
    .exact(BP (M.ab i) _).1.imp_right And.right
 | qD _ i hi hu f hT=>exact put _ (λ_ h=>h) rfl (A' _) (lR _) λ_ g=>.inl g
 | run _ i hi hu q l hp f =>
  refine k _ ((Ev.nf _ i q).bu l) ?_;show((M.ab i).nf i q).au=_/\((M.ab i).nf i q).done=_;cases q<;>first|exact⟨rfl,rfl⟩|(simp only[Nod.nf];split<;>exact⟨rfl,rfl⟩)|(simp only[Nod.nf,Nod.count];split<;>first|exact⟨rfl,rfl⟩|(split<;>exact⟨rfl,rfl⟩))
 | teach _ i hi hu hL=>exact put _ (λ_ h=>h) rfl (A' _) (lR _) λ_ g=>.inl g
 | lead _ i hi hu hL =>
  have e:=AF (M.ab i) ⟨max (M.ab i).dc (M.ab i).vo.p.r+1,(i:Int)⟩;have v:=Ev.av (M.ab i) ⟨max (M.ab i).dc (M.ab i).vo.p.r+1,(i:Int)⟩;refine put _ (λ_ h=>h) (congrArg Prod.fst (OC (M.ab i) i)) ?_ ?_ λ_ g=>.inl ?_
  .unfold Nod.lead;simp only;split
   .exact A' _
   .exact pH e.1.2.2.symm
  .unfold Nod.lead;simp only;split
   .exact lR _
   .exact v.ag
  .unfold Nod.lead;simp only;split
   .exact g
   .show c∈(Nod.av _ _).1.au;rw[e.1.1];exact g
 | sub _ i d hi hu hD =>
  unfold Nod.qx Nod.qH;split
  .exact put _ (λ_ h=>h) rfl (A' _) (lR _) λ_ g=>.inl g
  .split
   .exact put _ (λ_ h=>h) rfl (A' _) (lR _) λ_ g=>.inl g
   .split
    .exact put _ (λ_ h=>lT _ h) rfl (A' _) (lR _) λ_ g=>.inl g
    .refine put _ (λ_ h=>h) ?_ ?_ ?_ λ_ g=>.inl ?_
     .unfold Nod.want;split<;>rfl
     .unfold Nod.want;split<;>exact A' _
     .unfold Nod.want;split<;>exact lR _
     .unfold Nod.want;split
      .exact g
      .exact lT _ g
 | lr _ i x hi hu hk hC=>exact False.elim hC
 | start _ i hi hu f=>exact False.elim f
theorem SvI.act(D:n<5){c:Cmd}{P:List Lac}(b:∀ x∈P,LacOk x)(C:P.length<100000){x:Lac}(l:LacOk x)(u:¬ (x.k=8/\x.n=(n:Int)))(h:SvI n c (At.ew P)):SvI n c (At.ew (P++[x])):=by
 rw[AU];have same:∀ {N:Meet},N.ab n=(At.ew P).ab n->N.ed=(At.ew P).ed->SvI n c N:=λr t=>by unfold SvI at h ⊢;rw[r,t];exact h
 have f:=(KO P b (by omega)).1;have d:=FN P b (by omega);obtain⟨σ,i,_⟩:=NdW.ew P b (by omega);generalize At.ew P=M at h f d i same ⊢;by_cases a:x.k=8
 .have hne:x.n≠(n:Int):=λe=>u ⟨a,e⟩;have v:=l.n (by rw[a];rfl);have e:M.ew [x]=M.set x.n.toNat (if(M.ab x.n.toNat).up then(M.ab x.n.toNat).lr x.p else M.ab x.n.toNat) M.br M.ed:=by
   show M.act x=_;unfold Meet.act;simp only;rw[if_neg (by omega),if_neg (by omega),if_neg (by omega),if_neg (by omega),if_neg (by omega),if_pos a]
  rw[e];exact same (by rw[Al,if_neg (by omega)]) rfl
 .by_cases k9:x.k=9
  .have e:M.ew [x]=M.set x.n.toNat (if(M.ab x.n.toNat).up then M.ab x.n.toNat else(M.ab x.n.toNat).start) M.br M.ed:=by
    show M.act x=_;unfold Meet.act;simp only;rw[if_neg (by omega),if_neg (by omega),if_neg (by omega),if_neg (by omega),if_neg (by omega),if_neg (by omega),if_pos k9]
   rw[e];refine same ?_ rfl;rw[Al];split
   .rename_i g;rw[<- g,if_pos h.1]
   .rfl
  .have s:Sts whS [x].length M (M.ew [x]):=FO [x] d (by simp;omega) λy w=>by
    rw[D'.1 w];exact⟨l,λ_=>trivial,λ_=>trivial,λe=>absurd e a,λ_=>⟨trivial,trivial⟩,λe=>absurd e k9⟩
   exact(s.inv (I:=λN=>SvI n c N/\(∃ σ,AgI σ N)/\∀ j,j<5->AskI (N.ab j)) (λ_ A B g ⟨z,⟨σ,m⟩,o⟩=>⟨z.step g o,(by obtain⟨τ,_,_,q,_⟩:=m.step g;exact⟨τ,q⟩),AskI.step g m o⟩) ⟨h,⟨σ,i⟩,f⟩).1
theorem SvI.ew(f:n<5){c:Cmd}{P:List Lac}(R:List Lac)(a:∀ x∈P++R,LacOk x)(b:(P++R).length<=100000)(e:∀ x∈R,¬ (x.k=8/\x.n=(n:Int)))(h:SvI n c (At.ew P)):SvI n c (At.ew (P++R)):=by
 induction R generalizing P with
 | nil=>rwa [mx]
 | cons x R ih =>
  rw[show P++x::R=P++[x]++R by simp]at a b ⊢
  rw[H',H']at b
  simp only[mB]at b;refine ih (P:=P++[x]) a (by rw[H',H'];simp only[mB];omega) (λy d=>e y (I' _ d)) ?_;exact h.act f (λy d=>a y (lT _ (lT _ d))) (by omega) (a x (lT _ (lV _ (D'.2 rfl)))) (e x M')
theorem SvI.sub(b:x.k=1)(i:x.n=(n:Int))(a:(M.ab n).up=true)(e:AskI (M.ab n))(h:opE x.d ((M.ab n).done:Int)=0){c:Cmd}(f:Hq x.d ((M.ab n).done:Int)=c):SvI n c (M.act x):=by
 unfold Meet.act;simp only;rw[if_pos b,i,mC];unfold SvI;rw[Bn];unfold Nod.qx Nod.qH;rw[if_neg (by rw[a];decide),if_neg (λg=>g h),f];split
 .rename_i g
  exact⟨a,.inr ⟨g,_,lV _ (D'.2 rfl),rfl,rfl,rfl⟩⟩
 .refine⟨by unfold Nod.want;split<;>exact a,.inl ?_⟩;unfold Nod.want;split
  .rename_i g;exact(e.wa c).2 g
  .exact lV _ (D'.2 rfl)
def kL:Wh:=⟨λ_ _=>False,True,True,True,True,True⟩
def twM(M:Meet):Nat:=M.ed.length+ww M
theorem ej(s:Stp kL k0 M N)(f:∀ j,j<5->AskI (M.ab j)):twM N<=twM M:=by
 have put:∀ {i:Nat} {p:Nod} (b:List Let) {e:List Tol},i<5->e.length+p.au.length<=M.ed.length+(M.ab i).au.length->twM (M.set i p b e)<=twM M:=λ{i p} b {e} a h=>by
  have k:=Ps M a p b e;have m:=aQ M a;show e.length+ww (M.set i p b e)<=M.ed.length+ww M;omega
 have nn:∀ {i:Nat} {p:Nod} (b:List Let),i<5->p.au=(M.ab i).au->twM (M.set i p b M.ed)<=twM M:=λ{i p} b a h=>put b a (by rw[h];exact A' _);cases s with
 | take _ l hl hd hu ht=>exact nn _ hd.2 (IH (M.ab l.dst) l (f _ hd.2).qn).1.1
 | br _ b hl hd=>exact A' _
 | one _ i d a hu hc he =>
  by_cases c:((M.ab i).bN d).isSome=true
  .refine put _ a ?_;rw[if_pos c];unfold Nod.gC;rw[if_pos c];have g:=((f i a).wa d).2 c;have k:=oK g;have m:=ou g;show(M.ed++[_]).length+((M.ab i).au.erase d).length<=_;rw[H',mB];omega
  .refine put _ a ?_;rw[if_neg c];unfold Nod.gC;rw[if_neg c];exact A' _
 | ask _ i a hu =>
  refine nn _ a ?_;unfold Nod.lp;split
  .rfl
  .split
   .unfold Nod.eb;split<;>rfl
   .rfl
 | prop _ i a hu =>
  refine nn _ a ?_;unfold Nod.cF;split
  .rfl
  .split
   .rfl
   .split
    .rfl
    .exact(BP (M.ab i) _).1.1
 | qD _ i a hu c hT=>exact nn _ a rfl
 | run _ i a hu q l hp c =>
  refine nn _ a ?_;show((M.ab i).nf i q).au=_;cases q<;>first|rfl|(simp only[Nod.nf];split<;>rfl)|(simp only[Nod.nf,Nod.count];split<;>first|rfl|(split<;>rfl))
 | teach _ i a hu hL=>exact nn _ a rfl
 | lead _ i a hu hL =>
  refine nn _ a ?_;unfold Nod.lead;simp only;split
  .rfl
  .exact(AF (M.ab i) _).1.1
 | sub _ i d a hu hD=>exact False.elim hD
 | lr _ i x a hu hk hC =>
  unfold Nod.lr;split
  .exact nn _ a rfl
  .exact put _ a (by show M.ed.length+0<=_;omega)
 | start _ i a hu c =>
  unfold Nod.start;split
  .exact nn _ a rfl
  .split<;>exact put _ a (by show M.ed.length+0<=_;omega)
theorem ei(L:List Lac)(o:∀ x∈L,LacOk x)(F:L.length<=100000):twM (At.ew L)<=L.countP λx=>decide (x.k=1):=by
 suffices ∀ i,i<=L.length->twM (At.ew (L.take i))<=(L.take i).countP λx=>decide (x.k=1)by have:=this L.length (A' _);rwa [ng]at this
 intro i;induction i with
 | zero=>intro _;exact mA _
 | succ i h =>
  intro E;obtain⟨x,u⟩:∃ x,L[i]?=some x:=⟨_,G' (by omega)⟩;have c:=o x (ml u);have l:∀ y∈L.take i,LacOk y:=λy m=>o y (mh m);have a:(L.take i).length<=100000:=by rw[Z'];omega
  have r:=(KO (L.take i) l a).1;have p:=FN (L.take i) l a;obtain⟨σ,t,_⟩:=NdW.ew (L.take i) l a;have h:=h (by omega);rw[nA,u];show twM (At.ew (L.take i++[x]))<=(L.take i++[x]).countP _;rw[AU,nP];generalize At.ew (L.take i)=M at h r p t ⊢;by_cases f:x.k=1
  .have hn:=c.n (by rw[f];rfl);have e:[x].countP (λx=>decide (x.k=1))=1:=by simp[f]
   rw[e];refine lS ?_ (Nat.add_le_add_right h 1);show twM (M.act x)<=_;unfold Meet.act;simp only;rw[if_pos f];have b:x.n.toNat<5:=by omega
   generalize x.n.toNat=n at b;have C:=Ps M b ((M.ab n).qx n x.d M.ed).1 M.br ((M.ab n).qx n x.d M.ed).2;show((M.ab n).qx n x.d M.ed).2.length+ww (M.set n _ _ _)<=M.ed.length+ww M+1;have key:((M.ab n).qx n x.d M.ed).2.length+((M.ab n).qx n x.d M.ed).1.au.length<=M.ed.length+(M.ab n).au.length+1:=by
    unfold Nod.qx Nod.qH;split
    .exact mP _
    .split
     .exact mP _
     .split
      .show(M.ed++[_]).length+(M.ab n).au.length<=_;rw[H',mB];omega
      .unfold Nod.want;split
       .exact mP _
       .show M.ed.length+((M.ab n).au++[_]).length<=_;rw[H',mB];omega
   have D:=aQ M b;omega
  .have s:Sts kL [x].length M (M.ew [x]):=FO [x] p (by simp;omega) λy m=>by
    rw[D'.1 m];exact⟨c,λe=>absurd e f,λ_=>trivial,λ_=>trivial,λ_=>⟨trivial,trivial⟩,λ_=>trivial⟩
   have:=(s.inv (I:=λN=>twM N<=twM M/\(∃ σ,AgI σ N)/\∀ j,j<5->AskI (N.ab j)) (λ_ A B g ⟨z,⟨σ,v⟩,w⟩=>⟨lS (ej g w) z,(by obtain⟨τ,_,_,q,_⟩:=v.step g;exact⟨τ,q⟩),AskI.step g v w⟩) ⟨A' _,⟨σ,t⟩,r⟩).1;omega
end
end Go.Proofs.YteimjcbgceckdaaGreatDoor
