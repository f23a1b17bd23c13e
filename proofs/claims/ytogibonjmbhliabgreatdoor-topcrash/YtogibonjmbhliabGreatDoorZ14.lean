/- Part 14 of the walk. -/
import Derived.Test.YtogibonjmbhliabGreatDoorZ13
set_option maxRecDepth 100000
set_option maxHeartbeats 4000000
open Go.Proofs.Tryz
set_option linter.unusedVariables false
namespace Go.Proofs.YtogibonjmbhliabGreatDoor
section
theorem Stp.cl{n:Nat}{M N:Meet}(s:Stp wh0 n M N){j:Nat}{c:Cmd}{x:Bal}(h:(N.ab j).cl c=some x):(M.ab j).cl c=some x\/(j<5/\N=M.set j ((M.ab j).kc j).1 (M.bt++((M.ab j).kc j).2) M.ew):=by
 have put:∀ {k:Nat} {p:Nod} {a:List Let} {b:List Tol},((M.set k p a b).ab j).cl c=some x->(p.cl c=some x->(M.ab k).cl c=some x)->(M.ab j).cl c=some x:=λ{k p a b} g e=>by
  rw[An]at g
  split at g
  .rename_i e2;rw[e2];exact e g
  .exact g
 cases s with
 | take _ l hl hd hu ht =>
  refine .inl (put h λg=>?_);rw[show((M.ab l.dst).take l).cl=(M.ab l.dst).cl from ?_]at g
  .exact g
  .unfold Nod.take;split
   .split
    .unfold Nod.eo;split<;>rfl
    .exact(Bj _ _).1.2.1
   .simp only;split<;>rfl
   .rfl
   .split
    .unfold Nod.eo;split<;>rfl
    .exact(CD _ _).1.2.1
   .unfold Nod.count;split
    .rfl
    .split<;>rfl
   .split<;>rfl
   .simp only;unfold Nod.eb;split<;>split<;>rfl
   .rfl
 | bt _ a hl hd=>exact False.elim hd
 | one _ k d hi hu hc he =>
  refine .inl (put h λg=>?_);unfold Nod.hZ at g;split at g
  .have g:Ca (M.ab k).cl d none c=some x:=g;unfold Ca at g;split at g
   .cases g
   .exact g
  .exact g
 | ask _ k hi hu =>
  by_cases e:j=k
  .subst e;exact .inr ⟨hi,rfl⟩
  .rw[An,if_neg e]at h;exact .inl h
 | prop _ k hi hu =>
  refine .inl (put h λg=>?_);unfold Nod.cF at g;split at g
  .exact g
  .split at g
   .exact g
   .split at g
    .exact g
    .have g:((M.ab k).cn _).1.cl c=some x:=g;rw[(CD _ _).1.2.1]at g;exact g
 | rZ _ k hi hu hs hT=>exact .inl (put h λg=>g)
 | run _ k hi hu q l hp hs =>
  refine .inl (put h λg=>?_);have g:((M.ab k).lr k q).cl c=some x:=g;rw[show((M.ab k).lr k q).cl=(M.ab k).cl from ?_]at g
  .exact g
  .cases q<;>first|rfl|(simp only[Nod.lr];split<;>rfl)|(simp only[Nod.lr,Nod.count];split<;>first|rfl|(split<;>rfl))
 | rW _ k hi hu hL=>exact .inl (put h λg=>g)
 | lead _ k hi hu hL=>exact False.elim hL
 | sub _ k d hi hu hD=>exact False.elim hD
 | lp _ k y hi hu hk hC=>exact False.elim hC
 | start _ k hi hu hs=>exact False.elim hs
section
variable{C:List Cmd}{K:Int}{B:Nat->Bal}{cov:List (Bal × Nat)}{i:Nat}{b:Bal}
section
structure PhB(C:List Cmd)(K:Int)(B:Nat->Bal)(cov:List (Bal × Nat))(i:Nat)(b:Bal)(M:Meet):Prop where
 cm:Cm (λc=>c∈C) K B cov M
 ak:∀ j,j<5->AskI (M.ab j)
 vi:(M.ab i).vo.p=b
structure PhC(C:List Cmd)(K:Int)(B:Nat->Bal)(cov:List (Bal × Nat))(i:Nat)(b:Bal):Prop where
 hc:∀ j,j<5->∀ s,s<40->(B j,s)∈cov
 hC:C.length<40
 hi:i<5
 hb:Ab b
 hn:b.n=(i:Int)
 hB:B i=b
 hK:b.key=K
variable{M N:Meet}{n:Nat}
theorem PhB.step(a:PhC C K B cov i b)(s:Stp wh0 n M N)(h:PhB C K B cov i b M):PhB C K B cov i b N:=by
 obtain⟨σ,g,_⟩:=h.cm.ex;exact⟨h.cm.step a.hc s,AskI.step s g h.ak,h.cm.top a.hc s a.hb.pr a.hK a.hi h.vi⟩
theorem PhB.leads(a:PhC C K B cov i b)(h:PhB C K B cov i b M):(M.ab i).leads=true:=by
 have c:=a.hb;unfold Nod.leads;refine M' ⟨?_,?_⟩
 .rw[h.cm.gC i a.hi,a.hB];intro e;rw[e]at c
  exact absurd c (by decide)
 .rw[h.cm.gC i a.hi,a.hB,h.vi]
def QA(i:Nat)(b:Bal)(M:Meet):Prop:=∀ j,j<5->∀ c,(M.ab j).cl c=some b->c∈(M.ab i).bn.fa\/∃ m∈M.bt,m.kind=6/\m.dst=i/\c∈m.fv
theorem QA.step(t:PhC C K B cov i b)(s:Stp wh0 n M N)(h:PhB C K B cov i b M)(q:QA i b M):QA i b N:=by
 intro j x c a;have z:b≠Bb:=λe=>by have:=t.hb;rw[e]at this;exact absurd this (by decide)
 by_cases e:(M.ab j).cl c=some b
 .rcases q j x c e with g|⟨m,g1,g2⟩
  .exact .inl ((s.ev i).qu.subset g)
  .exact .inr ⟨m,s.si g1,g2⟩
 .rcases s.cl a with g|⟨_,rfl⟩
  .exact absurd g e
  .rw[An,if_pos rfl]at a
   have E:=h.ak j x;have y:(AZ (M.ab j).vo.p (M.ab j).cl ((M.ab j).br.take 40)).2 c=some b:=by
    unfold Nod.kc at a;split at a
    .exact a
    .split at a
     .unfold Nod.eb at a;split at a<;>exact a
     .exact a
   have r:(M.ab j).vo.p=b/\c∈(M.ab j).br.take 40:=by
    have key:∀ (l:List Cmd) (f:Cmd->Option Bal) (p:Bal),(AZ p f l).2 c=some b->f c=some b\/(p=b/\c∈l):=by
     intro l;induction l with
     | nil=>exact λf p g=>.inl g
     | cons d l ih =>
      intro f p g;rw[AZ]at g
      split at g
      .rcases ih _ p g with k|k
       .unfold Ca at k;split at k
        .rename_i e;exact .inr ⟨nQ k,by rw[e];exact O'⟩
        .exact .inl k
       .exact .inr ⟨k.1,I' _ k.2⟩
      .exact(ih f p g).imp id λk=>⟨k.1,I' _ k.2⟩
    exact(key _ _ _ y).resolve_left e
   obtain⟨r,H⟩:=r;have D:=Lz z ((M.ab j).br.take 40) (M.ab j).cl;have o:c∈(AZ (M.ab j).vo.p (M.ab j).cl ((M.ab j).br.take 40)).1:=by rw[r];exact(D.2.2.1 c H).resolve_left e
   have u:¬ (AZ (M.ab j).vo.p (M.ab j).cl ((M.ab j).br.take 40)).1=[]:=λg=>by rw[g]at o;cases o
   have v:∀ d∈(AZ (M.ab j).vo.p (M.ab j).cl ((M.ab j).br.take 40)).1,d∈C:=λd w=>by
    rw[r]at w
    exact(h.cm.s.nd j x).wa d (nu (D.2.2.2 d w))
   by_cases A:j=i
   .subst A;refine .inl ?_;rw[An,if_pos rfl];unfold Nod.kc;rw[if_neg u,if_pos (by rw[r];exact t.hn)];have F:({ M.ab j with cl:=(AZ (M.ab j).vo.p (M.ab j).cl ((M.ab j).br.take 40)).2 }:Nod).leads=true:=h.leads t;unfold Nod.eb;rw[if_pos F];exact Q9 t.hC _ _ E.qn (λd w=>(h.cm.s.nd j x).qu d w) v c o
   .refine .inr ?_;have G:¬ (M.ab j).vo.p.n=(j:Int):=by rw[r,t.hn];omega
    unfold Nod.kc;rw[if_neg u,if_neg G];refine⟨_,mW _ (G'.2 rfl),rfl,?_,o⟩;show(M.ab j).vo.p.n.toNat=i;rw[r,t.hn];exact nV i
theorem Rx(a:PhC C K B cov i b)(E:MOk n M)(L:n+6<=1000000)(h:PhB C K B cov i b M)(q:QA i b M):PhB C K B cov i b (M.dW Ao)/\(∀ j,j<5->∀ c,((M.dW Ao).ab j).cl c=some b->c∈((M.dW Ao).ab i).bn.fa)/\(M.dW Ao).bt=[]/\MOk (n+6) (M.dW Ao):=by
 have v:∀ A N,TkS A N->PhB C K B cov i b A->PhB C K B cov i b N:=λA N s g=>g.step a s.sq;have z:=Bm (I:=λN=>PhB C K B cov i b N/\QA i b N) (λc A N s g=>⟨g.1.step a s.calm,g.2.step a s.calm g.1⟩) E (by omega) ⟨h,q⟩;rw[show Ao=AD 3 5++[acN 7 0]from rfl,Ay];generalize M.dW (AD 3 5)=A at z ⊢;obtain⟨p,k,u⟩:=z;have y:=p.act (by omega) (x:=acN 7 0) (by rw[<- Dr];decide);have t:∀ j,j<5->∀ c,((A.act (acN 7 0)).ab j).cl c=some b->c∈((A.act (acN 7 0)).ab i).bn.fa:=λj G c r=>by
  obtain⟨N,f,o,_⟩:=Cu (I:=λN=>PhB C K B cov i b N/\(N.ab j).cl c=(A.ab j).cl c) (λD N s g=>⟨v D N s g.1,by
   obtain⟨l,_,w,_,rfl⟩:=s;rw[An];split
   .rename_i e
    rw[(RM (D.ab l.dst) l (g.1.ak _ w.2).qn).1.2.1,<- e];exact g.2
   .exact g.2⟩) p ⟨k,rfl⟩
  rw[f]at r
  have r:(N.ab j).cl c=some b:=r;rw[o.2]at r
  rcases u j G c r with g|⟨m,g1,g2,g3,g4⟩
  .obtain⟨N,f,o,_⟩:=Cu (I:=λN=>c∈(N.ab i).bn.fa) (λD N s g=>(s.sq.ev i).qu.subset g) p g;rw[f];exact o
  .obtain⟨N,f,_,k3,_⟩:=DH (I:=PhB C K B cov i b) (J:=λN=>c∈(N.ab i).bn.fa) v (λD N s _ g=>(s.sq.ev i).qu.subset g) p k g1 (λN g=>g.cm.up _ (by rw[g3];exact a.hi)) (λN g e=>by
    have F:=(g.cm.s.lt m (by rw[e];exact g1)).wh;rw[g3,An,if_pos rfl];have H:c∈((N.ab i).eb m.fv).bn.fa:=by
     unfold Nod.eb;rw[if_pos (g.leads a)];exact Q9 a.hC _ _ (g.ak i a.hi).qn (λd w=>(g.cm.s.nd i a.hi).qu d w) F c g4
    unfold Nod.take;rw[g2];simp only;split<;>exact H)
   rw[f];exact k3
 obtain⟨N,f,o,_⟩:=Cu (I:=PhB C K B cov i b) v p k;refine⟨?_,t,by rw[f],y⟩;rw[f];exact⟨o.cm.drop,o.ak,o.vi⟩
theorem WT(a:PhC C K B cov i b)(t:MOk n M)(I:n+6<=1000000)(h:PhB C K B cov i b M){j:Nat}(y:j<5){H:List Vt}(E:Pend.prom i b H∈(M.ab j).bw):((M.dW Ao).ab i).bn.rk j=true:=by
 have x:∀ A N,TkS A N->PhB C K B cov i b A->PhB C K B cov i b N:=λA N s g=>g.step a s.sq;have d:∀ c A N,Stp wh1 c A N->PhB C K B cov i b A->PhB C K B cov i b N:=λc A N s g=>g.step a s.calm;have f:=Bm d t (by omega) h;have q:=Fx (J:=λN=>∃ m∈N.bt,m.kind=1/\m.src=j/\m.dst=i/\m.gC=b) d (λc A N s _ ⟨m,o,p⟩=>⟨m,s.calm.si o,p⟩) (λA k g u=>⟨g.cm.up k u,g.cm.sL u⟩) t (by omega) h y E (λN l g _ _=>⟨_,mW _ (G'.2 rfl),rfl,rfl,rfl,rfl⟩);rw[show Ao=AD 3 5++[acN 7 0]from rfl,Ay];generalize M.dW (AD 3 5)=A at f q ⊢;obtain⟨m,o,p,v,r,w⟩:=q;obtain⟨N,F,_,G,_⟩:=DH (J:=λN=>(N.ab i).bn.rk j=true) x (λD N s _ g=>(s.sq.ev i).rk j g) f.1 f.2 o (λN g=>g.cm.up _ (by rw[r];exact a.hi)) (λN g e=>by
  rw[r,An,if_pos rfl];have z:((N.ab i).ln 0 m.fv).leads=true:=g.leads a;unfold Nod.take;rw[p];simp only;rw[v,w];split
  .rename_i hc
   rcases hc with hc|hc|hc
   .rw[z]at hc;cases hc
   .exact absurd (show b=(N.ab i).bn.gC by rw[g.cm.gC i a.hi,a.hB]) hc
   .exact hc
  .exact Dd _ _ _)
 rw[F];exact G
end
end
theorem UJ(i:Nat)(l:List Cmd)(p:Nod)(a:List Tol):(sa i l p a).1.bn=p.bn/\(sa i l p a).1.ae=p.ae:=by
 induction l generalizing p a with
 | nil=>exact⟨rfl,rfl⟩
 | cons c l ih =>
  rw[sa];split
  .exact⟨rfl,rfl⟩
  .have h1:=ih (Nod.hZ { p with ni:=doS p.ni c,done:=p.done+1 } c) (if(p.cl c).isSome=true then a++[⟨i,c.c,c.s,doC p.ni c,doA p.ni c⟩]else a);have b:(Nod.hZ { p with ni:=doS p.ni c,done:=p.done+1 } c).bn=p.bn/\(Nod.hZ { p with ni:=doS p.ni c,done:=p.done+1 } c).ae=p.ae:=by unfold Nod.hZ;split<;>exact⟨rfl,rfl⟩
   exact⟨h1.1.trans b.1,h1.2.trans b.2⟩
theorem I1{D:Wh}{i:Nat}(c:i<5){M:Meet}(t:(M.ab i).up=true):∃ M0,Sts D 0 M M0/\(M0.ab i).up=true/\(M0.ab i).bn=(M.ab i).bn/\(M0.ab i).ae=(M.ab i).ae /\
  ∃ M1,M1=M0.set i ((M0.ab i).kc i).1 (M0.bt++((M0.ab i).kc i).2) M0.ew/\(M1.ab i).up=true/\Sts D 0 M0 M1/\Sts D 0 (M1.set i (M1.ab i).cF M1.bt M1.ew) (M.act (acN 3 (i:Int))):=by
 rw[Hi t];have w:Sts D 0 M (M.set i (M.ab i) M.bt M.ew):=by rw[EM];exact .nil 0 M
 obtain⟨p,h⟩:=Sts.sa c _ (M.ab i) w t rfl;have q:=UJ i ((M.ab i).ae.drop (M.ab i).done) (M.ab i) M.ew;unfold Nod.piece;simp only;generalize Go.Proofs.YtogibonjmbhliabGreatDoor.sa i ((M.ab i).ae.drop (M.ab i).done) (M.ab i) M.ew=a at p h q ⊢;refine⟨_,p,by rw[B1];exact h,by rw[B1];exact q.1,by rw[B1];exact q.2,?_⟩;have e:=B1 M i a.1 M.bt a.2;have s:=Stp.ask (D:=D) (M.set i a.1 M.bt a.2) i c (by rw[e];exact h);have l:=(IA a.1 i).trans h;rw[e,Cj]at s
 refine⟨M.set i (a.1.kc i).1 (M.bt++(a.1.kc i).2) a.2,by rw[e,Cj];rfl,by rw[B1];exact l,s.s,?_⟩;show Sts D 0 ((M.set i (a.1.kc i).1 (M.bt++(a.1.kc i).2) a.2).set i ((M.set i (a.1.kc i).1 (M.bt++(a.1.kc i).2) a.2).ab i).cF (M.bt++(a.1.kc i).2) a.2) _;clear e s p;generalize (a.1.kc i)=b at l ⊢;rw[B1,Cj];have g:=(Ey b.1).trans l;show Sts D 0 (M.set i b.1.cF (M.bt++b.2) a.2) _;generalize b.1.cF=r at g ⊢;generalize M.bt++b.2=k at ⊢;have j:Sts D 0 (M.set i r k a.2) (M.set i (r.oh i k).1 (r.oh i k).2 a.2)/\(r.oh i k).1.up=true:=by
  unfold Nod.oh;split
  .exact⟨.nil 0 _,g⟩
  .rename_i hn
   have e:=B1 M i r k a.2;unfold Nod.rZ;split
   .rename_i h1
    have m:Db r.d r.sy=0:=mX.1 λe=>hn ⟨h1,e⟩;have o:AO r.d r.sy:=by
     unfold Db at m;split at m
     .assumption
     .cases m
    have s:=Stp.rZ (D:=D) (M.set i r k a.2) i c (by rw[e];exact g) (by rw[e];exact h1) (by rw[e];exact o);rw[e,Cj]at s
    have u:Hs r.d r.sy=r.d:=if_pos o;have v:I4 r.d r.sy=(r.d.length:Int):=if_pos o;rw[u,v];have:=Sts.ov (D:=D) (n:=0) (M:=M.set i r k a.2) (ls:=k) (ts:=a.2) c r.bw { r with sy:=(r.d.length:Int),bw:=[] } (by rw[Cj];exact(Sts.nil 0 _).s0 s) g rfl (rm _);rw[Cj]at this
    exact this
   .rename_i h1
    have:=Sts.ov (D:=D) (n:=0) (M:=M.set i r k a.2) (ls:=k) (ts:=a.2) c r.bw { r with bw:=[] } (by rw[Cj];exact .nil 0 _) g rfl h1;rw[Cj]at this
    exact this
 generalize r.oh i k=f at j ⊢;unfold Nod.bN;split
 .rename_i hL
  have e:=B1 M i f.1 f.2 a.2;have s:=Stp.rW (D:=D) (M.set i f.1 f.2 a.2) i c (by rw[e];exact j.2) (by rw[e];exact hL);rw[e,Cj]at s
  exact j.1.s0 s
 .exact j.1
section
variable{C:List Cmd}{K:Int}{B:Nat->Bal}{cov:List (Bal × Nat)}{i:Nat}{b:Bal}
theorem fg(a:PhC C K B cov i b)(d:14*K+38*(cov.length:Int)<=99000){M:Meet}(h:PhB C K B cov i b M)(j:(M.ab i).bn.rX=true)(n:(M.ab i).bn.next<=(M.ab i).ae.length){c:Cmd}(f:(M.ab i).rQ (M.ab i).ae.length=some c)(l:Ah ⟨((M.ab i).ae.length:Int),b,c⟩) :
  (M.ab i).cF.bn.next=(M.ab i).ae.length+1/\Pend.prop ⟨((M.ab i).ae.length:Int),b,c⟩∈(M.ab i).cF.bw:=by
 have e:(M.ab i).bn.gC=b:=(h.cm.gC i a.hi).trans a.hB;have k:=h.leads a;have m:=h.cm.tS d a.hi l (λg=>by
  have:b.lt (M.ab i).vo.p:=g;rw[h.vi]at this
  unfold Bal.lt at this;omega)
 unfold Nod.cF;rw[if_neg (λg=>by
  rcases g with g|g|g
  .rw[k]at g;cases g
  .rw[j]at g;cases g
  .omega),f]
 simp only;rw[e,if_neg (λg=>g m.1)];exact⟨rfl,mW _ (G'.2 rfl)⟩
theorem XD(f:PhC C K B cov i b)(e:14*K+38*(cov.length:Int)<=99000){M:Meet}(h:PhB C K B cov i b M){j:Nat}(a:j<5){v:Vt}(c:Ah v)(o:v.b=b){l:Let}(k:l.kind=3)(m:l.cn=v):Pend.voted l.src v∈((M.ab j).take l).bw:=by
 have n:=h.cm.le a;have d:=h.cm.tS e a c (by rw[EZ c.2.1.pr (h.cm.acc a).1,o,f.hK];omega);unfold Nod.take;rw[k];simp only;rw[m,if_neg (λg=>g d.1)];exact mW _ (G'.2 rfl)
end
section
def NB(p:Nod):Prop:=∀ b vs,Pend.began b vs∉p.bw
variable{M N:Meet}{c j:Nat}{p q:Nod}{v:Vt}
theorem NB.snoc(h:NB p){x:Pend}(e:q.bw=p.bw++[x])(a:∀ b vs,Pend.began b vs≠x):NB q:=λb vs g=>by
 rw[e]at g
 rcases U'.1 g with g|g
 .exact h b vs g
 .exact a b vs (G'.1 g)
theorem NB.same(h:NB p)(e:q.bw=p.bw):NB q:=λb a g=>h b a (by rw[<- e];exact g)
theorem aK(p:Nod)(b:Bal):(p.au b).1.bw=p.bw:=by
 unfold Nod.au;split
 .rfl
 .split
  .rfl
  .split<;>rfl
theorem RU(p:Nod)(v:Vt):(p.cn v).1.bw=p.bw:=by
 unfold Nod.cn;split
 .rfl
 .split
  .rfl
  .split<;>rfl
theorem jr(p:Nod)(b:Bal):(p.au b).1.ae=p.ae:=by
 unfold Nod.au;split
 .rfl
 .split
  .rfl
  .split<;>rfl
theorem jR(p:Nod)(v:Vt):(p.cn v).1.ae=p.ae:=by
 unfold Nod.cn;split
 .rfl
 .split
  .rfl
  .split<;>rfl
theorem NB.eo(h:NB p)(to:Nat)(e:Int):NB (p.eo to e):=by
 unfold Nod.eo;split
 .exact h.snoc rfl (λ_ _ g=>by cases g)
 .exact h
theorem S7(p:Nod)(j:Nat)(v:Vt):(p.count j v).bw=p.bw:=by
 unfold Nod.count;split
 .rfl
 .split<;>rfl
theorem Ot(p:Nod)(l:List Cmd):(p.eb l).bw=p.bw:=by unfold Nod.eb;split<;>rfl
theorem NB.take(h:NB p)(l:Let):NB (p.take l):=by
 unfold Nod.take;split
 .split
  .exact h.eo _ _
  .exact h.snoc (by show(p.au l.gC).1.bw++_=_;rw[aK]) (λ_ _ g=>by cases g)
 .simp only;split<;>exact h
 .exact h
 .split
  .exact h.eo _ _
  .exact h.snoc (by show(p.cn l.cn).1.bw++_=_;rw[RU]) (λ_ _ g=>by cases g)
 .exact h.same (S7 _ _ _)
 .split
  .exact h.snoc rfl (λ_ _ g=>by cases g)
  .exact h
 .simp only;split
  .exact h.snoc (by show((p.eb l.fv).bw)++_=_;rw[Ot]) (λ_ _ g=>by cases g)
  .exact h.same (Ot _ _)
 .exact h
theorem Stp.nb(s:Stp wh0 c M N)(h:NB (M.ab j)):NB (N.ab j):=by
 have put:∀ {i:Nat} {p:Nod} {a:List Let} {f:List Tol},(j=i->NB p)->NB ((M.set i p a f).ab j):=λ{i p a f} g=>by
  rw[An];split
  .rename_i e;exact g e
  .exact h
 cases s with
 | take _ l hl hd hu ht=>exact put λe=>by rw[<- e];exact h.take l
 | bt _ a hl hd=>exact False.elim hd
 | one _ i c hi hu hc he=>exact put λe=>(e▸h:NB (M.ab i)).same (GO _ _).1
 | ask _ i hi hu=>exact put λe=>(e▸h:NB (M.ab i)).same (Jz _ _).1
 | prop _ i hi hu =>
  refine put λe=>?_;have h:NB (M.ab i):=e▸h;unfold Nod.cF;split
  .exact h
  .split
   .exact h
   .split
    .exact h
    .exact h.snoc (by show((M.ab i).cn _).1.bw++_=_;rw[RU]) (λ_ _ g=>by cases g)
 | rZ _ i hi hu hs hT=>exact put λe=>(e▸h:NB (M.ab i)).same rfl
 | run _ i hi hu q l hp hs=>exact put λe b m g=>(e▸h:NB (M.ab i)) b m (by rw[hp];exact I' _ g)
 | rW _ i hi hu hL=>exact put λe=>(e▸h:NB (M.ab i)).same rfl
 | lead _ i hi hu hL=>exact False.elim hL
 | sub _ i d hi hu hD=>exact False.elim hD
 | lp _ i k hi hu hk hC=>exact False.elim hC
 | start _ i hi hu hs=>exact False.elim hs
theorem Oo{k:Nat}{u:Vt}(hv:v∈((p.count k u).bn.an j).vs):v∈(p.bn.an j).vs\/v.b=p.bn.gC:=by
 unfold Nod.count at hv;split at hv
 .exact .inl hv
 .rename_i hb
  split at hv
  .exact .inl hv
  .rename_i a
   have a:=mX.1 a;have hv:v∈(upN p.bn.an k ⟨BN (p.bn.an k) u,Bu (p.bn.an k) u⟩ j).vs:=hv;unfold upN at hv;split at hv
   .rename_i e
    have hv:v∈Bu (p.bn.an k) u:=hv;unfold Bu at hv;rw[if_pos a,BH (As a).1.2.2]at hv
    rcases hv with hv|hv
    .exact .inr (by rw[hv];exact mX.1 hb)
    .exact .inl (by rw[e];exact hv.1)
   .exact .inl hv
theorem Stp.uE(s:Stp wh0 c M N){i:Nat}(m:NB (M.ab i))(n:∀ j,j<5->(M.ab i).bn.rk j=true)(a:v∈((N.ab i).bn.an j).vs):v∈((M.ab i).bn.an j).vs\/v.b=(M.ab i).bn.gC:=by
 have put:∀ {k:Nat} {p:Nod} {f:List Let} {h:List Tol},v∈(((M.set k p f h).ab i).bn.an j).vs->(i=k->v∈(p.bn.an j).vs->v∈((M.ab i).bn.an j).vs\/v.b=(M.ab i).bn.gC)->v∈((M.ab i).bn.an j).vs\/v.b=(M.ab i).bn.gC:=λ{k p f h} g e=>by
  rw[An]at g
  split at g
  .rename_i e2;exact e e2 g
  .exact .inl g
 cases s with
 | take _ l hl hd hu ht =>
  refine put a λe g=>?_;rw[<- e]at g
  unfold Nod.take at g;split at g
  .split at g
   .unfold Nod.eo at g;split at g<;>exact .inl g
   .have g:v∈(((M.ab i).au l.gC).1.bn.an j).vs:=g;rw[(Bj _ _).2]at g;exact .inl g
  .simp only at g;split at g
   .exact .inl g
   .rename_i hc
    exact absurd (.inr (.inr (n l.src hd.1))) hc
  .exact .inl g
  .split at g
   .unfold Nod.eo at g;split at g<;>exact .inl g
   .have g:v∈(((M.ab i).cn l.cn).1.bn.an j).vs:=g;rw[(CD _ _).2]at g;exact .inl g
  .exact Oo g
  .split at g<;>exact .inl g
  .simp only at g;unfold Nod.eb at g;split at g<;>split at g<;>exact .inl g
  .exact .inl g
 | bt _ f hl hd=>exact False.elim hd
 | one _ k c hi hu hc he =>
  refine put a λe g=>?_;rw[<- e]at g
  unfold Nod.hZ at g;split at g<;>exact .inl g
 | ask _ k hi hu =>
  refine put a λe g=>?_;rw[<- e]at g
  unfold Nod.kc at g;split at g
  .exact .inl g
  .split at g
   .unfold Nod.eb at g;split at g<;>exact .inl g
   .exact .inl g
 | prop _ k hi hu =>
  refine put a λe g=>?_;rw[<- e]at g
  unfold Nod.cF at g;split at g
  .exact .inl g
  .split at g
   .exact .inl g
   .split at g<;>exact .inl g
 | rZ _ k hi hu hs hT=>exact put a λe g=>by rw[<- e]at g;exact .inl g
 | run _ k hi hu q l hp2 hs =>
  refine put a λe g=>?_;rw[<- e]at g hp2
  have g:v∈(((M.ab i).lr i q).bn.an j).vs:=g;cases q with
  | began b vs=>exact absurd (by rw[hp2];exact O') (m b vs)
  | prop u=>exact Oo g
  | _=>exact .inl g
 | rW _ k hi hu hL=>exact put a λe g=>by rw[<- e]at g;exact .inl g
 | lead _ k hi hu hL=>exact False.elim hL
 | sub _ k d hi hu hD=>exact False.elim hD
 | lp _ k y hi hu hk hC=>exact False.elim hC
 | start _ k hi hu hs=>exact False.elim hs
theorem XZ{b:Bal}(l:List Cmd){f:Cmd->Option Bal}(h:∀ c∈l,f c=some b):(AZ b f l).1=[]:=by
 induction l with
 | nil=>rfl
 | cons c l ih =>
  rw[AZ,if_neg (by rw[h c O'];exact λg=>g rfl)];exact ih λd a=>h d (I' _ a)
end
section
variable{C:List Cmd}{K:Int}{B:Nat->Bal}{cov:List (Bal × Nat)}{i:Nat}{b:Bal}
structure PhE(C:List Cmd)(K:Int)(B:Nat->Bal)(cov:List (Bal × Nat))(i:Nat)(b:Bal)(M:Meet):Prop where
 pb:PhB C K B cov i b M
 va:∀ j,j<5->(M.ab j).vo.p=b
 pr:∀ j,j<5->(M.ab i).bn.rk j=true
 nb:NB (M.ab i)
 aw:∀ j,j<5->∀ c x,(M.ab j).cl c=some x->x=b
 l6:∀ m∈M.bt,m.kind=6->m.fv=[]
 qw:∀ j,j<5->∀ c∈(M.ab j).br,c∈(M.ab i).bn.fa
theorem PhE.nil{M:Meet}(h:PhE C K B cov i b M){j:Nat}(a:j<5):(AZ (M.ab j).vo.p (M.ab j).cl ((M.ab j).br.take 40)).1=[]:=by
 rw[h.va j a];refine XZ _ λc e=>?_;obtain⟨x,d⟩:=oq.1 (((h.pb.ak j a).wa c).1 (nu e));rw[d,h.aw j a c x d]
theorem PhE.kc{M:Meet}(h:PhE C K B cov i b M){j:Nat}(a:j<5):(M.ab j).kc j=({ M.ab j with cl:=(AZ (M.ab j).vo.p (M.ab j).cl ((M.ab j).br.take 40)).2 },[]):=by
 unfold Nod.kc;rw[if_pos (h.nil a)]
theorem D8{i:Nat}{l m:Let}{k:Nat}(h:m∈BZ i l k):m.kind=l.kind/\m.fv=l.fv:=by
 unfold BZ at h;obtain⟨j,_,rfl⟩:=ny.1 h;exact⟨rfl,rfl⟩
theorem PhE.step(r:PhC C K B cov i b){n:Nat}{M N:Meet}(s:Stp wh0 n M N)(h:PhE C K B cov i b M):PhE C K B cov i b N:=by
 refine⟨h.pb.step r s,λj a=>h.pb.cm.top r.hc s r.hb.pr r.hK a (h.va j a),λj a=>(s.ev i).rk j (h.pr j a),s.nb h.nb,λj a c x d=>?_,λm f o=>?_,λj a c u=>(s.ev i).qu.subset (h.qw j a c ((s.ev j).wa c u))⟩
 .rcases s.cl d with g|⟨_,rfl⟩
  .exact h.aw j a c x g
  .rw[An,if_pos rfl,h.kc a]at d
   have d:(AZ (M.ab j).vo.p (M.ab j).cl ((M.ab j).br.take 40)).2 c=some x:=d;have t:b≠Bb:=λe=>by have:=r.hb;rw[e]at this;exact absurd this (by decide)
   rw[h.va j a]at d
   have f:=Lz t ((M.ab j).br.take 40) (M.ab j).cl;by_cases e:c∈(M.ab j).br.take 40
   .rw[f.2.1 c e]at d;exact(nQ d).symm
   .rw[f.1 c e]at d;exact h.aw j a c x d
 .have old:m∈M.bt->m.fv=[]:=λg=>h.l6 m g o;cases s with
  | bt _ ls hl hd=>exact False.elim hd
  | ask _ k hi hu =>
   rw[h.kc hi]at f
   exact old (by simpa[Meet.set]using f)
  | run _ k hi hu q l hp hs =>
   rcases U'.1 f with g|g
   .exact old g
   .cases q with
    | began b vs =>
     unfold Nod.rT at g;simp only at g;split at g
     .cases g
     .have:=(D8 g).1;rw[o]at this;cases this
    | prop v=>have:=(D8 g).1;rw[o]at this;cases this
    | start=>exact(D8 g).2
    | askNews to=>rw[G'.1 g];rfl
    | _=>have e:=G'.1 g;rw[e]at o;cases o
  | rW _ k hi hu hL =>
   rcases U'.1 f with g|g
   .exact old g
   .have:=(JY 5 m g).1;omega
  | _=>exact old f
end
section
variable{C:List Cmd}{K:Int}{B:Nat->Bal}{cov:List (Bal × Nat)}{i:Nat}{b:Bal}{A:List Cmd}
section
structure Fin_(i:Nat)(A:List Cmd)(M:Meet):Prop where
 ag:(M.ab i).ae=A
 nx:(M.ab i).bn.next<=A.length
 hd:A.length<40->∀ j,j<5->∀ v∈((M.ab i).bn.an j).vs,v.bu≠(A.length:Int)
 qu:A.length<40->∀ c∈(M.ab i).bn.fa,c∈A
variable{M N:Meet}{j k n s:Nat}{l:List Cmd}{v:Vt}{σ:Gs}
theorem PhE.rd(a:PhC C K B cov i b)(h:PhE C K B cov i b M)(g:AgI σ M):RdI σ i (M.ab i).bn/\(M.ab i).bn.gC=b:=by
 obtain⟨c,k⟩:=(g.nd i a.hi).up (h.pb.cm.up i a.hi);exact⟨k.rd,(h.pb.cm.gC i a.hi).trans a.hB⟩
theorem PhE.lt(d:PhC C K B cov i b)(h:PhE C K B cov i b M)(g:AgI σ M)(a:σ.sr v)(c:v.b=b):v.bu<((M.ab i).bn.next:Int):=by
 have k:=h.rd d g;have:=k.1.next v.bu.toNat v.w (by rw[k.2,<- c];exact a.2);have:=a.1.1;omega
theorem PhE.held(a:PhC C K B cov i b)(h:PhE C K B cov i b M)(g:AgI σ M)(o:(M.ab i).bn.next<=s)(m:∀ j,j<5->∀ v∈((M.ab i).bn.an j).vs,v.bu≠(s:Int)){q:Nat}(d:q<5)(l:σ.held q v):v.bu≠(s:Int):=by
 intro e;have k:=h.rd a g;have c:=g.gs.hv q v l;have n:=g.sN h.pb.cm.kb.2 c.1.2.1 (g.gs.w3 _ _ _ c.2);by_cases f:v.b.key<b.key
 .obtain⟨u,hu,eu,_⟩:=(k.1.prom q d (h.pr q d)).2 v l (by rw[k.2];exact f);exact m q d u hu (eu.trans e)
 .have e3:v.b=b:=DC c.1.2.1.pr a.hb.pr (by rw[a.hK]at f ⊢;omega);have:=h.lt a g c e3;omega
theorem iA(g:GsI σ){c:Cmd}(h:σ.sZ s c):∃ q,q<5/\∃ v,σ.held q v/\v.bu=(s:Int)/\v.w=c/\s<40:=by
 obtain⟨k,Q,d,j⟩:=h;obtain⟨q,e,a,_⟩:=IS Q Q d d;obtain⟨v,b,f,_,i⟩:=j q e a;have:=(g.hv q v b).1.1;exact⟨q,e,v,b,f,i,by omega⟩
theorem Fin_.none(k:PhC C K B cov i b)(h:PhE C K B cov i b M)(f:Fin_ i A M)(g:AgI σ M)(c:Cmd):¬ σ.sZ A.length c:=λe=>by
 obtain⟨q,l,v,a,d,_,j⟩:=iA g.gs e;exact h.held k g f.nx (f.hd j) l a d
theorem AgL.le{a:Nat}(h:AgL σ l k)(d:∀ c,¬ σ.sZ a c)(f:k<=a):k+l.length<=a:=qK λe=>by
 have b:a-k<l.length:=by omega
 exact d _ (by rw[show a=k+(a-k)by omega];exact h (a-k) _ (E' b))
theorem Fin_.le(a:PhC C K B cov i b)(h:PhE C K B cov i b M)(f:Fin_ i A M)(c:j<5):(M.ab j).ae.length<=A.length:=by
 obtain⟨σ,g,_⟩:=h.pb.cm.ex;have:=(g.nd j c).ag.le (f.none a h g) (nB _);omega
theorem Fin_.rQ(f:Fin_ i A M):(M.ab i).rQ (M.ab i).ae.length=Option.none:=by
 unfold Nod.rQ;rw[f.ag];split
 .rfl
 .rename_i b
  have b:=mX.1 b;have k:A.length<40:=by
   unfold Ck at b;split at b
   .cases b
   .omega
  have m:Ae ((M.ab i).bn.jv.map (·.vs)).flatten (A.length:Int)=[]:=qA.2 λv h=>by
   obtain⟨n,o⟩:=Be.1 h;obtain⟨l,s,h⟩:=pE.1 n;obtain⟨a,d,rfl⟩:=ny.1 s;unfold Rnd.jv at d;have:∃ j,j<5/\a=(M.ab i).bn.an j:=by
    simp only[nf,P',or_false]at d;rcases d with e|e|e|e|e
    .exact⟨0,by omega,e⟩
    .exact⟨1,by omega,e⟩
    .exact⟨2,by omega,e⟩
    .exact⟨3,by omega,e⟩
    .exact⟨4,by omega,e⟩
   obtain⟨j,r,rfl⟩:=this;exact f.hd k j r v h o
  have p:DS ((M.ab i).bn.jv.map (·.vs)) (A.length:Int)=false:=by
   unfold DS;rw[if_pos b];unfold Gf;rw[m];rfl
  rw[if_neg (by rw[p];decide)];exact oD.2 λc q g=>absurd (f.qu k c q) (nG g)
theorem O5{a:List Cmd}(h:k+a.length<=l.length):l++a.drop (l.length-k)=l:=by rw[nN (by omega),nA]
theorem ZL{r:Rnd}(k:Nat)(h:CY r.jv (l.length:Int)≠0):FG k r l=l:=by
 cases k with
 | zero=>rfl
 | succ k=>rw[FG,if_neg h]
def Uz(p q:Nod):Prop:=q.ae=p.ae/\q.bn.next=p.bn.next/\q.bn.fa=p.bn.fa
theorem Fin_.count(a:PhC C K B cov i b)(h:PhE C K B cov i b M)(f:Fin_ i A M)(g:AgI σ M)(l:σ.held j v):Uz (M.ab i) ((M.ab i).count j v):=by
 have k:=(h.rd a g).1;unfold Nod.count;split
 .exact⟨rfl,rfl,rfl⟩
 .rename_i hb
  split
  .exact⟨rfl,rfl,rfl⟩
  .rename_i he
   refine⟨ZL _ λe=>?_,rfl,rfl⟩;have e:CY (Rnd.jv _) ((M.ab i).ae.length:Int)=0:=e;have c1:=U5 (λq c u d=>((k.count (mX.1 hb) (mX.1 he) l).an q c u d).1) e;rw[f.ag]at c1
   exact f.none a h g _ c1
theorem Fin_.same(m:PhC C K B cov i b)(s:Stp wh0 n M N)(h:PhE C K B cov i b M)(f:Fin_ i A M):Uz (M.ab i) (N.ab i):=by
 obtain⟨σ,g,_⟩:=h.pb.cm.ex;have put:∀ {k:Nat} {p:Nod} {r:List Let} {t:List Tol},(i=k->Uz (M.ab i) p)->Uz (M.ab i) ((M.set k p r t).ab i):=λ{k p r t} e=>by
  rw[An];split
  .rename_i e2;exact e e2
  .exact⟨rfl,rfl,rfl⟩
 have o:∀ {l:List Cmd} {k:Nat},AgL σ l k->k<=A.length->k+l.length<=(M.ab i).ae.length:=λa e=>by rw[f.ag];exact a.le (f.none m h g) e
 cases s with
 | take _ l hl2 hd hu ht =>
  refine put λe=>?_;rw[<- e];have lt:=g.lt l hl2;unfold Nod.take;split
  .split
   .unfold Nod.eo;split<;>exact⟨rfl,rfl,rfl⟩
   .exact⟨jr _ _,by show(Nod.au _ _).1.bn.next=_;rw[(Bj _ _).2],by show(Nod.au _ _).1.bn.fa=_;rw[(Bj _ _).2]⟩
  .rename_i hk
   simp only;rw[if_pos (.inr (.inr (h.pr l.src hd.1)))];exact⟨O5 (o (lt.k1 hk).2.2 (nB _)),rfl,rfl⟩
  .exact⟨rfl,rfl,rfl⟩
  .split
   .unfold Nod.eo;split<;>exact⟨rfl,rfl,rfl⟩
   .exact⟨jR _ _,by show(Nod.cn _ _).1.bn.next=_;rw[(CD _ _).2],by show(Nod.cn _ _).1.bn.fa=_;rw[(CD _ _).2]⟩
  .rename_i hk
   exact f.count m h g (lt.k4 hk)
  .rename_i hk
   split
   .exact⟨rfl,rfl,rfl⟩
   .rename_i h5
    exact⟨O5 (o (lt.k5 hk) (by rw[f.ag]at h5;omega)),rfl,rfl⟩
  .rename_i hk
   simp only;rw[h.l6 l hl2 hk];unfold Nod.eb;split<;>split<;>exact⟨rfl,rfl,rfl⟩
  .exact⟨rfl,rfl,rfl⟩
 | bt _ r o hd=>exact False.elim hd
 | one _ k c hi hu hc he=>exact put λe=>by rw[<- e];unfold Nod.hZ;split<;>exact⟨rfl,rfl,rfl⟩
 | ask _ k hi hu=>exact put λe=>by rw[h.kc hi,<- e];exact⟨rfl,rfl,rfl⟩
 | prop _ k hi hu =>
  refine put λe=>?_;rw[<- e];unfold Nod.cF;split
  .exact⟨rfl,rfl,rfl⟩
  .rw[f.rQ];exact⟨rfl,rfl,rfl⟩
 | rZ _ k hi hu hs hT=>exact put λe=>by rw[<- e];exact⟨rfl,rfl,rfl⟩
 | run _ k hi hu q l hp hs =>
  refine put λe=>?_;rw[<- e]at hp hs ⊢
  cases q with
  | began b vs=>exact absurd (by rw[hp];exact O') (h.nb b vs)
  | prop v =>
   obtain⟨u,k⟩:=(g.nd i m.hi).up (h.pb.cm.up i m.hi);have:=f.count m h g (j:=i) (v:=v) (by
    have:=k.pe (.prop v) (by rw[hp];exact O');unfold Gs.held;rw[k.tp.all hs];exact this)
   exact this
  | _=>exact⟨rfl,rfl,rfl⟩
 | rW _ k hi hu hL=>exact put λe=>by rw[<- e];exact⟨rfl,rfl,rfl⟩
 | lead _ k hi hu hL=>exact False.elim hL
 | sub _ k d hi hu hD=>exact False.elim hD
 | lp _ k y hi hu hk hC=>exact False.elim hC
 | start _ k hi hu hs=>exact False.elim hs
theorem Fin_.step(a:PhC C K B cov i b)(s:Stp wh0 n M N)(h:PhE C K B cov i b M)(f:Fin_ i A M):Fin_ i A N:=by
 have e:=f.same a s h;have d:=h.step a s;obtain⟨τ,g,_⟩:=d.pb.cm.ex;refine⟨e.1.trans f.ag,by rw[e.2.1];exact f.nx,λl j m v o q=>?_,λl c p=>f.qu l c (by rw[<- e.2.2];exact p)⟩;rcases s.uE h.nb h.pr o with k|k
 .exact f.hd l j m v k q
 .have:=d.lt a g (g.gs.hv j v ((d.rd a g).1.an j m v o).1) (k.trans ((h.pb.cm.gC i a.hi).trans a.hB));have:=e.2.1;have:=f.nx;omega
end
end
section
variable{j:Nat}{p:Nod}{r:Rnd}{v:Vt}
theorem ZY{l:List Vt}(h:v∈l):1<=BQ (Ae l v.bu) v:=qW.2 ⟨v,Be.2 ⟨h,rfl⟩,M' rfl⟩
theorem Yn(k:∀ j,j<5->Ag (r.an j))(o:0<=v.bu/\v.bu<=39)(p:∀ j,j<5->v∈(r.an j).vs):CY r.jv v.bu=0:=by
 have e:Dx r.jv v.bu=Ae (r.an 0).vs v.bu++(Ae (r.an 1).vs v.bu++(Ae (r.an 2).vs v.bu++(Ae (r.an 3).vs v.bu++Ae (r.an 4).vs v.bu))):=by
  unfold Dx Rnd.jv Ae;simp[List.filter_append]
 have g:∀ j,j<5->1<=BQ (Ae (r.an j).vs v.bu) v:=λj l=>ZY (p j l);have n:5<2*BQ (Dx r.jv v.bu) v:=by
  rw[e,C1,C1,C1,C1];have:=g 0 (by omega);have:=g 1 (by omega);have:=g 2 (by omega);have:=g 3 (by omega);have:=g 4 (by omega);omega
 have m:v∈Dx r.jv v.bu:=by
  obtain⟨u,b,d⟩:=qW.1 (show 0<BQ (Dx r.jv v.bu) v by omega);have c:u=v:=nG d;rw[c]at b;exact b
 have f:∀ a∈r.jv,Ag a:=λa h=>by
  unfold Rnd.jv at h;simp only[nf,P',or_false]at h;rcases h with e|e|e|e|e<;>rw[e]<;>exact k _ (by omega)
 have i:(Hl (Dx r.jv v.bu) r.jv.length).isSome=true:=List.find?_isSome.2 ⟨v,m,M' n⟩;unfold CY;rw[if_neg (λg=>g ⟨o,by show(1:Int)<=((5:Nat):Int)/\((5:Nat):Int)<=5;decide⟩),if_neg (λg=>g f),if_pos i]
theorem Qz(c:v.b=p.bn.gC)(a:Ag (p.bn.an j))(e:Ah v)(f:(p.bn.an j).p=p.bn.gC):v∈((p.count j v).bn.an j).vs:=by
 have d:AX (p.bn.an j) v=0:=by
  unfold AX;rw[if_neg (λg=>g a),if_neg (λg=>g e),if_neg];rw[f,c];unfold Bal.lt;omega
 unfold Nod.count;rw[if_neg (λg=>g c),if_neg (λg=>g d)];show v∈(upN p.bn.an j ⟨BN (p.bn.an j) v,Bu (p.bn.an j) v⟩ j).vs;rw[Dd];show v∈Bu (p.bn.an j) v;rw[(DB d).2,BH a.2.2];exact .inl rfl
theorem S6{k:Nat}{u:Vt}(a:v∈(p.bn.an k).vs)(g:u.b=p.bn.gC->u.bu=v.bu->u=v):v∈((p.count j u).bn.an k).vs:=by
 unfold Nod.count;split
 .exact a
 .rename_i hb
  split
  .exact a
  .rename_i c
   have c:=mX.1 c;show v∈(upN p.bn.an j ⟨BN (p.bn.an j) u,Bu (p.bn.an j) u⟩ k).vs;unfold upN;split
   .rename_i e
    show v∈Bu (p.bn.an j) u;rw[(DB c).2,BH (As c).1.2.2];by_cases d:u.bu=v.bu
    .exact .inl (g (mX.1 hb) d).symm
    .exact .inr ⟨by rw[<- e];exact a,λf=>d f.symm⟩
   .exact a
theorem cL(h:(p.cn v).2=0):Ah v:=by
 unfold Nod.cn at h;split at h
 .rename_i h0;exact absurd h h0
 .rename_i h0;exact(As (mX.1 h0)).2.1
theorem W6{l:List Cmd}(k:Nat)(h:CY r.jv (l.length:Int)=0):l.length<(FG (k+1) r l).length:=by
 rw[FG,if_pos h];have:=(IR k r (l++[CQ r.jv (l.length:Int)])).length_le;rw[H',n7]at this
 omega
end
section
variable{C:List Cmd}{K:Int}{B:Nat->Bal}{cov:List (Bal × Nat)}{i:Nat}{b:Bal}
section
variable{M N:Meet}{j n:Nat}
theorem Stp.sO(s:Stp wh0 n M N)(m:PhC C K B cov i b)(h:PhE C K B cov i b M){σ:Gs}(g:AgI σ M) :
  ((N.ab i).bn.an=(M.ab i).bn.an/\(N.ab i).bn.next=(M.ab i).bn.next)\/((N.ab i).bn.an=(M.ab i).bn.an/\(N.ab i).bn.next=(M.ab i).ae.length+1/\(M.ab i).ae.length<40)\/∃ k u,k<5/\σ.held k u/\(N.ab i).bn=((M.ab i).count k u).bn/\(N.ab i).ae=((M.ab i).count k u).ae:=by
 have put:∀ {k:Nat} {p:Nod} {f:List Let} {j:List Tol},(i=k->p.bn.an=(M.ab k).bn.an/\p.bn.next=(M.ab k).bn.next)->((M.set k p f j).ab i).bn.an=(M.ab i).bn.an/\((M.set k p f j).ab i).bn.next=(M.ab i).bn.next:=λ{k p f j} e=>by
  rw[An];split
  .rename_i e2;rw[e2];exact e e2
  .exact⟨rfl,rfl⟩
 cases s with
 | take _ l hl hd hu ht =>
  have lt:=g.lt l hl;by_cases a:l.kind=4/\i=l.dst
  .refine .inr (.inr ⟨l.src,l.cn,hd.1,lt.k4 a.1,?_⟩);rw[An,if_pos a.2,<- a.2];unfold Nod.take;rw[a.1];exact⟨rfl,rfl⟩
  .refine .inl (put λe=>?_);rw[<- e];unfold Nod.take;split
   .split
    .unfold Nod.eo;split<;>exact⟨rfl,rfl⟩
    .show((M.ab i).au _).1.bn.an=_/\((M.ab i).au _).1.bn.next=_;rw[(Bj _ _).2];exact⟨rfl,rfl⟩
   .simp only;rw[if_pos (.inr (.inr (h.pr l.src hd.1)))];exact⟨rfl,rfl⟩
   .exact⟨rfl,rfl⟩
   .split
    .unfold Nod.eo;split<;>exact⟨rfl,rfl⟩
    .show((M.ab i).cn _).1.bn.an=_/\((M.ab i).cn _).1.bn.next=_;rw[(CD _ _).2];exact⟨rfl,rfl⟩
   .rename_i hk;exact absurd ⟨hk,e⟩ a
   .split<;>exact⟨rfl,rfl⟩
   .simp only;unfold Nod.eb;split<;>split<;>exact⟨rfl,rfl⟩
   .exact⟨rfl,rfl⟩
 | bt _ f hl hd=>exact False.elim hd
 | one _ k c hi hu hc he=>exact .inl (put λe=>by unfold Nod.hZ;split<;>exact⟨rfl,rfl⟩)
 | ask _ k hi hu=>exact .inl (put λe=>by rw[h.kc hi];exact⟨rfl,rfl⟩)
 | prop _ k hi hu =>
  by_cases e:i=k
  .subst e;rw[An,if_pos rfl];unfold Nod.cF;split
   .exact .inl ⟨rfl,rfl⟩
   .split
    .exact .inl ⟨rfl,rfl⟩
    .split
     .exact .inl ⟨rfl,rfl⟩
     .rename_i he
      refine .inr (.inl ⟨rfl,rfl,?_⟩);have:=(cL (mX.1 he)).1.2;have:((M.ab i).ae.length:Int)<=39:=this;omega
  .refine .inl ?_;rw[An,if_neg e];exact⟨rfl,rfl⟩
 | rZ _ k hi hu hs hT=>exact .inl (put λe=>⟨rfl,rfl⟩)
 | run _ k hi hu q l hp hs =>
  by_cases e:i=k
  .subst e;cases q with
   | began b vs=>exact absurd (by rw[hp];exact O') (h.nb b vs)
   | prop v =>
    refine .inr (.inr ⟨i,v,hi,?_,?_⟩)
    .obtain⟨rs,k⟩:=(g.nd i hi).up hu;have:=k.pe (.prop v) (by rw[hp];exact O');unfold Gs.held;rw[k.tp.all hs];exact this
    .rw[An,if_pos rfl];exact⟨rfl,rfl⟩
   | _=>exact .inl (put λ_=>⟨rfl,rfl⟩)
  .refine .inl ?_;rw[An,if_neg e];exact⟨rfl,rfl⟩
 | rW _ k hi hu hL=>exact .inl (put λe=>⟨rfl,rfl⟩)
 | lead _ k hi hu hL=>exact False.elim hL
 | sub _ k d hi hu hD=>exact False.elim hD
 | lp _ k y hi hu hk hC=>exact False.elim hC
 | start _ k hi hu hs=>exact False.elim hs
structure PhL(C:List Cmd)(K:Int)(B:Nat->Bal)(cov:List (Bal × Nat))(i:Nat)(b:Bal)(M:Meet):Prop where
 pe:PhE C K B cov i b M
 ld:∀ v:Vt,v.b=b->(∀ j,j<5->v∈((M.ab i).bn.an j).vs)->v.bu<((M.ab i).ae.length:Int)
 nx:(M.ab i).bn.next<=(M.ab i).ae.length+1/\(M.ab i).bn.next<=40
theorem PhE.acc(c:PhC C K B cov i b)(h:PhE C K B cov i b M)(a:j<5):Ag ((M.ab i).bn.an j)/\((M.ab i).bn.an j).p=b:=by
 obtain⟨σ,g,_⟩:=h.pb.cm.ex;have k:=h.rd c g;exact⟨(k.1.acc j a).1,((k.1.acc j a).2 (h.pr j a)).trans k.2⟩
theorem PhE.pd(m:PhC C K B cov i b)(s:Stp wh0 n M N)(h:PhE C K B cov i b M){v:Vt}(l:v.b=b)(r:j<5)(a:v∈((M.ab i).bn.an j).vs):v∈((N.ab i).bn.an j).vs:=by
 obtain⟨σ,g,_⟩:=h.pb.cm.ex;have k:=h.rd m g;rcases s.sO m h g with e|e|⟨q,u,hq,hu,e,_⟩
 .rw[e.1];exact a
 .rw[e.1];exact a
 .rw[e];refine S6 a λc d=>?_;have o:=g.gs.hv q u hu;have p:=g.gs.hv j v (k.1.an j r v a).1;have f:=o.2;rw[c,k.2,d,<- l]at f
  exact(Vt.eq_iff u v).1 ⟨d,(c.trans k.2).trans l.symm,g.gs.w1 _ _ _ _ f p.2⟩
theorem PhL.step(d:PhC C K B cov i b)(s:Stp wh0 n M N)(h:PhL C K B cov i b M):PhL C K B cov i b N:=by
 have f:=h.pe.step d s;have x:=(s.ev i).ag.length_le;obtain⟨σ,g,_⟩:=h.pe.pb.cm.ex;have p:(N.ab i).bn.next<=(N.ab i).ae.length+1/\(N.ab i).bn.next<=40:=by
  have:=h.nx;rcases s.sO d h.pe g with e|e|⟨q,u,hq,hu,e,_⟩
  .rw[e.2];omega
  .rw[e.2.1];omega
  .have o:((M.ab i).count q u).bn.next=(M.ab i).bn.next:=by
    unfold Nod.count;split
    .rfl
    .split<;>rfl
   rw[e,o];omega
 refine⟨f,λv t a=>?_,p⟩;by_cases l:∀ j,j<5->v∈((M.ab i).bn.an j).vs
 .have:=h.ld v t l;omega
 .obtain⟨τ,g2,_⟩:=f.pb.cm.ex;have z:=f.rd d g2;have m:=g2.gs.hv 0 v (z.1.an 0 (by omega) v (a 0 (by omega))).1;have k:=f.lt d g2 m t;rcases s.sO d h.pe g with e|e|⟨q,u,hq,hu,e,ea⟩
  .rw[e.1]at a;exact absurd a l
  .rw[e.1]at a;exact absurd a l
  .have hm:=m.1.1;rw[e]at a k
   rw[ea];have c:∀ j,j<5->Ag ((N.ab i).bn.an j):=λj y=>(f.acc d y).1;rw[e]at c
   have A:=h.nx;have o:((M.ab i).count q u).bn.next=(M.ab i).bn.next:=by
    unfold Nod.count;split
    .rfl
    .split<;>rfl
   rw[o]at k
   unfold Nod.count at a c ⊢;split at a
   .exact absurd a l
   .split at a
    .exact absurd a l
    .rename_i h3 h4
     rw[if_neg h3,if_neg h4]at c ⊢
     by_cases w:v.bu<((M.ab i).ae.length:Int)
     .exact Int.lt_of_lt_of_le w (Int.ofNat_le.2 (IR 41 _ _).length_le)
     .have e6:v.bu=((M.ab i).ae.length:Int):=by omega
      have r:=Yn c hm a;rw[e6]at r ⊢
      exact Int.ofNat_lt.2 (W6 40 r)
end
end
section
variable{I J:Meet->Prop}
theorem MQ(j:∀ c M N,Stp wh1 c M N->I M->I N)(p:∀ c M N,Stp wh1 c M N->I M->J M->J N){n:Nat}{M:Meet}(q:MOk n M)(u:n+5<=1000000)(h:I M){i:Nat}(r:i<5)(d:∀ N m,MOk m N->m+1<=1000000->I N->N.ab i=M.ab i->J (N.act (acN 3 (i:Int)))):J (M.dW (AD 3 5)):=by
 have d:∀ k,k<=5->MOk (n+k) (M.dW (AD 3 k))/\I (M.dW (AD 3 k))/\(k<=i->(M.dW (AD 3 k)).ab i=M.ab i)/\(i<k->J (M.dW (AD 3 k))):=by
  intro k;induction k with
  | zero=>exact λ_=>⟨q,h,λ_=>rfl,λe=>absurd e (oZ _)⟩
  | succ k ih =>
   intro t;obtain⟨a,b,f,o⟩:=ih (by omega);rw[BX,Ay];refine⟨a.act (by omega) (FV (by omega)),CA j a (by omega) b,λe=>by rw[E4 _ (by omega)];exact f (by omega),λe=>?_⟩;by_cases l:i<k
   .exact(CA (I:=λN=>I N/\J N) (λc A B s g=>⟨j c A B s g.1,p c A B s g.1 g.2⟩) a (by omega) ⟨b,o l⟩).2
   .obtain rfl:k=i:=by omega
    exact d _ _ a (by omega) b (f (A' _))
 exact(d 5 (A' _)).2.2.2 r
end
theorem I2(M:Meet){i:Nat}(d:i<5):∃ N:Meet,N.ab i=M.ab i/\N=M.dW (AD 3 i)/\(M.dW (AD 3 5)).ab i=(N.act (acN 3 (i:Int))).ab i:=by
 have b:∀ k,k<=i->(M.dW (AD 3 k)).ab i=M.ab i:=by
  intro k;induction k with
  | zero=>exact λ_=>rfl
  | succ k ih=>exact λa=>by rw[BX,Ay,E4 _ (by omega)];exact ih (by omega)
 refine⟨_,b i (A' _),rfl,?_⟩;have c:∀ k,i<k->(M.dW (AD 3 k)).ab i=((M.dW (AD 3 i)).act (acN 3 (i:Int))).ab i:=by
  intro k a;induction k with
  | zero=>exact absurd a (oZ _)
  | succ k ih =>
   rw[BX,Ay];by_cases e:k=i
   .rw[e]
   .rw[E4 _ (Ne.symm e)];exact ih (by omega)
 exact c 5 d
theorem Stp.sD{M N:Meet}(s:Stp wh0 0 M N)(i:Nat):(N.ab i).bn.next=(M.ab i).bn.next:=by
 have put:∀ {k:Nat} {p:Nod} {a:List Let} {g:List Tol},p.bn.next=(M.ab k).bn.next->((M.set k p a g).ab i).bn.next=(M.ab i).bn.next:=λ{k p a g} e=>by
  rw[An];split
  .rename_i e2;rw[e2];exact e
  .rfl
 have f:∀ (p:Nod) (j:Nat) (v:Vt),(p.count j v).bn.next=p.bn.next:=λp j v=>by
  unfold Nod.count;split
  .rfl
  .split<;>rfl
 cases s with
 | take _ l hl hd hu ht =>
  refine put ?_;unfold Nod.take;split
  .split
   .unfold Nod.eo;split<;>rfl
   .show((M.ab l.dst).au _).1.bn.next=_;rw[(Bj _ _).2]
  .simp only;split<;>rfl
  .rfl
  .split
   .unfold Nod.eo;split<;>rfl
   .show((M.ab l.dst).cn _).1.bn.next=_;rw[(CD _ _).2]
  .exact f _ _ _
  .split<;>rfl
  .simp only;unfold Nod.eb;split<;>split<;>rfl
  .rfl
 | bt _ a hl hd=>exact False.elim hd
 | one _ k c hi hu hc he=>exact put (by unfold Nod.hZ;split<;>rfl)
 | ask _ k hi hu =>
  refine put ?_;unfold Nod.kc;split
  .rfl
  .split
   .unfold Nod.eb;split<;>rfl
   .rfl
 | rZ _ k hi hu hs hT=>exact put rfl
 | run _ k hi hu q l hp hs =>
  refine put ?_;show((M.ab k).lr k q).bn.next=_;cases q with
  | began b vs=>simp only[Nod.lr];split<;>rfl
  | prop v=>exact f _ _ _
  | _=>rfl
 | rW _ k hi hu hL=>exact put rfl
 | lead _ k hi hu hL=>exact False.elim hL
 | sub _ k d hi hu hD=>exact False.elim hD
 | lp _ k y hi hu hk hC=>exact False.elim hC
 | start _ k hi hu hs=>exact False.elim hs
theorem Sts.sD{M N:Meet}(s:Sts wh1 0 M N)(i:Nat):(N.ab i).bn.next=(M.ab i).bn.next:=by
 generalize a:0=z at s;induction s with
 | nil=>rfl
 | @snoc n c m A B E h s hm ih =>
  obtain rfl:c=0:=by omega
  exact(s.calm.sD i).trans (ih (by omega))
theorem Tu{p q:Nod}(a:q.bn=p.bn)(b:q.ae=p.ae)(s:Nat):q.rQ s=p.rQ s:=by unfold Nod.rQ;rw[a,b]
section
variable{C:List Cmd}{K:Int}{B:Nat->Bal}{cov:List (Bal × Nat)}{i:Nat}{b:Bal}
section
def J3(i:Nat)(v:Vt)(N:Meet):Prop:=v∈((N.ab i).bn.an i).vs/\∀ j,j<5->j≠i->({ BJ 3 with cn:=v,src:=i,dst:=j }:Let)∈N.bt
variable{M N:Meet}{c:Cmd}{n:Nat}
theorem J3.step(a:PhC C K B cov i b)(s:Stp wh0 n M N)(h:PhE C K B cov i b M){v:Vt}(c:v.b=b)(k:J3 i v M):J3 i v N:=⟨h.pd a s c a.hi k.1,λj d e=>s.si (k.2 j d e)⟩
theorem PhE.rX(h:PhE C K B cov i b M):(M.ab i).bn.rX=true:=by
 unfold Rnd.rX J8;rw[h.pr 0 (by omega),h.pr 1 (by omega),h.pr 2 (by omega),h.pr 3 (by omega),h.pr 4 (by omega)];decide
theorem ON(a:PhC C K B cov i b)(H:14*K+38*(cov.length:Int)<=99000)(q:∀ c∈C,c.e=0)(h:PhL C K B cov i b M)(S:(M.ab i).ae.length<40)(L:(M.ab i).bn.next<=(M.ab i).ae.length)(z:(M.ab i).rQ (M.ab i).ae.length=some c) :
  J3 i ⟨((M.ab i).ae.length:Int),b,c⟩ (M.act (acN 3 (i:Int)))/\((M.act (acN 3 (i:Int))).ab i).bn.next=(M.ab i).ae.length+1:=by
 have E:=h.pe.pb.cm.up i a.hi;obtain⟨R,s0,T,O,a0,n,G,Q,P,F⟩:=I1 (D:=wh1) a.hi E;have r:∀ c A N,Stp wh1 c A N->PhL C K B cov i b A->PhL C K B cov i b N:=λc A N s g=>g.step a s.calm;have x:=s0.inv r h;have o:=P.inv r x;have f:(n.ab i).bn=(M.ab i).bn/\(n.ab i).ae=(M.ab i).ae:=by
  rw[G,B1,x.pe.kc a.hi];exact⟨O,a0⟩
 have u:Ah ⟨((M.ab i).ae.length:Int),b,c⟩:=⟨by show(0:Int)<=((M.ab i).ae.length:Int)/\((M.ab i).ae.length:Int)<=39;omega,a.hb,q c (Ll (h.pe.pb.cm.s.nd i a.hi) z)⟩;generalize w:(⟨((M.ab i).ae.length:Int),b,c⟩:Vt)=v at u;have m:v.b=b:=by rw[<- w]
 have t:=fg a H o.pe.pb o.pe.rX (by rw[f.1,f.2];exact L) (c:=c) (by rw[Tu f.1 f.2,f.2];exact z) (by rw[f.2,w];exact u);rw[f.2,w]at t
 have p:=(Stp.prop (D:=wh1) n i a.hi Q).calm;have p:=o.step a p;have k:=F.inv (I:=λN=>PhL C K B cov i b N/\(Pend.prop v∈(N.ab i).bw\/J3 i v N)) (λd A N s g=>⟨r d A N s g.1,by
  rcases g.2 with g2|g2
  .rcases OC s.calm g2 with g3|⟨l,g3,rfl⟩
   .exact .inl g3
   .refine .inr ⟨?_,λj J e=>mW _ (MJ { BJ 3 with cn:=v } J e)⟩;rw[An,if_pos rfl];have ac:=g.1.pe.acc a a.hi;have y:(A.ab i).bn.gC=b:=(g.1.pe.pb.cm.gC i a.hi).trans a.hB;exact Qz (m.trans y.symm) ac.1 u (ac.2.trans y.symm)
  .exact .inr (g2.step a s.calm g.1.pe m)⟩) ⟨p,.inl (by rw[B1];exact t.2)⟩
 refine⟨k.2.resolve_left λg=>?_,by rw[F.sD i,B1];exact t.1⟩;rw[Hi E,An,if_pos rfl,Iv (h.pe.pb.cm.sL a.hi)]at g
 cases g
theorem Xk(a:PhC C K B cov i b)(h:PhL C K B cov i b M)(m:(M.ab i).ae.length<(M.ab i).bn.next):((M.act (acN 3 (i:Int))).ab i).bn.next=(M.ab i).bn.next:=by
 have l:=h.pe.pb.cm.up i a.hi;obtain⟨p,s0,r,n,a0,e,f,t,q,o⟩:=I1 (D:=wh1) a.hi l;have k:∀ c A N,Stp wh1 c A N->PhL C K B cov i b A->PhL C K B cov i b N:=λc A N s g=>g.step a s.calm;have j:=s0.inv k h;have d:(e.ab i).bn=(M.ab i).bn/\(e.ab i).ae=(M.ab i).ae:=by
  rw[f,B1,j.pe.kc a.hi];exact⟨n,a0⟩
 rw[o.sD i,B1];unfold Nod.cF;rw[if_pos (.inr (.inr (by rw[d.1,d.2];exact m))),d.1]
def Bz(i:Nat)(v:Vt)(N:Meet):Prop:=v∈((N.ab i).bn.an i).vs/\∀ j,j<5->j≠i->Pend.voted i v∈(N.ab j).bw
theorem PhL.drop(h:PhL C K B cov i b N):PhL C K B cov i b { N with bt:=[] } :=
 ⟨⟨⟨h.pe.pb.cm.drop,h.pe.pb.ak,h.pe.pb.vi⟩,h.pe.va,h.pe.pr,h.pe.nb,h.pe.aw,λm a=>(by cases a),h.pe.qw⟩,h.ld,h.nx⟩
theorem ED(M:Meet):M.dW Ao=(M.dW (AD 3 5)).act (acN 7 0):=by rw[show Ao=AD 3 5++[acN 7 0]from rfl,Ay]
theorem PhL.round(f:PhC C K B cov i b)(k:MOk n M)(m:n+6<=1000000)(h:PhL C K B cov i b M):PhL C K B cov i b (M.dW Ao)/\MOk (n+6) (M.dW Ao)/\(M.dW Ao).bt=[]/\(∀ j,Ev (M.ab j) ((M.dW Ao).ab j))/\((M.dW Ao).ab i).bn.next=((M.dW (AD 3 5)).ab i).bn.next:=by
 have d:=Bm (I:=λN=>PhL C K B cov i b N/\∀ j,Ev (M.ab j) (N.ab j)) (λc A N s g=>⟨g.1.step f s.calm,λj=>(g.2 j).trans (s.calm.ev j)⟩) k (by omega) ⟨h,λj=>.refl _⟩;rw[ED];obtain⟨N,l,e,_⟩:=Cu (I:=λN=>PhL C K B cov i b N/\(∀ j,Ev (M.ab j) (N.ab j))/\(N.ab i).bn.next=((M.dW (AD 3 5)).ab i).bn.next) (λA N s g=>⟨g.1.step f s.sq,λj=>(g.2.1 j).trans (s.sq.ev j),(s.sq.sD i).trans g.2.2⟩) d.1 ⟨d.2.1,d.2.2,rfl⟩;have a:=d.1.act (x:=acN 7 0) (by omega) (by rw[<- Dr];decide);rw[l]at a ⊢
 exact⟨e.1.drop,a,rfl,e.2.1,e.2.2⟩
theorem Ub(a:PhC C K B cov i b)(u:14*K+38*(cov.length:Int)<=99000)(f:∀ c∈C,c.e=0)(r:MOk n M)(P:n+6<=1000000)(h:PhL C K B cov i b M)(F:(M.ab i).ae.length<40)(H:(M.ab i).bn.next<=(M.ab i).ae.length)(x:(M.ab i).rQ (M.ab i).ae.length=some c) :
  Bz i ⟨((M.ab i).ae.length:Int),b,c⟩ (M.dW Ao)/\((M.dW Ao).ab i).bn.next=(M.ab i).ae.length+1:=by
 have G:Ah ⟨((M.ab i).ae.length:Int),b,c⟩:=⟨by show(0:Int)<=((M.ab i).ae.length:Int)/\((M.ab i).ae.length:Int)<=39;omega,a.hb,f c (Ll (h.pe.pb.cm.s.nd i a.hi) x)⟩;have w:∀ c A N,Stp wh1 c A N->PhL C K B cov i b A->PhL C K B cov i b N:=λc A N s g=>g.step a s.calm;have E:∀ A N,TkS A N->PhL C K B cov i b A->PhL C K B cov i b N:=λA N s g=>g.step a s.sq;have Q:=h.round a r P;have q:=MQ (J:=λN=>J3 i ⟨((M.ab i).ae.length:Int),b,c⟩ N) w (λd A N s g k=>k.step a s.calm g.pe rfl) r (by omega) h a.hi (λN m _ _ g e=>by
  have:=(ON a u f g (by rw[e];exact F) (by rw[e];exact H) (c:=c) (by rw[e];exact x)).1;rw[e]at this;exact this)
 obtain⟨N,t,S,T⟩:=I2 M a.hi;have p:=Bm w r (by omega) h;have O:PhL C K B cov i b N:=by
  rw[S];have R:∀ k,k<=5->MOk (n+k) (M.dW (AD 3 k))/\PhL C K B cov i b (M.dW (AD 3 k)):=by
   intro k;induction k with
   | zero=>exact λ_=>⟨r,h⟩
   | succ k ih =>
    intro U;obtain⟨D,L⟩:=ih (by omega);rw[BX,Ay];exact⟨D.act (by omega) (FV (by omega)),CA w D (by omega) L⟩
  have:=a.hi;exact(R i (by omega)).2
 have z:=(ON a u f O (by rw[t];exact F) (by rw[t];exact H) (c:=c) (by rw[t];exact x)).2;refine⟨?_,by rw[Q.2.2.2.2,T,z,t]⟩;have o:(⟨((M.ab i).ae.length:Int),b,c⟩:Vt).b=b:=rfl;generalize (⟨((M.ab i).ae.length:Int),b,c⟩:Vt)=v at G q o ⊢;rw[ED];generalize M.dW (AD 3 5)=A at p q ⊢;refine⟨?_,λj y e=>?_⟩
 .obtain⟨N,k1,k2,_⟩:=Cu (I:=λN=>PhL C K B cov i b N/\v∈((N.ab i).bn.an i).vs) (λA N s g=>⟨E A N s g.1,g.1.pe.pd a s.sq o a.hi g.2⟩) p.1 ⟨p.2,q.1⟩;rw[k1];exact k2.2
 .obtain⟨N,k1,_,k3,_⟩:=DH (J:=λN=>Pend.voted i v∈(N.ab j).bw) E (λA N s _ g=>by
   obtain⟨l,_,_,_,rfl⟩:=s;rw[An];split
   .rename_i e3;rw[<- e3];exact Hj g
   .exact g) p.1 p.2 (q.2 j y e) (λN g=>g.pe.pb.cm.up j y) (λN g _=>by
   rw[An,if_pos rfl];exact XD a u g.pe.pb y G o (l:={ BJ 3 with cn:=v,src:=i,dst:=j }) rfl rfl)
  rw[k1];exact k3
end
end
theorem mN(q:Nod){i j:Nat}(b:j<5)(c:j≠i) :
  (q.ae.length<=q.bn.bN j/\(E6 q i 5).bn.bN j=q.bn.bN j)\/(q.bn.bN j<q.ae.length/\(E6 q i 5).bn.bN j=q.ae.length/\({ BJ 5 with src:=i,dst:=j,bu:=q.bn.bN j,fv:=q.ae.drop (q.bn.bN j) }:Let)∈Dn q i 5):=by
 have hin:∀ k,j<k->MY q i j=true->({ BJ 5 with src:=i,dst:=j,bu:=q.bn.bN j,fv:=q.ae.drop (q.bn.bN j) }:Let)∈Dn q i k:=by
  intro k;induction k with
  | zero=>exact λh=>absurd h (oZ _)
  | succ k ih =>
   intro f a;rw[Dn];by_cases e:j=k
   .rw[<- e,a,if_pos rfl];exact mW _ (G'.2 rfl)
   .exact mY _ (ih (by omega) a)
 have d:(E6 q i 5).bn.bN j=if decide (j<5)&&MY q i j then q.ae.length else q.bn.bN j:=rfl;by_cases h:q.bn.bN j<q.ae.length
 .have a:MY q i j=true:=M' ⟨c,h⟩;exact .inr ⟨h,by rw[d,a,M' b];rfl,hin 5 b a⟩
 .have a:MY q i j=false:=D' λe=>h e.2;exact .inl ⟨by omega,by rw[d,a,M' b];rfl⟩
theorem TP(p:Nod)(i:Nat)(d:List Let)(c:List Tol):∃ (q:Nod) (ks:List Let),(p.piece i d c).1=(q.bN i ks).1/\(p.piece i d c).2.1=(q.bN i ks).2/\q.bn.bN=p.bn.bN:=by
 unfold Nod.piece;simp only;have e:=UJ i (p.ae.drop p.done) p c;generalize sa i (p.ae.drop p.done) p c=a at e ⊢;have f:(a.1.kc i).1.bn.bN=a.1.bn.bN:=by
  unfold Nod.kc;split
  .rfl
  .split
   .unfold Nod.eb;split<;>rfl
   .rfl
 generalize a.1.kc i=b at f ⊢;have g:b.1.cF.bn.bN=b.1.bn.bN:=by
  unfold Nod.cF;split
  .rfl
  .split
   .rfl
   .split<;>rfl
 generalize b.1.cF=r at g ⊢;have h:(r.oh i (d++b.2)).1.bn.bN=r.bn.bN:=by
  have j:∀ (l:List Pend) (x:Nod) (k:List Let),(ov i l x k).1.bn.bN=x.bn.bN:=by
   intro l;induction l with
   | nil=>exact λx k=>rfl
   | cons y l ih =>
    intro x k;rw[ov,ih];cases y with
    | began b vs=>simp only[Nod.lr];split<;>rfl
    | prop v =>
     simp only[Nod.lr,Nod.count];split
     .rfl
     .split<;>rfl
    | _=>rfl
  unfold Nod.oh;split
  .rfl
  .rw[j];unfold Nod.rZ;split<;>rfl
 exact⟨_,_,rfl,rfl,by rw[h,g,f,e.1]⟩
section
variable{C:List Cmd}{K:Int}{B:Nat->Bal}{cov:List (Bal × Nat)}{i:Nat}{b:Bal}
section
variable{M N:Meet}{n:Nat}
theorem PhE.tk(s:TkS M N)(h:PhE C K B cov i b M):(N.ab i).bn.bN=(M.ab i).bn.bN:=by
 obtain⟨l,c,a,d,rfl⟩:=s;rw[An];split
 .rename_i e
  rw[<- e];unfold Nod.take;split
  .split
   .unfold Nod.eo;split<;>rfl
   .show((M.ab i).au _).1.bn.bN=_;rw[(Bj _ _).2]
  .simp only;rw[if_pos (.inr (.inr (h.pr l.src a.1)))];rfl
  .rfl
  .split
   .unfold Nod.eo;split<;>rfl
   .show((M.ab i).cn _).1.bn.bN=_;rw[(CD _ _).2]
  .unfold Nod.count;split
   .rfl
   .split<;>rfl
  .split<;>rfl
  .simp only;unfold Nod.eb;split<;>split<;>rfl
  .rfl
 .rfl
def TT0(i:Nat)(M:Meet):Prop:=∀ j,j<5->j≠i->(M.ab i).bn.bN j<=(M.ab j).ae.length
def TTx(i a0:Nat)(N:Meet):Prop:=∀ j,j<5->j≠i->a0<=(N.ab i).bn.bN j/\((N.ab i).bn.bN j<=(N.ab j).ae.length\/∃ m∈N.bt,m.kind=5/\m.dst=j/\m.bu<=(N.ab j).ae.length/\(N.ab i).bn.bN j<=m.bu+m.fv.length)
theorem Uk(k:PhC C K B cov i b)(z:MOk n M)(F:n+1<=1000000)(h:PhL C K B cov i b M)(t:TT0 i M):TTx i (M.ab i).ae.length (M.act (acN 3 (i:Int))):=by
 have E:=h.pe.pb.cm.up i k.hi;have u:=CA (I:=λN=>PhL C K B cov i b N/\Ev (M.ab i) (N.ab i)) (λc A N s g=>⟨g.1.step k s.calm,g.2.trans (s.calm.ev i)⟩) z k.hi ⟨h,.refl _⟩;have l:=u.1.pe.pb.leads k;have d:=u.2.ag.length_le;intro j v a;have o:=E4 M (i:=i) a;have f:=t j v a;have e:M.act (acN 3 (i:Int))=M.set i ((M.ab i).piece i M.bt M.ew).1 ((M.ab i).piece i M.bt M.ew).2.1 ((M.ab i).piece i M.bt M.ew).2.2:=Hi E;obtain⟨q,w,x,y,r⟩:=TP (M.ab i) i M.bt M.ew;rw[o];rw[e,B1,x]at l d ⊢
 have D:q.leads=true:=by
  refine nP λg=>?_;unfold Nod.bN at l;rw[if_neg g]at l
  exact g l
 have p:q.bN i w=(E6 q i 5,w++Dn q i 5):=by unfold Nod.bN;rw[if_pos D]
 rw[p]at d ⊢
 have d:(M.ab i).ae.length<=q.ae.length:=d;show _<=(E6 q i 5).bn.bN j/\((E6 q i 5).bn.bN j<=_\/∃ m∈((M.ab i).piece i M.bt M.ew).2.1,_/\_/\_/\(E6 q i 5).bn.bN j<=_);rw[y,p];rcases mN q v a with⟨g1,g2⟩|⟨g1,g2,g3⟩
 .rw[g2];exact⟨by omega,.inl (by rw[r];exact f)⟩
 .rw[g2];refine⟨d,.inr ⟨_,mW _ g3,rfl,rfl,by show q.bn.bN j<=_;rw[r];exact f,?_⟩⟩;show q.ae.length<=q.bn.bN j+(q.ae.drop (q.bn.bN j)).length;rw[nc];omega
theorem Nd(u:PhC C K B cov i b)(E:MOk n M)(L:n+6<=1000000)(h:PhL C K B cov i b M)(t:TT0 i M):TT0 i (M.dW Ao)/\∀ j,j<5->(M.ab i).ae.length<=((M.dW Ao).ab j).ae.length:=by
 have G:∀ c A N,Stp wh1 c A N->PhL C K B cov i b A->PhL C K B cov i b N:=λc A N s g=>g.step u s.calm;have O:∀ k,k<=5->MOk (n+k) (M.dW (AD 3 k))/\PhL C K B cov i b (M.dW (AD 3 k))/\(∀ j,Ev (M.ab j) ((M.dW (AD 3 k)).ab j))/\(k<=i->(M.dW (AD 3 k)).ab i=M.ab i)/\(i<k->TTx i (M.ab i).ae.length (M.dW (AD 3 k))):=by
  intro k;induction k with
  | zero=>exact λ_=>⟨E,h,λj=>.refl _,λ_=>rfl,λe=>absurd e (oZ _)⟩
  | succ k ih =>
   intro P;obtain⟨d,o,r,y,p⟩:=ih (by omega);rw[BX,Ay];generalize M.dW (AD 3 k)=A at d o r y p ⊢;have q:=CA (I:=λN=>(∀ j,Ev (A.ab j) (N.ab j))/\∀ m∈A.bt,m∈N.bt) (λc X N s g=>⟨λj=>(g.1 j).trans (s.calm.ev j),λm z=>s.calm.si (g.2 m z)⟩) d (show k<5 by omega) ⟨λj=>.refl _,λm z=>z⟩;refine⟨d.act (by omega) (FV (by omega)),CA G d (by omega) o,λj=>(r j).trans (q.1 j),λe=>by rw[E4 _ (by omega)];exact y (by omega),λe=>?_⟩;by_cases F:i<k
   .intro j f a;obtain⟨x,l⟩:=p F j f a;rw[E4 A (i:=k) (j:=i) (by omega)];have:=(q.1 j).ag.length_le;refine⟨x,?_⟩;rcases l with l|⟨m,l,g3,g4,g5,g6⟩
    .exact .inl (by omega)
    .exact .inr ⟨m,q.2 m l,g3,g4,by omega,g6⟩
   .obtain rfl:k=i:=by omega
    have D:=y (A' _);have:=Uk u d (by omega) o (λj f a=>by
     have:=(r j).ag.length_le;have:=t j f a;rw[D];omega)
    rw[D]at this;exact this
 obtain⟨d,o,r,_,p⟩:=O 5 (A' _);have p:=p u.hi;rw[ED];generalize M.dW (AD 3 5)=A at d o r p ⊢;have key:∀ j,j<5->j≠i->((A.act (acN 7 0)).ab i).bn.bN j<=((A.act (acN 7 0)).ab j).ae.length/\(M.ab i).ae.length<=((A.act (acN 7 0)).ab i).bn.bN j:=λj f a=>by
  obtain⟨x,l⟩:=p j f a;rcases l with l|⟨m,l,g3,g4,g5,g6⟩
  .obtain⟨N,w,v,_⟩:=Cu (I:=λN=>PhL C K B cov i b N/\(N.ab i).bn.bN=(A.ab i).bn.bN/\Ev (A.ab j) (N.ab j)) (λX N s g=>⟨g.1.step u s.sq,(g.1.pe.tk s).trans g.2.1,g.2.2.trans (s.sq.ev j)⟩) d ⟨o,rfl,.refl _⟩;rw[w];show(N.ab i).bn.bN j<=(N.ab j).ae.length/\_<=(N.ab i).bn.bN j;have:=v.2.2.ag.length_le;rw[v.2.1];omega
  .obtain⟨N,w,v,k3,_⟩:=DH (I:=λN=>PhL C K B cov i b N/\(N.ab i).bn.bN=(A.ab i).bn.bN/\Ev (A.ab j) (N.ab j)) (J:=λN=>(A.ab i).bn.bN j<=(N.ab j).ae.length) (λX N s g=>⟨g.1.step u s.sq,(g.1.pe.tk s).trans g.2.1,g.2.2.trans (s.sq.ev j)⟩) (λX N s g k=>by have:=(s.sq.ev j).ag.length_le;omega) d ⟨o,rfl,.refl _⟩ l (λN g=>by rw[g4];exact g.1.pe.pb.cm.up j f) (λN g _=>by
    have H:=g.2.2.ag.length_le;rw[g4,An,if_pos rfl];unfold Nod.take;rw[g3];simp only;rw[if_neg (by omega)];show _<=((N.ab j).ae++m.fv.drop ((N.ab j).ae.length-m.bu)).length;rw[H',nc];omega)
   rw[w];show(N.ab i).bn.bN j<=(N.ab j).ae.length/\_<=(N.ab i).bn.bN j;rw[v.2.1];exact⟨k3,x⟩
 refine⟨λj f a=>(key j f a).1,λj f=>?_⟩;by_cases e:j=i
 .subst e;have:=h.round u E L;rw[ED]at this
  obtain⟨N,w,v,_⟩:=Cu (I:=λN=>Ev (A.ab j) (N.ab j)) (λX N s g=>g.trans (s.sq.ev j)) d (.refl _);rw[w];exact((r j).trans v).ag.length_le
 .have:=key j f e;omega
def K1(M:Meet):Prop:=∀ m∈M.bt,m.kind=1->m.fv.length<=(M.ab m.src).ae.length
theorem K1.step{c:Nat}(s:Stp wh0 c M N)(h:K1 M):K1 N:=by
 have f:∀ m∈M.bt,m.kind=1->m.fv.length<=(N.ab m.src).ae.length:=λm i a=>mV (h m i a) (s.ev m.src).ag.length_le;intro m i a;cases s with
 | bt _ ls hl hd=>exact False.elim hd
 | ask _ k hi hu =>
  rcases U'.1 i with g|g
  .exact f m g a
  .unfold Nod.kc at g;split at g
   .cases g
   .split at g
    .cases g
    .rw[G'.1 g]at a;cases a
 | run _ k hi hu q l hp hs =>
  rcases U'.1 i with g|g
  .exact f m g a
  .cases q with
   | began b vs =>
    unfold Nod.rT at g;simp only at g;split at g
    .cases g
    .have:=(D8 g).1;rw[a]at this;cases this
   | prop v=>have:=(D8 g).1;rw[a]at this;cases this
   | start=>have:=(D8 g).1;rw[a]at this;cases this
   | prom to b vs =>
    rw[G'.1 g];show(M.ab k).ae.length<=((M.set k { (M.ab k).lr k (.prom to b vs)with bw:=l } _ _).ab k).ae.length;rw[B1];exact A' _
   | _=>have e:=G'.1 g;rw[e]at a;cases a
 | rW _ k hi hu hL =>
  rcases U'.1 i with g|g
  .exact f m g a
  .have:=(JY 5 m g).1;omega
 | lead _ k hi hu hL=>exact False.elim hL
 | sub _ k d hi hu hD=>exact False.elim hD
 | lp _ k x hi hu a hC=>exact False.elim hC
 | start _ k hi hu hs=>exact False.elim hs
 | _=>exact f m i a
end
end
section
variable{C:List Cmd}{K:Int}{B:Nat->Bal}{cov:List (Bal × Nat)}{i:Nat}{b:Bal}
section
variable{M:Meet}{n:Nat}
theorem Uc(a:PhC C K B cov i b)(o:MOk n M)(O:n+6<=1000000)(h:PhL C K B cov i b M){v:Vt}(L:Ah v)(d:v.b=b)(z:Bz i v M)(Q:(M.ab i).ae.length<(M.ab i).bn.next) :
  v.bu<(((M.dW Ao).ab i).ae.length:Int)/\((M.dW Ao).ab i).bn.next=(M.ab i).bn.next:=by
 have q:∀ c A N,Stp wh1 c A N->PhL C K B cov i b A->PhL C K B cov i b N:=λc A N s g=>g.step a s.calm;have x:∀ A N,TkS A N->PhL C K B cov i b A->PhL C K B cov i b N:=λA N s g=>g.step a s.sq;have E:=h.round a o O;have m:=Bm q o (by omega) h;have t:((M.dW (AD 3 5)).ab i).bn.next=(M.ab i).bn.next:=by
  obtain⟨N,F,S,T⟩:=I2 M a.hi;have H:PhL C K B cov i b N:=by
   rw[S];have P:∀ k,k<=5->MOk (n+k) (M.dW (AD 3 k))/\PhL C K B cov i b (M.dW (AD 3 k)):=by
    intro k;induction k with
    | zero=>exact λ_=>⟨o,h⟩
    | succ k ih =>
     intro r;obtain⟨w,G⟩:=ih (by omega);rw[BX,Ay];exact⟨w.act (by omega) (FV (by omega)),CA q w (by omega) G⟩
   have:=a.hi;exact(P i (by omega)).2
  rw[T,Xk a H (by rw[F];exact Q),F]
 refine⟨?_,by rw[E.2.2.2.2,t]⟩;have p:=Bm (I:=λN=>PhL C K B cov i b N/\v∈((N.ab i).bn.an i).vs) (λc A N s g=>⟨q c A N s g.1,g.1.pe.pd a s.calm d a.hi g.2⟩) o (by omega) ⟨h,z.1⟩;have D:∀ j,j<5->j≠i->({ BJ 4 with cn:=v,src:=j,dst:=i }:Let)∈(M.dW (AD 3 5)).bt:=λj f e =>
  Fx (J:=λN=>({ BJ 4 with cn:=v,src:=j,dst:=i }:Let)∈N.bt) q (λc A N s _ g=>s.calm.si g) (λA k g r=>⟨g.pe.pb.cm.up k r,g.pe.pb.cm.sL r⟩) o (by omega) h f (z.2 j f e) λN l g _ _=>mW _ (G'.2 rfl)
 refine E.1.ld v d λj f=>?_;rw[ED];generalize M.dW (AD 3 5)=A at m D p ⊢;by_cases e:j=i
 .subst e;obtain⟨N,u,R,_⟩:=Cu (I:=λN=>PhL C K B cov j b N/\v∈((N.ab j).bn.an j).vs) (λA N s g=>⟨x A N s g.1,g.1.pe.pd a s.sq d f g.2⟩) m.1 ⟨m.2,p.2.2⟩;rw[u];exact R.2
 .obtain⟨N,u,_,k3,_⟩:=DH (J:=λN=>v∈((N.ab i).bn.an j).vs) x (λA N s g k=>g.pe.pd a s.sq d f k) m.1 m.2 (D j f e) (λN g=>g.pe.pb.cm.up i a.hi) (λN g _=>by
   rw[An,if_pos rfl];have ac:=g.pe.acc a f;have y:(N.ab i).bn.gC=b:=(g.pe.pb.cm.gC i a.hi).trans a.hB;exact Qz (d.trans y.symm) ac.1 L (ac.2.trans y.symm))
  rw[u];exact k3
def mu(i:Nat)(M:Meet):Nat:=2*(40-(M.ab i).ae.length)+(if(M.ab i).bn.next<=(M.ab i).ae.length then 1 else 0)
def Zz(i:Nat)(b:Bal)(M:Meet):Prop:=(M.ab i).bn.next<=(M.ab i).ae.length\/∃ v:Vt,Ah v/\v.b=b/\v.bu=((M.ab i).ae.length:Int)/\Bz i v M
theorem iL(q:PhC C K B cov i b)(h:PhL C K B cov i b M)(x:(M.ab i).bn.next<=(M.ab i).ae.length)(d:(M.ab i).ae.length<40->(M.ab i).rQ (M.ab i).ae.length=Option.none):Fin_ i (M.ab i).ae M:=by
 refine⟨rfl,x,λf j s v t e=>?_,λf c n=>nP λe=>?_⟩
 .have d:=d f;unfold Nod.rQ at d;have p:∀ l∈(M.ab i).bn.jv.map (·.vs),∀ u∈l,Ah u:=λl o u k=>by
   obtain⟨a,f,rfl⟩:=ny.1 o;unfold Rnd.jv at f;simp only[nf,P',or_false]at f;rcases f with e|e|e|e|e<;>(rw[e]at k;exact((h.pe.acc q (by omega)).1.2.1 u k).1)
  have m:Ck ((M.ab i).bn.jv.map (·.vs)) ((M.ab i).ae.length:Int)=0:=by unfold Ck;rw[if_neg (λg=>g (by omega)),if_pos p]
  have r:DS ((M.ab i).bn.jv.map (·.vs)) ((M.ab i).ae.length:Int)=true:=by
   unfold DS;rw[if_pos m];have:v∈Ae ((M.ab i).bn.jv.map (·.vs)).flatten ((M.ab i).ae.length:Int):=Be.2 ⟨pE.2 ⟨((M.ab i).bn.an j).vs,ny.2 ⟨(M.ab i).bn.an j,by unfold Rnd.jv;rcases rU s with rfl|rfl|rfl|rfl|rfl<;>simp,rfl⟩,t⟩,e⟩;unfold Gf;generalize Ae _ _=l at this;have key:∀ (l:List Vt) (u:Vt),(BW l (some u)).isSome=true:=by
    intro l;induction l with
    | nil=>exact λu=>rfl
    | cons w l ih=>intro u;rw[BW];split<;>exact ih _
   cases l with
   | nil=>cases this
   | cons w l=>exact key l w
  rw[if_neg (λg=>g m),if_pos r]at d
  cases d
 .have d:=d f;unfold Nod.rQ at d;have p:∀ l∈(M.ab i).bn.jv.map (·.vs),∀ u∈l,Ah u:=λl o u k=>by
   obtain⟨a,f,rfl⟩:=ny.1 o;unfold Rnd.jv at f;simp only[nf,P',or_false]at f;rcases f with e|e|e|e|e<;>(rw[e]at k;exact((h.pe.acc q (by omega)).1.2.1 u k).1)
  have m:Ck ((M.ab i).bn.jv.map (·.vs)) ((M.ab i).ae.length:Int)=0:=by unfold Ck;rw[if_neg (λg=>g (by omega)),if_pos p]
  rw[if_neg (λg=>g m)]at d
  split at d
  .cases d
  .exact absurd (oD.1 d c n) (by simpa using e)
theorem LQ(m:Nat):Ao++Al m=Al (m+1):=by
 induction m with
 | zero=>rfl
 | succ m ih=>show Ao++(Al m++Ao)=Al (m+1)++Ao;rw[<- mU,ih]
theorem iX(a:PhC C K B cov i b)(A:14*K+38*(cov.length:Int)<=99000)(j:∀ c∈C,c.e=0)(k:Nat)(d:MOk n M)(H:n+6*k<=999000)(h:PhL C K B cov i b M)(z:Zz i b M)(t:TT0 i M)(f:mu i M<=k) :
  ∃ m,m<=k/\Fin_ i ((M.dW (Al m)).ab i).ae (M.dW (Al m))/\PhL C K B cov i b (M.dW (Al m))/\TT0 i (M.dW (Al m))/\MOk (n+6*m) (M.dW (Al m)):=by
 induction k generalizing n M with
 | zero =>
  have:=h.nx;unfold mu at f;split at f<;>omega
 | succ k ih =>
  have F:=h.nx;have D:=(d.ab i a.hi).ag;by_cases o:(M.ab i).bn.next<=(M.ab i).ae.length
  .by_cases hf:(M.ab i).ae.length<40->(M.ab i).rQ (M.ab i).ae.length=Option.none
   .exact⟨0,nB _,iL a h o hf,h,t,d⟩
   .obtain⟨ha,p⟩:=Classical.not_imp.1 hf;obtain⟨c,p⟩:=o8.1 p;have g:=h.round a d (by omega);have l:=Ub a A j d (by omega) h ha o p;have E:=(g.2.2.2.1 i).ag.length_le;have q:Ah ⟨((M.ab i).ae.length:Int),b,c⟩:=⟨by show(0:Int)<=((M.ab i).ae.length:Int)/\((M.ab i).ae.length:Int)<=39;omega,a.hb,j c (Ll (h.pe.pb.cm.s.nd i a.hi) p)⟩;obtain⟨m,y,r,u,x,w⟩:=ih (M:=M.dW Ao) (n:=n+6) g.2.1 (by omega) g.1 (by
     by_cases e:((M.dW Ao).ab i).ae.length=(M.ab i).ae.length
     .exact .inr ⟨_,q,rfl,by rw[e],l.1⟩
     .exact .inl (by rw[l.2];omega)) (Nd a d (by omega) h t).1 (by
     unfold mu at f ⊢;rw[if_pos o]at f
     split<;>omega)
    refine⟨m+1,by omega,?_⟩;rw[<- LQ,AH];exact⟨r,u,x,by rw[show n+6*(m+1)=n+6+6*m by omega];exact w⟩
  .rcases z with z|⟨v,q,hvb,hs,z⟩
   .exact absurd z o
   .have g:=h.round a d (by omega);have l:=Uc a d (by omega) h q hvb z (by omega);rw[hs]at l
    have G:=q.1.2;obtain⟨m,y,r,u,x,w⟩:=ih (M:=M.dW Ao) (n:=n+6) g.2.1 (by omega) g.1 (.inl (by rw[l.2];omega)) (Nd a d (by omega) h t).1 (by
     unfold mu at f ⊢;rw[if_neg o]at f
     split<;>omega)
    refine⟨m+1,by omega,?_⟩;rw[<- LQ,AH];exact⟨r,u,x,by rw[show n+6*(m+1)=n+6+6*m by omega];exact w⟩
end
end
section
variable{C:List Cmd}{K:Int}{B:Nat->Bal}{cov:List (Bal × Nat)}{i:Nat}{b:Bal}
section
def AW(b:Bal)(j:Nat)(N:Meet):Prop:=(N.ab j).vo.p=b/\∀ c x,(N.ab j).cl c=some x->x=b
variable{M N:Meet}{j n:Nat}
theorem U8(d:b≠Bb){p:Nod}(g:p.vo.p=b){c:Cmd}{x:Bal}(a:(p.kc j).1.cl c=some x):x=b\/(p.cl c=some x/\c∉p.br.take 40):=by
 have a:(AZ p.vo.p p.cl (p.br.take 40)).2 c=some x:=by
  unfold Nod.kc at a;split at a
  .exact a
  .split at a
   .unfold Nod.eb at a;split at a<;>exact a
   .exact a
 rw[g]at a
 have f:=Lz d (p.br.take 40) p.cl;by_cases e:c∈p.br.take 40
 .rw[f.2.1 c e]at a;exact .inl (nQ a).symm
 .rw[f.1 c e]at a;exact .inr ⟨a,e⟩
theorem PhC.b0(a:PhC C K B cov i b):b≠Bb:=λe=>by have:=a.hb;rw[e]at this;exact absurd this (by decide)
theorem AW.step(d:PhC C K B cov i b)(s:Stp wh0 n M N)(h:PhB C K B cov i b M)(f:j<5)(a:AW b j M):AW b j N:=by
 refine⟨h.cm.top d.hc s d.hb.pr d.hK f a.1,λc x e=>?_⟩;rcases s.cl e with g|⟨_,rfl⟩
 .exact a.2 c x g
 .rw[An,if_pos rfl]at e
  exact(U8 d.b0 a.1 e).elim id λg=>a.2 c x g.1
theorem fO(a:PhC C K B cov i b)(h:PhB C K B cov i b M)(d:j<5)(w:(M.ab j).vo.p=b):AW b j (M.act (acN 3 (j:Int))):=by
 have v:=h.cm.up j d;obtain⟨k,s0,J,H,a0,l,q,F,z,E⟩:=I1 (D:=wh1) d v;have m:∀ c A N,Stp wh1 c A N->(PhB C K B cov i b A/\(A.ab j).vo.p=b)->PhB C K B cov i b N/\(N.ab j).vo.p=b:=λc A N s g=>⟨g.1.step a s.calm,(s.tQ j).trans g.2⟩;have e:=s0.inv m ⟨h,w⟩;have f:=z.inv m e;have n:=e.1.ak j d;have G:=Pz n.nd λc r=>(e.1.cm.s.nd j d).wa c r;have t:=a.hC;have u:(k.ab j).br.take 40=(k.ab j).br:=np (by omega);have y:AW b j l:=⟨f.2,λc x o=>by
  rw[q,B1]at o
  refine(U8 a.b0 e.2 o).elim id λg=>absurd ?_ g.2;rw[u,n.wa c,g.1];rfl⟩
 have s3:=Stp.prop (D:=wh1) l j d F;exact(E.inv (I:=λN=>PhB C K B cov i b N/\AW b j N) (λc A N s g=>⟨g.1.step a s.calm,g.2.step a s.calm g.1 d⟩) ⟨f.1.step a s3.calm,y.step a s3.calm f.1 d⟩).2
def T1(i:Nat)(N:Meet):Prop:=∀ j,j<5->j≠i->(N.ab i).bn.rk j=true->(N.ab i).bn.bN j<=(N.ab j).ae.length
theorem T1.tk(s:TkS M N)(k:K1 M)(t:T1 i M):T1 i N:=by
 intro j n d f;have p:=(s.sq.ev j).ag.length_le;have a:(N.ab i).bn.bN j=(M.ab i).bn.bN j->(N.ab i).bn.rk j=(M.ab i).bn.rk j->(N.ab i).bn.bN j<=(N.ab j).ae.length:=λq h=>by
  have:=t j n d (by rw[<- h];exact f);omega
 obtain⟨l,o,r,u,rfl⟩:=s;by_cases e:i=l.dst
 .have en:((M.set l.dst ((M.ab l.dst).take l) M.bt M.ew).ab i)=(M.ab i).take l:=by rw[An,if_pos e,<- e]
  by_cases c:l.kind=1
  .rw[en]at a f ⊢
   have m:(M.ab i).take l=if((M.ab i).ln 0 l.fv).leads=false\/l.gC≠(M.ab i).bn.gC\/(M.ab i).bn.rk l.src=true then(M.ab i).ln 0 l.fv else Nod.rV { (M.ab i).ln 0 l.fv with bn:={ (M.ab i).bn.sf l.src l.mv with bN:=upN (M.ab i).bn.bN l.src l.fv.length } }:=by
    unfold Nod.take;rw[c];rfl
   rw[m]at a f ⊢
   split
   .rename_i hc
    rw[if_pos hc]at a
    exact a rfl rfl
   .rename_i hc
    rw[if_neg hc]at a
    show upN (M.ab i).bn.bN l.src l.fv.length j<=_;by_cases b:j=l.src
    .rw[<- b,Dd];have:=k l o c;rw[<- b]at this
     omega
    .rw[Du _ _ b];have:=a (by show upN (M.ab i).bn.bN l.src l.fv.length j=_;rw[Du _ _ b]) (by show upN (M.ab i).bn.rk l.src true j=_;rw[Du _ _ b]);have g:upN (M.ab i).bn.bN l.src l.fv.length j<=_:=this;rw[Du _ _ b]at g
     exact g
  .have:((M.ab i).take l).bn.bN=(M.ab i).bn.bN/\((M.ab i).take l).bn.rk=(M.ab i).bn.rk:=by
    unfold Nod.take;split
    .split
     .unfold Nod.eo;split<;>exact⟨rfl,rfl⟩
     .show((M.ab i).au _).1.bn.bN=_/\((M.ab i).au _).1.bn.rk=_;rw[(Bj _ _).2];exact⟨rfl,rfl⟩
    .rename_i hk;exact absurd hk c
    .exact⟨rfl,rfl⟩
    .split
     .unfold Nod.eo;split<;>exact⟨rfl,rfl⟩
     .show((M.ab i).cn _).1.bn.bN=_/\((M.ab i).cn _).1.bn.rk=_;rw[(CD _ _).2];exact⟨rfl,rfl⟩
    .unfold Nod.count;split
     .exact⟨rfl,rfl⟩
     .split<;>exact⟨rfl,rfl⟩
    .split<;>exact⟨rfl,rfl⟩
    .simp only;unfold Nod.eb;split<;>split<;>exact⟨rfl,rfl⟩
    .exact⟨rfl,rfl⟩
   exact a (by rw[en,this.1]) (by rw[en,this.2])
 .have en:((M.set l.dst ((M.ab l.dst).take l) M.bt M.ew).ab i)=M.ab i:=by rw[An,if_neg e]
  exact a (by rw[en]) (by rw[en])
theorem fc(f:PhC C K B cov i b)(u:MOk n M)(U:n+6<=1000000)(h:PhB C K B cov i b M)(q:QA i b M)(y:∀ j,j<5->(M.ab j).vo.p=b)(hp:(M.ab i).bn.rk i=true)(hw:∀ j,j<5->j≠i->∃ vs,Pend.prom i b vs∈(M.ab j).bw)(o:P1 i (M.ab i))(hl:M.bt=[]) :
  PhL C K B cov i b (M.dW Ao)/\Zz i b (M.dW Ao)/\TT0 i (M.dW Ao)/\MOk (n+6) (M.dW Ao):=by
 have hP:∀ A N,TkS A N->PhB C K B cov i b A->PhB C K B cov i b N:=λA N s g=>g.step f s.sq;have T:∀ c A N,Stp wh1 c A N->PhB C K B cov i b A->PhB C K B cov i b N:=λc A N s g=>g.step f s.calm;have hq:=Rx f u U h q;have d:∀ j,j<5->j≠i->((M.dW Ao).ab i).bn.rk j=true:=λj a l=>by
  obtain⟨vs,g⟩:=hw j a l;exact WT f u U h a g
 have Q:=Bm (I:=λN=>PhB C K B cov i b N/\(∀ j,j<5->(N.ab j).vo.p=b)/\P1 i (N.ab i)/\K1 N/\(N.ab i).bn.rk i=true) (λc A N s g=>⟨T c A N s g.1,λj a=>(s.tQ j).trans (g.2.1 j a),s.p1 g.2.2.1,g.2.2.2.1.step s.calm,(s.calm.ev i).rk i g.2.2.2.2⟩) u (by omega) ⟨h,y,o,λm w=>by rw[hl]at w;(cases w),hp⟩;have R:∀ j,j<5->AW b j (M.dW (AD 3 5)):=λj a=>MQ (I:=λN=>PhB C K B cov i b N/\(N.ab j).vo.p=b) (J:=AW b j) (λc A N s g=>⟨T c A N s g.1,(s.tQ j).trans g.2⟩) (λc A N s g k=>k.step f s.calm g.1 a) u (by omega) ⟨h,y j a⟩ a λN m _ _ g _=>fO f g.1 a g.2;have S:NB ((M.dW (AD 3 5)).ab i):=by
  obtain⟨N,W,n2,n3⟩:=I2 M f.hi;rw[n3,Hi (by rw[W];exact h.cm.up i f.hi),An,if_pos rfl];intro x vs g;rw[Iv (by rw[W];exact h.cm.sL f.hi)]at g
  cases g
 obtain⟨z,D,L,E⟩:=hq;rw[ED]at z D L E d ⊢
 generalize M.dW (AD 3 5)=A at Q R S z D L E d ⊢;obtain⟨Y,Z,a0,o,F,G⟩:=Q;obtain⟨N,k1,k2,_⟩:=Cu (I:=λN=>PhB C K B cov i b N/\(∀ j,j<5->AW b j N)/\NB (N.ab i)/\(N.ab i).bn.rk i=true/\(N.ab i).bn.next=0/\K1 N/\T1 i N) (λX N s g=>⟨hP X N s g.1,λj a=>(g.2.1 j a).step f s.sq g.1 a,s.sq.nb g.2.2.1,(s.sq.ev i).rk i g.2.2.2.1,(s.sq.sD i).trans g.2.2.2.2.1,g.2.2.2.2.2.1.step s.sq,g.2.2.2.2.2.2.tk s g.2.2.2.2.2.1⟩) Y ⟨Z,R,S,G,o.1,F,λj a l e=>by rw[o.2 j l]at e;cases e⟩;rw[k1]at z D L E d ⊢
 obtain⟨r1,O,r3,r4,P,r6,r7⟩:=k2;have d:∀ j,j<5->(N.ab i).bn.rk j=true:=λj a=>by
  by_cases e:j=i
  .rw[e];exact r4
  .exact d j a e
 have t:PhE C K B cov i b { N with bt:=[] }:=⟨z,λj a=>(O j a).1,d,r3,λj a=>(O j a).2,λm w=>(by cases w),λj a c hc=>by
  have ha:=((r1.ak j a).wa c).1 hc;obtain⟨x,V⟩:=oq.1 ha;exact D j a c (by rw[show((({ N with bt:=[] }:Meet).ab j).cl c)=some x from V,(O j a).2 c x V])⟩
 refine⟨⟨t,λv H y=>?_,by show(N.ab i).bn.next<=_/\(N.ab i).bn.next<=40;rw[P];omega⟩,.inl (by show(N.ab i).bn.next<=_;rw[P];exact nB _),λj a l=>r7 j a l (d j a),E⟩;obtain⟨σ,g,_⟩:=t.pb.cm.ex;have r:=g.gs.hv 0 v ((t.rd f g).1.an 0 (by omega) v (y 0 (by omega))).1;have:=t.lt f g r H;have e:(({ N with bt:=[] }:Meet).ab i).bn.next=0:=P;rw[e]at this
 have:=r.1.1;omega
end
end
section
variable{M:Meet}{i j:Nat}{p:Nod}
theorem I6{f:Nat->Nod}(h:i=j->p=f j):upN f i p j=f j:=by
 unfold upN;split
 .rename_i e;exact h e.symm
 .rfl
theorem Pm(M:Meet)(l:Let)(a:(M.ab j).up=false):(M.nn l).ab j=M.ab j:=by
 unfold Meet.nn;split
 .rename_i hu
  exact I6 λe=>by rw[e,a]at hu;cases hu
 .rfl
theorem Yv(l:List Let)(M:Meet)(a:(M.ab j).up=false):(l.foldl (λM l=>M.nn l) M).ab j=M.ab j:=by
 induction l generalizing M with
 | nil=>rfl
 | cons x l ih =>
  have h:=Pm M x a;exact(ih (M.nn x) (by rw[h];exact a)).trans h
theorem eH(M:Meet)(k:Int)(a:Nat)(b:(M.ab j).up=false):(M.move k a).ab j=M.ab j:=by
 unfold Meet.move;split
 .rfl
 .simp only;split
  .split
   .exact Pm _ _ b
   .exact Pm _ _ b
  .split<;>rfl
theorem Qg(M:Meet)(x:Lac)(a:(M.ab j).up=false)(c:¬ (x.k=9/\x.n.toNat=j)):(M.act x).ab j=M.ab j:=by
 have b:∀ {i:Nat},i=j->¬ (M.ab i).up=true:=λe h=>by rw[e,a]at h;cases h
 unfold Meet.act;simp only;split
 .refine I6 λe=>?_;rw[e];unfold Nod.sj Nod.sm;rw[if_pos a]
 .split
  .exact I6 λe=>by rw[if_neg (b e),e]
  .split
   .exact I6 λe=>by rw[if_neg (b e),e]
   .split
    .exact eH M _ _ a
    .split
     .unfold Meet.rY;exact Yv _ { M with bt:=[] } a
     .split
      .exact I6 λe=>by rw[if_neg (b e),e]
      .split
       .rename_i k9;exact I6 λe=>absurd ⟨k9,e⟩ c
       .rfl
theorem XR(L:List Lac)(h:∀ x∈L,LacOk x)(r:L.length<=100000)(m:j<5)(i:((Ap.dW L).ab j).up=false):((Ap.dW L).ab j).ae=[]:=by
 have key:∀ k,k<=L.length->((Ap.dW (L.take k)).ab j).up=false->((Ap.dW (L.take k)).ab j).ae=[]:=by
  intro k;induction k with
  | zero=>intro _ h;cases h
  | succ k f =>
   intro q;have o:∀ x∈L.take k,LacOk x:=λx d=>h x (nu d);have d:=h L[k] (nM (by omega));have l:=Pc (L.take k) o (by rw[X'];omega) m;rw[px,E' (show k<L.length by omega),Option.toList_some,Ay];have f:=f (by omega);generalize Ap.dW (L.take k)=M at f l ⊢;generalize L[k]=x at d ⊢;by_cases b:(M.ab j).up=true
   .intro h2;by_cases c:x.k=8
    .by_cases hn:x.n.toNat=j
     .have:=Fk l (d.p (by rw[c];rfl)).1;have a:(M.act x).ab j=(M.ab j).lp x.p:=by
       unfold Meet.act;simp only;rw[if_neg (by omega),if_neg (by omega),if_neg (by omega),if_neg (by omega),if_neg (by omega),if_pos c,hn,if_pos b];show upN _ _ _ _=_;unfold upN;rw[if_pos rfl]
      rw[a];exact this.2.2.2
     .have a:(M.act x).ab j=M.ab j:=by
       unfold Meet.act;simp only;rw[if_neg (by omega),if_neg (by omega),if_neg (by omega),if_neg (by omega),if_neg (by omega),if_pos c];exact I6 λe=>absurd e hn
      rw[a,b]at h2;cases h2
    .rw[XP M c b]at h2;cases h2
   .have i:(M.ab j).up=false:=by simpa using b
    by_cases g:x.k=9/\x.n.toNat=j
    .intro h2;have a:(M.act x).ab j=(M.ab j).start:=by
      unfold Meet.act;simp only;rw[if_neg (by omega),if_neg (by omega),if_neg (by omega),if_neg (by omega),if_neg (by omega),if_neg (by omega),if_pos g.1,g.2,if_neg b];show upN _ _ _ _=_;unfold upN;rw[if_pos rfl]
     rw[a,(Fw l).2.1]at h2;cases h2
    .rw[Qg M x i g];exact f
 have:=key L.length (A' _);rw[oL]at this
 exact this i
theorem Yy(L:List Lac)(h:∀ x∈L,LacOk x)(f:L.length<=100000)(e:j<5){x:Lac}(b:x.k=8)(g:x.n=(j:Int))(i:0<=x.p):((Ap.dW (L++[x])).ab j).up=false:=by
 rw[Ay];have a:=Pc L h f e;generalize Ap.dW L=M at a ⊢;have d:x.n.toNat=j:=by rw[g,nV]
 have c:(M.act x).ab j=if(M.ab j).up then(M.ab j).lp x.p else M.ab j:=by
  unfold Meet.act;simp only;rw[if_neg (by omega),if_neg (by omega),if_neg (by omega),if_neg (by omega),if_neg (by omega),if_pos b,d];show upN _ _ _ _=_;unfold upN;rw[if_pos rfl]
 rw[c];split
 .exact(Fk a i).2.1
 .rename_i hu;simpa using hu
theorem PB(p:Nod)(b:Bal):(p.au b).1.done=p.done:=by
 unfold Nod.au;split
 .rfl
 .split
  .rfl
  .split<;>rfl
theorem OU(p:Nod)(v:Vt):(p.cn v).1.done=p.done:=by
 unfold Nod.cn;split
 .rfl
 .split
  .rfl
  .split<;>rfl
theorem LH(p:Nod)(j:Nat)(v:Vt):(p.count j v).done=p.done:=by
 unfold Nod.count;split
 .rfl
 .split<;>rfl
theorem Kz(p:Nod)(to:Nat)(e:Int):(p.eo to e).done=p.done:=by unfold Nod.eo;split<;>rfl
theorem IG(p:Nod)(l:List Cmd):(p.eb l).done=p.done:=by unfold Nod.eb;split<;>rfl
theorem X0(p:Nod)(l:Let):(p.take l).done=p.done:=by
 unfold Nod.take;split
 .split
  .exact Kz _ _ _
  .exact PB p l.gC
 .simp only;split<;>rfl
 .rfl
 .split
  .exact Kz _ _ _
  .exact OU p l.cn
 .exact LH p _ _
 .split<;>rfl
 .simp only;split<;>exact IG p l.fv
 .rfl
theorem OJ(p:Nod)(i:Nat)(q:Pend):(p.lr i q).done=p.done:=by
 cases q with
 | began b vs=>unfold Nod.lr;simp only;split<;>rfl
 | prop v=>exact LH p i v
 | _=>rfl
theorem SF(i:Nat)(l:List Pend)(p:Nod)(a:List Let):(ov i l p a).1.done=p.done:=by
 induction l generalizing p a with
 | nil=>rfl
 | cons q l ih=>exact(ih _ _).trans (OJ p i q)
def Xn(l:List Cmd):Sto:=l.foldl dnS EB
theorem Xo(l:List Cmd)(c:Cmd):Xn (l++[c])=dnS (Xn l) c:=by unfold Xn;rw[pS];rfl
theorem bM(l:List Cmd)(h:∀ c∈l,c.e=0):I7 (Xn l):=by
 have key:∀ (l:List Cmd) (s:Sto),I7 s->(∀ c∈l,c.e=0)->I7 (l.foldl dnS s):=by
  intro l;induction l with
  | nil=>exact λs a _=>a
  | cons c l ih=>exact λs a h=>ih _ (UI a (h c O')) λd b=>h d (I' _ b)
 exact key l EB bL h
def StI(p:Nod):Prop:=p.ni=Xn (p.ae.take p.done)
theorem StI.pd{q:Nod}(h:StI p)(d:q.ni=p.ni)(b:q.done=p.done)(a:p.ae <+: q.ae)(c:p.done<=p.ae.length):StI q:=by
 unfold StI;rw[d,b,RN a c];exact h
theorem cz(p:Nod)(l:Let):(p.take l).ni=p.ni:=by
 unfold Nod.take;split
 .split
  .unfold Nod.eo;split<;>rfl
  .show(p.au l.gC).1.ni=_;unfold Nod.au;split
   .rfl
   .split
    .rfl
    .split<;>rfl
 .simp only;split<;>rfl
 .rfl
 .split
  .unfold Nod.eo;split<;>rfl
  .show(p.cn l.cn).1.ni=_;unfold Nod.cn;split
   .rfl
   .split
    .rfl
    .split<;>rfl
 .unfold Nod.count;split
  .rfl
  .split<;>rfl
 .split<;>rfl
 .simp only;unfold Nod.eb;split<;>split<;>rfl
 .rfl
theorem StI.bare(p:Nod)(u:Bool)(d:List Int)(s:Int)(a:Acc)(x:List Pend):StI (p.bare u d s a x):=rfl
theorem StI.step{D:Wh}{c:Nat}{N:Meet}(s:Stp D c M N)(a:∀ j,j<5->(M.ab j).done<=(M.ab j).ae.length)(h:∀ j,j<5->StI (M.ab j)):∀ j,j<5->StI (N.ab j):=by
 intro j g;have put:∀ {k:Nat} {p:Nod} {f:List Let} {i:List Tol},(k<5->StI p)->StI ((M.set k p f i).ab j):=λ{k p f i} e=>by
  rw[An];split
  .rename_i e2;exact e (by omega)
  .exact h j g
 cases s with
 | take _ l hl hd2 hu ht=>exact put λ_=>(h _ hd2.2).pd (cz _ l) (X0 _ l) (Ev.take _ l).ag (a _ hd2.2)
 | bt _ f hl a=>exact h j g
 | one _ k c hi hu hc he =>
  refine put λ_=>?_;have e:StI { M.ab k with ni:=doS (M.ab k).ni c,done:=(M.ab k).done+1 }:=by
   unfold StI;show doS (M.ab k).ni c=Xn ((M.ab k).ae.take ((M.ab k).done+1));rw[px,hc,SE he,h k hi];exact(Xo _ c).symm
  unfold Nod.hZ;split<;>exact e
 | ask _ k hi hu =>
  refine put λ_=>?_;have:=h k hi;unfold Nod.kc;split
  .exact this
  .split
   .unfold Nod.eb;split<;>exact this
   .exact this
 | prop _ k hi hu =>
  refine put λ_=>?_;have:=h k hi;unfold Nod.cF;split
  .exact this
  .split
   .exact this
   .split
    .exact this
    .show StI ((M.ab k).cn _).1;unfold Nod.cn;split
     .exact this
     .split
      .exact this
      .split<;>exact this
 | rZ _ k hi hu hs hT=>exact put λ_=>h k hi
 | run _ k hi hu q l hp hs =>
  refine put λ_=>(h k hi).pd ?_ ((OJ (M.ab k) k q)) ((Ev.lr (M.ab k) k q).bw l).ag (a k hi);show((M.ab k).lr k q).ni=_;cases q with
  | began b vs=>simp only[Nod.lr];split<;>rfl
  | prop v =>
   simp only[Nod.lr,Nod.count];split
   .rfl
   .split<;>rfl
  | _=>rfl
 | rW _ k hi hu hL=>exact put λ_=>h k hi
 | lead _ k hi hu hL =>
  refine put λ_=>?_;have:=h k hi;unfold Nod.lead;simp only;split
  .exact this
  .generalize (⟨max (M.ab k).dT (M.ab k).vo.p.r+1,(k:Int)⟩:Bal)=b;show StI ((M.ab k).au b).1;unfold Nod.au;split
   .exact this
   .split
    .exact this
    .split<;>exact this
 | sub _ k d hi hu hD =>
  refine put λ_=>?_;have:=h k hi;unfold Nod.sj Nod.sm;split
  .exact this
  .split
   .exact this
   .split
    .exact this
    .show StI (Nod.want _ _);unfold Nod.want;split<;>exact this
 | lp _ k x hi hu hk hC =>
  refine put λ_=>?_;unfold Nod.lp;split
  .exact h k hi
  .exact .bare _ _ _ _ _ _
 | start _ k hi hu hs =>
  refine put λ_=>?_;unfold Nod.start;split
  .exact h k hi
  .split<;>exact .bare _ _ _ _ _ _
theorem StI.zero:∀ j,j<5->StI (Ap.ab j):=λj _=>rfl
theorem dA(i:Nat)(l:List Cmd)(p:Nod)(k:List Tol)(j:I7 p.ni)(h:∀ c∈l,c.e=0):(sa i l p k).1.done=p.done+l.length:=by
 induction l generalizing p k with
 | nil=>rfl
 | cons c l ih =>
  have a:=h c O';have b:doE p.ni c=0:=(d8 j).trans a;rw[sa,if_neg (λg=>g b)];have f:(Nod.hZ { p with ni:=doS p.ni c,done:=p.done+1 } c).ni=dnS p.ni c/\(Nod.hZ { p with ni:=doS p.ni c,done:=p.done+1 } c).done=p.done+1:=by
   unfold Nod.hZ;split<;>exact⟨SE b,rfl⟩
  rw[ih _ _ (by rw[f.1];exact UI j a) λd m=>h d (I' _ m),f.2,nD];omega
theorem TK(p:Nod)(i:Nat)(f:List Let)(e:List Tol):(p.piece i f e).1.done=(sa i (p.ae.drop p.done) p e).1.done:=by
 unfold Nod.piece;simp only;generalize (sa i (p.ae.drop p.done) p e).1=a;have g:(a.kc i).1.done=a.done:=by
  unfold Nod.kc;split
  .rfl
  .split
   .exact IG _ _
   .rfl
 generalize a.kc i=b at g ⊢;have h:b.1.cF.done=b.1.done:=by
  unfold Nod.cF;split
  .rfl
  .split
   .rfl
   .split
    .rfl
    .exact OU _ _
 generalize b.1.cF=c at h ⊢;generalize f++b.2=k;have j:(c.oh i k).1.done=c.done:=by
  unfold Nod.oh;split
  .rfl
  .rw[SF];unfold Nod.rZ;split<;>rfl
 generalize c.oh i k=d at j ⊢;have l:(d.1.bN i d.2).1.done=d.1.done:=by unfold Nod.bN;split<;>rfl
 omega
theorem D0{I:Meet->Prop}(d:∀ c M N,Stp wh0 c M N->I M->I N)(j:∀ M,I M->I { M with bt:=[] })(m:Nat){n:Nat}{M:Meet}(i:MOk n M)(o:n+6*m<=1000000)(h:I M):I (M.dW (Al m))/\MOk (n+6*m) (M.dW (Al m)):=by
 induction m with
 | zero=>exact⟨h,i⟩
 | succ m ih =>
  obtain⟨e,f⟩:=ih (by omega);show I (M.dW (Al m++Ao))/\MOk (n+6*(m+1)) (M.dW (Al m++Ao));rw[AH,ED];have a:=Bm (λc A N s g=>d c A N s.calm g) f (by omega) e;obtain⟨N,k,l,_⟩:=Cu (λA N s g=>d _ A N s.sq g) a.1 a.2;have b:=a.1.act (x:=acN 7 0) (by omega) (by rw[<- Dr];decide);rw[k]at b ⊢
  exact⟨j N l,b.mono (by omega)⟩
theorem JU(h:∀ j,j<5->(M.ab j).up=true):M.dW Ax=M:=by
 have key:∀ l:List Lac,(∀ x∈l,M.act x=M)->M.dW l=M:=by
  intro l;induction l with
  | nil=>exact λ_=>rfl
  | cons x l ih =>
   intro a;show(M.act x).dW l=M;rw[a x O'];exact ih λy e=>a y (I' _ e)
 refine key _ λx d=>?_;obtain⟨k,b,rfl⟩:=ny.1 d;have c:=h k (oK.1 b);unfold Meet.act;simp only[acN];rw[if_neg (by decide),if_neg (by decide),if_neg (by decide),if_neg (by decide),if_neg (by decide),if_neg (by decide),if_pos trivial];show M.set k (if(M.ab k).up=true then M.ab k else _) M.bt M.ew=M;rw[if_pos c,EM]
theorem IQ(a:(M.ab i).up=true):M.act (acN 2 (i:Int))=M.set i ((M.ab i).lead i) M.bt M.ew:=by
 unfold Meet.act;simp only[acN];rw[if_neg (by decide),if_pos trivial];show M.set i (if(M.ab i).up=true then _ else _) M.bt M.ew=_;rw[if_pos a];rfl
theorem Eg(a b:Nat):Al (a+b)=Al a++Al b:=by
 induction b with
 | zero=>exact(nA _).symm
 | succ b ih=>show Al (a+b)++Ao=Al a++(Al b++Ao);rw[ih,mU]
theorem m7(f:Nat->Int):∃ j,j<5/\∀ k,k<5->f k<=f j:=by
 have key:∀ n,∃ j,j<n+1/\∀ k,k<n+1->f k<=f j:=by
  intro n;induction n with
  | zero=>exact⟨0,by omega,λk c=>by rw[show k=0 by omega];exact mT _⟩
  | succ n ih =>
   obtain⟨j,d,b⟩:=ih;by_cases e:f j<=f (n+1)
   .refine⟨n+1,by omega,λk c=>?_⟩;by_cases a:k=n+1
    .rw[a];exact mT _
    .exact nz (b k (by omega)) e
   .refine⟨j,by omega,λk c=>?_⟩;by_cases a:k=n+1
    .rw[a];omega
    .exact b k (by omega)
 exact key 4
def FA(b:Bal):List (Bal × Nat):=(List.range 40).map λs=>(b,s)
theorem FB(b:Bal){s:Nat}(h:s<40):(b,s)∈FA b:=ny.2 ⟨s,oK.2 h,rfl⟩
end
section
variable{S:Cmd->Prop}{K:Int}{B:Nat->Bal}{cov:List (Bal × Nat)}
section
variable{M:Meet}{i:Nat}
theorem Cm.to(h:Cm S K B cov M){K':Int}(c:∀ j,j<5->(M.ab j).vo.p.key<=K')(b:K'<=3600):Cm S K' B cov M :=
 ⟨h.ex,⟨b,λj a=>⟨by unfold Nod.pk;rw[if_pos (h.up j a)];exact c j a,(h.kb.2 j a).2⟩⟩,h.up,h.gC,h.s⟩
structure Led(i:Nat)(p q:Nod)(b:Bal):Prop where
 may:Ab b
 n:b.n=(i:Int)
 gt:5*p.dT+4<b.key/\p.vo.p.key<b.key
 le:b.key<=max (5*p.dT) p.vo.p.key+9
 up:q.up=p.up
 vo:q.vo.p=b
 gC:q.bn.gC=b
 p1:P1 i q
 pe:∃ vs,Pend.began b vs∈q.bw
 ask:q.br=p.br/\q.cl=p.cl/\q.done=p.done
 ro:q.dT=p.dT
theorem Cm.lead(h:Cm S K B cov M)(z:14*K+38*(cov.length:Int)<=99000)(d:i<5)(I:K<=3591)(J:0<=(M.ab i).dT/\5*(M.ab i).dT<=3591) :
  ∃ b,Led i (M.ab i) ((M.ab i).lead i) b/\Cm S 3600 (upN B i b) (cov++FA b) (M.set i ((M.ab i).lead i) M.bt M.ew):=by
 have m:=h.up i d;have O:=h.le d;have u:=(h.acc d).1;have N:=Zs u;have F:0<=(M.ab i).vo.p.r/\0<=(M.ab i).vo.p.n/\(M.ab i).vo.p.n<=4:=by unfold Ar Ab at u;omega
 obtain⟨b,l⟩:∃ b:Bal,(⟨max (M.ab i).dT (M.ab i).vo.p.r+1,(i:Int)⟩:Bal)=b:=⟨_,rfl⟩;have L:b.key=5*(max (M.ab i).dT (M.ab i).vo.p.r+1)+(i:Int):=by rw[<- l];rfl
 have C:(M.ab i).vo.p.key=5*(M.ab i).vo.p.r+(M.ab i).vo.p.n:=rfl;have t:Ab b:=by rw[<- l];refine⟨⟨?_,?_⟩,?_,?_⟩<;>simp only<;>omega
 have f:=h.prom z d t (by rw[EZ t.pr u];omega);have E:(M.ab i).lead i=Nod.wait { ((M.ab i).au b).1 with bn:=⟨b,λ_=>false,λ_=>DW,λ_=>(M.ab i).ae.length,0,[]⟩ } (.began b ((M.ab i).au b).2.1):=by
  unfold Nod.lead;simp only;rw[l,if_neg (λg=>g f.1)]
 have v:((M.ab i).au b).1.dT=(M.ab i).dT:=by
  unfold Nod.au;split
  .rfl
  .split
   .rfl
   .split<;>rfl
 have a:Led i (M.ab i) ((M.ab i).lead i) b:=by
  rw[E];exact⟨t,by rw[<- l],by omega,by omega,(Ev.au _ b).up,f.2,rfl,⟨rfl,λ_ _=>rfl⟩,⟨_,mW _ (G'.2 rfl)⟩,(Bj _ b).1,v⟩
 refine⟨b,a,?_⟩;obtain⟨σ,g,A⟩:=h.ex;obtain⟨τ,G,H,w,x,y⟩:=g.step (D:=whT) (.lead M i d m trivial);refine⟨⟨τ,w,λo s c k=>?_⟩,⟨mT _,?_⟩,λj q=>?_,λj q=>?_,h.s.step (D:=⟨λ_ _=>False,True,False,False,False,False⟩) (λ_ _ e=>False.elim e) (.lead M i d m trivial)⟩
 .rcases x o s c k with k|k
  .exact mY _ (A o s c k)
  .exact absurd (y o s k).1 (by decide)
 .refine(h.kb.2.mono h.kb.1 (mT _)).set ⟨?_,by rw[a.ro];omega⟩ _ _;unfold Nod.pk;rw[if_pos (a.up.trans m),a.vo];omega
 .rw[An];split
  .exact a.up.trans m
  .exact h.up j q
 .rw[An];unfold upN;split
  .exact a.gC
  .exact h.gC j q
theorem kL{a:Int}{n:Nat}(O:MOk n M){m:Nat}(hm:2<=m)(hn:n+6*m+20<=1000000)(U:∀ j,j<5->∀ s,s<40->(B j,s)∈cov)(h:Cm S K B cov M)(z:KbI a a M)(W:K<=a)(T:a<=3500)(Z:14*a+38*(cov.length:Int)<=97000)(q:i<5) :
  ∃ K' B' cov',K'<=a+9/\Cm S K' B' cov' (((M.act (acN 2 (i:Int))).dW Ax).dW (Al m))/\(∀ j,j<5->∀ s,s<40->(B' j,s)∈cov')/\cov'.length<=cov.length+40/\Gr8 K' ((((M.act (acN 2 (i:Int))).dW Ax).dW (Al m)).ab i)/\KbI (a+9) (a+9) (((M.act (acN 2 (i:Int))).dW Ax).dW (Al m))/\MOk (n+6*m+1) (((M.act (acN 2 (i:Int))).dW Ax).dW (Al m)):=by
 have G:=h.up i q;have hr:=z i q;have F:=(O.ab i q).ro;have d:=O.act (x:=acN 2 (i:Int)) (by omega) (ET ⟨.inl rfl,by omega,by omega⟩);obtain⟨b,y,f⟩:=h.lead (by omega) q (by omega) ⟨F.1,by omega⟩;obtain⟨σ,g,_⟩:=h.ex;have o:=z.lead g q G M.bt M.ew;have H:∀ j,j<5->((M.act (acN 2 (i:Int))).ab j).up=true:=by rw[IQ G];exact f.up
 rw[JU H];rw[IQ G]at d ⊢
 have u:=B1 M i ((M.ab i).lead i) M.bt M.ew;generalize M.set i ((M.ab i).lead i) M.bt M.ew=N at f o d u ⊢;rw[<- u]at y
 obtain⟨j,v,C⟩:=m7 λj=>(N.ab j).vo.p.key;have E:∀ j,j<5->(N.ab j).vo.p.key<=a+9:=λj v=>by
  have:=(o j v).1;unfold Nod.pk at this
  rwa [if_pos (f.up j v)]at this
 have t:=E j v;have f:=f.to C (by omega);have l:∀ k,k<5->∀ s,s<40->(upN B i b k,s)∈cov++FA b:=λk z s P=>by
  unfold upN;split
  .exact mW _ (FB b P)
  .exact mY _ (U k z s P)
 obtain⟨vs,V⟩:=y.pe;have A:=jo l d (by omega) f q v rfl y.vo y.may V;generalize (N.ab j).vo.p.key=K' at f A t;have L:∀ c X Y,Stp wh0 c X Y->(Cm S K' (upN B i b) (cov++FA b) X/\KbI (a+9) (a+9) X)->(Cm S K' (upN B i b) (cov++FA b) Y/\KbI (a+9) (a+9) Y):=λc X Y s g=>by
  obtain⟨σ,R,_⟩:=g.1.ex;exact⟨g.1.step l s,g.2.step (D:=wh0) (λe=>e) R s (mT _)⟩
 have J:=D0 L (λX g=>⟨g.1.drop,g.2⟩) 2 d (by omega) ⟨f,o⟩;obtain⟨r,rfl⟩:∃ r,m=2+r:=⟨m-2,by omega⟩;rw[Eg,AH];have Q:N.dW (Al 2)=N.dW (Ao++Ao):=rfl;rw[<- Q]at A
 have w:=D0 (I:=λX=>(Cm S K' (upN B i b) (cov++FA b) X/\KbI (a+9) (a+9) X)/\Gr8 K' (X.ab i)) (λc X Y s g=>⟨L c X Y s g.1,g.2.ev (s.ev i)⟩) (λX g=>⟨⟨g.1.1.drop,g.1.2⟩,g.2⟩) r J.2 (by omega) ⟨J.1,A⟩;refine⟨K',_,_,t,w.1.1.1,l,?_,w.1.2,w.1.1.2,w.2.mono (by omega)⟩;rw[H'];unfold FA;rw[nw,pm];exact A' _
end
end
section
variable{C:List Cmd}{K:Int}{B:Nat->Bal}{cov:List (Bal × Nat)}{i:Nat}{b:Bal}{A:List Cmd}
section
variable{M N:Meet}{j n:Nat}
theorem Fin_.drop(f:Fin_ i A N):Fin_ i A { N with bt:=[] }:=⟨f.ag,f.nx,f.hd,f.qu⟩
theorem Fin_.tH(a:PhC C K B cov i b)(h:PhE C K B cov i b M)(f:Fin_ i A M)(c:j<5)(o:A.length<=(M.ab j).ae.length):(M.ab j).ae=A:=by
 have n:=f.le a h c;obtain⟨σ,g,_⟩:=h.pb.cm.ex;refine pa (by omega) λs e k=>?_;obtain⟨l,c1⟩:=(g.nd j c).ag s _ (E' e);obtain⟨m,d⟩:=(g.nd i a.hi).ag s _ (by rw[f.ag];exact E' k);exact g.gs.th.agree c1 d
structure Fz(C:List Cmd)(K:Int)(B:Nat->Bal)(cov:List (Bal × Nat))(i:Nat)(b:Bal)(A:List Cmd)(M:Meet):Prop where
 l:PhL C K B cov i b M
 f:Fin_ i A M
 a:∀ j,j<5->(M.ab j).ae=A
 s:∀ j,j<5->StI (M.ab j)
theorem Fz.step(d:PhC C K B cov i b)(s:Stp wh0 n M N)(h:Fz C K B cov i b A M):Fz C K B cov i b A N:=by
 have e:=h.l.step d s;have g:=Fin_.step d s h.l.pe h.f;exact⟨e,g,λj c=>g.tH d e.pe c (by have:=(s.ev j).ag.length_le;rw[h.a j c]at this;exact this),StI.step s (λj c=>(h.l.pe.pb.ak j c).dn) h.s⟩
theorem Fz.drop(h:Fz C K B cov i b A N):Fz C K B cov i b A { N with bt:=[] }:=⟨h.l.drop,h.f.drop,h.a,h.s⟩
structure Rst(C:List Cmd)(K:Int)(B:Nat->Bal)(cov:List (Bal × Nat))(i:Nat)(b:Bal)(A:List Cmd)(M:Meet):Prop where
 z:Fz C K B cov i b A M
 d:∀ j,j<5->(M.ab j).done=A.length
theorem Pp(g:PhC C K B cov i b)(s:Stp wh0 n M N)(h:Fz C K B cov i b A M)(e:j<5)(d:(M.ab j).done=A.length):(N.ab j).done=A.length:=by
 have c:=h.step g s;have k:=(s.ev j).dn;have f:=(c.l.pe.pb.ak j e).dn;rw[c.a j e]at f
 omega
theorem Rst.step(a:PhC C K B cov i b)(s:Stp wh0 n M N)(h:Rst C K B cov i b A M):Rst C K B cov i b A N:=⟨h.z.step a s,λj c=>Pp a s h.z c (h.d j c)⟩
theorem Xl(o:PhC C K B cov i b)(g:∀ c∈C,c.e=0)(h:Fz C K B cov i b A M)(d:j<5):((M.act (acN 3 (j:Int))).ab j).done=A.length:=by
 have n:=h.l.pe.pb.cm.up j d;have m:=(h.l.pe.pb.ak j d).dn;have k:∀ c∈(M.ab j).ae,c.e=0:=λc f=>g c ((h.l.pe.pb.cm.s.nd j d).ag c f);rw[Hi n,An,if_pos rfl,TK,dA]
 .rw[nc,h.a j d];rw[h.a j d]at m
  omega
 .rw[h.s j d];exact bM _ λc f=>k c (nu f)
 .exact λc f=>k c (oX f)
theorem Gr8.gt{p q:Nod}{K:Int}(h:Gr8 K p)(a:Ar p.vo.p){i:Nat}{b:Bal}(l:Led i p q b):K<b.key:=by
 have:=l.gt;unfold Gr8 at h;omega
theorem kM(R:∀ c∈C,c.e=0)(hC:C.length<40){K1:Int}(hM:MOk n M){m:Nat}(hm:85<=m)(hn:n+6*m+20<=990000)(hc:∀ j,j<5->∀ s,s<40->(B j,s)∈cov)(h:Cm (λc=>c∈C) K B cov M)(gr:Gr8 K (M.ab i))(hk:KbI K1 K1 M)(hK:K<=K1)(a4:K1<=3510)(hQ:14*K1+38*(cov.length:Int)<=97000)(t:i<5)(hA:∀ j,j<5->AskI (M.ab j))(hS:∀ j,j<5->StI (M.ab j)) :
  ∃ K' B' cov' b A,PhC C K' B' cov' i b/\Rst C K' B' cov' i b A (((M.act (acN 2 (i:Int))).dW Ax).dW (Al m)):=by
 have hu:=h.up i t;have hr:=hk i t;have a2:=(hM.ab i t).ro;have u:=hM.act (x:=acN 2 (i:Int)) (by omega) (ET ⟨.inl rfl,by omega,by omega⟩);obtain⟨b,q,o⟩:=h.lead (by omega) t (by omega) ⟨a2.1,by omega⟩;obtain⟨σ,g,_⟩:=h.ex;have L:=AskI.step (Stp.lead (D:=whT) M i t hu trivial) g hA;have T:=StI.step (Stp.lead (D:=whT) M i t hu trivial) (λj f=>(hA j f).dn) hS;have a5:=gr.gt (h.acc t).1 q;have a6:b.key<=K1+9:=by
  have:=q.le;have:=h.le t;omega
 have a3:∀ j,j<5->((M.act (acN 2 (i:Int))).ab j).up=true:=by rw[IQ hu];exact o.up
 rw[JU a3];rw[IQ hu]at u ⊢
 have G:=B1 M i ((M.ab i).lead i) M.bt M.ew;have S:∀ j,j≠i->((M.set i ((M.ab i).lead i) M.bt M.ew).ab j)=M.ab j:=λj f=>by rw[An,if_neg f]
 have V:QA i b (M.set i ((M.ab i).lead i) M.bt M.ew):=λj f c hx=>by
  refine absurd ?_ (show ¬ b.key<=max K (M.ab i).vo.p.key by have:=q.gt;omega);by_cases e:j=i
  .rw[e,G,q.ask.2.1]at hx
   have:=(hA i t).le c b hx;omega
  .rw[S j e]at hx
   have:=(hA j f).le c b hx;have:=h.le f;omega
 have F:∀ j,j<5->j≠i->((M.set i ((M.ab i).lead i) M.bt M.ew).ab j).vo.p.key<b.key:=λj f e=>by
  rw[S j e];have:=h.le f;omega
 generalize M.set i ((M.ab i).lead i) M.bt M.ew=N at o u G L T V F ⊢;rw[<- G]at q
 have o:=o.to (K':=b.key) (λj f=>by
  by_cases e:j=i
  .rw[e,q.vo];exact mT _
  .have:=F j f e;omega) (by omega)
 have E:∀ k,k<5->∀ s,s<40->(upN B i b k,s)∈cov++FA b:=λk hk s hs=>by
  unfold upN;split
  .exact mW _ (FB b hs)
  .exact mY _ (hc k hk s hs)
 have l:PhC C b.key (upN B i b) (cov++FA b) i b:=⟨E,hC,t,q.may,q.n,Dd _ _ _,rfl⟩;have y:14*b.key+38*((cov++FA b).length:Int)<=99000:=by
  have:(cov++FA b).length=cov.length+40:=by rw[H'];unfold FA;rw[nw,pm]
  omega
 obtain⟨vs,hq⟩:=q.pe;generalize cov++FA b=cov' at o E l y;generalize upN B i b=B' at o E l;generalize a0:b.key=K' at o l y F;have O:PhB C K' B' cov' i b N:=⟨o,L,q.vo⟩;obtain⟨p1,p2,p3,p4,p5,p6,p7⟩:=fb E y u (by omega) o t q.may a0 l.hB q.vo F hq q.p1;obtain⟨q1,q2,_,_⟩:=Rx l u (by omega) O V;have U:=D0 (I:=λX=>PhB C K' B' cov' i b X/\∀ j,j<5->StI (X.ab j)) (λc X Y s g=>⟨g.1.step l s,StI.step s (λj f=>(g.1.ak j f).dn) g.2⟩) (λX g=>⟨⟨g.1.cm.drop,g.1.ak,g.1.vi⟩,g.2⟩);have H:∀ a X k,MOk k X->k+6*a<=1000000->PhB C K' B' cov' i b X->(∀ j,j<5->StI (X.ab j))->∀ j,j<5->StI ((X.dW (Al a)).ab j):=λa X k h1 h2 h3 h4=>(U a h1 h2 ⟨h3,h4⟩).1.2;clear U;have s1:=H 1 N _ u (by omega) O T;rw[show Al 1=Ao from rfl]at s1
 obtain⟨r1,r2,r3,r4⟩:=fc l p7 (by omega) q1 (λj f c e=>.inl (q2 j f c e)) p2 p3 p4 p5 p6;have s2:=H 1 _ _ p7 (by omega) q1 s1;rw[show Al 1=Ao from rfl]at s2
 obtain⟨W,t1,t2,t3,t4,t5⟩:=iX l y R 81 r4 (by omega) r1 r2 r3 (by unfold mu;split<;>omega);have s3:=H W _ _ r4 (by omega) r1.pe.pb s2;obtain⟨r,rfl⟩:∃ r,m=1+(1+(W+(1+(1+r)))):=⟨m-W-4,by omega⟩;rw[Eg,AH,Eg,AH,Eg,AH,Eg,AH,Eg,AH];simp only[show Al 1=Ao from rfl];generalize (((N.dW Ao).dW Ao).dW (Al W))=X at t2 t3 t4 t5 s3 ⊢;generalize (X.ab i).ae=A at t2;obtain⟨u1,u2⟩:=Nd l t5 (by omega) t3 t4;rw[t2.ag]at u2
 have v:=D0 (I:=λY=>PhL C K' B' cov' i b Y/\Fin_ i A Y/\∀ j,j<5->StI (Y.ab j)) (λc Y Z s g=>⟨g.1.step l s,Fin_.step l s g.1.pe g.2.1,StI.step s (λj f=>(g.1.pe.pb.ak j f).dn) g.2.2⟩) (λY g=>⟨g.1.drop,g.2.1.drop,g.2.2⟩) 1 t5 (by omega) ⟨t3,t2,s3⟩;rw[show Al 1=Ao from rfl]at v
 obtain⟨⟨v1,v2,v3⟩,v4⟩:=v;have w:Fz C K' B' cov' i b A (X.dW Ao):=⟨v1,v2,λj f=>v2.tH l v1.pe f (u2 j f),v3⟩;generalize X.dW Ao=Y at w v4 ⊢;have x:Rst C K' B' cov' i b A (Y.dW Ao):=by
  have hz:=D0 (λc Y Z s g=>Fz.step l s g) (λY g=>Fz.drop g) 1 v4 (by omega) w;rw[show Al 1=Ao from rfl]at hz
  refine⟨hz.1,λj f=>?_⟩;have a:=Bm (λc A N s g=>Fz.step l s.calm g) v4 (by omega) w;have d:=MQ (J:=λZ=>(Z.ab j).done=A.length) (λc A N s g=>Fz.step l s.calm g) (λc A N s g d=>Pp l s.calm g f d) v4 (by omega) w f λZ _ _ _ g _=>Xl l R g f;rw[ED];obtain⟨Z,k1,k2,_⟩:=Cu (I:=λZ=>Fz C K' B' cov' i b A Z/\(Z.ab j).done=A.length) (λP Q s g=>⟨g.1.step l s.sq,Pp l s.sq g.1 f g.2⟩) a.1 ⟨a.2,d⟩;rw[k1];exact k2.2
 have a1:MOk (n+1+6+6+6*W+6*1+6*1) (Y.dW Ao):=(D0 (λc Y Z s g=>Fz.step l s g) (λY g=>Fz.drop g) 1 v4 (by omega) w).2;exact⟨K',B',cov',b,A,l,(D0 (λc Y Z s g=>Rst.step l s g) (λY g=>⟨g.z.drop,g.d⟩) r a1 (by omega) x).1⟩
end
end
def lQ(l:List Int):Cmd:=⟨Ac (unQ l) 0,Ac (unQ l) 4,Ac (unQ l) 8,Ac (unQ l) 12,Ac (unQ l) 16⟩
theorem lf{l:List Int}{a:Int}(h:opE l a=0):unE l=0:=by
 unfold opE at h;split at h
 .rename_i g;exact absurd h g
 .rename_i g;exact mX.1 g
theorem lR{l:List Int}(h:unE l=0):(lQ l).e=0:=by
 have:=(RR h).2;unfold Cx at this;split at this
 .cases this
 .exact this
def KU(L:List Lac):List Cmd:=(L.filter λx=>decide (x.k=1/\unE x.d=0)).map λx=>lQ x.d
theorem fQ{L:List Lac}{x:Lac}(c:x∈L)(b:x.k=1){a:Int}(h:opE x.d a=0):Hr x.d a∈KU L:=by
 refine ny.2 ⟨x,qi.2 ⟨c,M' ⟨b,lf h⟩⟩,?_⟩;unfold Hr;rw[if_pos h];rfl
theorem jG(L:List Lac):∀ c∈KU L,c.e=0:=λc a=>by
 obtain⟨x,b,rfl⟩:=ny.1 a;exact lR (nG (qi.1 b).2).2
theorem XQ(L:List Lac)(e:∀ x∈L,LacOk x)(k:L.length<=100000):(∀ j,j<5->AskI ((Ap.dW L).ab j))/\∀ j,j<5->StI ((Ap.dW L).ab j):=by
 have s:Sts whT L.length Ap (Ap.dW L):=Ff L MOk.zero (by omega) λx i=>⟨e x i,Ju x⟩;exact(s.inv (I:=λM=>(∃ σ,AgI σ M)/\(∀ j,j<5->AskI (M.ab j))/\∀ j,j<5->StI (M.ab j)) (λc M N h ⟨⟨σ,g⟩,a,b⟩=>by
  obtain⟨τ,_,_,d,_⟩:=g.step h;exact⟨⟨τ,d⟩,AskI.step h g a,StI.step h (λj f=>(a j f).dn) b⟩) ⟨⟨_,AgI.zero⟩,AskI.zero,StI.zero⟩).2
theorem eB(L M:List Lac):lds (L++M)=lds L+lds M:=by unfold lds;rw[pK]
theorem settled(L:List Lac)(v:∀ x∈L,LacOk x)(a2:9*lds L<=3480)(n:(KU L).length<40)(hq:126*lds L+38*L.length<=85000)(m:Nat)(hm:85<=m)(hl:L.length+12*m<=99000){i:Nat}(O:i<5) :
  ∃ K B cov b A,PhC (KU L) K B cov i b/\Rst (KU L) K B cov i b A (Ap.dW (L++(Cy m (i:Int)++Cy m (i:Int)))):=by
 have C:∀ x∈Cy m (i:Int),LacOk x:=λx hx=>by
  rcases U'.1 hx with hx|hx
  .rcases U'.1 hx with hx|hx
   .exact PK 0 x hx
   .rw[G'.1 hx];exact ET ⟨.inl rfl,by omega,by omega⟩
  .exact PK m x hx
 have a0:(Cy m (i:Int)).length=6*m+11:=by
  have V:∀ m,(Dm m).length=5+6*m:=λm=>by unfold Dm;rw[H',Il];rfl
  unfold Cy;simp only[H',V,n7];omega
 have l:∀ x∈L++Ax,LacOk x:=λx hx=>(U'.1 hx).elim (v x) λe=>PK 0 x (mY _ e);have a1:(L++Ax).length=L.length+5:=by rw[H'];rfl
 have t:∀ j,j<5->((Ap.dW (L++Ax)).ab j).up=true:=λj z=>by
  have:=j4 L v 0 (by omega) z
  rwa [show Dm 0=Ax from nA _]at this
 have Y:∀ x∈L++Ax,x.k=1->∀ o:Nat,opE x.d (o:Int)=0->Hr x.d (o:Int)∈KU L:=λx hx H o h=>by
  rcases U'.1 hx with e|e
  .exact fQ e H h
  .obtain⟨k,_,rfl⟩:=ny.1 e;exact absurd H (by show(9:Int)≠1;decide)
 have g:=ig (S:=λc=>c∈KU L) (L++Ax) l (by omega) Y;obtain⟨τ,cov,_,J,u,w,y⟩:=Xc (L++Ax) MOk.zero (by omega) l AgI.zero KbI.zero (cov:=[]) (λb s c h=>h.elim);rw[show lds (L++Ax)=lds L by rw[eB];rfl,Int.zero_add]at u
 have r:=I9 (L++Ax) l (by omega);have F:Ap.dW (L++(Cy m (i:Int)++Cy m (i:Int)))=(((((((Ap.dW (L++Ax)).act (acN 2 (i:Int))).dW Ax).dW (Al m)).dW Ax).act (acN 2 (i:Int))).dW Ax).dW (Al m):=by
  have e:∀ X:Meet,X.dW (Cy m (i:Int))=(((X.dW Ax).act (acN 2 (i:Int))).dW Ax).dW (Al m):=λX=>by
   unfold Cy;rw[AH,show Dm 0=Ax from nA _,Ay];unfold Dm;rw[AH]
  rw[AH,AH,e,e,AH]
 rw[F];have G:((((Ap.dW (L++Ax)).act (acN 2 (i:Int))).dW Ax).dW (Al m))=Ap.dW (L++Cy m (i:Int)):=by
  rw[AH _ L (Cy m (i:Int)),AH _ L Ax];unfold Cy;rw[AH,show Dm 0=Ax from nA _,Ay];unfold Dm;rw[AH]
 have a:=XQ (L++Cy m (i:Int)) (λx hx=>(U'.1 hx).elim (v x) (C x)) (by rw[H'];omega);rw[<- G]at a
 clear F G;generalize Ap.dW (L++Ax)=M at t g J u r a ⊢;obtain⟨q,f⟩:∃ q,cov++(FA (M.ab 0).bn.gC++(FA (M.ab 1).bn.gC++(FA (M.ab 2).bn.gC++(FA (M.ab 3).bn.gC++FA (M.ab 4).bn.gC))))=q:=⟨_,rfl⟩;have I:q.length<=L.length+205:=by
  rw[<- f];simp only[H',FA,nw,pm];simp only[List.length_nil]at w;omega
 have Z:∀ j,j<5->∀ s,s<40->((M.ab j).bn.gC,s)∈q:=λj z s n=>by
  rw[<- f];refine mW _ ?_;simp only[U'];rcases rU z with rfl|rfl|rfl|rfl|rfl
  .exact .inl (FB _ n)
  .exact .inr (.inl (FB _ n))
  .exact .inr (.inr (.inl (FB _ n)))
  .exact .inr (.inr (.inr (.inl (FB _ n))))
  .exact .inr (.inr (.inr (.inr (FB _ n))))
 have W:Cm (λc=>c∈KU L) (9*(lds L:Int)) (λj=>(M.ab j).bn.gC) q M:=⟨⟨τ,J,λb s c h=>by rw[<- f];exact mY _ (y b s c h)⟩,⟨by omega,u.mono (mT _) (by omega)⟩,t,λ_ _=>rfl,g⟩;obtain⟨K',B',E,k1,D,k3,k4,P,Q,R⟩:=kL r (m:=m) (by omega) (by omega) Z W u (mT _) (by omega) (by omega) O;generalize (((M.act (acN 2 (i:Int))).dW Ax).dW (Al m))=N at D P Q R a ⊢;rw[JU D.up];obtain⟨U,T,p,b,A,z1,z2⟩:=kM (jG L) n R hm (by omega) k3 D P Q (by omega) (by omega) (by omega) O a.1 a.2;exact⟨U,T,p,b,A,z1,z2⟩
theorem jq{l A:List Cmd}(e:l.length<=A.length)(h:∀ (s:Nat) (c d:Cmd),l[s]?=some c->A[s]?=some d->c=d):l <+: A:=by
 refine List.prefix_iff_eq_take.2 (pa (by rw[X'];omega) λs a b=>?_);rw[List.getElem_take];exact h s _ _ (E' a) (E' (by omega))
section
variable{C:List Cmd}{K:Int}{B:Nat->Bal}{cov:List (Bal × Nat)}{i:Nat}{b:Bal}{A:List Cmd}
theorem Rst.log{N:Meet}(r:Rst C K B cov i b A N){j:Nat}(c:j<5):N.log j=A:=by unfold Meet.log;rw[r.z.a j c,r.d j c,oL]
theorem Rst.uG(m:PhC C K B cov i b){L R:List Lac}(k:∀ x∈L++R,LacOk x)(o:(L++R).length<=100000)(r:Rst C K B cov i b A (Ap.dW (L++R))){j:Nat}(n:j<5):(Ap.dW L).log j <+: A:=by
 refine(pD _ _).trans (jq ?_ λs c d g h=>agree k o n m.hi g (by rw[r.z.f.ag];exact h));rw[H']at o
 have a:∀ x∈L,LacOk x:=λx e=>k x (mY _ e);have q:Sts whT L.length Ap (Ap.dW L):=Ff L MOk.zero (by omega) λx e=>⟨a x e,Ju x⟩;have t:Sts whT R.length (Ap.dW L) (Ap.dW (L++R)):=by
  rw[AH];exact Ff R (I9 L a (by omega)) (by omega) λx e=>⟨k x (mW _ e),Ju x⟩
 obtain⟨σ,_,_,g,_⟩:=AgI.zero.steps q;obtain⟨τ,_,h,p,_⟩:=g.steps t;have:=((g.nd j n).ag.mono h).le (r.z.f.none m r.z.l.pe p) (nB _);omega
end
section
theorem bO(L:List Lac):(KU L).length<=L.countP λx=>decide (x.k=1):=by
 unfold KU;rw[nw,<- List.countP_eq_length_filter];exact List.countP_mono_left λx _ h=>M' (nG h).1
theorem bi(G:List Gr)(m:Nat)(a:Bool):(scr G m a).countP (λx=>decide (x.k=1))<=6:=by
 have key:∀ (l:List Gr) (s:Nat),(MI a s l).countP (λx=>decide (x.k=1))<=6-s:=by
  intro l;induction l with
  | nil=>exact λs=>nB _
  | cons g l ih =>
   intro s;rw[MI,pW];unfold Xg fH;generalize Ps g a=x;by_cases h:x.k=1
   .have:=ih (s+1);by_cases b:6<s+1
    .rw[if_pos h,if_pos (⟨h,b⟩:x.k=1/\6<s+1),if_neg (by decide)];omega
    .rw[if_pos h,if_neg (λe:x.k=1/\6<s+1=>b e.2),if_pos (M' h)];omega
   .have:=ih s;rw[if_neg h,if_neg (λe:x.k=1/\6<s+1=>h e.1),if_neg (λe=>h (nG e))];omega
 exact key _ 0
theorem iY(L:List Lac):lds L<=L.length:=List.countP_le_length
theorem fM(L:List Lac)(a:∀ x∈L,LacOk x)(g:L.length<=380)(h:L.countP (λx=>decide (x.k=1))<40){i:Nat}(c:i<5) :
  ∃ K B cov b A,PhC (KU L) K B cov i b/\Rst (KU L) K B cov i b A (Ap.dW (L++GL L (i:Int))):=by
 have d:=iY L;have e:(L.filter hvy).length<=L.length:=pP _ _;have f:=bO L;exact settled L a (by omega) (by omega) (by omega) (Fq L) (by unfold Fq;omega) (by unfold Fq;omega) c
def crQ(p:Int)(j:Nat):List Lac:=(List.range j).map λn:Nat=>⟨8,(n:Int),0,p,[]⟩
theorem Q2(p:Int)(j:Nat):crQ p (j+1)=crQ p j++[⟨8,(j:Int),0,p,[]⟩]:=by simp[crQ,List.range_succ]
theorem Pn(p:Int)(j:Nat):(crQ p j).length=j:=by simp[crQ]
variable{L:List Lac}{j:Nat}{p:Int}
theorem S9(d:0<=p/\p<100)(c:j<=5):∀ x∈crQ p j,LacOk x:=by
 intro x b;obtain⟨n,a,rfl⟩:=ny.1 b;have:=oK.1 a;rw[<- Dr];simp[Zv,FZ,Hv,Hw];omega
theorem du(L:List Lac)(p:Int)(j:Nat):(L++crQ p j).countP (λx=>decide (x.k=1))=L.countP λx=>decide (x.k=1):=by
 rw[pK,show(crQ p j).countP (λx=>decide (x.k=1))=0 from List.countP_eq_zero.2 λx a=>by obtain⟨n,_,rfl⟩:=ny.1 a;simp];rfl
theorem iB(c:∀ x∈L,LacOk x)(i:L.length<=99000)(b:0<=p/\p<100){k:Nat}(f:k<=5)(e:j<k):((Ap.dW (L++crQ p k)).ab j).up=false:=by
 induction k with
 | zero=>omega
 | succ k ih =>
  have a:∀ x∈L++crQ p k,LacOk x:=λx d=>(U'.1 d).elim (c x) (S9 b (by omega) x);rw[Q2,<- mU];by_cases h:j=k
  .subst h;exact Yy (L++crQ p j) a (by rw[H',Pn];omega) (by omega) rfl rfl b.1
  .rw[Ay,Qg _ _ (ih (by omega) (by omega)) (λg=>absurd g.1 (by show ¬ (8:Int)=9;decide))];exact ih (by omega) (by omega)
theorem dw(a:∀ x∈L,LacOk x)(d:L.length<=99000)(c:0<=p/\p<100)(b:j<5):(Ap.dW (L++crQ p 5)).log j=[]:=by
 unfold Meet.log;rw[XR _ (λx e=>(U'.1 e).elim (a x) (S9 c (by omega) x)) (by rw[H',Pn];omega) b (iB a d c (by omega) b),List.take_nil]
end
end
section
open Go.RowKit
section
variable{A:List Cmd}{w:World}
theorem Qf{n a c:Int}(h:I64 n)(d:pick n a=c)(f:0<a:=by decide)(b:a<=9223372036854775807:=by decide) :
  Calls prog 6 #[iv n,iv a] w λe w'=>e=.returned (iv c)/\Bw w w':=by subst d;exact Cn h a f b
theorem cX{l:List Cmd}(h:l <+: A):alk A l=true:=by
 obtain⟨r,rfl⟩:=h;induction l with
 | nil=>exact U7 _
 | cons c l ih=>rw[List.cons_append,alk,ih];simp
theorem ZJ{M:Meet}(h:∀ j,j<5->M.log j <+: A):((lgN M 5).map M.log).getD [] <+: A:=by
 cases hh:lgN M 5 with
 | none=>exact List.nil_prefix
 | some j=>exact h j (Tp hh)
theorem ZI{N:Meet}(h:∀ j,j<5->N.log j=A):((lgN N 5).map N.log).getD []=A:=by
 cases hh:lgN N 5 with
 | some j=>exact h j (Tp hh)
 | none =>
  refine pT λa=>?_;have b:0<A.length:=Nat.pos_of_ne_zero λe=>a (Z' e).symm;have key:∀ n,n<5->lgN N (n+1)≠none:=by
   intro n;induction n with
   | zero=>intro _ e;rw[lgN,h 0 (by omega)]at e;simp[lgN,b]at e
   | succ n ih =>
    intro c e;rw[lgN]at e
    split at e
    .cases e
    .exact ih (by omega) e
  exact key 4 (by omega) hh
theorem NZ{l:S3}{G:List Gr}{kp ld:Int}(h:RdV w l 5 (grL G))(hG:∀ g∈G,GrOk g)(b6:I64 kp)(b7:I64 ld)(hT:XJ w) :
  Calls prog 3 #[l.v,iv kp,iv ld] w λe w'=>e=.returned (.bool true)/\Bw w w':=by
 obtain⟨L,hL⟩:∃ L,scr G 100 true=L:=⟨_,rfl⟩;have H:=j8 G 100 true;have b8:=fI G 100 true;have b5:=bi G 100 true;rw[hL]at H b8 b5
 have hr:=Bg ld 5 (by omega);have W:=Bg kp 100 (by omega);obtain⟨n,hn,b9⟩:∃ n:Nat,pick ld 5=(n:Int)/\n<5:=⟨(pick ld 5).toNat,by omega,by omega⟩;obtain⟨p,hp⟩:∃ p,pick kp 100=p:=⟨_,rfl⟩;rw[hp]at W
 have d8:=Pn p 5;have V:=λ{j:Nat} (R:j<5)=>dw H (by omega) W R;obtain⟨c,i⟩:∃ c,L++crQ p 5=c:=⟨_,rfl⟩;have d9:c.length<=105:=by rw[<- i,H'];omega
 have D:∀ x∈c,LacOk x:=λx hx=>by rw[<- i]at hx;exact(U'.1 hx).elim (H x) (S9 W (A' 5) x)
 have a1:c.countP (λx=>decide (x.k=1))<40:=by rw[<- i,du];omega
 rw[i]at V
 have e0:=bC c (n:Int);have c0:∀ x∈GL c (n:Int),LacOk x:=R8 (λn hn=>ET ⟨.inr (.inr rfl),by omega,by omega⟩) (λn hn=>ET ⟨.inr (.inl rfl),by omega,by omega⟩) (by rw[<- Dr];decide) (ET ⟨.inl rfl,by omega,by omega⟩) c;have f:∀ x∈c++GL c (n:Int),LacOk x:=λx hx=>(U'.1 hx).elim (D x) λe=>c0 x e;have E:(c++GL c (n:Int)).length<=100000:=by rw[H'];omega
 obtain⟨K,B,d4,b,A,hh,hR⟩:=fM c D (by omega) a1 b9;have c1:c++GL c (n:Int)=L++(crQ p 5++GL c (n:Int)):=by rw[<- mU,i]
 have U:∀ j,j<5->(Ap.dW L).log j <+: A:=λj R=>by rw[c1]at hR f E;exact hR.uG hh f E R
 have S:∀ j,j<5->(Ap.dW (c++GL c (n:Int))).log j=A:=λj R=>hR.log R;have d5:A.length<=40:=by
  have:=((I9 _ f E).ab 0 (by omega)).ag
  rwa [hR.z.a 0 (by omega)]at this
 clear hR hh;obtain⟨M,hM⟩:∃ M,Ap.dW L=M:=⟨_,rfl⟩;obtain⟨M2,Z⟩:∃ M,Ap.dW c=M:=⟨_,rfl⟩;obtain⟨N,a0⟩:∃ N,Ap.dW (c++GL c (n:Int))=N:=⟨_,rfl⟩;rw[hM]at U
 rw[Z]at V
 rw[a0]at S
 have T:=ZJ U;have u:=ZI S;have a2:=eC (λj R=>V R) (n:=5) (A' 5);refine tIn [] func3 trivial (tR 7 [] λe4 _ _=>tG 1 [] 0 (λF C=>Xh (most:=100) (cr:=true) (h.af (CgQ.af C)) hG (by decide) (tbA hT.1 C)) λO=>?_);rintro _ _ ⟨s,P,rfl,hP,hN,b0⟩;refine⟨_,[Fa.oa 0 s P],_,_,_,_,rfl,b0,hN.o,λ_=>⟨λF hO hz=>⟨AcN.oa hN hO hz,trivial⟩,?_⟩⟩;rw[hL]at hP
 have d6:P.length=L.length:=by rw[<- hP,nw]
 refine tF λF _=>?_;have e1:=(AcR.oo F.1 hP).n;refine tR 5 [] λe5 _ _=>tC 1 (λF C=>TY (AcR.oo F.1 hP) H (by omega) (tb5 hT C) hM) λO=>?_;rintro _ _ ⟨X,tv,Y,rfl,hW,hO,b3⟩;refine⟨_,Fa.ot X tv Y M::_,rfl,b3,λF=>⟨Lm hW hO O,F⟩,?_⟩;refine tR 13 [1,0,0,0] λI _ _=>DU 78 [(1,iv kp),(2,iv ld),(7,S3.v s),(8,pt (I 0) 0),(9,.bool true),(10,iv 0)] [true] [⟨(I 0),.cells #[iv (M.bt.length:Int),.bool (M.ab 0).up,.bool (M.ab 1).up,.bool (M.ab 2).up,.bool (M.ab 3).up,.bool (M.ab 4).up,S3.v X,iv ((M.ab 0).bad:Int),iv ((M.ab 1).bad:Int),iv ((M.ab 2).bad:Int),iv ((M.ab 3).bad:Int),iv ((M.ab 4).bad:Int),S3.v tv] 30,.l,false⟩] [Fa.ot X tv Y M,Fa.oa 0 s (P++rnP (crQ p 0))] (λkk ee LL a3=>∃ (j:Nat) (y:S3),kk=5-j/\ee=[(1,iv kp),(2,iv ld),(7,S3.v y),(8,pt (I 0) 0),(9,.bool true),(10,iv (j:Int))]/\LL=[⟨(I 0),.cells (KQ M X tv) 30,.l,false⟩]/\a3=[Fa.ot X tv Y M,Fa.oa 0 y (P++rnP (crQ p j))]/\j<=5/\y.n=L.length+j) (5) ⟨0,s,rfl,rfl,rfl,rfl,by omega,by omega⟩ (λF=>⟨F.1,(by rw[show rnP (crQ p 0)=[]from rfl,nA];exact F.2.1),trivial⟩) ?_;rintro k _ _ _ ⟨j,y,rfl,rfl,rfl,rfl,R,e2⟩ _ _ _ J hJ;refine tR 6 [] λe6 _ _=>?_;by_cases h1:j<5
 .refine tI ((decide ((j:Int)<5))) true (M' (by omega)) (tR 7 [] λe7 _ _=>tC1 3 (λF C=>Qf b6 hp) λ_=>tR 2 [0,0] λa4 _ _=>NU 6 0 (x:=y) 23 23 36 5 56 zLa ⟨(a4 0),0,none⟩ 1 1 [iv 8,iv (j:Int),iv 0,iv p,sn] (λF=>F.2.1.1) [Fa.ot X tv Y M,Fa.dt ((P++rnP (crQ p j))++[((⟨8,(j:Int),0,p,[]⟩:Lac),s30)])] (λF=>⟨F.1,Dat.snoc F.2.1.2 (SS _ _),trivial⟩) rfl (by simp[TQ]) rfl (by simp[Value.oneCell']) (λF K=>Cz K 1 (a4 0) [iv 8,iv (j:Int),iv 0,iv p,sn] 36 .z true (by kernel_rfl)) (by unfold maxLen;omega) (by omega) λy9 _ _ n9=>tR 5 [] λc3 _ _=>tV 1 (iv ((j:Int)+1)) (λF C=>(AU 26 (j:Int) underlying3 (by omega))) (tR 2 [] λc4 _ _=>tB hJ (5-(j+1)) (by omega) [true,false] ⟨j+1,y9,rfl,rfl,rfl,rfl,by omega,by omega⟩ (λF=>by rw[Q2,GD,<- mU];exact⟨F.2.1,⟨(by rw[DG];exact F.1),F.2.2.1⟩,trivial⟩)))
 .refine tI ((decide ((j:Int)<5))) false (D' (by omega)) ?_;obtain rfl:j=5:=by omega
  have q:(P++rnP (crQ p 5)).map (·.1)=c:=by rw[nE,hP,Vp,i]
  generalize P++rnP (crQ p 5)=Q at q ⊢;have d7:Q.length=c.length:=by rw[<- q,nw]
  refine tR 4 [] λc5 _ _=>tC 1 (λF C=>TY (AcR.oo F.2.1 q) D (by omega) (tb5 hT C) Z) λO=>?_;rintro _ _ ⟨lb,tb,bs,rfl,b2,a8,a5⟩;refine⟨_,Fa.ot lb tb bs M2::_,rfl,a5,λF=>⟨Lm b2 a8 O,F⟩,?_⟩;refine tR 11 [1,0,1,0] λc6 _ _=>tC1 2 (λF C=>Qf b7 hn) λ_=>tC 3 (λF C=>Uf (n:=(n:Int)) (AcR.oo F.2.2.1 q) (by omega)) λO=>?_;rintro _ _ ⟨z,rfl,hz,a6⟩;refine⟨_,Fa.ac z (Q++rnP (GL c (n:Int)))::_,rfl,a6,λF=>⟨⟨hz.fz O,Dat.app F.2.2.1.2 (PJ _ _ (R8 (P:=λa=>a.d=[]) (λ_ _=>rfl) (λ_ _=>rfl) rfl rfl c))⟩,F⟩,?_⟩;have b1:(Q++rnP (GL c (n:Int))).map (·.1)=c++GL c (n:Int):=by rw[nE,q,Vp]
  refine tC 4 (λF C=>TY (AcR.of F.1 b1) f E (tb5 hT C) a0) λO=>?_;rintro _ _ ⟨lz,tz,zs,rfl,b4,a9,a7⟩;refine⟨_,[Fa.ot lz tz zs N,Fa.ot lb tb bs M2,Fa.ot X tv Y M],rfl,a7,λF=>⟨Lm b4 a9 O,F.2.1,F.2.2.1,trivial⟩,?_⟩;refine tF λF _=>?_;have e3:(lgY zs (lgN N 5)).n=A.length:=by rw[VN (Mg F.1 (n:=5) (A' 5)).rd,u]
  have c2:(lgY Y (lgN M 5)).n<=A.length:=by rw[VN (Mg F.2.2.1 (n:=5) (A' 5)).rd];exact T.length_le
  refine tR 22 [1,0,2,0,1] λc7 _ _=>tC1 12 (λF C=>Io (Ln F.2.1)) λ_=>tR 4 [] λc8 _ _=>tI ((((lgY bs (lgN M2 5)).n:Int) != 0)) false (by rw[a2];rfl) (tR 4 [0] λc9 _ _=>tC1 1 (λF C=>Io (Ln F.2.2.1)) λ_=>tR 5 [2] λd0 _ _=>tC1 1 (λF C=>Io (Ln F.1)) λ_=>tR 8 [] λd1 _ _=>tV 4 (.bool true) (λF C=>(rGe (t:=3) (m:=((lgY zs (lgN N 5)).n:Int)) (n:=((lgY Y (lgN M 5)).n:Int)) (x:=(.tmp 69)) (y:=(.tmp 71)) (M' (by omega)))) (tR 3 [] λd2 _ _=>tC1 8 (λF C=>XS (Mg F.1 (n:=5) (A' 5)).rd (Mg F.2.2.1 (n:=5) (A' 5)).rd (by rw[u];omega) (r:=true) (by rw[u];exact cX T)) λ_=>tR 3 [] λd3 _ _=>tE (.bool true) λ_ B=>⟨rfl,B⟩))
end
end
end Go.Proofs.YtogibonjmbhliabGreatDoor
