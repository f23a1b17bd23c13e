/- Part 19 of the walk. -/
import Derived.Deep.Slices
import Derived.Test.YtgbabbapcibnlaaGreatDoorZ18
set_option maxRecDepth 100000
set_option maxHeartbeats 4000000
open Go.Proofs.Tryz
set_option linter.unusedVariables false
namespace Go.Proofs.YtgbabbapcibnlaaGreatDoor
section
section
variable{C:List Cmd}{K:Int}{B:Nat->Bal}{cov:List (Bal × Nat)}{i:Nat}{b:Bal}
theorem TI(a:PhC C K B cov i b){n:Nat}{M:Meet}(o:MOk n M)(O:n+6<=1000000)(h:PhL C K B cov i b M){v:Vt}(L:Ah v)(d:v.b=b)(z:Bz i v M)(Q:(M.ae i).ab.length<(M.ae i).av.next) :
  v.bt<(((M.eb Ao).ae i).ab.length:Int)/\((M.eb Ao).ae i).av.next=(M.ae i).av.next:=by
 have q:∀ c A N,Stp wh1 c A N->PhL C K B cov i b A->PhL C K B cov i b N:=λc A N s g=>g.step a s.calm;have x:∀ A N,TkS A N->PhL C K B cov i b A->PhL C K B cov i b N:=λA N s g=>g.step a s.rN;have E:=h.round a o O;have m:=Bm q o (by omega) h;have t:((M.eb (AC 3 5)).ae i).av.next=(M.ae i).av.next:=by
  obtain⟨N,F,S,T⟩:=Iy M a.hi;have H:PhL C K B cov i b N:=by
   rw[S];have P:∀ k,k<=5->MOk (n+k) (M.eb (AC 3 k))/\PhL C K B cov i b (M.eb (AC 3 k)):=by
    intro k;induction k with
    | zero=>exact λ_=>⟨o,h⟩
    | succ k ih =>
     intro r;obtain⟨w,G⟩:=ih (by omega);rw[BX,AI];exact⟨w.act (by omega) (FU (by omega)),CB q w (by omega) G⟩
   have:=a.hi;exact(P i (by omega)).2
  rw[T,WT a H (by rw[F];exact Q),F]
 refine⟨?_,by rw[E.2.2.2.2,t]⟩;have p:=Bm (I:=λN=>PhL C K B cov i b N/\v∈((N.ae i).av.an i).vs) (λc A N s g=>⟨q c A N s g.1,g.1.pe.pd a s.calm d a.hi g.2⟩) o (by omega) ⟨h,z.1⟩;have D:∀ j,j<5->j≠i->({ BJ 4 with cl:=v,src:=j,dst:=i }:Let)∈(M.eb (AC 3 5)).br:=λj f e =>
  Fw (J:=λN=>({ BJ 4 with cl:=v,src:=j,dst:=i }:Let)∈N.br) q (λc A N s _ g=>s.calm.rJ g) (λA k g r=>⟨g.pe.pb.cm.up k r,g.pe.pb.cm.sg r⟩) o (by omega) h f (z.2 j f e) λN l g _ _=>mD _ (D'.2 rfl)
 refine E.1.ld v d λj f=>?_;rw[EC];generalize M.eb (AC 3 5)=A at m D p ⊢;by_cases e:j=i
 .subst e;obtain⟨N,u,R,_⟩:=Cv (I:=λN=>PhL C K B cov j b N/\v∈((N.ae j).av.an j).vs) (λA N s g=>⟨x A N s g.1,g.1.pe.pd a s.rN d f g.2⟩) m.1 ⟨m.2,p.2.2⟩;rw[u];exact R.2
 .obtain⟨N,u,_,k3,_⟩:=DG (J:=λN=>v∈((N.ae i).av.an j).vs) x (λA N s g k=>g.pe.pd a s.rN d f k) m.1 m.2 (D j f e) (λN g=>g.pe.pb.cm.up i a.hi) (λN g _=>by
   rw[An,if_pos rfl];have ac:=g.pe.acc a f;have y:(N.ae i).av.gC=b:=(g.pe.pb.cm.gC i a.hi).trans a.hB;exact Qo (d.trans y.symm) ac.1 L (ac.2.trans y.symm))
  rw[u];exact k3
def mu(i:Nat)(M:Meet):Nat:=2*(40-(M.ae i).ab.length)+(if(M.ae i).av.next<=(M.ae i).ab.length then 1 else 0)
def Zz(i:Nat)(b:Bal)(M:Meet):Prop:=(M.ae i).av.next<=(M.ae i).ab.length\/∃ v:Vt,Ah v/\v.b=b/\v.bt=((M.ae i).ab.length:Int)/\Bz i v M
theorem iu(q:PhC C K B cov i b){M:Meet}(h:PhL C K B cov i b M)(x:(M.ae i).av.next<=(M.ae i).ab.length)(d:(M.ae i).ab.length<40->(M.ae i).rj (M.ae i).ab.length=Option.none):Fin_ i (M.ae i).ab M:=by
 refine⟨rfl,x,λf j s v t e=>?_,λf c n=>ng λe=>?_⟩
 .have d:=d f;unfold Nod.rj at d;have p:∀ l∈(M.ae i).av.jv.map (·.vs),∀ u∈l,Ah u:=λl o u k=>by
   obtain⟨a,f,rfl⟩:=mS.1 o;unfold Rnd.jv at f;simp only[mJ,P',or_false]at f;rcases f with e|e|e|e|e<;>(rw[e]at k;exact((h.pe.acc q (by omega)).1.2.1 u k).1)
  have m:Cl ((M.ae i).av.jv.map (·.vs)) ((M.ae i).ab.length:Int)=0:=by unfold Cl;rw[if_neg (λg=>g (by omega)),if_pos p]
  have r:DR ((M.ae i).av.jv.map (·.vs)) ((M.ae i).ab.length:Int)=true:=by
   unfold DR;rw[if_pos m];have:v∈Ae ((M.ae i).av.jv.map (·.vs)).flatten ((M.ae i).ab.length:Int):=Bd.2 ⟨oX.2 ⟨((M.ae i).av.an j).vs,mS.2 ⟨(M.ae i).av.an j,by unfold Rnd.jv;rcases rk s with rfl|rfl|rfl|rfl|rfl<;>simp,rfl⟩,t⟩,e⟩;unfold Ge;generalize Ae _ _=l at this;have key:∀ (l:List Vt) (u:Vt),(BW l (some u)).isSome=true:=by
    intro l;induction l with
    | nil=>exact λu=>rfl
    | cons w l ih=>intro u;rw[BW];split<;>exact ih _
   cases l with
   | nil=>cases this
   | cons w l=>exact key l w
  rw[if_neg (λg=>g m),if_pos r]at d
  cases d
 .have d:=d f;unfold Nod.rj at d;have p:∀ l∈(M.ae i).av.jv.map (·.vs),∀ u∈l,Ah u:=λl o u k=>by
   obtain⟨a,f,rfl⟩:=mS.1 o;unfold Rnd.jv at f;simp only[mJ,P',or_false]at f;rcases f with e|e|e|e|e<;>(rw[e]at k;exact((h.pe.acc q (by omega)).1.2.1 u k).1)
  have m:Cl ((M.ae i).av.jv.map (·.vs)) ((M.ae i).ab.length:Int)=0:=by unfold Cl;rw[if_neg (λg=>g (by omega)),if_pos p]
  rw[if_neg (λg=>g m)]at d
  split at d
  .cases d
  .exact absurd (nR.1 d c n) (by simpa using e)
theorem LN(m:Nat):Ao++Al m=Al (m+1):=by
 induction m with
 | zero=>rfl
 | succ m ih=>show Ao++(Al m++Ao)=Al (m+1)++Ao;rw[<- mC,ih]
theorem iC(a:PhC C K B cov i b)(A:14*K+38*(cov.length:Int)<=99000)(j:∀ c∈C,c.e=0)(k:Nat){n:Nat}{M:Meet}(d:MOk n M)(H:n+6*k<=999000)(h:PhL C K B cov i b M)(z:Zz i b M)(t:TT0 i M)(f:mu i M<=k) :
  ∃ m,m<=k/\Fin_ i ((M.eb (Al m)).ae i).ab (M.eb (Al m))/\PhL C K B cov i b (M.eb (Al m))/\TT0 i (M.eb (Al m))/\MOk (n+6*m) (M.eb (Al m)):=by
 induction k generalizing n M with
 | zero =>
  have:=h.nx;unfold mu at f;split at f<;>omega
 | succ k ih =>
  have F:=h.nx;have D:=(d.ae i a.hi).ag;by_cases o:(M.ae i).av.next<=(M.ae i).ab.length
  .by_cases hf:(M.ae i).ab.length<40->(M.ae i).rj (M.ae i).ab.length=Option.none
   .exact⟨0,mW _,iu a h o hf,h,t,d⟩
   .obtain⟨ha,p⟩:=Classical.not_imp.1 hf;obtain⟨c,p⟩:=oD.1 p;have g:=h.round a d (by omega);have l:=TH a A j d (by omega) h ha o p;have E:=(g.2.2.2.1 i).ag.length_le;have q:Ah ⟨((M.ae i).ab.length:Int),b,c⟩:=⟨by show(0:Int)<=((M.ae i).ab.length:Int)/\((M.ae i).ab.length:Int)<=39;omega,a.hb,j c (Lk (h.pe.pb.cm.s.nd i a.hi) p)⟩;obtain⟨m,y,r,u,x,w⟩:=ih (M:=M.eb Ao) (n:=n+6) g.2.1 (by omega) g.1 (by
     by_cases e:((M.eb Ao).ae i).ab.length=(M.ae i).ab.length
     .exact .inr ⟨_,q,rfl,by rw[e],l.1⟩
     .exact .inl (by rw[l.2];omega)) (MX a d (by omega) h t).1 (by
     unfold mu at f ⊢;rw[if_pos o]at f
     split<;>omega)
    refine⟨m+1,by omega,?_⟩;rw[<- LN,Az];exact⟨r,u,x,by rw[show n+6*(m+1)=n+6+6*m by omega];exact w⟩
  .rcases z with z|⟨v,q,hvb,hs,z⟩
   .exact absurd z o
   .have g:=h.round a d (by omega);have l:=TI a d (by omega) h q hvb z (by omega);rw[hs]at l
    have G:=q.1.2;obtain⟨m,y,r,u,x,w⟩:=ih (M:=M.eb Ao) (n:=n+6) g.2.1 (by omega) g.1 (.inl (by rw[l.2];omega)) (MX a d (by omega) h t).1 (by
     unfold mu at f ⊢;rw[if_neg o]at f
     split<;>omega)
    refine⟨m+1,by omega,?_⟩;rw[<- LN,Az];exact⟨r,u,x,by rw[show n+6*(m+1)=n+6+6*m by omega];exact w⟩
end
section
variable{C:List Cmd}{K:Int}{B:Nat->Bal}{cov:List (Bal × Nat)}{i:Nat}{b:Bal}
def AW(b:Bal)(j:Nat)(N:Meet):Prop:=(N.ae j).vo.p=b/\∀ c x,(N.ae j).bN c=some x->x=b
theorem Un(d:b≠Ba){p:Nod}{j:Nat}(g:p.vo.p=b){c:Cmd}{x:Bal}(a:(p.kc j).1.bN c=some x):x=b\/(p.bN c=some x/\c∉p.bn.take 40):=by
 have a:(AY p.vo.p p.bN (p.bn.take 40)).2 c=some x:=by
  unfold Nod.kc at a;split at a
  .exact a
  .split at a
   .unfold Nod.dT at a;split at a<;>exact a
   .exact a
 rw[g]at a
 have f:=Ly d (p.bn.take 40) p.bN;by_cases e:c∈p.bn.take 40
 .rw[f.2.1 c e]at a;exact .inl (nh a).symm
 .rw[f.1 c e]at a;exact .inr ⟨a,e⟩
theorem PhC.b0(a:PhC C K B cov i b):b≠Ba:=λe=>by have:=a.hb;rw[e]at this;exact absurd this (by decide)
theorem AW.step(d:PhC C K B cov i b){n:Nat}{M N:Meet}(s:Stp wh0 n M N)(h:PhB C K B cov i b M){j:Nat}(f:j<5)(a:AW b j M):AW b j N:=by
 refine⟨h.cm.top d.hc s d.hb.pr d.hK f a.1,λc x e=>?_⟩;rcases s.bN e with g|⟨_,rfl⟩
 .exact a.2 c x g
 .rw[An,if_pos rfl]at e
  exact(Un d.b0 a.1 e).elim id λg=>a.2 c x g.1
theorem fe(a:PhC C K B cov i b){M:Meet}(h:PhB C K B cov i b M){j:Nat}(d:j<5)(w:(M.ae j).vo.p=b):AW b j (M.act (acN 3 (j:Int))):=by
 have v:=h.cm.up j d;obtain⟨k,s0,J,H,a0,l,q,F,z,E⟩:=Ix (D:=wh1) d v;have m:∀ c A N,Stp wh1 c A N->(PhB C K B cov i b A/\(A.ae j).vo.p=b)->PhB C K B cov i b N/\(N.ae j).vo.p=b:=λc A N s g=>⟨g.1.step a s.calm,(s.sX j).trans g.2⟩;have e:=s0.inv m ⟨h,w⟩;have f:=z.inv m e;have n:=e.1.ak j d;have G:=Pn n.nd λc r=>(e.1.cm.s.nd j d).wa c r;have t:=a.hC;have u:(k.ae j).bn.take 40=(k.ae j).bn:=mN (by omega);have y:AW b j l:=⟨f.2,λc x o=>by
  rw[q,B1]at o
  refine(Un a.b0 e.2 o).elim id λg=>absurd ?_ g.2;rw[u,n.wa c,g.1];rfl⟩
 have s3:=Stp.prop (D:=wh1) l j d F;exact(E.inv (I:=λN=>PhB C K B cov i b N/\AW b j N) (λc A N s g=>⟨g.1.step a s.calm,g.2.step a s.calm g.1 d⟩) ⟨f.1.step a s3.calm,y.step a s3.calm f.1 d⟩).2
def T1(i:Nat)(N:Meet):Prop:=∀ j,j<5->j≠i->(N.ae i).av.rh j=true->(N.ae i).av.bw j<=(N.ae j).ab.length
theorem T1.tk{M N:Meet}(s:TkS M N)(k:K1 M)(t:T1 i M):T1 i N:=by
 intro j n d f;have p:=(s.rN.ev j).ag.length_le;have a:(N.ae i).av.bw j=(M.ae i).av.bw j->(N.ae i).av.rh j=(M.ae i).av.rh j->(N.ae i).av.bw j<=(N.ae j).ab.length:=λq h=>by
  have:=t j n d (by rw[<- h];exact f);omega
 obtain⟨l,o,r,u,rfl⟩:=s;by_cases e:i=l.dst
 .have en:((M.set l.dst ((M.ae l.dst).take l) M.br M.ew).ae i)=(M.ae i).take l:=by rw[An,if_pos e,<- e]
  by_cases c:l.kind=1
  .rw[en]at a f ⊢
   have m:(M.ae i).take l=if((M.ae i).ln 0 l.fv).leads=false\/l.gC≠(M.ae i).av.gC\/(M.ae i).av.rh l.src=true then(M.ae i).ln 0 l.fv else Nod.rp { (M.ae i).ln 0 l.fv with av:={ (M.ae i).av.rG l.src l.mv with bw:=upN (M.ae i).av.bw l.src l.fv.length } }:=by
    unfold Nod.take;rw[c];rfl
   rw[m]at a f ⊢
   split
   .rename_i hc
    rw[if_pos hc]at a
    exact a rfl rfl
   .rename_i hc
    rw[if_neg hc]at a
    show upN (M.ae i).av.bw l.src l.fv.length j<=_;by_cases b:j=l.src
    .rw[<- b,Df];have:=k l o c;rw[<- b]at this
     omega
    .rw[Dv _ _ b];have:=a (by show upN (M.ae i).av.bw l.src l.fv.length j=_;rw[Dv _ _ b]) (by show upN (M.ae i).av.rh l.src true j=_;rw[Dv _ _ b]);have g:upN (M.ae i).av.bw l.src l.fv.length j<=_:=this;rw[Dv _ _ b]at g
     exact g
  .have:((M.ae i).take l).av.bw=(M.ae i).av.bw/\((M.ae i).take l).av.rh=(M.ae i).av.rh:=by
    unfold Nod.take;split
    .split
     .unfold Nod.ed;split<;>exact⟨rfl,rfl⟩
     .show((M.ae i).au _).1.av.bw=_/\((M.ae i).au _).1.av.rh=_;rw[(Bj _ _).2];exact⟨rfl,rfl⟩
    .rename_i hk;exact absurd hk c
    .exact⟨rfl,rfl⟩
    .split
     .unfold Nod.ed;split<;>exact⟨rfl,rfl⟩
     .show((M.ae i).cl _).1.av.bw=_/\((M.ae i).cl _).1.av.rh=_;rw[(CE _ _).2];exact⟨rfl,rfl⟩
    .unfold Nod.count;split
     .exact⟨rfl,rfl⟩
     .split<;>exact⟨rfl,rfl⟩
    .split<;>exact⟨rfl,rfl⟩
    .simp only;unfold Nod.dT;split<;>split<;>exact⟨rfl,rfl⟩
    .exact⟨rfl,rfl⟩
   exact a (by rw[en,this.1]) (by rw[en,this.2])
 .have en:((M.set l.dst ((M.ae l.dst).take l) M.br M.ew).ae i)=M.ae i:=by rw[An,if_neg e]
  exact a (by rw[en]) (by rw[en])
theorem ez(f:PhC C K B cov i b){n:Nat}{M:Meet}(u:MOk n M)(U:n+6<=1000000)(h:PhB C K B cov i b M)(q:QA i b M)(y:∀ j,j<5->(M.ae j).vo.p=b)(hp:(M.ae i).av.rh i=true)(hw:∀ j,j<5->j≠i->∃ vs,Pend.prom i b vs∈(M.ae j).bu)(o:P1 i (M.ae i))(hl:M.br=[]) :
  PhL C K B cov i b (M.eb Ao)/\Zz i b (M.eb Ao)/\TT0 i (M.eb Ao)/\MOk (n+6) (M.eb Ao):=by
 have hP:∀ A N,TkS A N->PhB C K B cov i b A->PhB C K B cov i b N:=λA N s g=>g.step f s.rN;have T:∀ c A N,Stp wh1 c A N->PhB C K B cov i b A->PhB C K B cov i b N:=λc A N s g=>g.step f s.calm;have hq:=Rj f u U h q;have d:∀ j,j<5->j≠i->((M.eb Ao).ae i).av.rh j=true:=λj a l=>by
  obtain⟨vs,g⟩:=hw j a l;exact WB f u U h a g
 have Q:=Bm (I:=λN=>PhB C K B cov i b N/\(∀ j,j<5->(N.ae j).vo.p=b)/\P1 i (N.ae i)/\K1 N/\(N.ae i).av.rh i=true) (λc A N s g=>⟨T c A N s g.1,λj a=>(s.sX j).trans (g.2.1 j a),s.p1 g.2.2.1,g.2.2.2.1.step s.calm,(s.calm.ev i).rh i g.2.2.2.2⟩) u (by omega) ⟨h,y,o,λm w=>by rw[hl]at w;(cases w),hp⟩;have R:∀ j,j<5->AW b j (M.eb (AC 3 5)):=λj a=>MK (I:=λN=>PhB C K B cov i b N/\(N.ae j).vo.p=b) (J:=AW b j) (λc A N s g=>⟨T c A N s g.1,(s.sX j).trans g.2⟩) (λc A N s g k=>k.step f s.calm g.1 a) u (by omega) ⟨h,y j a⟩ a λN m _ _ g _=>fe f g.1 a g.2;have S:NB ((M.eb (AC 3 5)).ae i):=by
  obtain⟨N,W,n2,n3⟩:=Iy M f.hi;rw[n3,Hg (by rw[W];exact h.cm.up i f.hi),An,if_pos rfl];intro x vs g;rw[Ir (by rw[W];exact h.cm.sg f.hi)]at g
  cases g
 obtain⟨z,D,L,E⟩:=hq;rw[EC]at z D L E d ⊢
 generalize M.eb (AC 3 5)=A at Q R S z D L E d ⊢;obtain⟨Y,Z,a0,o,F,G⟩:=Q;obtain⟨N,k1,k2,_⟩:=Cv (I:=λN=>PhB C K B cov i b N/\(∀ j,j<5->AW b j N)/\NB (N.ae i)/\(N.ae i).av.rh i=true/\(N.ae i).av.next=0/\K1 N/\T1 i N) (λX N s g=>⟨hP X N s g.1,λj a=>(g.2.1 j a).step f s.rN g.1 a,s.rN.nb g.2.2.1,(s.rN.ev i).rh i g.2.2.2.1,(s.rN.rW i).trans g.2.2.2.2.1,g.2.2.2.2.2.1.step s.rN,g.2.2.2.2.2.2.tk s g.2.2.2.2.2.1⟩) Y ⟨Z,R,S,G,o.1,F,λj a l e=>by rw[o.2 j l]at e;cases e⟩;rw[k1]at z D L E d ⊢
 obtain⟨r1,O,r3,r4,P,r6,r7⟩:=k2;have d:∀ j,j<5->(N.ae i).av.rh j=true:=λj a=>by
  by_cases e:j=i
  .rw[e];exact r4
  .exact d j a e
 have t:PhE C K B cov i b { N with br:=[] }:=⟨z,λj a=>(O j a).1,d,r3,λj a=>(O j a).2,λm w=>(by cases w),λj a c hc=>by
  have ha:=((r1.ak j a).wa c).1 hc;obtain⟨x,V⟩:=nL.1 ha;exact D j a c (by rw[show((({ N with br:=[] }:Meet).ae j).bN c)=some x from V,(O j a).2 c x V])⟩
 refine⟨⟨t,λv H y=>?_,by show(N.ae i).av.next<=_/\(N.ae i).av.next<=40;rw[P];omega⟩,.inl (by show(N.ae i).av.next<=_;rw[P];exact mW _),λj a l=>r7 j a l (d j a),E⟩;obtain⟨σ,g,_⟩:=t.pb.cm.ex;have r:=g.gs.hv 0 v ((t.rd f g).1.an 0 (by omega) v (y 0 (by omega))).1;have:=t.lt f g r H;have e:(({ N with br:=[] }:Meet).ae i).av.next=0:=P;rw[e]at this
 have:=r.1.1;omega
end
theorem P0(p:Nod)(b:Bal):(p.au b).1.done=p.done:=by
 unfold Nod.au;split
 .rfl
 .split
  .rfl
  .split<;>rfl
theorem OM(p:Nod)(v:Vt):(p.cl v).1.done=p.done:=by
 unfold Nod.cl;split
 .rfl
 .split
  .rfl
  .split<;>rfl
theorem LF(p:Nod)(j:Nat)(v:Vt):(p.count j v).done=p.done:=by
 unfold Nod.count;split
 .rfl
 .split<;>rfl
theorem Kx(p:Nod)(to:Nat)(e:Int):(p.ed to e).done=p.done:=by unfold Nod.ed;split<;>rfl
theorem IE(p:Nod)(l:List Cmd):(p.dT l).done=p.done:=by unfold Nod.dT;split<;>rfl
theorem Xi(p:Nod)(l:Let):(p.take l).done=p.done:=by
 unfold Nod.take;split
 .split
  .exact Kx _ _ _
  .exact P0 p l.gC
 .simp only;split<;>rfl
 .rfl
 .split
  .exact Kx _ _ _
  .exact OM p l.cl
 .exact LF p _ _
 .split<;>rfl
 .simp only;split<;>exact IE p l.fv
 .rfl
theorem OB(p:Nod)(i:Nat)(q:Pend):(p.lr i q).done=p.done:=by
 cases q with
 | began b vs=>unfold Nod.lr;simp only;split<;>rfl
 | prop v=>exact LF p i v
 | _=>rfl
theorem Sz(i:Nat)(l:List Pend)(p:Nod)(a:List Let):(ov i l p a).1.done=p.done:=by
 induction l generalizing p a with
 | nil=>rfl
 | cons q l ih=>exact(ih _ _).trans (OB p i q)
def WW(l:List Cmd):Sto:=l.foldl dnS EA
theorem WX(l:List Cmd)(c:Cmd):WW (l++[c])=dnS (WW l) c:=by unfold WW;rw[po];rfl
theorem aZ(l:List Cmd)(h:∀ c∈l,c.e=0):I5 (WW l):=by
 have key:∀ (l:List Cmd) (s:Sto),I5 s->(∀ c∈l,c.e=0)->I5 (l.foldl dnS s):=by
  intro l;induction l with
  | nil=>exact λs a _=>a
  | cons c l ih=>exact λs a h=>ih _ (Uy a (h c M')) λd b=>h d (I' _ b)
 exact key l EA aY h
def StI(p:Nod):Prop:=p.ni=WW (p.ab.take p.done)
theorem StI.pd{p q:Nod}(h:StI p)(d:q.ni=p.ni)(b:q.done=p.done)(a:p.ab <+: q.ab)(c:p.done<=p.ab.length):StI q:=by
 unfold StI;rw[d,b,RC a c];exact h
theorem bH(p:Nod)(l:Let):(p.take l).ni=p.ni:=by
 unfold Nod.take;split
 .split
  .unfold Nod.ed;split<;>rfl
  .show(p.au l.gC).1.ni=_;unfold Nod.au;split
   .rfl
   .split
    .rfl
    .split<;>rfl
 .simp only;split<;>rfl
 .rfl
 .split
  .unfold Nod.ed;split<;>rfl
  .show(p.cl l.cl).1.ni=_;unfold Nod.cl;split
   .rfl
   .split
    .rfl
    .split<;>rfl
 .unfold Nod.count;split
  .rfl
  .split<;>rfl
 .split<;>rfl
 .simp only;unfold Nod.dT;split<;>split<;>rfl
 .rfl
theorem StI.bare(p:Nod)(u:Bool)(d:List Int)(s:Int)(a:Acc)(x:List Pend):StI (p.bare u d s a x):=rfl
theorem StI.step{D:Wh}{c:Nat}{M N:Meet}(s:Stp D c M N)(a:∀ j,j<5->(M.ae j).done<=(M.ae j).ab.length)(h:∀ j,j<5->StI (M.ae j)):∀ j,j<5->StI (N.ae j):=by
 intro j g;have put:∀ {k:Nat} {p:Nod} {f:List Let} {i:List Tol},(k<5->StI p)->StI ((M.set k p f i).ae j):=λ{k p f i} e=>by
  rw[An];split
  .rename_i e2;exact e (by omega)
  .exact h j g
 cases s with
 | take _ l hl hd2 hu ht=>exact put λ_=>(h _ hd2.2).pd (bH _ l) (Xi _ l) (Ev.take _ l).ag (a _ hd2.2)
 | br _ f hl a=>exact h j g
 | one _ k c hi hu hc he =>
  refine put λ_=>?_;have e:StI { M.ae k with ni:=doS (M.ae k).ni c,done:=(M.ae k).done+1 }:=by
   unfold StI;show doS (M.ae k).ni c=WW ((M.ae k).ab.take ((M.ae k).done+1));rw[pm,hc,Sy he,h k hi];exact(WX _ c).symm
  unfold Nod.hZ;split<;>exact e
 | ask _ k hi hu =>
  refine put λ_=>?_;have:=h k hi;unfold Nod.kc;split
  .exact this
  .split
   .unfold Nod.dT;split<;>exact this
   .exact this
 | prop _ k hi hu =>
  refine put λ_=>?_;have:=h k hi;unfold Nod.cn;split
  .exact this
  .split
   .exact this
   .split
    .exact this
    .show StI ((M.ae k).cl _).1;unfold Nod.cl;split
     .exact this
     .split
      .exact this
      .split<;>exact this
 | rC _ k hi hu hs hT=>exact put λ_=>h k hi
 | run _ k hi hu q l hp hs =>
  refine put λ_=>(h k hi).pd ?_ ((OB (M.ae k) k q)) ((Ev.lr (M.ae k) k q).bu l).ag (a k hi);show((M.ae k).lr k q).ni=_;cases q with
  | began b vs=>simp only[Nod.lr];split<;>rfl
  | prop v =>
   simp only[Nod.lr,Nod.count];split
   .rfl
   .split<;>rfl
  | _=>rfl
 | ry _ k hi hu hL=>exact put λ_=>h k hi
 | lead _ k hi hu hL =>
  refine put λ_=>?_;have:=h k hi;unfold Nod.lead;simp only;split
  .exact this
  .generalize (⟨max (M.ae k).cF (M.ae k).vo.p.r+1,(k:Int)⟩:Bal)=b;show StI ((M.ae k).au b).1;unfold Nod.au;split
   .exact this
   .split
    .exact this
    .split<;>exact this
 | sub _ k d hi hu hD =>
  refine put λ_=>?_;have:=h k hi;unfold Nod.rK Nod.rL;split
  .exact this
  .split
   .exact this
   .split
    .exact this
    .show StI (Nod.want _ _);unfold Nod.want;split<;>exact this
 | lp _ k x hi hu hk hC =>
  refine put λ_=>?_;unfold Nod.lp;split
  .exact h k hi
  .exact .bare _ _ _ _ _ _
 | start _ k hi hu hs =>
  refine put λ_=>?_;unfold Nod.start;split
  .exact h k hi
  .split<;>exact .bare _ _ _ _ _ _
theorem StI.zero:∀ j,j<5->StI (AH.ae j):=λj _=>rfl
theorem cX(i:Nat)(l:List Cmd)(p:Nod)(k:List Tol)(j:I5 p.ni)(h:∀ c∈l,c.e=0):(rD i l p k).1.done=p.done+l.length:=by
 induction l generalizing p k with
 | nil=>rfl
 | cons c l ih =>
  have a:=h c M';have b:doE p.ni c=0:=(cW j).trans a;rw[rD,if_neg (λg=>g b)];have f:(Nod.hZ { p with ni:=doS p.ni c,done:=p.done+1 } c).ni=dnS p.ni c/\(Nod.hZ { p with ni:=doS p.ni c,done:=p.done+1 } c).done=p.done+1:=by
   unfold Nod.hZ;split<;>exact⟨Sy b,rfl⟩
  rw[ih _ _ (by rw[f.1];exact Uy j a) λd m=>h d (I' _ m),f.2,m7];omega
theorem T5(p:Nod)(i:Nat)(f:List Let)(e:List Tol):(p.piece i f e).1.done=(rD i (p.ab.drop p.done) p e).1.done:=by
 unfold Nod.piece;simp only;generalize (rD i (p.ab.drop p.done) p e).1=a;have g:(a.kc i).1.done=a.done:=by
  unfold Nod.kc;split
  .rfl
  .split
   .exact IE _ _
   .rfl
 generalize a.kc i=b at g ⊢;have h:b.1.cn.done=b.1.done:=by
  unfold Nod.cn;split
  .rfl
  .split
   .rfl
   .split
    .rfl
    .exact OM _ _
 generalize b.1.cn=c at h ⊢;generalize f++b.2=k;have j:(c.nr i k).1.done=c.done:=by
  unfold Nod.nr;split
  .rfl
  .rw[Sz];unfold Nod.rC;split<;>rfl
 generalize c.nr i k=d at j ⊢;have l:(d.1.bw i d.2).1.done=d.1.done:=by unfold Nod.bw;split<;>rfl
 omega
theorem Di{I:Meet->Prop}(d:∀ c M N,Stp wh0 c M N->I M->I N)(j:∀ M,I M->I { M with br:=[] })(m:Nat){n:Nat}{M:Meet}(i:MOk n M)(o:n+6*m<=1000000)(h:I M):I (M.eb (Al m))/\MOk (n+6*m) (M.eb (Al m)):=by
 induction m with
 | zero=>exact⟨h,i⟩
 | succ m ih =>
  obtain⟨e,f⟩:=ih (by omega);show I (M.eb (Al m++Ao))/\MOk (n+6*(m+1)) (M.eb (Al m++Ao));rw[Az,EC];have a:=Bm (λc A N s g=>d c A N s.calm g) f (by omega) e;obtain⟨N,k,l,_⟩:=Cv (λA N s g=>d _ A N s.rN g) a.1 a.2;have b:=a.1.act (x:=acN 7 0) (by omega) (by rw[<- DC];decide);rw[k]at b ⊢
  exact⟨j N l,b.mono (by omega)⟩
theorem Hf{M:Meet}(h:∀ j,j<5->(M.ae j).up=true):M.eb Aw=M:=by
 have key:∀ l:List Lac,(∀ x∈l,M.act x=M)->M.eb l=M:=by
  intro l;induction l with
  | nil=>exact λ_=>rfl
  | cons x l ih =>
   intro a;show(M.act x).eb l=M;rw[a x M'];exact ih λy e=>a y (I' _ e)
 refine key _ λx d=>?_;obtain⟨k,b,rfl⟩:=mS.1 d;have c:=h k (oc.1 b);unfold Meet.act;simp only[acN];rw[if_neg (by decide),if_neg (by decide),if_neg (by decide),if_neg (by decide),if_neg (by decide),if_neg (by decide),if_pos trivial];show M.set k (if(M.ae k).up=true then M.ae k else _) M.br M.ew=M;rw[if_pos c,EL]
theorem IN{M:Meet}{i:Nat}(a:(M.ae i).up=true):M.act (acN 2 (i:Int))=M.set i ((M.ae i).lead i) M.br M.ew:=by
 unfold Meet.act;simp only[acN];rw[if_neg (by decide),if_pos trivial];show M.set i (if(M.ae i).up=true then _ else _) M.br M.ew=_;rw[if_pos a];rfl
theorem Ee(a b:Nat):Al (a+b)=Al a++Al b:=by
 induction b with
 | zero=>exact(mV _).symm
 | succ b ih=>show Al (a+b)++Ao=Al a++(Al b++Ao);rw[ih,mC]
theorem ma(f:Nat->Int):∃ j,j<5/\∀ k,k<5->f k<=f j:=by
 have key:∀ n,∃ j,j<n+1/\∀ k,k<n+1->f k<=f j:=by
  intro n;induction n with
  | zero=>exact⟨0,by omega,λk c=>by rw[show k=0 by omega];exact mA _⟩
  | succ n ih =>
   obtain⟨j,d,b⟩:=ih;by_cases e:f j<=f (n+1)
   .refine⟨n+1,by omega,λk c=>?_⟩;by_cases a:k=n+1
    .rw[a];exact mA _
    .exact mT (b k (by omega)) e
   .refine⟨j,by omega,λk c=>?_⟩;by_cases a:k=n+1
    .rw[a];omega
    .exact b k (by omega)
 exact key 4
def F9(b:Bal):List (Bal × Nat):=(List.range 40).map λs=>(b,s)
theorem FA(b:Bal){s:Nat}(h:s<40):(b,s)∈F9 b:=mS.2 ⟨s,oc.2 h,rfl⟩
section
variable{S:Cmd->Prop}{K:Int}{B:Nat->Bal}{cov:List (Bal × Nat)}
theorem Cm.to{M:Meet}(h:Cm S K B cov M){K':Int}(c:∀ j,j<5->(M.ae j).vo.p.key<=K')(b:K'<=3600):Cm S K' B cov M :=
 ⟨h.ex,⟨b,λj a=>⟨by unfold Nod.pk;rw[if_pos (h.up j a)];exact c j a,(h.kb.2 j a).2⟩⟩,h.up,h.gC,h.s⟩
structure Led(i:Nat)(p q:Nod)(b:Bal):Prop where
 may:Ab b
 n:b.n=(i:Int)
 gt:5*p.cF+4<b.key/\p.vo.p.key<b.key
 le:b.key<=max (5*p.cF) p.vo.p.key+9
 up:q.up=p.up
 vo:q.vo.p=b
 gC:q.av.gC=b
 p1:P1 i q
 pe:∃ vs,Pend.began b vs∈q.bu
 ask:q.bn=p.bn/\q.bN=p.bN/\q.done=p.done
 ro:q.cF=p.cF
theorem Cm.lead{M:Meet}(h:Cm S K B cov M)(z:14*K+38*(cov.length:Int)<=99000){i:Nat}(d:i<5)(I:K<=3591)(J:0<=(M.ae i).cF/\5*(M.ae i).cF<=3591) :
  ∃ b,Led i (M.ae i) ((M.ae i).lead i) b/\Cm S 3600 (upN B i b) (cov++F9 b) (M.set i ((M.ae i).lead i) M.br M.ew):=by
 have m:=h.up i d;have O:=h.le d;have u:=(h.acc d).1;have N:=YV u;have F:0<=(M.ae i).vo.p.r/\0<=(M.ae i).vo.p.n/\(M.ae i).vo.p.n<=4:=by unfold Aq Ab at u;omega
 obtain⟨b,l⟩:∃ b:Bal,(⟨max (M.ae i).cF (M.ae i).vo.p.r+1,(i:Int)⟩:Bal)=b:=⟨_,rfl⟩;have L:b.key=5*(max (M.ae i).cF (M.ae i).vo.p.r+1)+(i:Int):=by rw[<- l];rfl
 have C:(M.ae i).vo.p.key=5*(M.ae i).vo.p.r+(M.ae i).vo.p.n:=rfl;have t:Ab b:=by rw[<- l];refine⟨⟨?_,?_⟩,?_,?_⟩<;>simp only<;>omega
 have f:=h.prom z d t (by rw[EZ t.pr u];omega);have E:(M.ae i).lead i=Nod.wait { ((M.ae i).au b).1 with av:=⟨b,λ_=>false,λ_=>DU,λ_=>(M.ae i).ab.length,0,[]⟩ } (.began b ((M.ae i).au b).2.1):=by
  unfold Nod.lead;simp only;rw[l,if_neg (λg=>g f.1)]
 have v:((M.ae i).au b).1.cF=(M.ae i).cF:=by
  unfold Nod.au;split
  .rfl
  .split
   .rfl
   .split<;>rfl
 have a:Led i (M.ae i) ((M.ae i).lead i) b:=by
  rw[E];exact⟨t,by rw[<- l],by omega,by omega,(Ev.au _ b).up,f.2,rfl,⟨rfl,λ_ _=>rfl⟩,⟨_,mD _ (D'.2 rfl)⟩,(Bj _ b).1,v⟩
 refine⟨b,a,?_⟩;obtain⟨σ,g,A⟩:=h.ex;obtain⟨τ,G,H,w,x,y⟩:=g.step (D:=whT) (.lead M i d m trivial);refine⟨⟨τ,w,λo s c k=>?_⟩,⟨mA _,?_⟩,λj q=>?_,λj q=>?_,h.s.step (D:=⟨λ_ _=>False,True,False,False,False,False⟩) (λ_ _ e=>False.elim e) (.lead M i d m trivial)⟩
 .rcases x o s c k with k|k
  .exact mG _ (A o s c k)
  .exact absurd (y o s k).1 (by decide)
 .refine(h.kb.2.mono h.kb.1 (mA _)).set ⟨?_,by rw[a.ro];omega⟩ _ _;unfold Nod.pk;rw[if_pos (a.up.trans m),a.vo];omega
 .rw[An];split
  .exact a.up.trans m
  .exact h.up j q
 .rw[An];unfold upN;split
  .exact a.gC
  .exact h.gC j q
theorem kh{a:Int}{n:Nat}{M:Meet}(O:MOk n M){m:Nat}(hm:2<=m)(hn:n+6*m+20<=1000000)(U:∀ j,j<5->∀ s,s<40->(B j,s)∈cov)(h:Cm S K B cov M)(z:KbI a a M)(W:K<=a)(T:a<=3500)(Z:14*a+38*(cov.length:Int)<=97000){i:Nat}(q:i<5) :
  ∃ K' B' cov',K'<=a+9/\Cm S K' B' cov' (((M.act (acN 2 (i:Int))).eb Aw).eb (Al m))/\(∀ j,j<5->∀ s,s<40->(B' j,s)∈cov')/\cov'.length<=cov.length+40/\Gr8 K' ((((M.act (acN 2 (i:Int))).eb Aw).eb (Al m)).ae i)/\KbI (a+9) (a+9) (((M.act (acN 2 (i:Int))).eb Aw).eb (Al m))/\MOk (n+6*m+1) (((M.act (acN 2 (i:Int))).eb Aw).eb (Al m)):=by
 have G:=h.up i q;have hr:=z i q;have F:=(O.ae i q).ro;have d:=O.act (x:=acN 2 (i:Int)) (by omega) (ET ⟨.inl rfl,by omega,by omega⟩);obtain⟨b,y,f⟩:=h.lead (by omega) q (by omega) ⟨F.1,by omega⟩;obtain⟨σ,g,_⟩:=h.ex;have o:=z.lead g q G M.br M.ew;have H:∀ j,j<5->((M.act (acN 2 (i:Int))).ae j).up=true:=by rw[IN G];exact f.up
 rw[Hf H];rw[IN G]at d ⊢
 have u:=B1 M i ((M.ae i).lead i) M.br M.ew;generalize M.set i ((M.ae i).lead i) M.br M.ew=N at f o d u ⊢;rw[<- u]at y
 obtain⟨j,v,C⟩:=ma λj=>(N.ae j).vo.p.key;have E:∀ j,j<5->(N.ae j).vo.p.key<=a+9:=λj v=>by
  have:=(o j v).1;unfold Nod.pk at this
  rwa [if_pos (f.up j v)]at this
 have t:=E j v;have f:=f.to C (by omega);have l:∀ k,k<5->∀ s,s<40->(upN B i b k,s)∈cov++F9 b:=λk z s P=>by
  unfold upN;split
  .exact mD _ (FA b P)
  .exact mG _ (U k z s P)
 obtain⟨vs,V⟩:=y.pe;have A:=iT l d (by omega) f q v rfl y.vo y.may V;generalize (N.ae j).vo.p.key=K' at f A t;have L:∀ c X Y,Stp wh0 c X Y->(Cm S K' (upN B i b) (cov++F9 b) X/\KbI (a+9) (a+9) X)->(Cm S K' (upN B i b) (cov++F9 b) Y/\KbI (a+9) (a+9) Y):=λc X Y s g=>by
  obtain⟨σ,R,_⟩:=g.1.ex;exact⟨g.1.step l s,g.2.step (D:=wh0) (λe=>e) R s (mA _)⟩
 have J:=Di L (λX g=>⟨g.1.drop,g.2⟩) 2 d (by omega) ⟨f,o⟩;obtain⟨r,rfl⟩:∃ r,m=2+r:=⟨m-2,by omega⟩;rw[Ee,Az];have Q:N.eb (Al 2)=N.eb (Ao++Ao):=rfl;rw[<- Q]at A
 have w:=Di (I:=λX=>(Cm S K' (upN B i b) (cov++F9 b) X/\KbI (a+9) (a+9) X)/\Gr8 K' (X.ae i)) (λc X Y s g=>⟨L c X Y s g.1,g.2.ev (s.ev i)⟩) (λX g=>⟨⟨g.1.1.drop,g.1.2⟩,g.2⟩) r J.2 (by omega) ⟨J.1,A⟩;refine⟨K',_,_,t,w.1.1.1,l,?_,w.1.2,w.1.1.2,w.2.mono (by omega)⟩;rw[H'];unfold F9;rw[mR,oL];exact A' _
end
section
variable{C:List Cmd}{K:Int}{B:Nat->Bal}{cov:List (Bal × Nat)}{i:Nat}{b:Bal}{A:List Cmd}
theorem Fin_.drop{N:Meet}(f:Fin_ i A N):Fin_ i A { N with br:=[] }:=⟨f.ag,f.nx,f.hd,f.qu⟩
theorem Fin_.sO(a:PhC C K B cov i b){M:Meet}(h:PhE C K B cov i b M)(f:Fin_ i A M){j:Nat}(c:j<5)(o:A.length<=(M.ae j).ab.length):(M.ae j).ab=A:=by
 have n:=f.le a h c;obtain⟨σ,g,_⟩:=h.pb.cm.ex;refine oW (by omega) λs e k=>?_;obtain⟨l,c1⟩:=(g.nd j c).ag s _ (G' e);obtain⟨m,d⟩:=(g.nd i a.hi).ag s _ (by rw[f.ag];exact G' k);exact g.gs.sJ.agree c1 d
structure Fz(C:List Cmd)(K:Int)(B:Nat->Bal)(cov:List (Bal × Nat))(i:Nat)(b:Bal)(A:List Cmd)(M:Meet):Prop where
 l:PhL C K B cov i b M
 f:Fin_ i A M
 a:∀ j,j<5->(M.ae j).ab=A
 s:∀ j,j<5->StI (M.ae j)
theorem Fz.step(d:PhC C K B cov i b){n:Nat}{M N:Meet}(s:Stp wh0 n M N)(h:Fz C K B cov i b A M):Fz C K B cov i b A N:=by
 have e:=h.l.step d s;have g:=Fin_.step d s h.l.pe h.f;exact⟨e,g,λj c=>g.sO d e.pe c (by have:=(s.ev j).ag.length_le;rw[h.a j c]at this;exact this),StI.step s (λj c=>(h.l.pe.pb.ak j c).dn) h.s⟩
theorem Fz.drop{N:Meet}(h:Fz C K B cov i b A N):Fz C K B cov i b A { N with br:=[] }:=⟨h.l.drop,h.f.drop,h.a,h.s⟩
structure Rst(C:List Cmd)(K:Int)(B:Nat->Bal)(cov:List (Bal × Nat))(i:Nat)(b:Bal)(A:List Cmd)(M:Meet):Prop where
 z:Fz C K B cov i b A M
 d:∀ j,j<5->(M.ae j).done=A.length
theorem Pc(g:PhC C K B cov i b){n:Nat}{M N:Meet}(s:Stp wh0 n M N)(h:Fz C K B cov i b A M){j:Nat}(e:j<5)(d:(M.ae j).done=A.length):(N.ae j).done=A.length:=by
 have c:=h.step g s;have k:=(s.ev j).dn;have f:=(c.l.pe.pb.ak j e).dn;rw[c.a j e]at f
 omega
theorem Rst.step(a:PhC C K B cov i b){n:Nat}{M N:Meet}(s:Stp wh0 n M N)(h:Rst C K B cov i b A M):Rst C K B cov i b A N:=⟨h.z.step a s,λj c=>Pc a s h.z c (h.d j c)⟩
theorem WU(o:PhC C K B cov i b)(g:∀ c∈C,c.e=0){M:Meet}(h:Fz C K B cov i b A M){j:Nat}(d:j<5):((M.act (acN 3 (j:Int))).ae j).done=A.length:=by
 have n:=h.l.pe.pb.cm.up j d;have m:=(h.l.pe.pb.ak j d).dn;have k:∀ c∈(M.ae j).ab,c.e=0:=λc f=>g c ((h.l.pe.pb.cm.s.nd j d).ag c f);rw[Hg n,An,if_pos rfl,T5,cX]
 .rw[mI,h.a j d];rw[h.a j d]at m
  omega
 .rw[h.s j d];exact aZ _ λc f=>k c (mP f)
 .exact λc f=>k c (oA f)
theorem Gr8.gt{p q:Nod}{K:Int}(h:Gr8 K p)(a:Aq p.vo.p){i:Nat}{b:Bal}(l:Led i p q b):K<b.key:=by
 have:=l.gt;unfold Gr8 at h;omega
theorem ki(R:∀ c∈C,c.e=0)(hC:C.length<40){K1:Int}{n:Nat}{M:Meet}(hM:MOk n M){m:Nat}(hm:85<=m)(hn:n+6*m+20<=990000)(hc:∀ j,j<5->∀ s,s<40->(B j,s)∈cov)(h:Cm (λc=>c∈C) K B cov M)(gr:Gr8 K (M.ae i))(hk:KbI K1 K1 M)(hK:K<=K1)(a4:K1<=3510)(hQ:14*K1+38*(cov.length:Int)<=97000)(t:i<5)(hA:∀ j,j<5->AskI (M.ae j))(hS:∀ j,j<5->StI (M.ae j)) :
  ∃ K' B' cov' b A,PhC C K' B' cov' i b/\Rst C K' B' cov' i b A (((M.act (acN 2 (i:Int))).eb Aw).eb (Al m)):=by
 have hu:=h.up i t;have hr:=hk i t;have a2:=(hM.ae i t).ro;have u:=hM.act (x:=acN 2 (i:Int)) (by omega) (ET ⟨.inl rfl,by omega,by omega⟩);obtain⟨b,q,o⟩:=h.lead (by omega) t (by omega) ⟨a2.1,by omega⟩;obtain⟨σ,g,_⟩:=h.ex;have L:=AskI.step (Stp.lead (D:=whT) M i t hu trivial) g hA;have T:=StI.step (Stp.lead (D:=whT) M i t hu trivial) (λj f=>(hA j f).dn) hS;have a5:=gr.gt (h.acc t).1 q;have a6:b.key<=K1+9:=by
  have:=q.le;have:=h.le t;omega
 have a3:∀ j,j<5->((M.act (acN 2 (i:Int))).ae j).up=true:=by rw[IN hu];exact o.up
 rw[Hf a3];rw[IN hu]at u ⊢
 have G:=B1 M i ((M.ae i).lead i) M.br M.ew;have S:∀ j,j≠i->((M.set i ((M.ae i).lead i) M.br M.ew).ae j)=M.ae j:=λj f=>by rw[An,if_neg f]
 have V:QA i b (M.set i ((M.ae i).lead i) M.br M.ew):=λj f c hx=>by
  refine absurd ?_ (show ¬ b.key<=max K (M.ae i).vo.p.key by have:=q.gt;omega);by_cases e:j=i
  .rw[e,G,q.ask.2.1]at hx
   have:=(hA i t).le c b hx;omega
  .rw[S j e]at hx
   have:=(hA j f).le c b hx;have:=h.le f;omega
 have F:∀ j,j<5->j≠i->((M.set i ((M.ae i).lead i) M.br M.ew).ae j).vo.p.key<b.key:=λj f e=>by
  rw[S j e];have:=h.le f;omega
 generalize M.set i ((M.ae i).lead i) M.br M.ew=N at o u G L T V F ⊢;rw[<- G]at q
 have o:=o.to (K':=b.key) (λj f=>by
  by_cases e:j=i
  .rw[e,q.vo];exact mA _
  .have:=F j f e;omega) (by omega)
 have E:∀ k,k<5->∀ s,s<40->(upN B i b k,s)∈cov++F9 b:=λk hk s hs=>by
  unfold upN;split
  .exact mD _ (FA b hs)
  .exact mG _ (hc k hk s hs)
 have l:PhC C b.key (upN B i b) (cov++F9 b) i b:=⟨E,hC,t,q.may,q.n,Df _ _ _,rfl⟩;have y:14*b.key+38*((cov++F9 b).length:Int)<=99000:=by
  have:(cov++F9 b).length=cov.length+40:=by rw[H'];unfold F9;rw[mR,oL]
  omega
 obtain⟨vs,hq⟩:=q.pe;generalize cov++F9 b=cov' at o E l y;generalize upN B i b=B' at o E l;generalize a0:b.key=K' at o l y F;have O:PhB C K' B' cov' i b N:=⟨o,L,q.vo⟩;obtain⟨p1,p2,p3,p4,p5,p6,p7⟩:=ey E y u (by omega) o t q.may a0 l.hB q.vo F hq q.p1;obtain⟨q1,q2,_,_⟩:=Rj l u (by omega) O V;have U:=Di (I:=λX=>PhB C K' B' cov' i b X/\∀ j,j<5->StI (X.ae j)) (λc X Y s g=>⟨g.1.step l s,StI.step s (λj f=>(g.1.ak j f).dn) g.2⟩) (λX g=>⟨⟨g.1.cm.drop,g.1.ak,g.1.vi⟩,g.2⟩);have H:∀ a X k,MOk k X->k+6*a<=1000000->PhB C K' B' cov' i b X->(∀ j,j<5->StI (X.ae j))->∀ j,j<5->StI ((X.eb (Al a)).ae j):=λa X k h1 h2 h3 h4=>(U a h1 h2 ⟨h3,h4⟩).1.2;clear U;have s1:=H 1 N _ u (by omega) O T;rw[show Al 1=Ao from rfl]at s1
 obtain⟨r1,r2,r3,r4⟩:=ez l p7 (by omega) q1 (λj f c e=>.inl (q2 j f c e)) p2 p3 p4 p5 p6;have s2:=H 1 _ _ p7 (by omega) q1 s1;rw[show Al 1=Ao from rfl]at s2
 obtain⟨W,t1,t2,t3,t4,t5⟩:=iC l y R 81 r4 (by omega) r1 r2 r3 (by unfold mu;split<;>omega);have s3:=H W _ _ r4 (by omega) r1.pe.pb s2;obtain⟨r,rfl⟩:∃ r,m=1+(1+(W+(1+(1+r)))):=⟨m-W-4,by omega⟩;rw[Ee,Az,Ee,Az,Ee,Az,Ee,Az,Ee,Az];simp only[show Al 1=Ao from rfl];generalize (((N.eb Ao).eb Ao).eb (Al W))=X at t2 t3 t4 t5 s3 ⊢;generalize (X.ae i).ab=A at t2;obtain⟨u1,u2⟩:=MX l t5 (by omega) t3 t4;rw[t2.ag]at u2
 have v:=Di (I:=λY=>PhL C K' B' cov' i b Y/\Fin_ i A Y/\∀ j,j<5->StI (Y.ae j)) (λc Y Z s g=>⟨g.1.step l s,Fin_.step l s g.1.pe g.2.1,StI.step s (λj f=>(g.1.pe.pb.ak j f).dn) g.2.2⟩) (λY g=>⟨g.1.drop,g.2.1.drop,g.2.2⟩) 1 t5 (by omega) ⟨t3,t2,s3⟩;rw[show Al 1=Ao from rfl]at v
 obtain⟨⟨v1,v2,v3⟩,v4⟩:=v;have w:Fz C K' B' cov' i b A (X.eb Ao):=⟨v1,v2,λj f=>v2.sO l v1.pe f (u2 j f),v3⟩;generalize X.eb Ao=Y at w v4 ⊢;have x:Rst C K' B' cov' i b A (Y.eb Ao):=by
  have hz:=Di (λc Y Z s g=>Fz.step l s g) (λY g=>Fz.drop g) 1 v4 (by omega) w;rw[show Al 1=Ao from rfl]at hz
  refine⟨hz.1,λj f=>?_⟩;have a:=Bm (λc A N s g=>Fz.step l s.calm g) v4 (by omega) w;have d:=MK (J:=λZ=>(Z.ae j).done=A.length) (λc A N s g=>Fz.step l s.calm g) (λc A N s g d=>Pc l s.calm g f d) v4 (by omega) w f λZ _ _ _ g _=>WU l R g f;rw[EC];obtain⟨Z,k1,k2,_⟩:=Cv (I:=λZ=>Fz C K' B' cov' i b A Z/\(Z.ae j).done=A.length) (λP Q s g=>⟨g.1.step l s.rN,Pc l s.rN g.1 f g.2⟩) a.1 ⟨a.2,d⟩;rw[k1];exact k2.2
 have a1:MOk (n+1+6+6+6*W+6*1+6*1) (Y.eb Ao):=(Di (λc Y Z s g=>Fz.step l s g) (λY g=>Fz.drop g) 1 v4 (by omega) w).2;exact⟨K',B',cov',b,A,l,(Di (λc Y Z s g=>Rst.step l s g) (λY g=>⟨g.z.drop,g.d⟩) r a1 (by omega) x).1⟩
end
def lf(l:List Int):Cmd:=⟨Ac (unQ l) 0,Ac (unQ l) 4,Ac (unQ l) 8,Ac (unQ l) 12,Ac (unQ l) 16⟩
theorem kx{l:List Int}{a:Int}(h:opE l a=0):unE l=0:=by
 unfold opE at h;split at h
 .rename_i g;exact absurd h g
 .rename_i g;exact mE.1 g
theorem lh{l:List Int}(h:unE l=0):(lf l).e=0:=by
 have:=(RG h).2;unfold Cy at this;split at this
 .cases this
 .exact this
def KR(L:List Lac):List Cmd:=(L.filter λx=>decide (x.k=1/\unE x.d=0)).map λx=>lf x.d
theorem fg{L:List Lac}{x:Lac}(c:x∈L)(b:x.k=1){a:Int}(h:opE x.d a=0):Hp x.d a∈KR L:=by
 refine mS.2 ⟨x,pK.2 ⟨c,O' ⟨b,kx h⟩⟩,?_⟩;unfold Hp;rw[if_pos h];rfl
theorem jt(L:List Lac):∀ c∈KR L,c.e=0:=λc a=>by
 obtain⟨x,b,rfl⟩:=mS.1 a;exact lh (mZ (pK.1 b).2).2
theorem X8(L:List Lac)(e:∀ x∈L,LacOk x)(k:L.length<=100000):(∀ j,j<5->AskI ((AH.eb L).ae j))/\∀ j,j<5->StI ((AH.eb L).ae j):=by
 have s:Sts whT L.length AH (AH.eb L):=PV L MOk.zero (by omega) λx i=>⟨e x i,fS x⟩;exact(s.inv (I:=λM=>(∃ σ,AgI σ M)/\(∀ j,j<5->AskI (M.ae j))/\∀ j,j<5->StI (M.ae j)) (λc M N h ⟨⟨σ,g⟩,a,b⟩=>by
  obtain⟨τ,_,_,d,_⟩:=g.step h;exact⟨⟨τ,d⟩,AskI.step h g a,StI.step h (λj f=>(a j f).dn) b⟩) ⟨⟨_,AgI.zero⟩,AskI.zero,StI.zero⟩).2
theorem dO(L M:List Lac):lds (L++M)=lds L+lds M:=by unfold lds;rw[pL]
theorem settled(L:List Lac)(v:∀ x∈L,LacOk x)(a2:9*lds L<=3480)(n:(KR L).length<40)(hq:126*lds L+38*L.length<=85000)(m:Nat)(hm:85<=m)(hl:L.length+12*m<=99000){i:Nat}(O:i<5) :
  ∃ K B cov b A,PhC (KR L) K B cov i b/\Rst (KR L) K B cov i b A (AH.eb (L++(Cz m (i:Int)++Cz m (i:Int)))):=by
 have C:∀ x∈Cz m (i:Int),LacOk x:=λx hx=>by
  rcases U'.1 hx with hx|hx
  .rcases U'.1 hx with hx|hx
   .exact Lo 0 x hx
   .rw[D'.1 hx];exact ET ⟨.inl rfl,by omega,by omega⟩
  .exact Lo m x hx
 have a0:(Cz m (i:Int)).length=6*m+11:=by
  have V:∀ m,(BY m).length=5+6*m:=λm=>by unfold BY;rw[H',Ii];rfl
  unfold Cz;simp only[H',V,nE];omega
 have l:∀ x∈L++Aw,LacOk x:=λx hx=>(U'.1 hx).elim (v x) λe=>Lo 0 x (mG _ e);have a1:(L++Aw).length=L.length+5:=by rw[H'];rfl
 have t:∀ j,j<5->((AH.eb (L++Aw)).ae j).up=true:=λj z=>by
  have:=jh L v 0 (by omega) z
  rwa [show BY 0=Aw from mV _]at this
 have Y:∀ x∈L++Aw,x.k=1->∀ o:Nat,opE x.d (o:Int)=0->Hp x.d (o:Int)∈KR L:=λx hx H o h=>by
  rcases U'.1 hx with e|e
  .exact fg e H h
  .obtain⟨k,_,rfl⟩:=mS.1 e;exact absurd H (by show(9:Int)≠1;decide)
 have g:=gJ (S:=λc=>c∈KR L) (L++Aw) l (by omega) Y;obtain⟨τ,cov,_,J,u,w,y⟩:=WK (L++Aw) MOk.zero (by omega) l AgI.zero KbI.zero (cov:=[]) (λb s c h=>h.elim);rw[show lds (L++Aw)=lds L by rw[dO];rfl,Int.zero_add]at u
 have r:=PU (L++Aw) l (by omega);have F:AH.eb (L++(Cz m (i:Int)++Cz m (i:Int)))=(((((((AH.eb (L++Aw)).act (acN 2 (i:Int))).eb Aw).eb (Al m)).eb Aw).act (acN 2 (i:Int))).eb Aw).eb (Al m):=by
  have e:∀ X:Meet,X.eb (Cz m (i:Int))=(((X.eb Aw).act (acN 2 (i:Int))).eb Aw).eb (Al m):=λX=>by
   unfold Cz;rw[Az,show BY 0=Aw from mV _,AI];unfold BY;rw[Az]
  rw[Az,Az,e,e,Az]
 rw[F];have G:((((AH.eb (L++Aw)).act (acN 2 (i:Int))).eb Aw).eb (Al m))=AH.eb (L++Cz m (i:Int)):=by
  rw[Az _ L (Cz m (i:Int)),Az _ L Aw];unfold Cz;rw[Az,show BY 0=Aw from mV _,AI];unfold BY;rw[Az]
 have a:=X8 (L++Cz m (i:Int)) (λx hx=>(U'.1 hx).elim (v x) (C x)) (by rw[H'];omega);rw[<- G]at a
 clear F G;generalize AH.eb (L++Aw)=M at t g J u r a ⊢;obtain⟨q,f⟩:∃ q,cov++(F9 (M.ae 0).av.gC++(F9 (M.ae 1).av.gC++(F9 (M.ae 2).av.gC++(F9 (M.ae 3).av.gC++F9 (M.ae 4).av.gC))))=q:=⟨_,rfl⟩;have I:q.length<=L.length+205:=by
  rw[<- f];simp only[H',F9,mR,oL];simp only[List.length_nil]at w;omega
 have Z:∀ j,j<5->∀ s,s<40->((M.ae j).av.gC,s)∈q:=λj z s n=>by
  rw[<- f];refine mD _ ?_;simp only[U'];rcases rk z with rfl|rfl|rfl|rfl|rfl
  .exact .inl (FA _ n)
  .exact .inr (.inl (FA _ n))
  .exact .inr (.inr (.inl (FA _ n)))
  .exact .inr (.inr (.inr (.inl (FA _ n))))
  .exact .inr (.inr (.inr (.inr (FA _ n))))
 have W:Cm (λc=>c∈KR L) (9*(lds L:Int)) (λj=>(M.ae j).av.gC) q M:=⟨⟨τ,J,λb s c h=>by rw[<- f];exact mG _ (y b s c h)⟩,⟨by omega,u.mono (mA _) (by omega)⟩,t,λ_ _=>rfl,g⟩;obtain⟨K',B',E,k1,D,k3,k4,P,Q,R⟩:=kh r (m:=m) (by omega) (by omega) Z W u (mA _) (by omega) (by omega) O;generalize (((M.act (acN 2 (i:Int))).eb Aw).eb (Al m))=N at D P Q R a ⊢;rw[Hf D.up];obtain⟨U,T,p,b,A,z1,z2⟩:=ki (jt L) n R hm (by omega) k3 D P Q (by omega) (by omega) (by omega) O a.1 a.2;exact⟨U,T,p,b,A,z1,z2⟩
section
variable{C:List Cmd}{K:Int}{B:Nat->Bal}{cov:List (Bal × Nat)}{i:Nat}{b:Bal}{A:List Cmd}
theorem Rst.log{N:Meet}(r:Rst C K B cov i b A N){j:Nat}(c:j<5):N.log j=A:=by unfold Meet.log;rw[r.z.a j c,r.d j c,oz]
theorem Rst.still(f:PhC C K B cov i b){n m:Nat}{N:Meet}(e:MOk n N)(h:n+6*m<=1000000)(r:Rst C K B cov i b A N):Rst C K B cov i b A (N.eb (BY m))/\(N.eb (BY m)).ew=N.ew:=by
 have:=Di (I:=λX=>Rst C K B cov i b A X/\X.ew=N.ew) (λc X Y s g=>⟨g.1.step f s,by
  rw[<- g.2];cases s with
  | one _ k c hi hu hc he =>
   rw[g.1.z.a k hi,g.1.d k hi,nX (A' _)]at hc
   cases hc
  | sub _ k d hi hu hD=>exact False.elim hD
  | _=>rfl⟩) (λX g=>⟨⟨g.1.z.drop,g.1.d⟩,g.2⟩) m e h ⟨r,rfl⟩
 unfold BY;rw[Az,Hf r.z.l.pe.pb.cm.up];exact this.1
end
theorem be(L:List Lac):(KR L).length<=L.countP λx=>decide (x.k=1):=by
 unfold KR;rw[mR,<- List.countP_eq_length_filter];exact List.countP_mono_left λx _ h=>O' (mZ h).1
theorem aH(G:List Gr)(m:Nat)(a:Bool):(scr G m a).countP (λx=>decide (x.k=1))<=6:=by
 have key:∀ (l:List Gr) (s:Nat),(MD a s l).countP (λx=>decide (x.k=1))<=6-s:=by
  intro l;induction l with
  | nil=>exact λs=>mW _
  | cons g l ih =>
   intro s;rw[MD,px];unfold WP eV;generalize Pf g a=x;by_cases h:x.k=1
   .have:=ih (s+1);by_cases b:6<s+1
    .rw[if_pos h,if_pos (⟨h,b⟩:x.k=1/\6<s+1),if_neg (by decide)];omega
    .rw[if_pos h,if_neg (λe:x.k=1/\6<s+1=>b e.2),if_pos (O' h)];omega
   .have:=ih s;rw[if_neg h,if_neg (λe:x.k=1/\6<s+1=>h e.1),if_neg (λe=>h (mZ e))];omega
 exact key _ 0
theorem iD(L:List Lac):lds L<=L.length:=List.countP_le_length
theorem fc(L:List Lac)(a:∀ x∈L,LacOk x)(g:L.length<=380)(h:L.countP (λx=>decide (x.k=1))<40){i:Nat}(c:i<5) :
  ∃ K B cov b A,PhC (KR L) K B cov i b/\Rst (KR L) K B cov i b A (AH.eb (L++Iu L (i:Int))):=by
 have d:=iD L;have e:(L.filter hvy).length<=L.length:=pi _ _;have f:=be L;exact settled L a (by omega) (by omega) (by omega) (Fp L) (by unfold Fp;omega) (by unfold Fp;omega) c
end
section
open Go.RowKit
theorem PT{n a c:Int}{w:World}(h:I64 n)(d:pick n a=c)(f:0<a:=by decide)(b:a<=9223372036854775807:=by decide) :
  Calls prog 6 #[iv n,iv a] w λe w'=>e=.returned (iv c)/\Bw w w':=by subst d;exact Co h a f b
theorem MV{l:S3}{G:List Gr}{ld mo:Int}{w:World}(h:RdV w l 5 (grL G))(hG:∀ g∈G,GrOk g)(b3:I64 ld)(b5:I64 mo)(hT:X1 w) :
  Calls prog 3 #[l.v,iv ld,iv mo] w λe w'=>e=.returned (.bool true)/\Bw w w':=by
 obtain⟨L,hL⟩:∃ L,scr G 60 true=L:=⟨_,rfl⟩;have X:=jl G 60 true;have b4:=eX G 60 true;have b0:=aH G 60 true;rw[hL]at X b4 b0
 have hr:=Bf ld 5 (by omega);have e3:=Bf mo 20 (by omega);obtain⟨n,hn,b7⟩:∃ n:Nat,pick ld 5=(n:Int)/\n<5:=⟨(pick ld 5).toNat,by omega,by omega⟩;obtain⟨q,hq,e2⟩:∃ n:Nat,pick mo 20=(n:Int)/\n<20:=⟨(pick mo 20).toNat,by omega,by omega⟩;have e1:=aP L (n:Int);have b9:∀ x∈Iu L (n:Int),LacOk x:=Rw (λn hn=>ET ⟨.inr (.inr rfl),by omega,by omega⟩) (λn hn=>ET ⟨.inr (.inl rfl),by omega,by omega⟩) (by rw[<- DC];decide) (ET ⟨.inl rfl,by omega,by omega⟩) L;have o:∀ x∈L++Iu L (n:Int),LacOk x:=λx hx=>(U'.1 hx).elim (X x) λe=>b9 x e;have W:(L++Iu L (n:Int)).length<=100000:=by rw[H'];omega
 obtain⟨K,B,d6,b,A,hh,hR⟩:=fc L X (by omega) (by omega) b7;have a8:(L++Iu L (n:Int)).length<=20000:=by rw[H'];omega
 have O:=hR.still hh (m:=q) (PU _ o W) (by omega);obtain⟨S,hS⟩:∃ S,L++Iu L (n:Int)=S:=⟨_,rfl⟩;rw[hS]at o W hR O a8
 have e4:=Fu q;have a2:∀ x∈S++BY q,LacOk x:=λx hx=>(U'.1 hx).elim (o x) (Lo q x);have b1:(S++BY q).length<=100000:=by rw[H'];omega
 have V:∀ j,j<5->(AH.eb S).log j=A:=λj R=>hR.log R;have p:∀ j,j<5->(AH.eb (S++BY q)).log j=A:=λj R=>by rw[Az];exact O.1.log R
 have Y:(AH.eb (S++BY q)).ew=(AH.eb S).ew:=by rw[Az];exact O.2
 have Z:∀ j,j<5->((AH.eb S).ae j).up=true:=hR.z.l.pe.pb.cm.up;clear hR hh O;obtain⟨N,a0⟩:∃ N,AH.eb S=N:=⟨_,rfl⟩;obtain⟨M,hM⟩:∃ N,AH.eb (S++BY q)=N:=⟨_,rfl⟩;rw[a0]at V Z Y
 rw[hM]at p Y
 refine tIn [] func3 trivial (tR 7 [] λe5 _ _=>tC 1 (λF C=>WQ (most:=60) (cr:=true) (h.af (CgQ.af C)) hG (by decide) (tbA hT.1 C)) λH=>?_);rintro _ _ ⟨s,P,rfl,hP,hN,b2⟩;refine⟨_,Fa.ac s P::_,rfl,b2,λF=>⟨hN.ac H,F⟩,?_⟩;rw[hL]at hP
 have d7:P.length=L.length:=by rw[<- hP,mR]
 refine tR 1 [] λe6 _ _=>tC1 3 (λF C=>PT b3 hn) λ_=>tC 4 (λF C=>TL (n:=(n:Int)) (AcR.of F.1 hP) (by omega)) λH=>?_;rintro _ _ ⟨z,rfl,hz,b6⟩;refine⟨_,[Fa.ac z (P++rnP (Iu L (n:Int)))],rfl,b6,λF=>⟨⟨hz.fz H,Dat.app F.1.2 (Lm _ _ (Rw (P:=λa=>a.d=[]) (λ_ _=>rfl) (λ_ _=>rfl) rfl rfl L))⟩,trivial⟩,?_⟩;have I:(P++rnP (Iu L (n:Int))).map (·.1)=S:=by rw[mX,hP,UY,hS]
 generalize P++rnP (Iu L (n:Int))=Q at I ⊢;have d8:Q.length=S.length:=by rw[<- I,mR]
 refine tR 5 [] λe7 _ _=>tC 1 (λF C=>ai (AcR.of F.1 I) o W (tb5 hT C) a0) λH=>?_;rintro _ _ ⟨D,tv,E,rfl,hW,hO,b8⟩;refine⟨_,Fa.ot D tv E N::_,rfl,b8,λF=>⟨Pw hW hO H,F⟩,?_⟩;refine tR 11 [1,0,0,0] λc _ _=>tC1 2 (λF C=>PT b5 hq) λ_=>tC 3 (λF C=>JK (many:=q) (AcR.of F.2.1 rfl).r (AcR.of F.2.1 rfl).d (by omega)) λH=>?_;rintro _ _ ⟨v,rfl,hv,a5⟩;refine⟨_,Fa.ac v (Q++rnP (BY q))::_,rfl,a5,λF=>⟨⟨hv.fz H,Dat.app F.2.1.2 (Lm _ _ (TF _))⟩,F⟩,?_⟩;have a1:(Q++rnP (BY q)).map (·.1)=S++BY q:=by rw[mX,I,UY]
 refine tC 4 (λF C=>ai (AcR.of F.1 a1) a2 b1 (tb5 hT C) hM) λH=>?_;rintro _ _ ⟨lz,T,U,rfl,a9,a7,a6⟩;refine⟨_,[Fa.ot lz T U M,Fa.ot D tv E N],rfl,a6,λF=>⟨Pw a9 a7 H,F.2.1,trivial⟩,?_⟩;refine tF λF _=>?_;have d9:=(Px F.2.1).n5;obtain⟨bl,fl,al,_⟩:=F.2.1.rP.rd.spot (i:=0) (by omega);have e0:=(Px F.1).n5;obtain⟨bm,fm,am,_⟩:=F.1.rP.rd.spot (i:=0) (by omega);have a3:∀ j,j<5->(E j).n=A.length:=λj R=>by rw[jT (F.2.1.log j R).rd,V j R]
 have a4:∀ j,j<5->(U j).n=A.length:=λj R=>by rw[jT (F.1.log j R).rd,p j R]
 have c0:tv.n=T.n:=by rw[gv F.2.1.ew.rd,gv F.1.ew.rd,Y]
 refine tR 26 [1,0,1,0,0,1] λf _ _=>tI (((tv.n:Int) != (T.n:Int))) false (by rw[c0];simp) (tR 7 [] λc1 _ _=>EN 70 [(8,pt (c 0) 0),(10,pt (f 0) 0),(12,iv 0)] [true,true] [⟨(c 0),.cells #[iv (N.br.length:Int),.bool (N.ae 0).up,.bool (N.ae 1).up,.bool (N.ae 2).up,.bool (N.ae 3).up,.bool (N.ae 4).up,S3.v D,iv ((N.ae 0).bad:Int),iv ((N.ae 1).bad:Int),iv ((N.ae 2).bad:Int),iv ((N.ae 3).bad:Int),iv ((N.ae 4).bad:Int),S3.v tv] 32,.l,false⟩,⟨(f 0),.cells #[iv (M.br.length:Int),.bool (M.ae 0).up,.bool (M.ae 1).up,.bool (M.ae 2).up,.bool (M.ae 3).up,.bool (M.ae 4).up,S3.v lz,iv ((M.ae 0).bad:Int),iv ((M.ae 1).bad:Int),iv ((M.ae 2).bad:Int),iv ((M.ae 3).bad:Int),iv ((M.ae 4).bad:Int),S3.v T] 32,.l,false⟩] [Fa.ot lz T U M,Fa.ot D tv E N] (λkk ee LL u=>∃ (i:Nat),kk=5-i/\ee=[(8,pt (c 0) 0),(10,pt (f 0) 0),(12,iv (i:Int))]/\LL=[⟨(c 0),.cells (Hq N D tv) 32,.l,false⟩,⟨(f 0),.cells (Hq M lz T) 32,.l,false⟩]/\u=[Fa.ot lz T U M,Fa.ot D tv E N]/\i<=5) (5) ⟨0,rfl,rfl,rfl,rfl,by omega⟩ (λF=>⟨F.1,F.2.1,trivial⟩) ?_);rintro k _ _ _ ⟨i,rfl,rfl,rfl,rfl,hi⟩ _ _ _ J hJ;refine tR 6 [] λc2 _ _=>?_;by_cases h1:i<5
 .refine tI ((decide ((i:Int)<5))) true (O' (by omega)) (tR 8 [20,0,2,0,4] λc3 _ _=>tT 3 (pt bl (fl+i)) (λ_=>(gm al i (by omega))) (tR 3 [12,14,1,16] λc4 _ _=>tT 9 (pt bm (fm+i)) (λ_=>(gm am i (by omega))) (KS 70 (λee LL u=>∃ (_:Unit),ee=[(8,pt (c 0) 0),(10,pt (f 0) 0),(12,iv (i:Int)),(69,.bool false)]/\LL=[⟨(c 0),.cells (Hq N D tv) 32,.l,false⟩,⟨(f 0),.cells (Hq M lz T) 32,.l,false⟩]/\u=[Fa.ot lz T U M,Fa.ot D tv E N]) (λJ hJ=>?_) ?_)))
  .refine PG 4 10 ?_ ?_
   .refine tV 4 (S3.v (E i)) (λF C=>(Dc underlying35 rfl (Lj F.2.1.rP.rd al (by omega)))) (tR 1 [10] λc5 _ _=>tV 10 (S3.v (U i)) (λF C=>(Dc underlying35 rfl (Lj F.1.rP.rd am (by omega)))) (tR 1 [22] λc6 _ _=>tT 12 (.bool false) (λ_=>(G9 (t:=3) (m:=((E i).n:Int)) (n:=((U i).n:Int)) (x:=(.tmp 55)) (y:=(.tmp 61)) (by rw[a3 i (by omega),a4 i (by omega)];simp))) (tR 3 [26,28,30] λc7 _ _=>tT 16 (pt (c 0) (1+i)) (λ_=>(ZV (by omega))) (tW 17 (.bool true) (λF K=>Dc underlying4 rfl (lw K 0 (c 0) (Hq N D tv).toList 32 .l false (by kernel_rfl) (gf (by omega) (Z i (by omega))))) (tR 3 [36,38] λc8 _ _=>tD hJ [true,true] ⟨(),rfl,rfl,rfl⟩ (λF=>⟨F.1,F.2.1,trivial⟩))))))
   .refine tV 10 (S3.v (U i)) (λF C=>(Dc underlying35 rfl (Lj F.1.rP.rd am (by omega)))) (tR 1 [22] λc9 _ _=>tV 4 (S3.v (E i)) (λF C=>(Dc underlying35 rfl (Lj F.2.1.rP.rd al (by omega)))) (tR 1 [10] λd0 _ _=>tT 12 (.bool false) (λ_=>(G9 (t:=3) (m:=((E i).n:Int)) (n:=((U i).n:Int)) (x:=(.tmp 55)) (y:=(.tmp 61)) (by rw[a3 i (by omega),a4 i (by omega)];simp))) (tR 3 [26,28,30] λd1 _ _=>tT 16 (pt (c 0) (1+i)) (λ_=>(ZV (by omega))) (tW 17 (.bool true) (λF K=>Dc underlying4 rfl (lw K 0 (c 0) (Hq N D tv).toList 32 .l false (by kernel_rfl) (gf (by omega) (Z i (by omega))))) (tR 3 [36,38] λd2 _ _=>tD hJ [true,true] ⟨(),rfl,rfl,rfl⟩ (λF=>⟨F.1,F.2.1,trivial⟩))))))
  rintro _ _ _ ⟨_,rfl,rfl,rfl⟩ _ _ _;refine tR 5 [] λd3 _ _=>tV 1 (iv ((i:Int)+1)) (λF C=>(Bg 48 (i:Int) underlying3 (by omega))) (tR 2 [] λd4 _ _=>tB hJ (5-(i+1)) (by omega) [true,true] ⟨i+1,rfl,rfl,rfl,rfl,by omega⟩ (λF=>⟨F.1,F.2.1,trivial⟩))
 .refine tI ((decide ((i:Int)<5))) false (E' (by omega)) (tR 5 [] λd5 _ _=>tE (.bool true) λ_ B=>⟨rfl,B⟩)
end
section
open Go.RowKit Go.ChangeShapes Go.WideShapes Go.ChangeAt
section
variable{H:Type}{W:World}{base fuel n:Nat}{cs:List Value}{held:Bool}
theorem PL{P:Program}{b:TypeId × Value->H}{w:World}{a:Nat->Bool}{t:TypeId}{c d e f g:Field}{x:DataW H × List MemPlace}(l:P.underlying t=some (.struct #[c,d,e,f,g]))(h:DataW.trod b P w base a held fuel t cs=some x) :
  ∃ y0 y1 y2 y3 y4 n,x=(.agg [y0.1,y1.1,y2.1,y3.1,y4.1],y0.2++(y1.2++(y2.2++(y3.2++y4.2))))/\cs.length=P.cellsOf t/\DataW.trod b P w base a held n c.type ((cs.drop c.offset).take (P.cellsOf c.type))=some y0 /\
   DataW.trod b P w base a held n d.type ((cs.drop d.offset).take (P.cellsOf d.type))=some y1/\DataW.trod b P w base a held n e.type ((cs.drop e.offset).take (P.cellsOf e.type))=some y2 /\
   DataW.trod b P w base a held n f.type ((cs.drop f.offset).take (P.cellsOf f.type))=some y3/\DataW.trod b P w base a held n g.type ((cs.drop g.offset).take (P.cellsOf g.type))=some y4:=by
 obtain⟨m,n,_,rfl,k,j,i⟩:=DataW.trod_struct l h
 match m,j with
 | [y0,y1,y2,y3,y4],_=>exact⟨y0,y1,y2,y3,y4,n,by simp,k,by simpa using i 0 c rfl,by simpa using i 1 d rfl,by simpa using i 2 e rfl,by simpa using i 3 f rfl,by simpa using i 4 g rfl⟩
theorem gZ:prog.cellsOf 3=1:=by kernel_rfl
theorem Ma{n:Int}(h:(Lit.int .i64 n).wf=true):I64 n:=by have:=bounds_i64 h;unfold I64;omega
instance:Inhabited Gr:=⟨⟨0,0,0,0,0⟩⟩
theorem i5{a:TypeId × Value->H}{t:Nat->Bool}{x:DataW H × List MemPlace}(h:DataW.trod a prog W base t held fuel 42 cs=some x):∃ g,cs=grV g/\GrOk g:=by
 obtain⟨A,B,C,D,E,m,_,o,i,j,k,l,n⟩:=PL underlying42 h;rw[show prog.cellsOf 42=5 by kernel_rfl]at o
 simp only[gZ]at i j k l n
 match cs,o with
 | [c0,c1,c2,c3,c4],_ =>
  obtain⟨a0,b,_,u⟩:=DataW.trod_int underlying3 i;obtain⟨p,c,_,v⟩:=DataW.trod_int underlying3 j;obtain⟨q,d,_,w⟩:=DataW.trod_int underlying3 k;obtain⟨r,e,_,y⟩:=DataW.trod_int underlying3 l;obtain⟨s,f,_,z⟩:=DataW.trod_int underlying3 n;simp at b c d e f;subst b c d e f;exact⟨⟨a0,p,q,r,s⟩,rfl,Ma u,Ma v,Ma w,Ma y,Ma z⟩
theorem iz{f:Nat->Gr}{i j:Nat}{u:Value}(h:(((List.range n).map f).flatMap grV)[j]?=some u)(d:i=j/5):∃ q,j=5*i+q/\i<n/\(grV (f i))[q]?=some u:=by
 subst d;have b:j<(((List.range n).map f).flatMap grV).length:=(V'.1 h).1;rw[Fk (f:=grV) (sz:=5) (λ_=>rfl),mR,oL]at b
 have hin:j/5<n:=by omega
 refine⟨j%5,by omega,hin,?_⟩;obtain⟨v,c⟩:∃ v,(grV (f (j/5)))[j%5]?=some v:=⟨_,G' (by show j%5<5;omega)⟩;have:=Lh (f:=grV) (sz:=5) (λ_=>rfl) ((List.range n).map f) (i:=j/5) (j:=j%5) (a:=f (j/5)) (by simp[hin]) c;rw[show 5*(j/5)+j%5=j by omega,h]at this
 rw[c];exact this.symm
theorem YD{z:TypeId × Value->H}{a:Option Addr}{c:Nat}{d:DataW H}{p:List MemPlace}(F:DataW.trod z prog W 0 (λ_=>true) true fuel 22 [.slice a n c]=some (d,p)):∃ G,RdV W ⟨a,n,c⟩ 5 (grL G)/\∀ g∈G,GrOk g:=by
 rcases Deep.open_slice underlying22 F with⟨l,_⟩|⟨a',len,cap,m,k,D,Pl,l,hb,hl,hm,hmm,hx,hel⟩
 .simp at l;obtain⟨rfl,rfl,rfl⟩:=l;exact⟨[],⟨rfl,A' _,λ_=>rfl,.inl rfl⟩,λg w=>by cases w⟩
 .simp at l;obtain⟨rfl,rfl,rfl⟩:=l;simp only[if_true]at hmm;rw[show prog.cellsOf 42=5 by kernel_rfl]at hel
  have hin:∀ i,i<n->∃ g,(∀ j u,(grV g)[j]?=some u->W.cell? ((a'.add (i*5)).add j)=some u)/\GrOk g:=by
   intro i x;obtain⟨B,l,C⟩:=hel i (by omega);obtain⟨g,rfl,w⟩:=i5 C;obtain⟨_,_,E⟩:=World.cells?_some l;refine⟨g,λj u y=>?_,w⟩;have A:j<5:=(V'.1 y).1;rw[E j A,y]
  obtain⟨f,s⟩:=Deep.choose_lt hin;refine⟨(List.range n).map f,⟨by rw[show(grL ((List.range n).map f)).length=_ from Fk (f:=grV) (sz:=5) (λ_=>rfl) _,mR,oL],hl,(λh=>by cases h),?_⟩,λg w=>?_⟩
  .by_cases h0:n=0
   .exact .inl h0
   .right;obtain⟨b,v,spot⟩:=a';have r:=(s 0 (by omega)).1 0 _ rfl;have t:spot=none:=by simpa[Addr.add]using World.cell?_spot r
    subst t;have e:∀ o k,(⟨b,o,none⟩:Addr).add k=⟨b,o+k,none⟩:=λo k=>by unfold Addr.add;split<;>simp_all
    refine⟨b,v,rfl,?_,λj u y=>?_⟩
    .rw[e,e]at r
     exact World.block_lt_of_cell? W _ r
    .obtain⟨q,hq,x,hu⟩:=iz y rfl;have:=(s (j/5) x).1 q u hu;rw[e,e]at this
     rw[show v+j=v+j/5*5+q by omega];exact this
  .obtain⟨i,x,rfl⟩:=mS.1 w;exact(s i (oc.1 x)).2
end
end
section
open Go.ChangeShapes Go.WideShapes Go.ChangeAt Go.RowKit
section
theorem I2(H:Type)(k:TypeId × Value->H)(W:World)(n:Nat)(a:Array Value)(s B:List (DataW H))(c:List MemPlace)(b:∀ (j:Nat) t v,f3.params[j]?=some t->a[j]?=some v->Value.okWide prog W .any n t v)(E:DataW.Whole k prog f3.params.toList Rows.topSteadySpec.vars false W a.toList s B c)(y:(DataW.weightsEach prog (f3.params.toList++Rows.topSteadySpec.plain.varTypes prog) (s++B)).all (·<=reachBytes)=true)(U:laidMetH prog Rows.topSteadyRow.laid W) :
  Calls prog 3 a W λe W'=>∃ v,e=.returned v/\Rows.topSteadySpec.post k prog f3 false true false false W a v W':=by
 have u:=E;obtain⟨p,q,r,V,rfl,Z,a3⟩:=E;have D:DataW.TrodAll k prog W 0 (λ_=>true) true f3.params.toList a.toList s p:=r;rw[params3]at D b y
 obtain⟨I,a4,d0,P,p0,q0,w,rfl,rfl,C,r0⟩:=trodAll_cons D;obtain⟨J,a5,d1,Q,p1,q1,rfl,rfl,rfl,S,r1⟩:=trodAll_cons r0;obtain⟨K,a6,d2,R,p2,q2,rfl,rfl,rfl,T,r2⟩:=trodAll_cons r1;obtain⟨rfl,rfl,rfl⟩:=trodAll_nil r2;obtain rfl:a=#[I,J,K]:=by cases a;simp_all
 obtain⟨rfl,rfl⟩:=trodVars_none V;obtain⟨a0,i,d,rfl⟩:=okWide_slice underlying22 (b 0 22 I rfl rfl);have F:=C;have z:∀ x∈p0,x.block<W.heap.size:=by obtain⟨m,hm⟩:=F;exact DataW.trod_lt m _ _ _ hm
 obtain⟨l0,w0,i0⟩:∃ G,RdV W ⟨a0,i,d⟩ 5 (grL G)/\∀ g∈G,GrOk g:=by obtain⟨A,Y⟩:=C;exact YD Y
 obtain⟨N,rfl,rfl,rfl,L⟩:=open_int underlying3 (b 1 3 J rfl rfl) S;have b1:=bounds_i64 L;obtain⟨O,rfl,rfl,rfl,M⟩:=open_int underlying3 (b 2 3 K rfl rfl) T;have b2:=bounds_i64 M;clear r;refine(MV (l:=⟨a0,i,d⟩) (ld:=N) (mo:=O) w0 i0 ⟨by omega,by omega⟩ ⟨by omega,by omega⟩ (mt U)).mono λe W' ⟨X,o⟩=>?_;subst X;exact⟨_,rfl,_,_,_,[],_,[],u,trodAll_mk1 (shut_bool underlying4 _),(trodAll_cons_mk (Below.trod dN (by kernel_rfl) (mZ (by kernel_rfl)) F o z) (trodAll_cons_mk (shut_int underlying3 L) (trodAll_cons_mk (shut_int underlying3 M) trodAll_mk0))),rfl,o.frame _,λh=>by cases h⟩
variable{W:World}{os:Os}
theorem NQ(h:Ju os W):laidMet prog Rows.topSteadyRow.laid (W.forCall (λ_ _=>0) ⟨#[],#[.slice none 0 0,.int .i64 0,.int .i64 0],[]⟩).memory:=by
 unfold Ju at h;subst h;exact laidMet_of_run' 8 (by kernel_rfl) (by kernel_rfl)
theorem La(h:Ju os W){H:Type}(a:TypeId × Value->H):∃ places,DataW.whole a prog (W.forCall (λ_ _=>0) ⟨#[],#[.slice none 0 0,.int .i64 0,.int .i64 0],[]⟩).memory f3.params.toList Rows.topSteadySpec.vars false (#[.slice none 0 0,.int .i64 0,.int .i64 0]:Array Value).toList 8=some ([.nil,.lit (.int .i64 0),.lit (.int .i64 0)],[],places):=by
 unfold Ju at h;subst h;exact⟨[],by kernel_rfl⟩
theorem JX(d:Os)(a:d.Started)(H:Type)(enc:TypeId × Value->H)(F:Stop.Interp) :
  ReturnsInHanded {} Tryz.checked d 3 .any ((OpenSpec.ofChange Rows.topSteadySpec).preRow enc prog f3 Rows.topSteadyRow.domain false Rows.topSteadyRow.laid) (((OpenSpec.ofChange Rows.topSteadySpec).at F).post enc prog f3 false true false false):=by
 obtain⟨i,b⟩:=df d;obtain⟨c,h⟩:=La b enc;have g:=NQ b;refine returnsInHanded_of_row (C:=Tryz.checked) (s:=OpenSpec.ofChange Rows.topSteadySpec) own a (by kernel_rfl) func3 ?_ ?_
 .unfold Ju at b;subst b;exact witness_row_at (enc:=enc) (C:=Tryz.checked) false _ #[.slice none 0 0,.int .i64 0,.int .i64 0] rfl (by kernel_rfl) (by kernel_rfl) (by kernel_rfl)
   (OpenSpec.preRow_of_cond 8 h (by kernel_rfl) (λk e=>by cases e) (by kernel_rfl) g)
 .intro W base args ds gs before hval hW _ _ hsz hL _ _;exact I2 H enc W base args ds gs before hval hW hsz hL
theorem MU:Rows.TopSteadySaid :=
 OpenClaim.holds_of_cond 3 f3 rfl rfl rfl rfl rfl rfl rfl ⟨rfl,rfl,rfl,rfl,rfl⟩ rfl rfl rfl rfl rfl (by kernel_rfl) func3 (by kernel_rfl)
  (mZ (by kernel_rfl)) (by unfold Func.isWrapper;first|(rw[if_pos (by decide +kernel)];kernel_rfl)|(rw[if_neg (by decide +kernel)];exact⟨rfl,rfl⟩))
  (λc a H b _ F=>by rw[OpenClaim.pre_eq_preRow];exact JX c a H b F)
theorem KZ(f : FuncId)(b : Func)(e : Tryz.pinned.checked.prog.funcNamed "conclave/conclavetop.TopSteady" = some f)(c : Tryz.pinned.checked.prog.funcs[f]? = some b) :
  false=Tryz.pinned.checked.prog.looks []/\∀ (j:Nat) t,b.params[j]?=some t->Tryz.pinned.checked.prog.wantsStandIn t=false:=by
 obtain rfl : f = 3 := Option.some.inj ((show prog.funcNamed "conclave/conclavetop.TopSteady" = some 3 by kernel_rfl).symm.trans e) |>.symm
 obtain rfl:b=f3:=(nh (func3.symm.trans c)).symm;refine⟨by kernel_rfl,λj t d=>?_⟩;rw[params3]at d
 have a:=Array.mem_of_getElem? d;simp only[List.mem_toArray,mJ,P',or_false]at a;rcases a with rfl|rfl|rfl
 .exact(show prog.wantsStandIn 22=false by kernel_rfl)
 .exact(show prog.wantsStandIn 3=false by kernel_rfl)
 .exact(show prog.wantsStandIn 3=false by kernel_rfl)
theorem topSteady_card:Rows.TopSteadyCardSaid :=
 Claim7.holds_tied_plain_at .later [] _ _ _ _ MU (λ_ h=>by cases h) (by kernel_rfl) (λ_ h=>by cases h) topSteady_row_tie rfl ⟨rfl,rfl⟩ (by kernel_rfl) rfl KZ (by kernel_rfl)
#print axioms topSteady_card
end
end
end Go.Proofs.YtgbabbapcibnlaaGreatDoor
