/- Part 19 of the walk. -/
import Derived.Test.YtogibonjmbhliaaGreatDoorZ18
set_option maxRecDepth 100000
set_option maxHeartbeats 4000000
open Go.Proofs.Tryz
set_option linter.unusedVariables false
namespace Go.Proofs.YtogibonjmbhliaaGreatDoor
section
section
variable{I J:Meet->Prop}
theorem MM(j:∀ c M N,Stp wh1 c M N->I M->I N)(p:∀ c M N,Stp wh1 c M N->I M->J M->J N){n:Nat}{M:Meet}(q:MOk n M)(hn:n+5<=1000000)(h:I M){i:Nat}(r:i<5)(d:∀ N m,MOk m N->m+1<=1000000->I N->N.ae i=M.ae i->J (N.act (acN 3 (i:Int)))):J (M.dW (AC 3 5)):=by
 have d:∀ k,k<=5->MOk (n+k) (M.dW (AC 3 k))/\I (M.dW (AC 3 k))/\(k<=i->(M.dW (AC 3 k)).ae i=M.ae i)/\(i<k->J (M.dW (AC 3 k))):=by
  intro k;induction k with
  | zero=>exact λ_=>⟨q,h,λ_=>rfl,λe=>absurd e (oJ _)⟩
  | succ k ih =>
   intro t;obtain⟨a,b,f,o⟩:=ih (by omega);rw[BX,AJ];refine⟨a.act (by omega) (FT (by omega)),CA j a (by omega) b,λe=>by rw[E4 _ (by omega)];exact f (by omega),λe=>?_⟩;by_cases l:i<k
   .exact(CA (I:=λN=>I N/\J N) (λc A B s g=>⟨j c A B s g.1,p c A B s g.1 g.2⟩) a (by omega) ⟨b,o l⟩).2
   .obtain rfl:k=i:=by omega
    exact d _ _ a (by omega) b (f (A' _))
 exact(d 5 (A' _)).2.2.2 r
end
theorem Iy(M:Meet){i:Nat}(d:i<5):∃ N:Meet,N.ae i=M.ae i/\N=M.dW (AC 3 i)/\(M.dW (AC 3 5)).ae i=(N.act (acN 3 (i:Int))).ae i:=by
 have b:∀ k,k<=i->(M.dW (AC 3 k)).ae i=M.ae i:=by
  intro k;induction k with
  | zero=>exact λ_=>rfl
  | succ k ih=>exact λa=>by rw[BX,AJ,E4 _ (by omega)];exact ih (by omega)
 refine⟨_,b i (A' _),rfl,?_⟩;have c:∀ k,i<k->(M.dW (AC 3 k)).ae i=((M.dW (AC 3 i)).act (acN 3 (i:Int))).ae i:=by
  intro k a;induction k with
  | zero=>exact absurd a (oJ _)
  | succ k ih =>
   rw[BX,AJ];by_cases e:k=i
   .rw[e]
   .rw[E4 _ (Ne.symm e)];exact ih (by omega)
 exact c 5 d
theorem Stp.sc{M N:Meet}(s:Stp wh0 0 M N)(i:Nat):(N.ae i).an.next=(M.ae i).an.next:=by
 have put:∀ {k:Nat} {p:Nod} {a:List Let} {g:List Tol},p.an.next=(M.ae k).an.next->((M.set k p a g).ae i).an.next=(M.ae i).an.next:=λ{k p a g} e=>by
  rw[An];split
  .rename_i e2;rw[e2];exact e
  .rfl
 have f:∀ (p:Nod) (j:Nat) (v:Vt),(p.count j v).an.next=p.an.next:=λp j v=>by
  unfold Nod.count;split
  .rfl
  .split<;>rfl
 cases s with
 | take _ l hl hd hu ht =>
  refine put ?_;unfold Nod.take;split
  .split
   .unfold Nod.eb;split<;>rfl
   .show((M.ae l.dst).al _).1.an.next=_;rw[(Bi _ _).2]
  .simp only;split<;>rfl
  .rfl
  .split
   .unfold Nod.eb;split<;>rfl
   .show((M.ae l.dst).bN _).1.an.next=_;rw[(CD _ _).2]
  .exact f _ _ _
  .split<;>rfl
  .simp only;unfold Nod.dT;split<;>split<;>rfl
  .rfl
 | br _ a hl hd=>exact False.elim hd
 | one _ k c hi hu hc he=>exact put (by unfold Nod.fv;split<;>rfl)
 | ask _ k hi hu =>
  refine put ?_;unfold Nod.hZ;split
  .rfl
  .split
   .unfold Nod.dT;split<;>rfl
   .rfl
 | rF _ k hi hu hs hT=>exact put rfl
 | run _ k hi hu q l hp hs =>
  refine put ?_;show((M.ae k).ln k q).an.next=_;cases q with
  | began b vs=>simp only[Nod.ln];split<;>rfl
  | prop v=>exact f _ _ _
  | _=>rfl
 | rC _ k hi hu hL=>exact put rfl
 | lead _ k hi hu hL=>exact False.elim hL
 | sub _ k d hi hu hD=>exact False.elim hD
 | kc _ k y hi hu hk hC=>exact False.elim hC
 | start _ k hi hu hs=>exact False.elim hs
theorem Sts.sc{M N:Meet}(s:Sts wh1 0 M N)(i:Nat):(N.ae i).an.next=(M.ae i).an.next:=by
 generalize a:0=z at s;induction s with
 | nil=>rfl
 | @snoc n c m A B E h s hm ih =>
  obtain rfl:c=0:=by omega
  exact(s.calm.sc i).trans (ih (by omega))
theorem Tk{p q:Nod}(a:q.an=p.an)(b:q.ab=p.ab)(s:Nat):q.pd s=p.pd s:=by unfold Nod.pd;rw[a,b]
section
variable{C:List Cmd}{K:Int}{B:Nat->Bal}{cov:List (Bal × Nat)}{i:Nat}{b:Bal}
section
def J3(i:Nat)(v:Vt)(N:Meet):Prop:=v∈((N.ae i).an.aj i).vs/\∀ j,j<5->j≠i->({ BJ 3 with bN:=v,src:=i,dst:=j }:Let)∈N.br
variable{M N:Meet}{c:Cmd}{n:Nat}
theorem J3.step(a:PhC C K B cov i b)(s:Stp wh0 n M N)(h:PhE C K B cov i b M){v:Vt}(c:v.b=b)(k:J3 i v M):J3 i v N:=⟨h.nr a s c a.hi k.1,λj d e=>s.rM (k.2 j d e)⟩
theorem PhE.rD(h:PhE C K B cov i b M):(M.ae i).an.rD=true:=by
 unfold Rnd.rD J9;rw[h.pr 0 (by omega),h.pr 1 (by omega),h.pr 2 (by omega),h.pr 3 (by omega),h.pr 4 (by omega)];decide
theorem OG(a:PhC C K B cov i b)(H:14*K+38*(cov.length:Int)<=99000)(q:∀ c∈C,c.e=0)(h:PhL C K B cov i b M)(S:(M.ae i).ab.length<40)(L:(M.ae i).an.next<=(M.ae i).ab.length)(z:(M.ae i).pd (M.ae i).ab.length=some c) :
  J3 i ⟨((M.ae i).ab.length:Int),b,c⟩ (M.act (acN 3 (i:Int)))/\((M.act (acN 3 (i:Int))).ae i).an.next=(M.ae i).ab.length+1:=by
 have E:=h.pe.pb.cm.up i a.hi;obtain⟨R,s0,T,O,a0,n,G,Q,P,F⟩:=Ix (D:=wh1) a.hi E;have r:∀ c A N,Stp wh1 c A N->PhL C K B cov i b A->PhL C K B cov i b N:=λc A N s g=>g.step a s.calm;have x:=s0.inv r h;have o:=P.inv r x;have f:(n.ae i).an=(M.ae i).an/\(n.ae i).ab=(M.ae i).ab:=by
  rw[G,B1,x.pe.hZ a.hi];exact⟨O,a0⟩
 have u:Ah ⟨((M.ae i).ab.length:Int),b,c⟩:=⟨by show(0:Int)<=((M.ae i).ab.length:Int)/\((M.ae i).ab.length:Int)<=39;omega,a.hb,q c (Lo (h.pe.pb.cm.s.nd i a.hi) z)⟩;generalize w:(⟨((M.ae i).ab.length:Int),b,c⟩:Vt)=v at u;have m:v.b=b:=by rw[<- w]
 have t:=eL a H o.pe.pb o.pe.rD (by rw[f.1,f.2];exact L) (c:=c) (by rw[Tk f.1 f.2,f.2];exact z) (by rw[f.2,w];exact u);rw[f.2,w]at t
 have p:=(Stp.prop (D:=wh1) n i a.hi Q).calm;have p:=o.step a p;have k:=F.inv (I:=λN=>PhL C K B cov i b N/\(Pend.prop v∈(N.ae i).bt\/J3 i v N)) (λd A N s g=>⟨r d A N s g.1,by
  rcases g.2 with g2|g2
  .rcases O5 s.calm g2 with g3|⟨l,g3,rfl⟩
   .exact .inl g3
   .refine .inr ⟨?_,λj J e=>mG _ (MG { BJ 3 with bN:=v } J e)⟩;rw[An,if_pos rfl];have ac:=g.1.pe.acc a a.hi;have y:(A.ae i).an.fa=b:=(g.1.pe.pb.cm.fa i a.hi).trans a.hB;exact Qr (m.trans y.symm) ac.1 u (ac.2.trans y.symm)
  .exact .inr (g2.step a s.calm g.1.pe m)⟩) ⟨p,.inl (by rw[B1];exact t.2)⟩
 refine⟨k.2.resolve_left λg=>?_,by rw[F.sc i,B1];exact t.1⟩;rw[Hf E,An,if_pos rfl,Is (h.pe.pb.cm.si a.hi)]at g
 cases g
theorem WZ(a:PhC C K B cov i b)(h:PhL C K B cov i b M)(m:(M.ae i).ab.length<(M.ae i).an.next):((M.act (acN 3 (i:Int))).ae i).an.next=(M.ae i).an.next:=by
 have l:=h.pe.pb.cm.up i a.hi;obtain⟨p,s0,r,n,a0,e,f,t,q,o⟩:=Ix (D:=wh1) a.hi l;have k:∀ c A N,Stp wh1 c A N->PhL C K B cov i b A->PhL C K B cov i b N:=λc A N s g=>g.step a s.calm;have j:=s0.inv k h;have d:(e.ae i).an=(M.ae i).an/\(e.ae i).ab=(M.ae i).ab:=by
  rw[f,B1,j.pe.hZ a.hi];exact⟨n,a0⟩
 rw[o.sc i,B1];unfold Nod.cl;rw[if_pos (.inr (.inr (by rw[d.1,d.2];exact m))),d.1]
def Bz(i:Nat)(v:Vt)(N:Meet):Prop:=v∈((N.ae i).an.aj i).vs/\∀ j,j<5->j≠i->Pend.voted i v∈(N.ae j).bt
theorem PhL.drop(h:PhL C K B cov i b N):PhL C K B cov i b { N with br:=[] } :=
 ⟨⟨⟨h.pe.pb.cm.drop,h.pe.pb.ak,h.pe.pb.vi⟩,h.pe.va,h.pe.pr,h.pe.nb,h.pe.aw,λm a=>(by cases a),h.pe.qw⟩,h.ld,h.nx⟩
theorem ED(M:Meet):M.dW Ao=(M.dW (AC 3 5)).act (acN 7 0):=by rw[show Ao=AC 3 5++[acN 7 0]from rfl,AJ]
theorem PhL.round(f:PhC C K B cov i b)(k:MOk n M)(hn:n+6<=1000000)(h:PhL C K B cov i b M):PhL C K B cov i b (M.dW Ao)/\MOk (n+6) (M.dW Ao)/\(M.dW Ao).br=[]/\(∀ j,Ev (M.ae j) ((M.dW Ao).ae j))/\((M.dW Ao).ae i).an.next=((M.dW (AC 3 5)).ae i).an.next:=by
 have d:=Bl (I:=λN=>PhL C K B cov i b N/\∀ j,Ev (M.ae j) (N.ae j)) (λc A N s g=>⟨g.1.step f s.calm,λj=>(g.2 j).trans (s.calm.ev j)⟩) k (by omega) ⟨h,λj=>.refl _⟩;rw[ED];obtain⟨N,l,e,_⟩:=Cu (I:=λN=>PhL C K B cov i b N/\(∀ j,Ev (M.ae j) (N.ae j))/\(N.ae i).an.next=((M.dW (AC 3 5)).ae i).an.next) (λA N s g=>⟨g.1.step f s.rQ,λj=>(g.2.1 j).trans (s.rQ.ev j),(s.rQ.sc i).trans g.2.2⟩) d.1 ⟨d.2.1,d.2.2,rfl⟩;have a:=d.1.act (x:=acN 7 0) (by omega) (by rw[<- DC];decide);rw[l]at a ⊢
 exact⟨e.1.drop,a,rfl,e.2.1,e.2.2⟩
theorem TL(a:PhC C K B cov i b)(u:14*K+38*(cov.length:Int)<=99000)(f:∀ c∈C,c.e=0)(r:MOk n M)(hn:n+6<=1000000)(h:PhL C K B cov i b M)(F:(M.ae i).ab.length<40)(H:(M.ae i).an.next<=(M.ae i).ab.length)(x:(M.ae i).pd (M.ae i).ab.length=some c) :
  Bz i ⟨((M.ae i).ab.length:Int),b,c⟩ (M.dW Ao)/\((M.dW Ao).ae i).an.next=(M.ae i).ab.length+1:=by
 have G:Ah ⟨((M.ae i).ab.length:Int),b,c⟩:=⟨by show(0:Int)<=((M.ae i).ab.length:Int)/\((M.ae i).ab.length:Int)<=39;omega,a.hb,f c (Lo (h.pe.pb.cm.s.nd i a.hi) x)⟩;have w:∀ c A N,Stp wh1 c A N->PhL C K B cov i b A->PhL C K B cov i b N:=λc A N s g=>g.step a s.calm;have E:∀ A N,TkS A N->PhL C K B cov i b A->PhL C K B cov i b N:=λA N s g=>g.step a s.rQ;have P:=h.round a r hn;have q:=MM (J:=λN=>J3 i ⟨((M.ae i).ab.length:Int),b,c⟩ N) w (λd A N s g k=>k.step a s.calm g.pe rfl) r (by omega) h a.hi (λN m _ _ g e=>by
  have:=(OG a u f g (by rw[e];exact F) (by rw[e];exact H) (c:=c) (by rw[e];exact x)).1;rw[e]at this;exact this)
 obtain⟨N,t,R,S⟩:=Iy M a.hi;have p:=Bl w r (by omega) h;have O:PhL C K B cov i b N:=by
  rw[R];have Q:∀ k,k<=5->MOk (n+k) (M.dW (AC 3 k))/\PhL C K B cov i b (M.dW (AC 3 k)):=by
   intro k;induction k with
   | zero=>exact λ_=>⟨r,h⟩
   | succ k ih =>
    intro T;obtain⟨D,L⟩:=ih (by omega);rw[BX,AJ];exact⟨D.act (by omega) (FT (by omega)),CA w D (by omega) L⟩
  have:=a.hi;exact(Q i (by omega)).2
 have z:=(OG a u f O (by rw[t];exact F) (by rw[t];exact H) (c:=c) (by rw[t];exact x)).2;refine⟨?_,by rw[P.2.2.2.2,S,z,t]⟩;have o:(⟨((M.ae i).ab.length:Int),b,c⟩:Vt).b=b:=rfl;generalize (⟨((M.ae i).ab.length:Int),b,c⟩:Vt)=v at G q o ⊢;rw[ED];generalize M.dW (AC 3 5)=A at p q ⊢;refine⟨?_,λj y e=>?_⟩
 .obtain⟨N,k1,k2,_⟩:=Cu (I:=λN=>PhL C K B cov i b N/\v∈((N.ae i).an.aj i).vs) (λA N s g=>⟨E A N s g.1,g.1.pe.nr a s.rQ o a.hi g.2⟩) p.1 ⟨p.2,q.1⟩;rw[k1];exact k2.2
 .obtain⟨N,k1,_,k3,_⟩:=DG (J:=λN=>Pend.voted i v∈(N.ae j).bt) E (λA N s _ g=>by
   obtain⟨l,_,_,_,rfl⟩:=s;rw[An];split
   .rename_i e3;rw[<- e3];exact Hg g
   .exact g) p.1 p.2 (q.2 j y e) (λN g=>g.pe.pb.cm.up j y) (λN g _=>by
   rw[An,if_pos rfl];exact X1 a u g.pe.pb y G o (l:={ BJ 3 with bN:=v,src:=i,dst:=j }) rfl rfl)
  rw[k1];exact k3
end
end
theorem m8(q:Nod){i j:Nat}(b:j<5)(c:j≠i) :
  (q.ab.length<=q.an.bu j/\(E6 q i 5).an.bu j=q.an.bu j)\/(q.an.bu j<q.ab.length/\(E6 q i 5).an.bu j=q.ab.length/\({ BJ 5 with src:=i,dst:=j,bn:=q.an.bu j,ed:=q.ab.drop (q.an.bu j) }:Let)∈Dp q i 5):=by
 have hin:∀ k,j<k->MV q i j=true->({ BJ 5 with src:=i,dst:=j,bn:=q.an.bu j,ed:=q.ab.drop (q.an.bu j) }:Let)∈Dp q i k:=by
  intro k;induction k with
  | zero=>exact λh=>absurd h (oJ _)
  | succ k ih =>
   intro f a;rw[Dp];by_cases e:j=k
   .rw[<- e,a,if_pos rfl];exact mG _ (E'.2 rfl)
   .exact mJ _ (ih (by omega) a)
 have d:(E6 q i 5).an.bu j=if decide (j<5)&&MV q i j then q.ab.length else q.an.bu j:=rfl;by_cases h:q.an.bu j<q.ab.length
 .have a:MV q i j=true:=M' ⟨c,h⟩;exact .inr ⟨h,by rw[d,a,M' b];rfl,hin 5 b a⟩
 .have a:MV q i j=false:=D' λe=>h e.2;exact .inl ⟨by omega,by rw[d,a,M' b];rfl⟩
theorem TC(p:Nod)(i:Nat)(ls:List Let)(ts:List Tol):∃ (q:Nod) (ks:List Let),(p.piece i ls ts).1=(q.bu i ks).1/\(p.piece i ls ts).2.1=(q.bu i ks).2/\q.an.bu=p.an.bu:=by
 unfold Nod.piece;simp only;have c:=U9 i (p.ab.drop p.done) p ts;generalize rG i (p.ab.drop p.done) p ts=a at c ⊢;have d:(a.1.hZ i).1.an.bu=a.1.an.bu:=by
  unfold Nod.hZ;split
  .rfl
  .split
   .unfold Nod.dT;split<;>rfl
   .rfl
 generalize a.1.hZ i=b at d ⊢;have e:b.1.cl.an.bu=b.1.an.bu:=by
  unfold Nod.cl;split
  .rfl
  .split
   .rfl
   .split<;>rfl
 generalize b.1.cl=r at e ⊢;have f:(r.mv i (ls++b.2)).1.an.bu=r.an.bu:=by
  have g:∀ (l:List Pend) (x:Nod) (k:List Let),(nn i l x k).1.an.bu=x.an.bu:=by
   intro l;induction l with
   | nil=>exact λx k=>rfl
   | cons y l ih =>
    intro x k;rw[nn,ih];cases y with
    | began b vs=>simp only[Nod.ln];split<;>rfl
    | prop v =>
     simp only[Nod.ln,Nod.count];split
     .rfl
     .split<;>rfl
    | _=>rfl
  unfold Nod.mv;split
  .rfl
  .rw[g];unfold Nod.rF;split<;>rfl
 exact⟨_,_,rfl,rfl,by rw[f,e,d,c.1]⟩
section
variable{C:List Cmd}{K:Int}{B:Nat->Bal}{cov:List (Bal × Nat)}{i:Nat}{b:Bal}
section
variable{M N:Meet}{n:Nat}
theorem PhE.tk(s:TkS M N)(h:PhE C K B cov i b M):(N.ae i).an.bu=(M.ae i).an.bu:=by
 obtain⟨l,c,a,d,rfl⟩:=s;rw[An];split
 .rename_i e
  rw[<- e];unfold Nod.take;split
  .split
   .unfold Nod.eb;split<;>rfl
   .show((M.ae i).al _).1.an.bu=_;rw[(Bi _ _).2]
  .simp only;rw[if_pos (.inr (.inr (h.pr l.src a.1)))];rfl
  .rfl
  .split
   .unfold Nod.eb;split<;>rfl
   .show((M.ae i).bN _).1.an.bu=_;rw[(CD _ _).2]
  .unfold Nod.count;split
   .rfl
   .split<;>rfl
  .split<;>rfl
  .simp only;unfold Nod.dT;split<;>split<;>rfl
  .rfl
 .rfl
def TT0(i:Nat)(M:Meet):Prop:=∀ j,j<5->j≠i->(M.ae i).an.bu j<=(M.ae j).ab.length
def TTx(i a0:Nat)(N:Meet):Prop:=∀ j,j<5->j≠i->a0<=(N.ae i).an.bu j/\((N.ae i).an.bu j<=(N.ae j).ab.length\/∃ m∈N.br,m.kind=5/\m.dst=j/\m.bn<=(N.ae j).ab.length/\(N.ae i).an.bu j<=m.bn+m.ed.length)
theorem TZ(k:PhC C K B cov i b)(z:MOk n M)(hn:n+1<=1000000)(h:PhL C K B cov i b M)(t:TT0 i M):TTx i (M.ae i).ab.length (M.act (acN 3 (i:Int))):=by
 have E:=h.pe.pb.cm.up i k.hi;have u:=CA (I:=λN=>PhL C K B cov i b N/\Ev (M.ae i) (N.ae i)) (λc A N s g=>⟨g.1.step k s.calm,g.2.trans (s.calm.ev i)⟩) z k.hi ⟨h,.refl _⟩;have l:=u.1.pe.pb.leads k;have d:=u.2.ag.length_le;intro j v a;have o:=E4 M (i:=i) a;have f:=t j v a;have e:M.act (acN 3 (i:Int))=M.set i ((M.ae i).piece i M.br M.eo).1 ((M.ae i).piece i M.br M.eo).2.1 ((M.ae i).piece i M.br M.eo).2.2:=Hf E;obtain⟨q,w,x,y,r⟩:=TC (M.ae i) i M.br M.eo;rw[o];rw[e,B1,x]at l d ⊢
 have D:q.leads=true:=by
  refine nz λg=>?_;unfold Nod.bu at l;rw[if_neg g]at l
  exact g l
 have p:q.bu i w=(E6 q i 5,w++Dp q i 5):=by unfold Nod.bu;rw[if_pos D]
 rw[p]at d ⊢
 have d:(M.ae i).ab.length<=q.ab.length:=d;show _<=(E6 q i 5).an.bu j/\((E6 q i 5).an.bu j<=_\/∃ m∈((M.ae i).piece i M.br M.eo).2.1,_/\_/\_/\(E6 q i 5).an.bu j<=_);rw[y,p];rcases m8 q v a with⟨g1,g2⟩|⟨g1,g2,g3⟩
 .rw[g2];exact⟨by omega,.inl (by rw[r];exact f)⟩
 .rw[g2];refine⟨d,.inr ⟨_,mG _ g3,rfl,rfl,by show q.an.bu j<=_;rw[r];exact f,?_⟩⟩;show q.ab.length<=q.an.bu j+(q.ab.drop (q.an.bu j)).length;rw[mM];omega
theorem MY(u:PhC C K B cov i b)(E:MOk n M)(hn:n+6<=1000000)(h:PhL C K B cov i b M)(t:TT0 i M):TT0 i (M.dW Ao)/\∀ j,j<5->(M.ae i).ab.length<=((M.dW Ao).ae j).ab.length:=by
 have G:∀ c A N,Stp wh1 c A N->PhL C K B cov i b A->PhL C K B cov i b N:=λc A N s g=>g.step u s.calm;have L:∀ k,k<=5->MOk (n+k) (M.dW (AC 3 k))/\PhL C K B cov i b (M.dW (AC 3 k))/\(∀ j,Ev (M.ae j) ((M.dW (AC 3 k)).ae j))/\(k<=i->(M.dW (AC 3 k)).ae i=M.ae i)/\(i<k->TTx i (M.ae i).ab.length (M.dW (AC 3 k))):=by
  intro k;induction k with
  | zero=>exact λ_=>⟨E,h,λj=>.refl _,λ_=>rfl,λe=>absurd e (oJ _)⟩
  | succ k ih =>
   intro O;obtain⟨d,o,r,y,p⟩:=ih (by omega);rw[BX,AJ];generalize M.dW (AC 3 k)=A at d o r y p ⊢;have q:=CA (I:=λN=>(∀ j,Ev (A.ae j) (N.ae j))/\∀ m∈A.br,m∈N.br) (λc X N s g=>⟨λj=>(g.1 j).trans (s.calm.ev j),λm z=>s.calm.rM (g.2 m z)⟩) d (show k<5 by omega) ⟨λj=>.refl _,λm z=>z⟩;refine⟨d.act (by omega) (FT (by omega)),CA G d (by omega) o,λj=>(r j).trans (q.1 j),λe=>by rw[E4 _ (by omega)];exact y (by omega),λe=>?_⟩;by_cases F:i<k
   .intro j f a;obtain⟨x,l⟩:=p F j f a;rw[E4 A (i:=k) (j:=i) (by omega)];have:=(q.1 j).ag.length_le;refine⟨x,?_⟩;rcases l with l|⟨m,l,g3,g4,g5,g6⟩
    .exact .inl (by omega)
    .exact .inr ⟨m,q.2 m l,g3,g4,by omega,g6⟩
   .obtain rfl:k=i:=by omega
    have D:=y (A' _);have:=TZ u d (by omega) o (λj f a=>by
     have:=(r j).ag.length_le;have:=t j f a;rw[D];omega)
    rw[D]at this;exact this
 obtain⟨d,o,r,_,p⟩:=L 5 (A' _);have p:=p u.hi;rw[ED];generalize M.dW (AC 3 5)=A at d o r p ⊢;have key:∀ j,j<5->j≠i->((A.act (acN 7 0)).ae i).an.bu j<=((A.act (acN 7 0)).ae j).ab.length/\(M.ae i).ab.length<=((A.act (acN 7 0)).ae i).an.bu j:=λj f a=>by
  obtain⟨x,l⟩:=p j f a;rcases l with l|⟨m,l,g3,g4,g5,g6⟩
  .obtain⟨N,w,v,_⟩:=Cu (I:=λN=>PhL C K B cov i b N/\(N.ae i).an.bu=(A.ae i).an.bu/\Ev (A.ae j) (N.ae j)) (λX N s g=>⟨g.1.step u s.rQ,(g.1.pe.tk s).trans g.2.1,g.2.2.trans (s.rQ.ev j)⟩) d ⟨o,rfl,.refl _⟩;rw[w];show(N.ae i).an.bu j<=(N.ae j).ab.length/\_<=(N.ae i).an.bu j;have:=v.2.2.ag.length_le;rw[v.2.1];omega
  .obtain⟨N,w,v,k3,_⟩:=DG (I:=λN=>PhL C K B cov i b N/\(N.ae i).an.bu=(A.ae i).an.bu/\Ev (A.ae j) (N.ae j)) (J:=λN=>(A.ae i).an.bu j<=(N.ae j).ab.length) (λX N s g=>⟨g.1.step u s.rQ,(g.1.pe.tk s).trans g.2.1,g.2.2.trans (s.rQ.ev j)⟩) (λX N s g k=>by have:=(s.rQ.ev j).ag.length_le;omega) d ⟨o,rfl,.refl _⟩ l (λN g=>by rw[g4];exact g.1.pe.pb.cm.up j f) (λN g _=>by
    have H:=g.2.2.ag.length_le;rw[g4,An,if_pos rfl];unfold Nod.take;rw[g3];simp only;rw[if_neg (by omega)];show _<=((N.ae j).ab++m.ed.drop ((N.ae j).ab.length-m.bn)).length;rw[H',mM];omega)
   rw[w];show(N.ae i).an.bu j<=(N.ae j).ab.length/\_<=(N.ae i).an.bu j;rw[v.2.1];exact⟨k3,x⟩
 refine⟨λj f a=>(key j f a).1,λj f=>?_⟩;by_cases e:j=i
 .subst e;have:=h.round u E hn;rw[ED]at this
  obtain⟨N,w,v,_⟩:=Cu (I:=λN=>Ev (A.ae j) (N.ae j)) (λX N s g=>g.trans (s.rQ.ev j)) d (.refl _);rw[w];exact((r j).trans v).ag.length_le
 .have:=key j f e;omega
def K1(M:Meet):Prop:=∀ m∈M.br,m.kind=1->m.ed.length<=(M.ae m.src).ab.length
theorem K1.step{c:Nat}(s:Stp wh0 c M N)(h:K1 M):K1 N:=by
 have f:∀ m∈M.br,m.kind=1->m.ed.length<=(N.ae m.src).ab.length:=λm i a=>mF (h m i a) (s.ev m.src).ag.length_le;intro m i a;cases s with
 | br _ ls hl hd=>exact False.elim hd
 | ask _ k hi hu =>
  rcases U'.1 i with g|g
  .exact f m g a
  .unfold Nod.hZ at g;split at g
   .cases g
   .split at g
    .cases g
    .rw[E'.1 g]at a;cases a
 | run _ k hi hu q l hp hs =>
  rcases U'.1 i with g|g
  .exact f m g a
  .cases q with
   | began b vs =>
    unfold Nod.rz at g;simp only at g;split at g
    .cases g
    .have:=(D7 g).1;rw[a]at this;cases this
   | prop v=>have:=(D7 g).1;rw[a]at this;cases this
   | start=>have:=(D7 g).1;rw[a]at this;cases this
   | prom to b vs =>
    rw[E'.1 g];show(M.ae k).ab.length<=((M.set k { (M.ae k).ln k (.prom to b vs)with bt:=l } _ _).ae k).ab.length;rw[B1];exact A' _
   | _=>have e:=E'.1 g;rw[e]at a;cases a
 | rC _ k hi hu hL =>
  rcases U'.1 i with g|g
  .exact f m g a
  .have:=(JZ 5 m g).1;omega
 | lead _ k hi hu hL=>exact False.elim hL
 | sub _ k d hi hu hD=>exact False.elim hD
 | kc _ k x hi hu a hC=>exact False.elim hC
 | start _ k hi hu hs=>exact False.elim hs
 | _=>exact f m i a
end
end
section
variable{C:List Cmd}{K:Int}{B:Nat->Bal}{cov:List (Bal × Nat)}{i:Nat}{b:Bal}
section
variable{M:Meet}{n:Nat}
theorem TP(a:PhC C K B cov i b)(o:MOk n M)(hn:n+6<=1000000)(h:PhL C K B cov i b M){v:Vt}(L:Ah v)(d:v.b=b)(z:Bz i v M)(P:(M.ae i).ab.length<(M.ae i).an.next) :
  v.bn<(((M.dW Ao).ae i).ab.length:Int)/\((M.dW Ao).ae i).an.next=(M.ae i).an.next:=by
 have q:∀ c A N,Stp wh1 c A N->PhL C K B cov i b A->PhL C K B cov i b N:=λc A N s g=>g.step a s.calm;have x:∀ A N,TkS A N->PhL C K B cov i b A->PhL C K B cov i b N:=λA N s g=>g.step a s.rQ;have E:=h.round a o hn;have m:=Bl q o (by omega) h;have t:((M.dW (AC 3 5)).ae i).an.next=(M.ae i).an.next:=by
  obtain⟨N,F,R,S⟩:=Iy M a.hi;have H:PhL C K B cov i b N:=by
   rw[R];have O:∀ k,k<=5->MOk (n+k) (M.dW (AC 3 k))/\PhL C K B cov i b (M.dW (AC 3 k)):=by
    intro k;induction k with
    | zero=>exact λ_=>⟨o,h⟩
    | succ k ih =>
     intro r;obtain⟨w,G⟩:=ih (by omega);rw[BX,AJ];exact⟨w.act (by omega) (FT (by omega)),CA q w (by omega) G⟩
   have:=a.hi;exact(O i (by omega)).2
  rw[S,WZ a H (by rw[F];exact P),F]
 refine⟨?_,by rw[E.2.2.2.2,t]⟩;have p:=Bl (I:=λN=>PhL C K B cov i b N/\v∈((N.ae i).an.aj i).vs) (λc A N s g=>⟨q c A N s g.1,g.1.pe.nr a s.calm d a.hi g.2⟩) o (by omega) ⟨h,z.1⟩;have D:∀ j,j<5->j≠i->({ BJ 4 with bN:=v,src:=j,dst:=i }:Let)∈(M.dW (AC 3 5)).br:=λj f e =>
  Fv (J:=λN=>({ BJ 4 with bN:=v,src:=j,dst:=i }:Let)∈N.br) q (λc A N s _ g=>s.calm.rM g) (λA k g r=>⟨g.pe.pb.cm.up k r,g.pe.pb.cm.si r⟩) o (by omega) h f (z.2 j f e) λN l g _ _=>mG _ (E'.2 rfl)
 refine E.1.ld v d λj f=>?_;rw[ED];generalize M.dW (AC 3 5)=A at m D p ⊢;by_cases e:j=i
 .subst e;obtain⟨N,u,Q,_⟩:=Cu (I:=λN=>PhL C K B cov j b N/\v∈((N.ae j).an.aj j).vs) (λA N s g=>⟨x A N s g.1,g.1.pe.nr a s.rQ d f g.2⟩) m.1 ⟨m.2,p.2.2⟩;rw[u];exact Q.2
 .obtain⟨N,u,_,k3,_⟩:=DG (J:=λN=>v∈((N.ae i).an.aj j).vs) x (λA N s g k=>g.pe.nr a s.rQ d f k) m.1 m.2 (D j f e) (λN g=>g.pe.pb.cm.up i a.hi) (λN g _=>by
   rw[An,if_pos rfl];have ac:=g.pe.acc a f;have y:(N.ae i).an.fa=b:=(g.pe.pb.cm.fa i a.hi).trans a.hB;exact Qr (d.trans y.symm) ac.1 L (ac.2.trans y.symm))
  rw[u];exact k3
def mu(i:Nat)(M:Meet):Nat:=2*(40-(M.ae i).ab.length)+(if(M.ae i).an.next<=(M.ae i).ab.length then 1 else 0)
def Zz(i:Nat)(b:Bal)(M:Meet):Prop:=(M.ae i).an.next<=(M.ae i).ab.length\/∃ v:Vt,Ah v/\v.b=b/\v.bn=((M.ae i).ab.length:Int)/\Bz i v M
theorem iz(q:PhC C K B cov i b)(h:PhL C K B cov i b M)(x:(M.ae i).an.next<=(M.ae i).ab.length)(d:(M.ae i).ab.length<40->(M.ae i).pd (M.ae i).ab.length=Option.none):Fin_ i (M.ae i).ab M:=by
 refine⟨rfl,x,λf j s v t e=>?_,λf c n=>nz λe=>?_⟩
 .have d:=d f;unfold Nod.pd at d;have p:∀ l∈(M.ae i).an.gC.map (·.vs),∀ u∈l,Ah u:=λl o u k=>by
   obtain⟨a,f,rfl⟩:=mW.1 o;unfold Rnd.gC at f;simp only[mN,P',or_false]at f;rcases f with e|e|e|e|e<;>(rw[e]at k;exact((h.pe.acc q (by omega)).1.2.1 u k).1)
  have m:Ck ((M.ae i).an.gC.map (·.vs)) ((M.ae i).ab.length:Int)=0:=by unfold Ck;rw[if_neg (λg=>g (by omega)),if_pos p]
  have r:DR ((M.ae i).an.gC.map (·.vs)) ((M.ae i).ab.length:Int)=true:=by
   unfold DR;rw[if_pos m];have:v∈Ae ((M.ae i).an.gC.map (·.vs)).flatten ((M.ae i).ab.length:Int):=Be.2 ⟨pg.2 ⟨((M.ae i).an.aj j).vs,mW.2 ⟨(M.ae i).an.aj j,by unfold Rnd.gC;rcases rk s with rfl|rfl|rfl|rfl|rfl<;>simp,rfl⟩,t⟩,e⟩;unfold Gc;generalize Ae _ _=l at this;have key:∀ (l:List Vt) (u:Vt),(BW l (some u)).isSome=true:=by
    intro l;induction l with
    | nil=>exact λu=>rfl
    | cons w l ih=>intro u;rw[BW];split<;>exact ih _
   cases l with
   | nil=>cases this
   | cons w l=>exact key l w
  rw[if_neg (λg=>g m),if_pos r]at d
  cases d
 .have d:=d f;unfold Nod.pd at d;have p:∀ l∈(M.ae i).an.gC.map (·.vs),∀ u∈l,Ah u:=λl o u k=>by
   obtain⟨a,f,rfl⟩:=mW.1 o;unfold Rnd.gC at f;simp only[mN,P',or_false]at f;rcases f with e|e|e|e|e<;>(rw[e]at k;exact((h.pe.acc q (by omega)).1.2.1 u k).1)
  have m:Ck ((M.ae i).an.gC.map (·.vs)) ((M.ae i).ab.length:Int)=0:=by unfold Ck;rw[if_neg (λg=>g (by omega)),if_pos p]
  rw[if_neg (λg=>g m)]at d
  split at d
  .cases d
  .exact absurd (nY.1 d c n) (by simpa using e)
theorem LQ(m:Nat):Ao++Al m=Al (m+1):=by
 induction m with
 | zero=>rfl
 | succ m ih=>show Ao++(Al m++Ao)=Al (m+1)++Ao;rw[<- mH,ih]
theorem iG(a:PhC C K B cov i b)(A:14*K+38*(cov.length:Int)<=99000)(j:∀ c∈C,c.e=0)(k:Nat)(d:MOk n M)(hn:n+6*k<=999000)(h:PhL C K B cov i b M)(z:Zz i b M)(t:TT0 i M)(f:mu i M<=k) :
  ∃ m,m<=k/\Fin_ i ((M.dW (Al m)).ae i).ab (M.dW (Al m))/\PhL C K B cov i b (M.dW (Al m))/\TT0 i (M.dW (Al m))/\MOk (n+6*m) (M.dW (Al m)):=by
 induction k generalizing n M with
 | zero =>
  have:=h.nx;unfold mu at f;split at f<;>omega
 | succ k ih =>
  have F:=h.nx;have D:=(d.ae i a.hi).ag;by_cases o:(M.ae i).an.next<=(M.ae i).ab.length
  .by_cases hf:(M.ae i).ab.length<40->(M.ae i).pd (M.ae i).ab.length=Option.none
   .exact⟨0,mY _,iz a h o hf,h,t,d⟩
   .obtain⟨ha,p⟩:=Classical.not_imp.1 hf;obtain⟨c,p⟩:=oK.1 p;have g:=h.round a d (by omega);have l:=TL a A j d (by omega) h ha o p;have E:=(g.2.2.2.1 i).ag.length_le;have q:Ah ⟨((M.ae i).ab.length:Int),b,c⟩:=⟨by show(0:Int)<=((M.ae i).ab.length:Int)/\((M.ae i).ab.length:Int)<=39;omega,a.hb,j c (Lo (h.pe.pb.cm.s.nd i a.hi) p)⟩;obtain⟨m,y,r,u,x,w⟩:=ih (M:=M.dW Ao) (n:=n+6) g.2.1 (by omega) g.1 (by
     by_cases e:((M.dW Ao).ae i).ab.length=(M.ae i).ab.length
     .exact .inr ⟨_,q,rfl,by rw[e],l.1⟩
     .exact .inl (by rw[l.2];omega)) (MY a d (by omega) h t).1 (by
     unfold mu at f ⊢;rw[if_pos o]at f
     split<;>omega)
    refine⟨m+1,by omega,?_⟩;rw[<- LQ,AG];exact⟨r,u,x,by rw[show n+6*(m+1)=n+6+6*m by omega];exact w⟩
  .rcases z with z|⟨v,q,hvb,hs,z⟩
   .exact absurd z o
   .have g:=h.round a d (by omega);have l:=TP a d (by omega) h q hvb z (by omega);rw[hs]at l
    have G:=q.1.2;obtain⟨m,y,r,u,x,w⟩:=ih (M:=M.dW Ao) (n:=n+6) g.2.1 (by omega) g.1 (.inl (by rw[l.2];omega)) (MY a d (by omega) h t).1 (by
     unfold mu at f ⊢;rw[if_neg o]at f
     split<;>omega)
    refine⟨m+1,by omega,?_⟩;rw[<- LQ,AG];exact⟨r,u,x,by rw[show n+6*(m+1)=n+6+6*m by omega];exact w⟩
end
end
section
variable{C:List Cmd}{K:Int}{B:Nat->Bal}{cov:List (Bal × Nat)}{i:Nat}{b:Bal}
section
def AW(b:Bal)(j:Nat)(N:Meet):Prop:=(N.ae j).vo.p=b/\∀ c x,(N.ae j).bw c=some x->x=b
variable{M N:Meet}{j n:Nat}
theorem Uu(d:b≠Bb){p:Nod}(g:p.vo.p=b){c:Cmd}{x:Bal}(a:(p.hZ j).1.bw c=some x):x=b\/(p.bw c=some x/\c∉p.au.take 40):=by
 have a:(AZ p.vo.p p.bw (p.au.take 40)).2 c=some x:=by
  unfold Nod.hZ at a;split at a
  .exact a
  .split at a
   .unfold Nod.dT at a;split at a<;>exact a
   .exact a
 rw[g]at a
 have f:=L2 d (p.au.take 40) p.bw;by_cases e:c∈p.au.take 40
 .rw[f.2.1 c e]at a;exact .inl (nA a).symm
 .rw[f.1 c e]at a;exact .inr ⟨a,e⟩
theorem PhC.b0(a:PhC C K B cov i b):b≠Bb:=λe=>by have:=a.hb;rw[e]at this;exact absurd this (by decide)
theorem AW.step(d:PhC C K B cov i b)(s:Stp wh0 n M N)(h:PhB C K B cov i b M)(f:j<5)(a:AW b j M):AW b j N:=by
 refine⟨h.cm.top d.hc s d.hb.pr d.hK f a.1,λc x e=>?_⟩;rcases s.bw e with g|⟨_,rfl⟩
 .exact a.2 c x g
 .rw[An,if_pos rfl]at e
  exact(Uu d.b0 a.1 e).elim id λg=>a.2 c x g.1
theorem fx(a:PhC C K B cov i b)(h:PhB C K B cov i b M)(d:j<5)(w:(M.ae j).vo.p=b):AW b j (M.act (acN 3 (j:Int))):=by
 have v:=h.cm.up j d;obtain⟨k,s0,J,H,a0,l,q,F,z,E⟩:=Ix (D:=wh1) d v;have m:∀ c A N,Stp wh1 c A N->(PhB C K B cov i b A/\(A.ae j).vo.p=b)->PhB C K B cov i b N/\(N.ae j).vo.p=b:=λc A N s g=>⟨g.1.step a s.calm,(s.td j).trans g.2⟩;have e:=s0.inv m ⟨h,w⟩;have f:=z.inv m e;have n:=e.1.ak j d;have G:=Pp n.nd λc r=>(e.1.cm.s.nd j d).wa c r;have t:=a.hC;have u:(k.ae j).au.take 40=(k.ae j).au:=mR (by omega);have y:AW b j l:=⟨f.2,λc x o=>by
  rw[q,B1]at o
  refine(Uu a.b0 e.2 o).elim id λg=>absurd ?_ g.2;rw[u,n.wa c,g.1];rfl⟩
 have s3:=Stp.prop (D:=wh1) l j d F;exact(E.inv (I:=λN=>PhB C K B cov i b N/\AW b j N) (λc A N s g=>⟨g.1.step a s.calm,g.2.step a s.calm g.1 d⟩) ⟨f.1.step a s3.calm,y.step a s3.calm f.1 d⟩).2
def T1(i:Nat)(N:Meet):Prop:=∀ j,j<5->j≠i->(N.ae i).an.oh j=true->(N.ae i).an.bu j<=(N.ae j).ab.length
theorem T1.tk(s:TkS M N)(k:K1 M)(t:T1 i M):T1 i N:=by
 intro j n d f;have p:=(s.rQ.ev j).ag.length_le;have a:(N.ae i).an.bu j=(M.ae i).an.bu j->(N.ae i).an.oh j=(M.ae i).an.oh j->(N.ae i).an.bu j<=(N.ae j).ab.length:=λq h=>by
  have:=t j n d (by rw[<- h];exact f);omega
 obtain⟨l,o,r,u,rfl⟩:=s;by_cases e:i=l.dst
 .have en:((M.set l.dst ((M.ae l.dst).take l) M.br M.eo).ae i)=(M.ae i).take l:=by rw[An,if_pos e,<- e]
  by_cases c:l.kind=1
  .rw[en]at a f ⊢
   have m:(M.ae i).take l=if((M.ae i).jv 0 l.ed).leads=false\/l.fa≠(M.ae i).an.fa\/(M.ae i).an.oh l.src=true then(M.ae i).jv 0 l.ed else Nod.rA { (M.ae i).jv 0 l.ed with an:={ (M.ae i).an.rK l.src l.lp with bu:=upN (M.ae i).an.bu l.src l.ed.length } }:=by
    unfold Nod.take;rw[c];rfl
   rw[m]at a f ⊢
   split
   .rename_i hc
    rw[if_pos hc]at a
    exact a rfl rfl
   .rename_i hc
    rw[if_neg hc]at a
    show upN (M.ae i).an.bu l.src l.ed.length j<=_;by_cases b:j=l.src
    .rw[<- b,De];have:=k l o c;rw[<- b]at this
     omega
    .rw[Du _ _ b];have:=a (by show upN (M.ae i).an.bu l.src l.ed.length j=_;rw[Du _ _ b]) (by show upN (M.ae i).an.oh l.src true j=_;rw[Du _ _ b]);have g:upN (M.ae i).an.bu l.src l.ed.length j<=_:=this;rw[Du _ _ b]at g
     exact g
  .have:((M.ae i).take l).an.bu=(M.ae i).an.bu/\((M.ae i).take l).an.oh=(M.ae i).an.oh:=by
    unfold Nod.take;split
    .split
     .unfold Nod.eb;split<;>exact⟨rfl,rfl⟩
     .show((M.ae i).al _).1.an.bu=_/\((M.ae i).al _).1.an.oh=_;rw[(Bi _ _).2];exact⟨rfl,rfl⟩
    .rename_i hk;exact absurd hk c
    .exact⟨rfl,rfl⟩
    .split
     .unfold Nod.eb;split<;>exact⟨rfl,rfl⟩
     .show((M.ae i).bN _).1.an.bu=_/\((M.ae i).bN _).1.an.oh=_;rw[(CD _ _).2];exact⟨rfl,rfl⟩
    .unfold Nod.count;split
     .exact⟨rfl,rfl⟩
     .split<;>exact⟨rfl,rfl⟩
    .split<;>exact⟨rfl,rfl⟩
    .simp only;unfold Nod.dT;split<;>split<;>exact⟨rfl,rfl⟩
    .exact⟨rfl,rfl⟩
   exact a (by rw[en,this.1]) (by rw[en,this.2])
 .have en:((M.set l.dst ((M.ae l.dst).take l) M.br M.eo).ae i)=M.ae i:=by rw[An,if_neg e]
  exact a (by rw[en]) (by rw[en])
theorem eH(f:PhC C K B cov i b)(u:MOk n M)(hn:n+6<=1000000)(h:PhB C K B cov i b M)(q:QA i b M)(y:∀ j,j<5->(M.ae j).vo.p=b)(hp:(M.ae i).an.oh i=true)(hw:∀ j,j<5->j≠i->∃ vs,Pend.prom i b vs∈(M.ae j).bt)(o:P1 i (M.ae i))(hl:M.br=[]) :
  PhL C K B cov i b (M.dW Ao)/\Zz i b (M.dW Ao)/\TT0 i (M.dW Ao)/\MOk (n+6) (M.dW Ao):=by
 have Z:∀ A N,TkS A N->PhB C K B cov i b A->PhB C K B cov i b N:=λA N s g=>g.step f s.rQ;have T:∀ c A N,Stp wh1 c A N->PhB C K B cov i b A->PhB C K B cov i b N:=λc A N s g=>g.step f s.calm;have hq:=Rn f u hn h q;have d:∀ j,j<5->j≠i->((M.dW Ao).ae i).an.oh j=true:=λj a l=>by
  obtain⟨vs,g⟩:=hw j a l;exact WH f u hn h a g
 have Q:=Bl (I:=λN=>PhB C K B cov i b N/\(∀ j,j<5->(N.ae j).vo.p=b)/\P1 i (N.ae i)/\K1 N/\(N.ae i).an.oh i=true) (λc A N s g=>⟨T c A N s g.1,λj a=>(s.td j).trans (g.2.1 j a),s.p1 g.2.2.1,g.2.2.2.1.step s.calm,(s.calm.ev i).oh i g.2.2.2.2⟩) u (by omega) ⟨h,y,o,λm w=>by rw[hl]at w;(cases w),hp⟩;have R:∀ j,j<5->AW b j (M.dW (AC 3 5)):=λj a=>MM (I:=λN=>PhB C K B cov i b N/\(N.ae j).vo.p=b) (J:=AW b j) (λc A N s g=>⟨T c A N s g.1,(s.td j).trans g.2⟩) (λc A N s g k=>k.step f s.calm g.1 a) u (by omega) ⟨h,y j a⟩ a λN m _ _ g _=>fx f g.1 a g.2;have S:NB ((M.dW (AC 3 5)).ae i):=by
  obtain⟨N,V,n2,n3⟩:=Iy M f.hi;rw[n3,Hf (by rw[V];exact h.cm.up i f.hi),An,if_pos rfl];intro x vs g;rw[Is (by rw[V];exact h.cm.si f.hi)]at g
  cases g
 obtain⟨z,D,L,E⟩:=hq;rw[ED]at z D L E d ⊢
 generalize M.dW (AC 3 5)=A at Q R S z D L E d ⊢;obtain⟨W,Y,a0,o,F,G⟩:=Q;obtain⟨N,k1,k2,_⟩:=Cu (I:=λN=>PhB C K B cov i b N/\(∀ j,j<5->AW b j N)/\NB (N.ae i)/\(N.ae i).an.oh i=true/\(N.ae i).an.next=0/\K1 N/\T1 i N) (λX N s g=>⟨Z X N s g.1,λj a=>(g.2.1 j a).step f s.rQ g.1 a,s.rQ.nb g.2.2.1,(s.rQ.ev i).oh i g.2.2.2.1,(s.rQ.sc i).trans g.2.2.2.2.1,g.2.2.2.2.2.1.step s.rQ,g.2.2.2.2.2.2.tk s g.2.2.2.2.2.1⟩) W ⟨Y,R,S,G,o.1,F,λj a l e=>by rw[o.2 j l]at e;cases e⟩;rw[k1]at z D L E d ⊢
 obtain⟨r1,O,r3,r4,P,r6,r7⟩:=k2;have d:∀ j,j<5->(N.ae i).an.oh j=true:=λj a=>by
  by_cases e:j=i
  .rw[e];exact r4
  .exact d j a e
 have t:PhE C K B cov i b { N with br:=[] }:=⟨z,λj a=>(O j a).1,d,r3,λj a=>(O j a).2,λm w=>(by cases w),λj a c hc=>by
  have ha:=((r1.ak j a).wa c).1 hc;obtain⟨x,U⟩:=nS.1 ha;exact D j a c (by rw[show((({ N with br:=[] }:Meet).ae j).bw c)=some x from U,(O j a).2 c x U])⟩
 refine⟨⟨t,λv H y=>?_,by show(N.ae i).an.next<=_/\(N.ae i).an.next<=40;rw[P];omega⟩,.inl (by show(N.ae i).an.next<=_;rw[P];exact mY _),λj a l=>r7 j a l (d j a),E⟩;obtain⟨σ,g,_⟩:=t.pb.cm.ex;have r:=g.gs.hv 0 v ((t.rd f g).1.aj 0 (by omega) v (y 0 (by omega))).1;have:=t.lt f g r H;have e:(({ N with br:=[] }:Meet).ae i).an.next=0:=P;rw[e]at this
 have:=r.1.1;omega
end
end
theorem P4(p:Nod)(b:Bal):(p.al b).1.done=p.done:=by
 unfold Nod.al;split
 .rfl
 .split
  .rfl
  .split<;>rfl
theorem ON(p:Nod)(v:Vt):(p.bN v).1.done=p.done:=by
 unfold Nod.bN;split
 .rfl
 .split
  .rfl
  .split<;>rfl
theorem LH(p:Nod)(j:Nat)(v:Vt):(p.count j v).done=p.done:=by
 unfold Nod.count;split
 .rfl
 .split<;>rfl
theorem K5(p:Nod)(to:Nat)(e:Int):(p.eb to e).done=p.done:=by unfold Nod.eb;split<;>rfl
theorem IE(p:Nod)(l:List Cmd):(p.dT l).done=p.done:=by unfold Nod.dT;split<;>rfl
theorem Xo(p:Nod)(l:Let):(p.take l).done=p.done:=by
 unfold Nod.take;split
 .split
  .exact K5 _ _ _
  .exact P4 p l.fa
 .simp only;split<;>rfl
 .rfl
 .split
  .exact K5 _ _ _
  .exact ON p l.bN
 .exact LH p _ _
 .split<;>rfl
 .simp only;split<;>exact IE p l.ed
 .rfl
theorem OC(p:Nod)(i:Nat)(q:Pend):(p.ln i q).done=p.done:=by
 cases q with
 | began b vs=>unfold Nod.ln;simp only;split<;>rfl
 | prop v=>exact LH p i v
 | _=>rfl
theorem S4(i:Nat)(l:List Pend)(p:Nod)(ls:List Let):(nn i l p ls).1.done=p.done:=by
 induction l generalizing p ls with
 | nil=>rfl
 | cons q l ih=>exact(ih _ _).trans (OC p i q)
def Xc(l:List Cmd):Sto:=l.foldl dnS EB
theorem Xd(l:List Cmd)(c:Cmd):Xc (l++[c])=dnS (Xc l) c:=by unfold Xc;rw[pC];rfl
theorem bq(l:List Cmd)(h:∀ c∈l,c.e=0):I4 (Xc l):=by
 have key:∀ (l:List Cmd) (s:Sto),I4 s->(∀ c∈l,c.e=0)->I4 (l.foldl dnS s):=by
  intro l;induction l with
  | nil=>exact λs a _=>a
  | cons c l ih=>exact λs a h=>ih _ (U8 a (h c O')) λd b=>h d (I' _ b)
 exact key l EB bm h
def StI(p:Nod):Prop:=p.lr=Xc (p.ab.take p.done)
theorem StI.nr{p q:Nod}(h:StI p)(d:q.lr=p.lr)(b:q.done=p.done)(a:p.ab <+: q.ab)(c:p.done<=p.ab.length):StI q:=by
 unfold StI;rw[d,b,RF a c];exact h
theorem bP(p:Nod)(l:Let):(p.take l).lr=p.lr:=by
 unfold Nod.take;split
 .split
  .unfold Nod.eb;split<;>rfl
  .show(p.al l.fa).1.lr=_;unfold Nod.al;split
   .rfl
   .split
    .rfl
    .split<;>rfl
 .simp only;split<;>rfl
 .rfl
 .split
  .unfold Nod.eb;split<;>rfl
  .show(p.bN l.bN).1.lr=_;unfold Nod.bN;split
   .rfl
   .split
    .rfl
    .split<;>rfl
 .unfold Nod.count;split
  .rfl
  .split<;>rfl
 .split<;>rfl
 .simp only;unfold Nod.dT;split<;>split<;>rfl
 .rfl
theorem StI.bare(p:Nod)(u:Bool)(d:List Int)(s:Int)(a:Acc)(x:List Pend):StI (p.bare u d s a x):=rfl
theorem StI.step{D:Wh}{c:Nat}{M N:Meet}(s:Stp D c M N)(a:∀ j,j<5->(M.ae j).done<=(M.ae j).ab.length)(h:∀ j,j<5->StI (M.ae j)):∀ j,j<5->StI (N.ae j):=by
 intro j g;have put:∀ {k:Nat} {p:Nod} {f:List Let} {i:List Tol},(k<5->StI p)->StI ((M.set k p f i).ae j):=λ{k p f i} e=>by
  rw[An];split
  .rename_i e2;exact e (by omega)
  .exact h j g
 cases s with
 | take _ l hl hd2 hu ht=>exact put λ_=>(h _ hd2.2).nr (bP _ l) (Xo _ l) (Ev.take _ l).ag (a _ hd2.2)
 | br _ f hl a=>exact h j g
 | one _ k c hi hu hc he =>
  refine put λ_=>?_;have e:StI { M.ae k with lr:=doS (M.ae k).lr c,done:=(M.ae k).done+1 }:=by
   unfold StI;show doS (M.ae k).lr c=Xc ((M.ae k).ab.take ((M.ae k).done+1));rw[pB,hc,S2 he,h k hi];exact(Xd _ c).symm
  unfold Nod.fv;split<;>exact e
 | ask _ k hi hu =>
  refine put λ_=>?_;have:=h k hi;unfold Nod.hZ;split
  .exact this
  .split
   .unfold Nod.dT;split<;>exact this
   .exact this
 | prop _ k hi hu =>
  refine put λ_=>?_;have:=h k hi;unfold Nod.cl;split
  .exact this
  .split
   .exact this
   .split
    .exact this
    .show StI ((M.ae k).bN _).1;unfold Nod.bN;split
     .exact this
     .split
      .exact this
      .split<;>exact this
 | rF _ k hi hu hs hT=>exact put λ_=>h k hi
 | run _ k hi hu q l hp hs =>
  refine put λ_=>(h k hi).nr ?_ ((OC (M.ae k) k q)) ((Ev.ln (M.ae k) k q).bt l).ag (a k hi);show((M.ae k).ln k q).lr=_;cases q with
  | began b vs=>simp only[Nod.ln];split<;>rfl
  | prop v =>
   simp only[Nod.ln,Nod.count];split
   .rfl
   .split<;>rfl
  | _=>rfl
 | rC _ k hi hu hL=>exact put λ_=>h k hi
 | lead _ k hi hu hL =>
  refine put λ_=>?_;have:=h k hi;unfold Nod.lead;simp only;split
  .exact this
  .generalize (⟨max (M.ae k).cn (M.ae k).vo.p.r+1,(k:Int)⟩:Bal)=b;show StI ((M.ae k).al b).1;unfold Nod.al;split
   .exact this
   .split
    .exact this
    .split<;>exact this
 | sub _ k d hi hu hD =>
  refine put λ_=>?_;have:=h k hi;unfold Nod.rN Nod.rO;split
  .exact this
  .split
   .exact this
   .split
    .exact this
    .show StI (Nod.want _ _);unfold Nod.want;split<;>exact this
 | kc _ k x hi hu hk hC =>
  refine put λ_=>?_;unfold Nod.kc;split
  .exact h k hi
  .exact .bare _ _ _ _ _ _
 | start _ k hi hu hs =>
  refine put λ_=>?_;unfold Nod.start;split
  .exact h k hi
  .split<;>exact .bare _ _ _ _ _ _
theorem StI.zero:∀ j,j<5->StI (Au.ae j):=λj _=>rfl
theorem df(i:Nat)(l:List Cmd)(p:Nod)(ts:List Tol)(j:I4 p.lr)(h:∀ c∈l,c.e=0):(rG i l p ts).1.done=p.done+l.length:=by
 induction l generalizing p ts with
 | nil=>rfl
 | cons c l ih =>
  have a:=h c O';have b:doE p.lr c=0:=(de j).trans a;rw[rG,if_neg (λg=>g b)];have f:(Nod.fv { p with lr:=doS p.lr c,done:=p.done+1 } c).lr=dnS p.lr c/\(Nod.fv { p with lr:=doS p.lr c,done:=p.done+1 } c).done=p.done+1:=by
   unfold Nod.fv;split<;>exact⟨S2 b,rfl⟩
  rw[ih _ _ (by rw[f.1];exact U8 j a) λd k=>h d (I' _ k),f.2,nc];omega
theorem TA(p:Nod)(i:Nat)(ls:List Let)(ts:List Tol):(p.piece i ls ts).1.done=(rG i (p.ab.drop p.done) p ts).1.done:=by
 unfold Nod.piece;simp only;generalize (rG i (p.ab.drop p.done) p ts).1=a;have e:(a.hZ i).1.done=a.done:=by
  unfold Nod.hZ;split
  .rfl
  .split
   .exact IE _ _
   .rfl
 generalize a.hZ i=b at e ⊢;have f:b.1.cl.done=b.1.done:=by
  unfold Nod.cl;split
  .rfl
  .split
   .rfl
   .split
    .rfl
    .exact ON _ _
 generalize b.1.cl=c at f ⊢;generalize ls++b.2=k;have g:(c.mv i k).1.done=c.done:=by
  unfold Nod.mv;split
  .rfl
  .rw[S4];unfold Nod.rF;split<;>rfl
 generalize c.mv i k=d at g ⊢;have h:(d.1.bu i d.2).1.done=d.1.done:=by unfold Nod.bu;split<;>rfl
 omega
theorem D1{I:Meet->Prop}(d:∀ c M N,Stp wh0 c M N->I M->I N)(j:∀ M,I M->I { M with br:=[] })(m:Nat){n:Nat}{M:Meet}(i:MOk n M)(hn:n+6*m<=1000000)(h:I M):I (M.dW (Al m))/\MOk (n+6*m) (M.dW (Al m)):=by
 induction m with
 | zero=>exact⟨h,i⟩
 | succ m ih =>
  obtain⟨e,f⟩:=ih (by omega);show I (M.dW (Al m++Ao))/\MOk (n+6*(m+1)) (M.dW (Al m++Ao));rw[AG,ED];have a:=Bl (λc A N s g=>d c A N s.calm g) f (by omega) e;obtain⟨N,k,l,_⟩:=Cu (λA N s g=>d _ A N s.rQ g) a.1 a.2;have b:=a.1.act (x:=acN 7 0) (by omega) (by rw[<- DC];decide);rw[k]at b ⊢
  exact⟨j N l,b.mono (by omega)⟩
theorem JV{M:Meet}(h:∀ j,j<5->(M.ae j).up=true):M.dW Ax=M:=by
 have key:∀ l:List Lac,(∀ x∈l,M.act x=M)->M.dW l=M:=by
  intro l;induction l with
  | nil=>exact λ_=>rfl
  | cons x l ih =>
   intro a;show(M.act x).dW l=M;rw[a x O'];exact ih λy e=>a y (I' _ e)
 refine key _ λx d=>?_;obtain⟨k,b,rfl⟩:=mW.1 d;have c:=h k (ou.1 b);unfold Meet.act;simp only[acN];rw[if_neg (by decide),if_neg (by decide),if_neg (by decide),if_neg (by decide),if_neg (by decide),if_neg (by decide),if_pos trivial];show M.set k (if(M.ae k).up=true then M.ae k else _) M.br M.eo=M;rw[if_pos c,EM]
theorem IN{M:Meet}{i:Nat}(a:(M.ae i).up=true):M.act (acN 2 (i:Int))=M.set i ((M.ae i).lead i) M.br M.eo:=by
 unfold Meet.act;simp only[acN];rw[if_neg (by decide),if_pos trivial];show M.set i (if(M.ae i).up=true then _ else _) M.br M.eo=_;rw[if_pos a];rfl
theorem Ef(a b:Nat):Al (a+b)=Al a++Al b:=by
 induction b with
 | zero=>exact(na _).symm
 | succ b ih=>show Al (a+b)++Ao=Al a++(Al b++Ao);rw[ih,mH]
theorem mi(f:Nat->Int):∃ j,j<5/\∀ k,k<5->f k<=f j:=by
 have key:∀ n,∃ j,j<n+1/\∀ k,k<n+1->f k<=f j:=by
  intro n;induction n with
  | zero=>exact⟨0,by omega,λk c=>by rw[show k=0 by omega];exact mE _⟩
  | succ n ih =>
   obtain⟨j,d,b⟩:=ih;by_cases e:f j<=f (n+1)
   .refine⟨n+1,by omega,λk c=>?_⟩;by_cases a:k=n+1
    .rw[a];exact mE _
    .exact mX (b k (by omega)) e
   .refine⟨j,by omega,λk c=>?_⟩;by_cases a:k=n+1
    .rw[a];omega
    .exact b k (by omega)
 exact key 4
def F8(b:Bal):List (Bal × Nat):=(List.range 40).map λs=>(b,s)
theorem F9(b:Bal){s:Nat}(h:s<40):(b,s)∈F8 b:=mW.2 ⟨s,ou.2 h,rfl⟩
section
variable{S:Cmd->Prop}{K:Int}{B:Nat->Bal}{cov:List (Bal × Nat)}
section
variable{M:Meet}{i:Nat}
theorem Cm.to(h:Cm S K B cov M){K':Int}(c:∀ j,j<5->(M.ae j).vo.p.key<=K')(b:K'<=3600):Cm S K' B cov M :=
 ⟨h.ex,⟨b,λj a=>⟨by unfold Nod.pk;rw[if_pos (h.up j a)];exact c j a,(h.kb.2 j a).2⟩⟩,h.up,h.fa,h.s⟩
structure Led(i:Nat)(p q:Nod)(b:Bal):Prop where
 may:Ab b
 n:b.n=(i:Int)
 gt:5*p.cn+4<b.key/\p.vo.p.key<b.key
 le:b.key<=max (5*p.cn) p.vo.p.key+9
 up:q.up=p.up
 vo:q.vo.p=b
 fa:q.an.fa=b
 p1:P1 i q
 pe:∃ vs,Pend.began b vs∈q.bt
 ask:q.au=p.au/\q.bw=p.bw/\q.done=p.done
 ro:q.cn=p.cn
theorem Cm.lead(h:Cm S K B cov M)(z:14*K+38*(cov.length:Int)<=99000)(d:i<5)(I:K<=3591)(J:0<=(M.ae i).cn/\5*(M.ae i).cn<=3591) :
  ∃ b,Led i (M.ae i) ((M.ae i).lead i) b/\Cm S 3600 (upN B i b) (cov++F8 b) (M.set i ((M.ae i).lead i) M.br M.eo):=by
 have m:=h.up i d;have O:=h.le d;have u:=(h.acc d).1;have N:=Zd u;have F:0<=(M.ae i).vo.p.r/\0<=(M.ae i).vo.p.n/\(M.ae i).vo.p.n<=4:=by unfold Aq Ab at u;omega
 obtain⟨b,l⟩:∃ b:Bal,(⟨max (M.ae i).cn (M.ae i).vo.p.r+1,(i:Int)⟩:Bal)=b:=⟨_,rfl⟩;have L:b.key=5*(max (M.ae i).cn (M.ae i).vo.p.r+1)+(i:Int):=by rw[<- l];rfl
 have C:(M.ae i).vo.p.key=5*(M.ae i).vo.p.r+(M.ae i).vo.p.n:=rfl;have t:Ab b:=by rw[<- l];refine⟨⟨?_,?_⟩,?_,?_⟩<;>simp only<;>omega
 have f:=h.prom z d t (by rw[EZ t.pr u];omega);have E:(M.ae i).lead i=Nod.wait { ((M.ae i).al b).1 with an:=⟨b,λ_=>false,λ_=>DV,λ_=>(M.ae i).ab.length,0,[]⟩ } (.began b ((M.ae i).al b).2.1):=by
  unfold Nod.lead;simp only;rw[l,if_neg (λg=>g f.1)]
 have v:((M.ae i).al b).1.cn=(M.ae i).cn:=by
  unfold Nod.al;split
  .rfl
  .split
   .rfl
   .split<;>rfl
 have a:Led i (M.ae i) ((M.ae i).lead i) b:=by
  rw[E];exact⟨t,by rw[<- l],by omega,by omega,(Ev.al _ b).up,f.2,rfl,⟨rfl,λ_ _=>rfl⟩,⟨_,mG _ (E'.2 rfl)⟩,(Bi _ b).1,v⟩
 refine⟨b,a,?_⟩;obtain⟨σ,g,A⟩:=h.ex;obtain⟨τ,G,H,w,x,y⟩:=g.step (D:=whT) (.lead M i d m trivial);refine⟨⟨τ,w,λo s c k=>?_⟩,⟨mE _,?_⟩,λj q=>?_,λj q=>?_,h.s.step (D:=⟨λ_ _=>False,True,False,False,False,False⟩) (λ_ _ e=>False.elim e) (.lead M i d m trivial)⟩
 .rcases x o s c k with k|k
  .exact mJ _ (A o s c k)
  .exact absurd (y o s k).1 (by decide)
 .refine(h.kb.2.mono h.kb.1 (mE _)).set ⟨?_,by rw[a.ro];omega⟩ _ _;unfold Nod.pk;rw[if_pos (a.up.trans m),a.vo];omega
 .rw[An];split
  .exact a.up.trans m
  .exact h.up j q
 .rw[An];unfold upN;split
  .exact a.fa
  .exact h.fa j q
theorem ko{a:Int}{n:Nat}(O:MOk n M){m:Nat}(hm:2<=m)(hn:n+6*m+20<=1000000)(U:∀ j,j<5->∀ s,s<40->(B j,s)∈cov)(h:Cm S K B cov M)(z:KbI a a M)(W:K<=a)(T:a<=3500)(Z:14*a+38*(cov.length:Int)<=97000)(q:i<5) :
  ∃ K' B' cov',K'<=a+9/\Cm S K' B' cov' (((M.act (acN 2 (i:Int))).dW Ax).dW (Al m))/\(∀ j,j<5->∀ s,s<40->(B' j,s)∈cov')/\cov'.length<=cov.length+40/\Gr8 K' ((((M.act (acN 2 (i:Int))).dW Ax).dW (Al m)).ae i)/\KbI (a+9) (a+9) (((M.act (acN 2 (i:Int))).dW Ax).dW (Al m))/\MOk (n+6*m+1) (((M.act (acN 2 (i:Int))).dW Ax).dW (Al m)):=by
 have G:=h.up i q;have hr:=z i q;have F:=(O.ae i q).ro;have d:=O.act (x:=acN 2 (i:Int)) (by omega) (ET ⟨.inl rfl,by omega,by omega⟩);obtain⟨b,y,f⟩:=h.lead (by omega) q (by omega) ⟨F.1,by omega⟩;obtain⟨σ,g,_⟩:=h.ex;have o:=z.lead g q G M.br M.eo;have H:∀ j,j<5->((M.act (acN 2 (i:Int))).ae j).up=true:=by rw[IN G];exact f.up
 rw[JV H];rw[IN G]at d ⊢
 have u:=B1 M i ((M.ae i).lead i) M.br M.eo;generalize M.set i ((M.ae i).lead i) M.br M.eo=N at f o d u ⊢;rw[<- u]at y
 obtain⟨j,v,C⟩:=mi λj=>(N.ae j).vo.p.key;have E:∀ j,j<5->(N.ae j).vo.p.key<=a+9:=λj v=>by
  have:=(o j v).1;unfold Nod.pk at this
  rwa [if_pos (f.up j v)]at this
 have t:=E j v;have f:=f.to C (by omega);have l:∀ k,k<5->∀ s,s<40->(upN B i b k,s)∈cov++F8 b:=λk z s P=>by
  unfold upN;split
  .exact mG _ (F9 b P)
  .exact mJ _ (U k z s P)
 obtain⟨vs,V⟩:=y.pe;have A:=iX l d (by omega) f q v rfl y.vo y.may V;generalize (N.ae j).vo.p.key=K' at f A t;have L:∀ c X Y,Stp wh0 c X Y->(Cm S K' (upN B i b) (cov++F8 b) X/\KbI (a+9) (a+9) X)->(Cm S K' (upN B i b) (cov++F8 b) Y/\KbI (a+9) (a+9) Y):=λc X Y s g=>by
  obtain⟨σ,R,_⟩:=g.1.ex;exact⟨g.1.step l s,g.2.step (D:=wh0) (λe=>e) R s (mE _)⟩
 have J:=D1 L (λX g=>⟨g.1.drop,g.2⟩) 2 d (by omega) ⟨f,o⟩;obtain⟨r,rfl⟩:∃ r,m=2+r:=⟨m-2,by omega⟩;rw[Ef,AG];have Q:N.dW (Al 2)=N.dW (Ao++Ao):=rfl;rw[<- Q]at A
 have w:=D1 (I:=λX=>(Cm S K' (upN B i b) (cov++F8 b) X/\KbI (a+9) (a+9) X)/\Gr8 K' (X.ae i)) (λc X Y s g=>⟨L c X Y s g.1,g.2.ev (s.ev i)⟩) (λX g=>⟨⟨g.1.1.drop,g.1.2⟩,g.2⟩) r J.2 (by omega) ⟨J.1,A⟩;refine⟨K',_,_,t,w.1.1.1,l,?_,w.1.2,w.1.1.2,w.2.mono (by omega)⟩;rw[H'];unfold F8;rw[mV,oU];exact A' _
end
end
section
variable{C:List Cmd}{K:Int}{B:Nat->Bal}{cov:List (Bal × Nat)}{i:Nat}{b:Bal}{A:List Cmd}
section
variable{M N:Meet}{j n:Nat}
theorem Fin_.drop(f:Fin_ i A N):Fin_ i A { N with br:=[] }:=⟨f.ag,f.nx,f.hd,f.qu⟩
theorem Fin_.sR(a:PhC C K B cov i b)(h:PhE C K B cov i b M)(f:Fin_ i A M)(c:j<5)(o:A.length<=(M.ae j).ab.length):(M.ae j).ab=A:=by
 have n:=f.le a h c;obtain⟨σ,g,_⟩:=h.pb.cm.ex;refine oL (by omega) λs e k=>?_;obtain⟨l,c1⟩:=(g.nd j c).ag s _ (G' e);obtain⟨m,d⟩:=(g.nd i a.hi).ag s _ (by rw[f.ag];exact G' k);exact g.gs.sE.agree c1 d
structure Fz(C:List Cmd)(K:Int)(B:Nat->Bal)(cov:List (Bal × Nat))(i:Nat)(b:Bal)(A:List Cmd)(M:Meet):Prop where
 l:PhL C K B cov i b M
 f:Fin_ i A M
 a:∀ j,j<5->(M.ae j).ab=A
 s:∀ j,j<5->StI (M.ae j)
theorem Fz.step(d:PhC C K B cov i b)(s:Stp wh0 n M N)(h:Fz C K B cov i b A M):Fz C K B cov i b A N:=by
 have e:=h.l.step d s;have g:=Fin_.step d s h.l.pe h.f;exact⟨e,g,λj c=>g.sR d e.pe c (by have:=(s.ev j).ag.length_le;rw[h.a j c]at this;exact this),StI.step s (λj c=>(h.l.pe.pb.ak j c).dn) h.s⟩
theorem Fz.drop(h:Fz C K B cov i b A N):Fz C K B cov i b A { N with br:=[] }:=⟨h.l.drop,h.f.drop,h.a,h.s⟩
structure Rst(C:List Cmd)(K:Int)(B:Nat->Bal)(cov:List (Bal × Nat))(i:Nat)(b:Bal)(A:List Cmd)(M:Meet):Prop where
 z:Fz C K B cov i b A M
 d:∀ j,j<5->(M.ae j).done=A.length
theorem Pe(g:PhC C K B cov i b)(s:Stp wh0 n M N)(h:Fz C K B cov i b A M)(e:j<5)(d:(M.ae j).done=A.length):(N.ae j).done=A.length:=by
 have c:=h.step g s;have k:=(s.ev j).dn;have f:=(c.l.pe.pb.ak j e).dn;rw[c.a j e]at f
 omega
theorem Rst.step(a:PhC C K B cov i b)(s:Stp wh0 n M N)(h:Rst C K B cov i b A M):Rst C K B cov i b A N:=⟨h.z.step a s,λj c=>Pe a s h.z c (h.d j c)⟩
theorem Xa(o:PhC C K B cov i b)(g:∀ c∈C,c.e=0)(h:Fz C K B cov i b A M)(d:j<5):((M.act (acN 3 (j:Int))).ae j).done=A.length:=by
 have n:=h.l.pe.pb.cm.up j d;have m:=(h.l.pe.pb.ak j d).dn;have k:∀ c∈(M.ae j).ab,c.e=0:=λc f=>g c ((h.l.pe.pb.cm.s.nd j d).ag c f);rw[Hf n,An,if_pos rfl,TA,df]
 .rw[mM,h.a j d];rw[h.a j d]at m
  omega
 .rw[h.s j d];exact bq _ λc f=>k c (mT f)
 .exact λc f=>k c (oH f)
theorem Gr8.gt{p q:Nod}{K:Int}(h:Gr8 K p)(a:Aq p.vo.p){i:Nat}{b:Bal}(l:Led i p q b):K<b.key:=by
 have:=l.gt;unfold Gr8 at h;omega
theorem kq(R:∀ c∈C,c.e=0)(hC:C.length<40){K1:Int}(hM:MOk n M){m:Nat}(hm:85<=m)(hn:n+6*m+20<=990000)(hc:∀ j,j<5->∀ s,s<40->(B j,s)∈cov)(h:Cm (λc=>c∈C) K B cov M)(gr:Gr8 K (M.ae i))(hk:KbI K1 K1 M)(hK:K<=K1)(a4:K1<=3510)(hQ:14*K1+38*(cov.length:Int)<=97000)(t:i<5)(hA:∀ j,j<5->AskI (M.ae j))(hS:∀ j,j<5->StI (M.ae j)) :
  ∃ K' B' cov' b A,PhC C K' B' cov' i b/\Rst C K' B' cov' i b A (((M.act (acN 2 (i:Int))).dW Ax).dW (Al m)):=by
 have hu:=h.up i t;have hr:=hk i t;have a2:=(hM.ae i t).ro;have u:=hM.act (x:=acN 2 (i:Int)) (by omega) (ET ⟨.inl rfl,by omega,by omega⟩);obtain⟨b,q,o⟩:=h.lead (by omega) t (by omega) ⟨a2.1,by omega⟩;obtain⟨σ,g,_⟩:=h.ex;have L:=AskI.step (Stp.lead (D:=whT) M i t hu trivial) g hA;have T:=StI.step (Stp.lead (D:=whT) M i t hu trivial) (λj f=>(hA j f).dn) hS;have a5:=gr.gt (h.acc t).1 q;have a6:b.key<=K1+9:=by
  have:=q.le;have:=h.le t;omega
 have a3:∀ j,j<5->((M.act (acN 2 (i:Int))).ae j).up=true:=by rw[IN hu];exact o.up
 rw[JV a3];rw[IN hu]at u ⊢
 have G:=B1 M i ((M.ae i).lead i) M.br M.eo;have S:∀ j,j≠i->((M.set i ((M.ae i).lead i) M.br M.eo).ae j)=M.ae j:=λj f=>by rw[An,if_neg f]
 have V:QA i b (M.set i ((M.ae i).lead i) M.br M.eo):=λj f c hx=>by
  refine absurd ?_ (show ¬ b.key<=max K (M.ae i).vo.p.key by have:=q.gt;omega);by_cases e:j=i
  .rw[e,G,q.ask.2.1]at hx
   have:=(hA i t).le c b hx;omega
  .rw[S j e]at hx
   have:=(hA j f).le c b hx;have:=h.le f;omega
 have F:∀ j,j<5->j≠i->((M.set i ((M.ae i).lead i) M.br M.eo).ae j).vo.p.key<b.key:=λj f e=>by
  rw[S j e];have:=h.le f;omega
 generalize M.set i ((M.ae i).lead i) M.br M.eo=N at o u G L T V F ⊢;rw[<- G]at q
 have o:=o.to (K':=b.key) (λj f=>by
  by_cases e:j=i
  .rw[e,q.vo];exact mE _
  .have:=F j f e;omega) (by omega)
 have E:∀ k,k<5->∀ s,s<40->(upN B i b k,s)∈cov++F8 b:=λk hk s hs=>by
  unfold upN;split
  .exact mG _ (F9 b hs)
  .exact mJ _ (hc k hk s hs)
 have l:PhC C b.key (upN B i b) (cov++F8 b) i b:=⟨E,hC,t,q.may,q.n,De _ _ _,rfl⟩;have y:14*b.key+38*((cov++F8 b).length:Int)<=99000:=by
  have:(cov++F8 b).length=cov.length+40:=by rw[H'];unfold F8;rw[mV,oU]
  omega
 obtain⟨vs,hq⟩:=q.pe;generalize cov++F8 b=cov' at o E l y;generalize upN B i b=B' at o E l;generalize a0:b.key=K' at o l y F;have O:PhB C K' B' cov' i b N:=⟨o,L,q.vo⟩;obtain⟨p1,p2,p3,p4,p5,p6,p7⟩:=eG E y u (by omega) o t q.may a0 l.hB q.vo F hq q.p1;obtain⟨q1,q2,_,_⟩:=Rn l u (by omega) O V;have U:=D1 (I:=λX=>PhB C K' B' cov' i b X/\∀ j,j<5->StI (X.ae j)) (λc X Y s g=>⟨g.1.step l s,StI.step s (λj f=>(g.1.ak j f).dn) g.2⟩) (λX g=>⟨⟨g.1.cm.drop,g.1.ak,g.1.vi⟩,g.2⟩);have H:∀ a X k,MOk k X->k+6*a<=1000000->PhB C K' B' cov' i b X->(∀ j,j<5->StI (X.ae j))->∀ j,j<5->StI ((X.dW (Al a)).ae j):=λa X k h1 h2 h3 h4=>(U a h1 h2 ⟨h3,h4⟩).1.2;clear U;have s1:=H 1 N _ u (by omega) O T;rw[show Al 1=Ao from rfl]at s1
 obtain⟨r1,r2,r3,r4⟩:=eH l p7 (by omega) q1 (λj f c e=>.inl (q2 j f c e)) p2 p3 p4 p5 p6;have s2:=H 1 _ _ p7 (by omega) q1 s1;rw[show Al 1=Ao from rfl]at s2
 obtain⟨W,t1,t2,t3,t4,t5⟩:=iG l y R 81 r4 (by omega) r1 r2 r3 (by unfold mu;split<;>omega);have s3:=H W _ _ r4 (by omega) r1.pe.pb s2;obtain⟨r,rfl⟩:∃ r,m=1+(1+(W+(1+(1+r)))):=⟨m-W-4,by omega⟩;rw[Ef,AG,Ef,AG,Ef,AG,Ef,AG,Ef,AG];simp only[show Al 1=Ao from rfl];generalize (((N.dW Ao).dW Ao).dW (Al W))=X at t2 t3 t4 t5 s3 ⊢;generalize (X.ae i).ab=A at t2;obtain⟨u1,u2⟩:=MY l t5 (by omega) t3 t4;rw[t2.ag]at u2
 have v:=D1 (I:=λY=>PhL C K' B' cov' i b Y/\Fin_ i A Y/\∀ j,j<5->StI (Y.ae j)) (λc Y Z s g=>⟨g.1.step l s,Fin_.step l s g.1.pe g.2.1,StI.step s (λj f=>(g.1.pe.pb.ak j f).dn) g.2.2⟩) (λY g=>⟨g.1.drop,g.2.1.drop,g.2.2⟩) 1 t5 (by omega) ⟨t3,t2,s3⟩;rw[show Al 1=Ao from rfl]at v
 obtain⟨⟨v1,v2,v3⟩,v4⟩:=v;have w:Fz C K' B' cov' i b A (X.dW Ao):=⟨v1,v2,λj f=>v2.sR l v1.pe f (u2 j f),v3⟩;generalize X.dW Ao=Y at w v4 ⊢;have x:Rst C K' B' cov' i b A (Y.dW Ao):=by
  have hz:=D1 (λc Y Z s g=>Fz.step l s g) (λY g=>Fz.drop g) 1 v4 (by omega) w;rw[show Al 1=Ao from rfl]at hz
  refine⟨hz.1,λj f=>?_⟩;have a:=Bl (λc A N s g=>Fz.step l s.calm g) v4 (by omega) w;have d:=MM (J:=λZ=>(Z.ae j).done=A.length) (λc A N s g=>Fz.step l s.calm g) (λc A N s g d=>Pe l s.calm g f d) v4 (by omega) w f λZ _ _ _ g _=>Xa l R g f;rw[ED];obtain⟨Z,k1,k2,_⟩:=Cu (I:=λZ=>Fz C K' B' cov' i b A Z/\(Z.ae j).done=A.length) (λP Q s g=>⟨g.1.step l s.rQ,Pe l s.rQ g.1 f g.2⟩) a.1 ⟨a.2,d⟩;rw[k1];exact k2.2
 have a1:MOk (n+1+6+6+6*W+6*1+6*1) (Y.dW Ao):=(D1 (λc Y Z s g=>Fz.step l s g) (λY g=>Fz.drop g) 1 v4 (by omega) w).2;exact⟨K',B',cov',b,A,l,(D1 (λc Y Z s g=>Rst.step l s g) (λY g=>⟨g.z.drop,g.d⟩) r a1 (by omega) x).1⟩
end
end
def l9(l:List Int):Cmd:=⟨Ac (unQ l) 0,Ac (unQ l) 4,Ac (unQ l) 8,Ac (unQ l) 12,Ac (unQ l) 16⟩
theorem kD{l:List Int}{a:Int}(h:opE l a=0):unE l=0:=by
 unfold opE at h;split at h
 .rename_i g;exact absurd h g
 .rename_i g;exact mI.1 g
theorem lA{l:List Int}(h:unE l=0):(l9 l).e=0:=by
 have:=(RJ h).2;unfold Cx at this;split at this
 .cases this
 .exact this
def KW(L:List Lac):List Cmd:=(L.filter λx=>decide (x.k=1/\unE x.d=0)).map λx=>l9 x.d
theorem fA{L:List Lac}{x:Lac}(c:x∈L)(b:x.k=1){a:Int}(h:opE x.d a=0):Ho x.d a∈KW L:=by
 refine mW.2 ⟨x,pR.2 ⟨c,M' ⟨b,kD h⟩⟩,?_⟩;unfold Ho;rw[if_pos h];rfl
theorem j0(L:List Lac):∀ c∈KW L,c.e=0:=λc a=>by
 obtain⟨x,b,rfl⟩:=mW.1 a;exact lA (ng (pR.1 b).2).2
theorem XF(L:List Lac)(e:∀ x∈L,LacOk x)(k:L.length<=100000):(∀ j,j<5->AskI ((Au.dW L).ae j))/\∀ j,j<5->StI ((Au.dW L).ae j):=by
 have s:Sts whT L.length Au (Au.dW L):=Ff L MOk.zero (by omega) λx i=>⟨e x i,Jv x⟩;exact(s.inv (I:=λM=>(∃ σ,AgI σ M)/\(∀ j,j<5->AskI (M.ae j))/\∀ j,j<5->StI (M.ae j)) (λc M N h ⟨⟨σ,g⟩,a,b⟩=>by
  obtain⟨τ,_,_,d,_⟩:=g.step h;exact⟨⟨τ,d⟩,AskI.step h g a,StI.step h (λj f=>(a j f).dn) b⟩) ⟨⟨_,AgI.zero⟩,AskI.zero,StI.zero⟩).2
theorem dY(L M:List Lac):lds (L++M)=lds L+lds M:=by unfold lds;rw[pS]
theorem settled(L:List Lac)(v:∀ x∈L,LacOk x)(a2:9*lds L<=3480)(n:(KW L).length<40)(hq:126*lds L+38*L.length<=85000)(m:Nat)(hm:85<=m)(hl:L.length+12*m<=99000){i:Nat}(O:i<5) :
  ∃ K B cov b A,PhC (KW L) K B cov i b/\Rst (KW L) K B cov i b A (Au.dW (L++(Cy m (i:Int)++Cy m (i:Int)))):=by
 have C:∀ x∈Cy m (i:Int),LacOk x:=λx hx=>by
  rcases U'.1 hx with hx|hx
  .rcases U'.1 hx with hx|hx
   .exact PD 0 x hx
   .rw[E'.1 hx];exact ET ⟨.inl rfl,by omega,by omega⟩
  .exact PD m x hx
 have a0:(Cy m (i:Int)).length=6*m+11:=by
  have V:∀ m,(Dn m).length=5+6*m:=λm=>by unfold Dn;rw[H',Ij];rfl
  unfold Cy;simp only[H',V,nL];omega
 have l:∀ x∈L++Ax,LacOk x:=λx hx=>(U'.1 hx).elim (v x) λe=>PD 0 x (mJ _ e);have a1:(L++Ax).length=L.length+5:=by rw[H'];rfl
 have t:∀ j,j<5->((Au.dW (L++Ax)).ae j).up=true:=λj z=>by
  have:=jn L v 0 (by omega) z
  rwa [show Dn 0=Ax from na _]at this
 have Y:∀ x∈L++Ax,x.k=1->∀ o:Nat,opE x.d (o:Int)=0->Ho x.d (o:Int)∈KW L:=λx hx H o h=>by
  rcases U'.1 hx with e|e
  .exact fA e H h
  .obtain⟨k,_,rfl⟩:=mW.1 e;exact absurd H (by show(9:Int)≠1;decide)
 have g:=gO (S:=λc=>c∈KW L) (L++Ax) l (by omega) Y;obtain⟨τ,cov,_,J,u,w,y⟩:=WR (L++Ax) MOk.zero (by omega) l AgI.zero KbI.zero (cov:=[]) (λb s c h=>h.elim);rw[show lds (L++Ax)=lds L by rw[dY];rfl,Int.zero_add]at u
 have r:=I6 (L++Ax) l (by omega);have F:Au.dW (L++(Cy m (i:Int)++Cy m (i:Int)))=(((((((Au.dW (L++Ax)).act (acN 2 (i:Int))).dW Ax).dW (Al m)).dW Ax).act (acN 2 (i:Int))).dW Ax).dW (Al m):=by
  have e:∀ X:Meet,X.dW (Cy m (i:Int))=(((X.dW Ax).act (acN 2 (i:Int))).dW Ax).dW (Al m):=λX=>by
   unfold Cy;rw[AG,show Dn 0=Ax from na _,AJ];unfold Dn;rw[AG]
  rw[AG,AG,e,e,AG]
 rw[F];have G:((((Au.dW (L++Ax)).act (acN 2 (i:Int))).dW Ax).dW (Al m))=Au.dW (L++Cy m (i:Int)):=by
  rw[AG _ L (Cy m (i:Int)),AG _ L Ax];unfold Cy;rw[AG,show Dn 0=Ax from na _,AJ];unfold Dn;rw[AG]
 have a:=XF (L++Cy m (i:Int)) (λx hx=>(U'.1 hx).elim (v x) (C x)) (by rw[H'];omega);rw[<- G]at a
 clear F G;generalize Au.dW (L++Ax)=M at t g J u r a ⊢;obtain⟨q,f⟩:∃ q,cov++(F8 (M.ae 0).an.fa++(F8 (M.ae 1).an.fa++(F8 (M.ae 2).an.fa++(F8 (M.ae 3).an.fa++F8 (M.ae 4).an.fa))))=q:=⟨_,rfl⟩;have I:q.length<=L.length+205:=by
  rw[<- f];simp only[H',F8,mV,oU];simp only[List.length_nil]at w;omega
 have Z:∀ j,j<5->∀ s,s<40->((M.ae j).an.fa,s)∈q:=λj z s n=>by
  rw[<- f];refine mG _ ?_;simp only[U'];rcases rk z with rfl|rfl|rfl|rfl|rfl
  .exact .inl (F9 _ n)
  .exact .inr (.inl (F9 _ n))
  .exact .inr (.inr (.inl (F9 _ n)))
  .exact .inr (.inr (.inr (.inl (F9 _ n))))
  .exact .inr (.inr (.inr (.inr (F9 _ n))))
 have W:Cm (λc=>c∈KW L) (9*(lds L:Int)) (λj=>(M.ae j).an.fa) q M:=⟨⟨τ,J,λb s c h=>by rw[<- f];exact mJ _ (y b s c h)⟩,⟨by omega,u.mono (mE _) (by omega)⟩,t,λ_ _=>rfl,g⟩;obtain⟨K',B',E,k1,D,k3,k4,P,Q,R⟩:=ko r (m:=m) (by omega) (by omega) Z W u (mE _) (by omega) (by omega) O;generalize (((M.act (acN 2 (i:Int))).dW Ax).dW (Al m))=N at D P Q R a ⊢;rw[JV D.up];obtain⟨U,T,p,b,A,z1,z2⟩:=kq (j0 L) n R hm (by omega) k3 D P Q (by omega) (by omega) (by omega) O a.1 a.2;exact⟨U,T,p,b,A,z1,z2⟩
theorem iZ{l A:List Cmd}(e:l.length<=A.length)(h:∀ (s:Nat) (c d:Cmd),l[s]?=some c->A[s]?=some d->c=d):l <+: A:=by
 refine List.prefix_iff_eq_take.2 (oL (by rw[X'];omega) λs a b=>?_);rw[List.getElem_take];exact h s _ _ (G' a) (G' (by omega))
section
variable{C:List Cmd}{K:Int}{B:Nat->Bal}{cov:List (Bal × Nat)}{i:Nat}{b:Bal}{A:List Cmd}
theorem Rst.log{N:Meet}(r:Rst C K B cov i b A N){j:Nat}(c:j<5):N.log j=A:=by unfold Meet.log;rw[r.z.a j c,r.d j c,oG]
theorem Rst.uh(m:PhC C K B cov i b){L R:List Lac}(k:∀ x∈L++R,LacOk x)(o:(L++R).length<=100000)(r:Rst C K B cov i b A (Au.dW (L++R))){j:Nat}(n:j<5):(Au.dW L).log j <+: A:=by
 refine(pf _ _).trans (iZ ?_ λs c d g h=>agree k o n m.hi g (by rw[r.z.f.ag];exact h));rw[H']at o
 have a:∀ x∈L,LacOk x:=λx e=>k x (mJ _ e);have q:Sts whT L.length Au (Au.dW L):=Ff L MOk.zero (by omega) λx e=>⟨a x e,Jv x⟩;have t:Sts whT R.length (Au.dW L) (Au.dW (L++R)):=by
  rw[AG];exact Ff R (I6 L a (by omega)) (by omega) λx e=>⟨k x (mG _ e),Jv x⟩
 obtain⟨σ,_,_,g,_⟩:=AgI.zero.steps q;obtain⟨τ,_,h,p,_⟩:=g.steps t;have:=((g.nd j n).ag.mono h).le (r.z.f.none m r.z.l.pe p) (mY _);omega
end
theorem bv(L:List Lac):(KW L).length<=L.countP λx=>decide (x.k=1):=by
 unfold KW;rw[mV,<- List.countP_eq_length_filter];exact List.countP_mono_left λx _ h=>M' (ng h).1
theorem aP(G:List Gr)(m:Nat)(cr:Bool):(scr G m cr).countP (λx=>decide (x.k=1))<=6:=by
 have key:∀ (l:List Gr) (s:Nat),(MF cr s l).countP (λx=>decide (x.k=1))<=6-s:=by
  intro l;induction l with
  | nil=>exact λs=>mY _
  | cons g l ih =>
   intro s;rw[MF,pF];unfold WV fg;generalize Ph g cr=x;by_cases h:x.k=1
   .have:=ih (s+1);by_cases a:6<s+1
    .rw[if_pos h,if_pos (⟨h,a⟩:x.k=1/\6<s+1),if_neg (by decide)];omega
    .rw[if_pos h,if_neg (λe:x.k=1/\6<s+1=>a e.2),if_pos (M' h)];omega
   .have:=ih s;rw[if_neg h,if_neg (λe:x.k=1/\6<s+1=>h e.1),if_neg (λe=>h (ng e))];omega
 exact key _ 0
theorem iH(L:List Lac):lds L<=L.length:=List.countP_le_length
theorem fu(L:List Lac)(a:∀ x∈L,LacOk x)(g:L.length<=380)(h:L.countP (λx=>decide (x.k=1))<40){i:Nat}(c:i<5) :
  ∃ K B cov b A,PhC (KW L) K B cov i b/\Rst (KW L) K B cov i b A (Au.dW (L++Hq L (i:Int))):=by
 have d:=iH L;have e:(L.filter hvy).length<=L.length:=py _ _;have f:=bv L;exact settled L a (by omega) (by omega) (by omega) (Fp L) (by unfold Fp;omega) (by unfold Fp;omega) c
end
section
open Go.RowKit
theorem X8{n many c:Int}{w:World}(h:I64 n)(b:pick n many=c)(d:0<many:=by decide)(a:many<=9223372036854775807:=by decide) :
  Calls prog 7 #[iv n,iv many] w λe w'=>e=.returned (iv c)/\Bw w w':=by subst b;exact Cn h many d a
theorem Ut{l A:List Cmd}(h:l <+: A):alk A l=true:=by
 obtain⟨r,rfl⟩:=h;induction l with
 | nil=>exact Us _
 | cons c l ih=>rw[List.cons_append,alk,ih];simp
theorem Zs{M:Meet}{A:List Cmd}(h:∀ j,j<5->M.log j <+: A):((lgN M 5).map M.log).getD [] <+: A:=by
 cases hh:lgN M 5 with
 | none=>exact List.nil_prefix
 | some j=>exact h j (Zr hh)
theorem Lg{l:S3}{G:List Gr}{ld:Int}{w:World}(h:RdV w l 5 (grL G))(hG:∀ g∈G,GrOk g)(a5:I64 ld)(hT:X9 w) :
  Calls prog 3 #[l.v,iv ld] w λe w'=>e=.returned (.bool true)/\Bw w w':=by
 obtain⟨L,hL⟩:∃ L,scr G 100 true=L:=⟨_,rfl⟩;have q:=jr G 100 true;have a6:=fh G 100 true;have a4:=aP G 100 true;rw[hL]at q a6 a4
 have hr:=Bq ld 5 (by omega);obtain⟨n,hn,a7⟩:∃ n:Nat,pick ld 5=(n:Int)/\n<5:=⟨(pick ld 5).toNat,by omega,by omega⟩;have d0:=aX L (n:Int);have a8:∀ x∈Hq L (n:Int),LacOk x:=R0 (λn hn=>ET ⟨.inr (.inr rfl),by omega,by omega⟩) (λn hn=>ET ⟨.inr (.inl rfl),by omega,by omega⟩) (by rw[<- DC];decide) (ET ⟨.inl rfl,by omega,by omega⟩) L;have p:∀ x∈L++Hq L (n:Int),LacOk x:=λx hx=>(U'.1 hx).elim (q x) λe=>a8 x e;have O:(L++Hq L (n:Int)).length<=100000:=by rw[H'];omega
 obtain⟨K,B,c6,b,A,hh,V⟩:=fu L q (by omega) (by omega) a7;have D:∀ j,j<5->(Au.dW L).log j <+: A:=λj S=>V.uh hh p O S;have c:∀ j,j<5->(Au.dW (L++Hq L (n:Int))).log j=A:=λj S=>V.log S;have W:∀ j,j<5->((Au.dW (L++Hq L (n:Int))).ae j).up=true:=V.z.l.pe.pb.cm.up;have c7:A.length<=40:=by
  have:=((I6 _ p O).ae 0 (by omega)).ag
  rwa [V.z.a 0 (by omega)]at this
 clear V hh;obtain⟨M,hM⟩:∃ M,Au.dW L=M:=⟨_,rfl⟩;obtain⟨N,U⟩:∃ N,Au.dW (L++Hq L (n:Int))=N:=⟨_,rfl⟩;rw[hM]at D
 rw[U]at c W
 have u:=Zs D;refine tIn [] func3 trivial (tR 7 [] λd3 _ _=>tC 1 (λF C=>WW (most:=100) (cr:=true) (h.af (CgQ.af C)) hG (by decide) (tbA hT.1 C)) λI=>?_);rintro _ _ ⟨s,P,rfl,R,hN,b2⟩;refine⟨_,Fa.ac s P::_,rfl,b2,λF=>⟨hN.ac I,F⟩,?_⟩;rw[hL]at R
 have c8:P.length=L.length:=by rw[<- R,mV]
 refine tF λF _=>?_;have d1:=(AcR.of F.1 R).n;refine tR 5 [] λd4 _ _=>tC 1 (λF C=>aD (AcR.of F.1 R) q (by omega) (tb5 hT C) hM) λI=>?_;rintro _ _ ⟨ly,tv,H,rfl,hW,hO,b4⟩;refine⟨_,Fa.ot ly tv H M::_,rfl,b4,λF=>⟨Py hW hO I,F⟩,?_⟩;refine tR 11 [1,0,0,0] λd5 _ _=>tC1 2 (λF C=>X8 a5 hn) λ_=>tC 3 (λF C=>TU (n:=(n:Int)) (AcR.of F.2.1 R) (by omega)) λI=>?_;rintro _ _ ⟨z,rfl,hz,b8⟩;refine⟨_,Fa.ac z (P++rnP (Hq L (n:Int)))::_,rfl,b8,λF=>⟨⟨hz.fz I,Dat.app F.2.1.2 (PC _ _ (R0 (P:=λa=>a.d=[]) (λ_ _=>rfl) (λ_ _=>rfl) rfl rfl L))⟩,F⟩,?_⟩;have a2:(P++rnP (Hq L (n:Int))).map (·.1)=L++Hq L (n:Int):=by rw[nh,R,eX]
 refine tC 4 (λF C=>aD (AcR.of F.1 a2) p O (tb5 hT C) U) λI=>?_;rintro _ _ ⟨E,T,o,rfl,a3,a1,a0⟩;refine⟨_,[Fa.ot E T o N,Fa.ot ly tv H M],rfl,a0,λF=>⟨Py a3 a1 I,F.2.1,trivial⟩,?_⟩;refine tF λF _=>?_;have c9:=(Pz F.1).n5;obtain⟨bl,fl,Q,_⟩:=F.1.rT.rd.spot (i:=0) (by omega);have X:∀ j,j<5->(o j).n=A.length:=λj S=>by rw[VB (F.1.log j S).rd,c j S]
 have d2:(lgY H (lgN M 5)).n<=A.length:=by rw[VB (Te F.2.1 (n:=5) (A' 5)).rd];exact u.length_le
 have a9:=X 0 (by omega);refine tR 22 [1,0,1,0,0] λf _ _=>tC1 1 (λF C=>Tf (Pz F.2.1)) λ_=>tR 6 [1] λb0 _ _=>tV 2 (pt bl (fl+0)) (λF C=>(Rp Q 0 (by omega))) (tV 3 (S3.v (o 0)) (λF C=>(Db underlying35 rfl (IP F.1.rT.rd Q (by omega)))) (tR 8 [] λb1 _ _=>DT 83 [(8,pt (f 0) 0),(10,S3.v (lgY H (lgN M 5))),(11,S3.v (o 0)),(12,iv 0)] [false,true] [⟨(f 0),.cells #[iv (N.br.length:Int),.bool (N.ae 0).up,.bool (N.ae 1).up,.bool (N.ae 2).up,.bool (N.ae 3).up,.bool (N.ae 4).up,S3.v E,iv ((N.ae 0).bad:Int),iv ((N.ae 1).bad:Int),iv ((N.ae 2).bad:Int),iv ((N.ae 3).bad:Int),iv ((N.ae 4).bad:Int),S3.v T] 30,.l,false⟩] [Fa.ot E T o N,Fa.ot ly tv H M] (λkk ee LL Z=>∃ (n:Nat),kk=5-n/\ee=[(8,pt (f 0) 0),(10,S3.v (lgY H (lgN M 5))),(11,S3.v (o 0)),(12,iv (n:Int))]/\LL=[⟨(f 0),.cells (IX N E T) 30,.l,false⟩]/\Z=[Fa.ot E T o N,Fa.ot ly tv H M]/\n<=5) (5) ⟨0,rfl,rfl,rfl,rfl,by omega⟩ (λF=>⟨F.1,F.2.1,trivial⟩) ?_));rintro k _ _ _ ⟨n,rfl,rfl,rfl,rfl,hn⟩ _ _ _ J hJ;refine tR 9 [0] λb3 _ _=>?_;by_cases h1:n<5
 .refine tI ((decide ((n:Int)<(E.n:Int)))) true (M' (by omega)) ?_;have Y:=X n (by omega);refine tR 8 [0] λb5 _ _=>tV 3 (pt bl (fl+n)) (λF C=>(Rp Q n (by omega))) (tV 4 (S3.v (o n)) (λF C=>(Db underlying35 rfl (IP F.1.rT.rd Q (by omega)))) (tR 3 [] λb6 _ _=>tV 8 (.bool false) (λF C=>(Hp (t:=3) (m:=((o n).n:Int)) (n:=((o 0).n:Int)) (x:=(.tmp 52)) (y:=(.tmp 54)) (by rw[Y,a9];simp))) (tR 4 [0] λb7 _ _=>tV 13 (pt bl (fl+n)) (λF C=>(Rp Q n (by omega))) (tV 14 (S3.v (o n)) (λF C=>(Db underlying35 rfl (IP F.1.rT.rd Q (by omega)))) (tR 1 [] λb9 _ _=>tC1 16 (λF C=>PY (F.1.log n (by omega)).rd (F.1.log 0 (by omega)).rd (by rw[c n (by omega)];omega) (r:=true) (by rw[c 0 (by omega),c n (by omega)];exact Ut (mL _))) λ_=>tR 5 [] λc0 _ _=>tV 22 (pt (f 0) (1+n)) (λF C=>(jf (by omega))) (tW 23 (.bool true) (λF K=>Db underlying4 rfl (my K 0 (f 0) (IX N E T).toList 30 .l false (by kernel_rfl) (kG (by omega) (W n (by omega))))) (tR 8 [] λc1 _ _=>tV 1 (iv ((n:Int)+1)) (λF C=>(AI (x:=(.tmp 45)) (y:=(.const (iv 1))) (n:Int) 1 underlying3 (by omega))) (tR 2 [] λc2 _ _=>tB hJ (5-(n+1)) (by omega) [true] ⟨n+1,rfl,rfl,rfl,rfl,by omega⟩ (λF=>⟨F.1,F.2.1,trivial⟩)))))))))
 .refine tI ((decide ((n:Int)<(E.n:Int)))) false (D' (by omega)) (tR 7 [] λc3 _ _=>tV 4 (.bool true) (λF C=>(rGe (t:=3) (m:=((o 0).n:Int)) (n:=((lgY H (lgN M 5)).n:Int)) (x:=(.tmp 74)) (y:=(.tmp 76)) (M' (by omega)))) (tR 3 [] λc4 _ _=>tC1 8 (λF C=>PY (F.1.log 0 (by omega)).rd (Te F.2.1 (n:=5) (A' 5)).rd (by rw[c 0 (by omega)];omega) (r:=true) (by rw[c 0 (by omega)];exact Ut u)) λ_=>tR 3 [] λc5 _ _=>tE (.bool true) λ_ B=>⟨rfl,B⟩))
end
end Go.Proofs.YtogibonjmbhliaaGreatDoor
