/- Part 18 of the walk. -/
import Derived.Test.YtdjfdfpkkenjbacGreatDoorZ17
set_option maxRecDepth 100000
set_option maxHeartbeats 4000000
open Go.Proofs.Tryz
set_option linter.unusedVariables false
namespace Go.Proofs.YtdjfdfpkkenjbacGreatDoor
section
theorem Ps(p:Nod)(b:Bal):(p.an b).1.done=p.done:=by
 unfold Nod.an;split
 .rfl
 .split
  .rfl
  .split<;>rfl
theorem OD(p:Nod)(v:Vt):(p.bN v).1.done=p.done:=by
 unfold Nod.bN;split
 .rfl
 .split
  .rfl
  .split<;>rfl
theorem Lo(p:Nod)(j:Nat)(v:Vt):(p.count j v).done=p.done:=by
 unfold Nod.count;split
 .rfl
 .split<;>rfl
theorem Ki(p:Nod)(to:Nat)(e:Int):(p.ew to e).done=p.done:=by unfold Nod.ew;split<;>rfl
theorem I0(p:Nod)(l:List Cmd):(p.dT l).done=p.done:=by unfold Nod.dT;split<;>rfl
theorem WS(p:Nod)(l:Let):(p.take l).done=p.done:=by
 unfold Nod.take;split
 .split
  .exact Ki _ _ _
  .exact Ps p l.fv
 .simp only;split<;>rfl
 .rfl
 .split
  .exact Ki _ _ _
  .exact OD p l.bN
 .exact Lo p _ _
 .split<;>rfl
 .simp only;split<;>exact I0 p l.fm
 .rfl
theorem O3(p:Nod)(i:Nat)(q:Pend):(p.hZ i q).done=p.done:=by
 cases q with
 | began b vs=>unfold Nod.hZ;simp only;split<;>rfl
 | prop v=>exact Lo p i v
 | _=>rfl
theorem Si(i:Nat)(l:List Pend)(p:Nod)(a:List Let):(lr i l p a).1.done=p.done:=by
 induction l generalizing p a with
 | nil=>rfl
 | cons q l ih=>exact(ih _ _).trans (O3 p i q)
def JH(l:List Cmd):Sto:=l.foldl dnS CJ
theorem WH(l:List Cmd)(c:Cmd):JH (l++[c])=dnS (JH l) c:=by unfold JH;rw[oS];rfl
theorem Ms(l:List Cmd)(h:∀ c∈l,c.e=0):Ip (JH l):=by
 have key:∀ (l:List Cmd) (s:Sto),Ip s->(∀ c∈l,c.e=0)->Ip (l.foldl dnS s):=by
  intro l;induction l with
  | nil=>exact λs a _=>a
  | cons c l ih=>exact λs a h=>ih _ (Uk a (h c M')) λd b=>h d (I' _ b)
 exact key l CJ az h
def StI(p:Nod):Prop:=p.ie=JH (p.ae.take p.done)
theorem StI.jv{p q:Nod}(h:StI p)(d:q.ie=p.ie)(b:q.done=p.done)(a:p.ae <+: q.ae)(c:p.done<=p.ae.length):StI q:=by
 unfold StI;rw[d,b,Mz a c];exact h
theorem aQ(p:Nod)(l:Let):(p.take l).ie=p.ie:=by
 unfold Nod.take;split
 .split
  .unfold Nod.ew;split<;>rfl
  .show(p.an l.fv).1.ie=_;unfold Nod.an;split
   .rfl
   .split
    .rfl
    .split<;>rfl
 .simp only;split<;>rfl
 .rfl
 .split
  .unfold Nod.ew;split<;>rfl
  .show(p.bN l.bN).1.ie=_;unfold Nod.bN;split
   .rfl
   .split
    .rfl
    .split<;>rfl
 .unfold Nod.count;split
  .rfl
  .split<;>rfl
 .split<;>rfl
 .simp only;unfold Nod.dT;split<;>split<;>rfl
 .rfl
theorem StI.bare(p:Nod)(u:Bool)(d:List Int)(s:Int)(a:Acc)(x:List Pend):StI (p.bare u d s a x):=rfl
theorem StI.step{D:Wh}{c:Nat}{M N:Meet}(s:Stp D c M N)(a:∀ j,j<5->(M.ab j).done<=(M.ab j).ae.length)(h:∀ j,j<5->StI (M.ab j)):∀ j,j<5->StI (N.ab j):=by
 intro j g;have put:∀ {k:Nat} {p:Nod} {f:List Let} {i:List Tol},(k<5->StI p)->StI ((M.set k p f i).ab j):=λ{k p f i} e=>by
  rw[Aj];split
  .rename_i e2;exact e (by omega)
  .exact h j g
 cases s with
 | take _ l hl hd2 hu ht=>exact put λ_=>(h _ hd2.2).jv (aQ _ l) (WS _ l) (Ev.take _ l).ag (a _ hd2.2)
 | bm _ f hl a=>exact h j g
 | one _ k c hi hu hc he =>
  refine put λ_=>?_;have e:StI { M.ab k with ie:=doS (M.ab k).ie c,done:=(M.ab k).done+1 }:=by
   unfold StI;show doS (M.ab k).ie c=JH ((M.ab k).ae.take ((M.ab k).done+1));rw[oQ,hc,Sg he,h k hi];exact(WH _ c).symm
  unfold Nod.fu;split<;>exact e
 | ask _ k hi hu =>
  refine put λ_=>?_;have:=h k hi;unfold Nod.hU;split
  .exact this
  .split
   .unfold Nod.dT;split<;>exact this
   .exact this
 | prop _ k hi hu =>
  refine put λ_=>?_;have:=h k hi;unfold Nod.cl;split
  .exact this
  .split
   .exact this
   .split
    .exact this
    .show StI ((M.ab k).bN _).1;unfold Nod.bN;split
     .exact this
     .split
      .exact this
      .split<;>exact this
 | qJ _ k hi hu hs hT=>exact put λ_=>h k hi
 | run _ k hi hu q l hp hs =>
  refine put λ_=>(h k hi).jv ?_ ((O3 (M.ab k) k q)) ((Ev.hZ (M.ab k) k q).br l).ag (a k hi);show((M.ab k).hZ k q).ie=_;cases q with
  | began b vs=>simp only[Nod.hZ];split<;>rfl
  | prop v =>
   simp only[Nod.hZ,Nod.count];split
   .rfl
   .split<;>rfl
  | _=>rfl
 | qA _ k hi hu hL=>exact put λ_=>h k hi
 | lead _ k hi hu hL =>
  refine put λ_=>?_;have:=h k hi;unfold Nod.lead;simp only;split
  .exact this
  .generalize (⟨max (M.ab k).cF (M.ab k).vo.p.r+1,(k:Int)⟩:Bal)=b;show StI ((M.ab k).an b).1;unfold Nod.an;split
   .exact this
   .split
    .exact this
    .split<;>exact this
 | sub _ k d hi hu hD =>
  refine put λ_=>?_;have:=h k hi;unfold Nod.qK Nod.qY;split
  .exact this
  .split
   .exact this
   .split
    .exact this
    .show StI (Nod.want _ _);unfold Nod.want;split<;>exact this
 | ib _ k x hi hu hk hC =>
  refine put λ_=>?_;unfold Nod.ib;split
  .exact h k hi
  .exact .bare _ _ _ _ _ _
 | start _ k hi hu hs =>
  refine put λ_=>?_;unfold Nod.start;split
  .exact h k hi
  .split<;>exact .bare _ _ _ _ _ _
theorem StI.zero:∀ j,j<5->StI (As.ab j):=λj _=>rfl
theorem cx(i:Nat)(l:List Cmd)(p:Nod)(k:List Tol)(j:Ip p.ie)(h:∀ c∈l,c.e=0):(qL i l p k).1.done=p.done+l.length:=by
 induction l generalizing p k with
 | nil=>rfl
 | cons c l ih =>
  have a:=h c M';have b:doE p.ie c=0:=(OX j).trans a;rw[qL,if_neg (λg=>g b)];have f:(Nod.fu { p with ie:=doS p.ie c,done:=p.done+1 } c).ie=dnS p.ie c/\(Nod.fu { p with ie:=doS p.ie c,done:=p.done+1 } c).done=p.done+1:=by
   unfold Nod.fu;split<;>exact⟨Sg b,rfl⟩
  rw[ih _ _ (by rw[f.1];exact Uk j a) λd m=>h d (I' _ m),f.2,mJ];omega
theorem Ts(p:Nod)(i:Nat)(f:List Let)(e:List Tol):(p.piece i f e).1.done=(qL i (p.ae.drop p.done) p e).1.done:=by
 unfold Nod.piece;simp only;generalize (qL i (p.ae.drop p.done) p e).1=a;have g:(a.hU i).1.done=a.done:=by
  unfold Nod.hU;split
  .rfl
  .split
   .exact I0 _ _
   .rfl
 generalize a.hU i=b at g ⊢;have h:b.1.cl.done=b.1.done:=by
  unfold Nod.cl;split
  .rfl
  .split
   .rfl
   .split
    .rfl
    .exact OD _ _
 generalize b.1.cl=c at h ⊢;generalize f++b.2=k;have j:(c.ln i k).1.done=c.done:=by
  unfold Nod.ln;split
  .rfl
  .rw[Si];unfold Nod.qJ;split<;>rfl
 generalize c.ln i k=d at j ⊢;have l:(d.1.bu i d.2).1.done=d.1.done:=by unfold Nod.bu;split<;>rfl
 omega
theorem DB{I:Meet->Prop}(d:∀ c M N,Stp wh0 c M N->I M->I N)(j:∀ M,I M->I { M with bm:=[] })(m:Nat){n:Nat}{M:Meet}(i:MOk n M)(o:n+6*m<=1000000)(h:I M):I (M.dc (Am m))/\MOk (n+6*m) (M.dc (Am m)):=by
 induction m with
 | zero=>exact⟨h,i⟩
 | succ m ih =>
  obtain⟨e,f⟩:=ih (by omega);show I (M.dc (Am m++An))/\MOk (n+6*(m+1)) (M.dc (Am m++An));rw[AH,EN];have a:=Bm (λc A N s g=>d c A N s.calm g) f (by omega) e;obtain⟨N,k,l,_⟩:=Cu (λA N s g=>d _ A N s.ri g) a.1 a.2;have b:=a.1.act (x:=acN 7 0) (by omega) (by rw[<- DO];decide);rw[k]at b ⊢
  exact⟨j N l,b.mono (by omega)⟩
theorem JG{M:Meet}(h:∀ j,j<5->(M.ab j).up=true):M.dc Ax=M:=by
 have key:∀ l:List Lac,(∀ x∈l,M.act x=M)->M.dc l=M:=by
  intro l;induction l with
  | nil=>exact λ_=>rfl
  | cons x l ih =>
   intro a;show(M.act x).dc l=M;rw[a x M'];exact ih λy e=>a y (I' _ e)
 refine key _ λx d=>?_;obtain⟨k,b,rfl⟩:=mB.1 d;have c:=h k (oJ.1 b);unfold Meet.act;simp only[acN];rw[if_neg (by decide),if_neg (by decide),if_neg (by decide),if_neg (by decide),if_neg (by decide),if_neg (by decide),if_pos trivial];show M.set k (if(M.ab k).up=true then M.ab k else _) M.bm M.eb=M;rw[if_pos c,EU]
theorem IA{M:Meet}{i:Nat}(a:(M.ab i).up=true):M.act (acN 2 (i:Int))=M.set i ((M.ab i).lead i) M.bm M.eb:=by
 unfold Meet.act;simp only[acN];rw[if_neg (by decide),if_pos trivial];show M.set i (if(M.ab i).up=true then _ else _) M.bm M.eb=_;rw[if_pos a];rfl
theorem Eu(a b:Nat):Am (a+b)=Am a++Am b:=by
 induction b with
 | zero=>exact(mI _).symm
 | succ b ih=>show Am (a+b)++An=Am a++(Am b++An);rw[ih,mm]
theorem lI(f:Nat->Int):∃ j,j<5/\∀ k,k<5->f k<=f j:=by
 have key:∀ n,∃ j,j<n+1/\∀ k,k<n+1->f k<=f j:=by
  intro n;induction n with
  | zero=>exact⟨0,by omega,λk c=>by rw[show k=0 by omega];exact mf _⟩
  | succ n ih =>
   obtain⟨j,d,b⟩:=ih;by_cases e:f j<=f (n+1)
   .refine⟨n+1,by omega,λk c=>?_⟩;by_cases a:k=n+1
    .rw[a];exact mf _
    .exact mC (b k (by omega)) e
   .refine⟨j,by omega,λk c=>?_⟩;by_cases a:k=n+1
    .rw[a];omega
    .exact b k (by omega)
 exact key 4
def F9(b:Bal):List (Bal × Nat):=(List.range 40).map λs=>(b,s)
theorem FA(b:Bal){s:Nat}(h:s<40):(b,s)∈F9 b:=mB.2 ⟨s,oJ.2 h,rfl⟩
section
variable{S:Cmd->Prop}{K:Int}{B:Nat->Bal}{cov:List (Bal × Nat)}
theorem Cm.to{M:Meet}(h:Cm S K B cov M){K':Int}(c:∀ j,j<5->(M.ab j).vo.p.key<=K')(b:K'<=3600):Cm S K' B cov M :=
 ⟨h.ex,⟨b,λj a=>⟨by unfold Nod.pk;rw[if_pos (h.up j a)];exact c j a,(h.kb.2 j a).2⟩⟩,h.up,h.fv,h.s⟩
structure Led(i:Nat)(p q:Nod)(b:Bal):Prop where
 may:Ab b
 n:b.n=(i:Int)
 gt:5*p.cF+4<b.key/\p.vo.p.key<b.key
 le:b.key<=max (5*p.cF) p.vo.p.key+9
 up:q.up=p.up
 vo:q.vo.p=b
 fv:q.av.fv=b
 p1:P1 i q
 pe:∃ vs,Pend.began b vs∈q.br
 ask:q.au=p.au/\q.bw=p.bw/\q.done=p.done
 ro:q.cF=p.cF
theorem Cm.lead{M:Meet}(h:Cm S K B cov M)(z:14*K+38*(cov.length:Int)<=99000){i:Nat}(d:i<5)(I:K<=3591)(J:0<=(M.ab i).cF/\5*(M.ab i).cF<=3591) :
  ∃ b,Led i (M.ab i) ((M.ab i).lead i) b/\Cm S 3600 (upN B i b) (cov++F9 b) (M.set i ((M.ab i).lead i) M.bm M.eb):=by
 have m:=h.up i d;have O:=h.le d;have u:=(h.acc d).1;have N:=Y9 u;have F:0<=(M.ab i).vo.p.r/\0<=(M.ab i).vo.p.n/\(M.ab i).vo.p.n<=4:=by unfold Ao Ab at u;omega
 obtain⟨b,l⟩:∃ b:Bal,(⟨max (M.ab i).cF (M.ab i).vo.p.r+1,(i:Int)⟩:Bal)=b:=⟨_,rfl⟩;have L:b.key=5*(max (M.ab i).cF (M.ab i).vo.p.r+1)+(i:Int):=by rw[<- l];rfl
 have C:(M.ab i).vo.p.key=5*(M.ab i).vo.p.r+(M.ab i).vo.p.n:=rfl;have t:Ab b:=by rw[<- l];refine⟨⟨?_,?_⟩,?_,?_⟩<;>simp only<;>omega
 have f:=h.prom z d t (by rw[Fb t.pr u];omega);have E:(M.ab i).lead i=Nod.wait { ((M.ab i).an b).1 with av:=⟨b,λ_=>false,λ_=>El,λ_=>(M.ab i).ae.length,0,[]⟩ } (.began b ((M.ab i).an b).2.1):=by
  unfold Nod.lead;simp only;rw[l,if_neg (λg=>g f.1)]
 have v:((M.ab i).an b).1.cF=(M.ab i).cF:=by
  unfold Nod.an;split
  .rfl
  .split
   .rfl
   .split<;>rfl
 have a:Led i (M.ab i) ((M.ab i).lead i) b:=by
  rw[E];exact⟨t,by rw[<- l],by omega,by omega,(Ev.an _ b).up,f.2,rfl,⟨rfl,λ_ _=>rfl⟩,⟨_,mj _ (D'.2 rfl)⟩,(AY _ b).1,v⟩
 refine⟨b,a,?_⟩;obtain⟨σ,g,A⟩:=h.ex;obtain⟨τ,G,H,w,x,y⟩:=g.step (D:=whT) (.lead M i d m trivial);refine⟨⟨τ,w,λo s c k=>?_⟩,⟨mf _,?_⟩,λj q=>?_,λj q=>?_,h.s.step (D:=⟨λ_ _=>False,True,False,False,False,False⟩) (λ_ _ e=>False.elim e) (.lead M i d m trivial)⟩
 .rcases x o s c k with k|k
  .exact mn _ (A o s c k)
  .exact absurd (y o s k).1 (by decide)
 .refine(h.kb.2.mono h.kb.1 (mf _)).set ⟨?_,by rw[a.ro];omega⟩ _ _;unfold Nod.pk;rw[if_pos (a.up.trans m),a.vo];omega
 .rw[Aj];split
  .exact a.up.trans m
  .exact h.up j q
 .rw[Aj];unfold upN;split
  .exact a.fv
  .exact h.fv j q
theorem jF{a:Int}{n:Nat}{M:Meet}(O:MOk n M){m:Nat}(hm:2<=m)(hn:n+6*m+20<=1000000)(U:∀ j,j<5->∀ s,s<40->(B j,s)∈cov)(h:Cm S K B cov M)(z:KbI a a M)(W:K<=a)(T:a<=3500)(Z:14*a+38*(cov.length:Int)<=97000){i:Nat}(q:i<5) :
  ∃ K' B' cov',K'<=a+9/\Cm S K' B' cov' (((M.act (acN 2 (i:Int))).dc Ax).dc (Am m))/\(∀ j,j<5->∀ s,s<40->(B' j,s)∈cov')/\cov'.length<=cov.length+40/\Gr8 K' ((((M.act (acN 2 (i:Int))).dc Ax).dc (Am m)).ab i)/\KbI (a+9) (a+9) (((M.act (acN 2 (i:Int))).dc Ax).dc (Am m))/\MOk (n+6*m+1) (((M.act (acN 2 (i:Int))).dc Ax).dc (Am m)):=by
 have G:=h.up i q;have hr:=z i q;have F:=(O.ab i q).ro;have d:=O.act (x:=acN 2 (i:Int)) (by omega) (D9 ⟨.inl rfl,by omega,by omega⟩);obtain⟨b,y,f⟩:=h.lead (by omega) q (by omega) ⟨F.1,by omega⟩;obtain⟨σ,g,_⟩:=h.ex;have o:=z.lead g q G M.bm M.eb;have H:∀ j,j<5->((M.act (acN 2 (i:Int))).ab j).up=true:=by rw[IA G];exact f.up
 rw[JG H];rw[IA G]at d ⊢
 have u:=Bi M i ((M.ab i).lead i) M.bm M.eb;generalize M.set i ((M.ab i).lead i) M.bm M.eb=N at f o d u ⊢;rw[<- u]at y
 obtain⟨j,v,C⟩:=lI λj=>(N.ab j).vo.p.key;have E:∀ j,j<5->(N.ab j).vo.p.key<=a+9:=λj v=>by
  have:=(o j v).1;unfold Nod.pk at this
  rwa [if_pos (f.up j v)]at this
 have t:=E j v;have f:=f.to C (by omega);have l:∀ k,k<5->∀ s,s<40->(upN B i b k,s)∈cov++F9 b:=λk z s P=>by
  unfold upN;split
  .exact mj _ (FA b P)
  .exact mn _ (U k z s P)
 obtain⟨vs,V⟩:=y.pe;have A:=iz l d (by omega) f q v rfl y.vo y.may V;generalize (N.ab j).vo.p.key=K' at f A t;have L:∀ c X Y,Stp wh0 c X Y->(Cm S K' (upN B i b) (cov++F9 b) X/\KbI (a+9) (a+9) X)->(Cm S K' (upN B i b) (cov++F9 b) Y/\KbI (a+9) (a+9) Y):=λc X Y s g=>by
  obtain⟨σ,R,_⟩:=g.1.ex;exact⟨g.1.step l s,g.2.step (D:=wh0) (λe=>e) R s (mf _)⟩
 have J:=DB L (λX g=>⟨g.1.drop,g.2⟩) 2 d (by omega) ⟨f,o⟩;obtain⟨r,rfl⟩:∃ r,m=2+r:=⟨m-2,by omega⟩;rw[Eu,AH];have Q:N.dc (Am 2)=N.dc (An++An):=rfl;rw[<- Q]at A
 have w:=DB (I:=λX=>(Cm S K' (upN B i b) (cov++F9 b) X/\KbI (a+9) (a+9) X)/\Gr8 K' (X.ab i)) (λc X Y s g=>⟨L c X Y s g.1,g.2.ev (s.ev i)⟩) (λX g=>⟨⟨g.1.1.drop,g.1.2⟩,g.2⟩) r J.2 (by omega) ⟨J.1,A⟩;refine⟨K',_,_,t,w.1.1.1,l,?_,w.1.2,w.1.1.2,w.2.mono (by omega)⟩;rw[E'];unfold F9;rw[mF,pq];exact A' _
end
section
variable{C:List Cmd}{K:Int}{B:Nat->Bal}{cov:List (Bal × Nat)}{i:Nat}{b:Bal}{A:List Cmd}
theorem Fin_.drop{N:Meet}(f:Fin_ i A N):Fin_ i A { N with bm:=[] }:=⟨f.ag,f.nx,f.hd,f.qu⟩
theorem Fin_.si(a:PhC C K B cov i b){M:Meet}(h:PhE C K B cov i b M)(f:Fin_ i A M){j:Nat}(c:j<5)(p:A.length<=(M.ab j).ae.length):(M.ab j).ae=A:=by
 have o:=f.le a h c;obtain⟨σ,g,_⟩:=h.pb.cm.ex;refine oG (by omega) λs k l=>?_;obtain⟨m,d⟩:=(g.nd j c).ag s _ (H' k);obtain⟨n,e⟩:=(g.nd i a.hi).ag s _ (by rw[f.ag];exact H' l);exact g.gs.rY.agree d e
structure Fz(C:List Cmd)(K:Int)(B:Nat->Bal)(cov:List (Bal × Nat))(i:Nat)(b:Bal)(A:List Cmd)(M:Meet):Prop where
 l:PhL C K B cov i b M
 f:Fin_ i A M
 a:∀ j,j<5->(M.ab j).ae=A
 s:∀ j,j<5->StI (M.ab j)
theorem Fz.step(d:PhC C K B cov i b){n:Nat}{M N:Meet}(s:Stp wh0 n M N)(h:Fz C K B cov i b A M):Fz C K B cov i b A N:=by
 have e:=h.l.step d s;have g:=Fin_.step d s h.l.pe h.f;exact⟨e,g,λj c=>g.si d e.pe c (by have:=(s.ev j).ag.length_le;rw[h.a j c]at this;exact this),StI.step s (λj c=>(h.l.pe.pb.ak j c).dn) h.s⟩
theorem Fz.drop{N:Meet}(h:Fz C K B cov i b A N):Fz C K B cov i b A { N with bm:=[] }:=⟨h.l.drop,h.f.drop,h.a,h.s⟩
structure Rst(C:List Cmd)(K:Int)(B:Nat->Bal)(cov:List (Bal × Nat))(i:Nat)(b:Bal)(A:List Cmd)(M:Meet):Prop where
 z:Fz C K B cov i b A M
 d:∀ j,j<5->(M.ab j).done=A.length
theorem OW(g:PhC C K B cov i b){n:Nat}{M N:Meet}(s:Stp wh0 n M N)(h:Fz C K B cov i b A M){j:Nat}(e:j<5)(d:(M.ab j).done=A.length):(N.ab j).done=A.length:=by
 have c:=h.step g s;have k:=(s.ev j).dn;have f:=(c.l.pe.pb.ak j e).dn;rw[c.a j e]at f
 omega
theorem Rst.step(a:PhC C K B cov i b){n:Nat}{M N:Meet}(s:Stp wh0 n M N)(h:Rst C K B cov i b A M):Rst C K B cov i b A N:=⟨h.z.step a s,λj c=>OW a s h.z c (h.d j c)⟩
theorem WF(o:PhC C K B cov i b)(g:∀ c∈C,c.e=0){M:Meet}(h:Fz C K B cov i b A M){j:Nat}(d:j<5):((M.act (acN 3 (j:Int))).ab j).done=A.length:=by
 have n:=h.l.pe.pb.cm.up j d;have m:=(h.l.pe.pb.ak j d).dn;have k:∀ c∈(M.ab j).ae,c.e=0:=λc f=>g c ((h.l.pe.pb.cm.s.nd j d).ag c f);rw[Hg n,Aj,if_pos rfl,Ts,cx]
 .rw[mo,h.a j d];rw[h.a j d]at m
  omega
 .rw[h.s j d];exact Ms _ λc f=>k c (mx f)
 .exact λc f=>k c (nU f)
theorem Gr8.gt{p q:Nod}{K:Int}(h:Gr8 K p)(a:Ao p.vo.p){i:Nat}{b:Bal}(l:Led i p q b):K<b.key:=by
 have:=l.gt;unfold Gr8 at h;omega
theorem jG(R:∀ c∈C,c.e=0)(hC:C.length<40){K1:Int}{n:Nat}{M:Meet}(hM:MOk n M){m:Nat}(hm:85<=m)(hn:n+6*m+20<=990000)(hc:∀ j,j<5->∀ s,s<40->(B j,s)∈cov)(h:Cm (λc=>c∈C) K B cov M)(gr:Gr8 K (M.ab i))(hk:KbI K1 K1 M)(hK:K<=K1)(a4:K1<=3510)(hQ:14*K1+38*(cov.length:Int)<=97000)(t:i<5)(hA:∀ j,j<5->AskI (M.ab j))(hS:∀ j,j<5->StI (M.ab j)) :
  ∃ K' B' cov' b A,PhC C K' B' cov' i b/\Rst C K' B' cov' i b A (((M.act (acN 2 (i:Int))).dc Ax).dc (Am m)):=by
 have hu:=h.up i t;have hr:=hk i t;have a2:=(hM.ab i t).ro;have u:=hM.act (x:=acN 2 (i:Int)) (by omega) (D9 ⟨.inl rfl,by omega,by omega⟩);obtain⟨b,q,o⟩:=h.lead (by omega) t (by omega) ⟨a2.1,by omega⟩;obtain⟨σ,g,_⟩:=h.ex;have L:=AskI.step (Stp.lead (D:=whT) M i t hu trivial) g hA;have T:=StI.step (Stp.lead (D:=whT) M i t hu trivial) (λj f=>(hA j f).dn) hS;have a5:=gr.gt (h.acc t).1 q;have a6:b.key<=K1+9:=by
  have:=q.le;have:=h.le t;omega
 have a3:∀ j,j<5->((M.act (acN 2 (i:Int))).ab j).up=true:=by rw[IA hu];exact o.up
 rw[JG a3];rw[IA hu]at u ⊢
 have G:=Bi M i ((M.ab i).lead i) M.bm M.eb;have S:∀ j,j≠i->((M.set i ((M.ab i).lead i) M.bm M.eb).ab j)=M.ab j:=λj f=>by rw[Aj,if_neg f]
 have V:QA i b (M.set i ((M.ab i).lead i) M.bm M.eb):=λj f c hx=>by
  refine absurd ?_ (show ¬ b.key<=max K (M.ab i).vo.p.key by have:=q.gt;omega);by_cases e:j=i
  .rw[e,G,q.ask.2.1]at hx
   have:=(hA i t).le c b hx;omega
  .rw[S j e]at hx
   have:=(hA j f).le c b hx;have:=h.le f;omega
 have F:∀ j,j<5->j≠i->((M.set i ((M.ab i).lead i) M.bm M.eb).ab j).vo.p.key<b.key:=λj f e=>by
  rw[S j e];have:=h.le f;omega
 generalize M.set i ((M.ab i).lead i) M.bm M.eb=N at o u G L T V F ⊢;rw[<- G]at q
 have o:=o.to (K':=b.key) (λj f=>by
  by_cases e:j=i
  .rw[e,q.vo];exact mf _
  .have:=F j f e;omega) (by omega)
 have E:∀ k,k<5->∀ s,s<40->(upN B i b k,s)∈cov++F9 b:=λk hk s hs=>by
  unfold upN;split
  .exact mj _ (FA b hs)
  .exact mn _ (hc k hk s hs)
 have l:PhC C b.key (upN B i b) (cov++F9 b) i b:=⟨E,hC,t,q.may,q.n,Dd _ _ _,rfl⟩;have y:14*b.key+38*((cov++F9 b).length:Int)<=99000:=by
  have:(cov++F9 b).length=cov.length+40:=by rw[E'];unfold F9;rw[mF,pq]
  omega
 obtain⟨vs,hq⟩:=q.pe;generalize cov++F9 b=cov' at o E l y;generalize upN B i b=B' at o E l;generalize a0:b.key=K' at o l y F;have O:PhB C K' B' cov' i b N:=⟨o,L,q.vo⟩;obtain⟨p1,p2,p3,p4,p5,p6,p7⟩:=dM E y u (by omega) o t q.may a0 l.hB q.vo F hq q.p1;obtain⟨q1,q2,_,_⟩:=QZ l u (by omega) O V;have U:=DB (I:=λX=>PhB C K' B' cov' i b X/\∀ j,j<5->StI (X.ab j)) (λc X Y s g=>⟨g.1.step l s,StI.step s (λj f=>(g.1.ak j f).dn) g.2⟩) (λX g=>⟨⟨g.1.cm.drop,g.1.ak,g.1.vi⟩,g.2⟩);have H:∀ a X k,MOk k X->k+6*a<=1000000->PhB C K' B' cov' i b X->(∀ j,j<5->StI (X.ab j))->∀ j,j<5->StI ((X.dc (Am a)).ab j):=λa X k h1 h2 h3 h4=>(U a h1 h2 ⟨h3,h4⟩).1.2;clear U;have s1:=H 1 N _ u (by omega) O T;rw[show Am 1=An from rfl]at s1
 obtain⟨r1,r2,r3,r4⟩:=dN l p7 (by omega) q1 (λj f c e=>.inl (q2 j f c e)) p2 p3 p4 p5 p6;have s2:=H 1 _ _ p7 (by omega) q1 s1;rw[show Am 1=An from rfl]at s2
 obtain⟨W,t1,t2,t3,t4,t5⟩:=gV l y R 81 r4 (by omega) r1 r2 r3 (by unfold mu;split<;>omega);have s3:=H W _ _ r4 (by omega) r1.pe.pb s2;obtain⟨r,rfl⟩:∃ r,m=1+(1+(W+(1+(1+r)))):=⟨m-W-4,by omega⟩;rw[Eu,AH,Eu,AH,Eu,AH,Eu,AH,Eu,AH];simp only[show Am 1=An from rfl];generalize (((N.dc An).dc An).dc (Am W))=X at t2 t3 t4 t5 s3 ⊢;generalize (X.ab i).ae=A at t2;obtain⟨u1,u2⟩:=MF l t5 (by omega) t3 t4;rw[t2.ag]at u2
 have v:=DB (I:=λY=>PhL C K' B' cov' i b Y/\Fin_ i A Y/\∀ j,j<5->StI (Y.ab j)) (λc Y Z s g=>⟨g.1.step l s,Fin_.step l s g.1.pe g.2.1,StI.step s (λj f=>(g.1.pe.pb.ak j f).dn) g.2.2⟩) (λY g=>⟨g.1.drop,g.2.1.drop,g.2.2⟩) 1 t5 (by omega) ⟨t3,t2,s3⟩;rw[show Am 1=An from rfl]at v
 obtain⟨⟨v1,v2,v3⟩,v4⟩:=v;have w:Fz C K' B' cov' i b A (X.dc An):=⟨v1,v2,λj f=>v2.si l v1.pe f (u2 j f),v3⟩;generalize X.dc An=Y at w v4 ⊢;have x:Rst C K' B' cov' i b A (Y.dc An):=by
  have hz:=DB (λc Y Z s g=>Fz.step l s g) (λY g=>Fz.drop g) 1 v4 (by omega) w;rw[show Am 1=An from rfl]at hz
  refine⟨hz.1,λj f=>?_⟩;have a:=Bm (λc A N s g=>Fz.step l s.calm g) v4 (by omega) w;have d:=Mr (J:=λZ=>(Z.ab j).done=A.length) (λc A N s g=>Fz.step l s.calm g) (λc A N s g d=>OW l s.calm g f d) v4 (by omega) w f λZ _ _ _ g _=>WF l R g f;rw[EN];obtain⟨Z,k1,k2,_⟩:=Cu (I:=λZ=>Fz C K' B' cov' i b A Z/\(Z.ab j).done=A.length) (λP Q s g=>⟨g.1.step l s.ri,OW l s.ri g.1 f g.2⟩) a.1 ⟨a.2,d⟩;rw[k1];exact k2.2
 have a1:MOk (n+1+6+6+6*W+6*1+6*1) (Y.dc An):=(DB (λc Y Z s g=>Fz.step l s g) (λY g=>Fz.drop g) 1 v4 (by omega) w).2;exact⟨K',B',cov',b,A,l,(DB (λc Y Z s g=>Rst.step l s g) (λY g=>⟨g.z.drop,g.d⟩) r a1 (by omega) x).1⟩
end
section
def iJ(l:List Int):Cmd:=⟨Ac (unQ l) 0,Ac (unQ l) 4,Ac (unQ l) 8,Ac (unQ l) 12,Ac (unQ l) 16⟩
variable{l:List Int}{now:Int}
theorem jW(h:opE l now=0):unE l=0:=by
 unfold opE at h;split at h
 .rename_i g;exact absurd h g
 .rename_i g;exact mh.1 g
theorem kA(h:unE l=0):(iJ l).e=0:=by
 have:=(R5 h).2;unfold Ck at this;split at this
 .cases this
 .exact this
theorem Zj(h:opE l now=0):E9 l now=iJ l:=by unfold E9;rw[if_pos h];rfl
def KD(L:List Lac):List Cmd:=(L.filter λx=>decide (x.k=1/\unE x.d=0)).map λx=>iJ x.d
theorem eE{L:List Lac}{x:Lac}(c:x∈L)(b:x.k=1){a:Int}(h:opE x.d a=0):E9 x.d a∈KD L:=by
 refine mB.2 ⟨x,oL.2 ⟨c,P' ⟨b,jW h⟩⟩,?_⟩;unfold E9;rw[if_pos h];rfl
theorem iW(L:List Lac):∀ c∈KD L,c.e=0:=λc a=>by
 obtain⟨x,b,rfl⟩:=mB.1 a;exact kA (mN (oL.1 b).2).2
theorem PO(L:List Lac)(e:∀ x∈L,LacOk x)(k:L.length<=100000):(∀ j,j<5->AskI ((As.dc L).ab j))/\∀ j,j<5->StI ((As.dc L).ab j):=by
 have s:Sts whT L.length As (As.dc L):=Ir L MOk.zero (by omega) λx i=>⟨e x i,Vd x⟩;exact(s.inv (I:=λM=>(∃ σ,AgI σ M)/\(∀ j,j<5->AskI (M.ab j))/\∀ j,j<5->StI (M.ab j)) (λc M N h ⟨⟨σ,g⟩,a,b⟩=>by
  obtain⟨τ,_,_,d,_⟩:=g.step h;exact⟨⟨τ,d⟩,AskI.step h g a,StI.step h (λj f=>(a j f).dn) b⟩) ⟨⟨_,AgI.zero⟩,AskI.zero,StI.zero⟩).2
theorem dl(L M:List Lac):lds (L++M)=lds L+lds M:=by unfold lds;rw[pi]
theorem settled(L:List Lac)(v:∀ x∈L,LacOk x)(a2:9*lds L<=3480)(n:(KD L).length<40)(hq:126*lds L+38*L.length<=85000)(m:Nat)(hm:85<=m)(hl:L.length+12*m<=99000){i:Nat}(O:i<5) :
  ∃ K B cov b A,PhC (KD L) K B cov i b/\Rst (KD L) K B cov i b A (As.dc (L++(Cx m (i:Int)++Cx m (i:Int)))):=by
 have C:∀ x∈Cx m (i:Int),LacOk x:=λx hx=>by
  rcases Q'.1 hx with hx|hx
  .rcases Q'.1 hx with hx|hx
   .exact P0 0 x hx
   .rw[D'.1 hx];exact D9 ⟨.inl rfl,by omega,by omega⟩
  .exact P0 m x hx
 have a0:(Cx m (i:Int)).length=6*m+11:=by
  have V:∀ m,(Dr m).length=5+6*m:=λm=>by unfold Dr;rw[E',H8];rfl
  unfold Cx;simp only[E',V,mQ];omega
 have l:∀ x∈L++Ax,LacOk x:=λx hx=>(Q'.1 hx).elim (v x) λe=>P0 0 x (mn _ e);have a1:(L++Ax).length=L.length+5:=by rw[E'];rfl
 have t:∀ j,j<5->((As.dc (L++Ax)).ab j).up=true:=λj z=>by
  have:=iL L v 0 (by omega) z
  rwa [show Dr 0=Ax from mI _]at this
 have Y:∀ x∈L++Ax,x.k=1->∀ o:Nat,opE x.d (o:Int)=0->E9 x.d (o:Int)∈KD L:=λx hx H o h=>by
  rcases Q'.1 hx with e|e
  .exact eE e H h
  .obtain⟨k,_,rfl⟩:=mB.1 e;exact absurd H (by show(9:Int)≠1;decide)
 have g:=fZ (S:=λc=>c∈KD L) (L++Ax) l (by omega) Y;obtain⟨τ,cov,_,J,u,w,y⟩:=W7 (L++Ax) MOk.zero (by omega) l AgI.zero KbI.zero (cov:=[]) (λb s c h=>h.elim);rw[show lds (L++Ax)=lds L by rw[dl];rfl,Int.zero_add]at u
 have r:=PP (L++Ax) l (by omega);have F:As.dc (L++(Cx m (i:Int)++Cx m (i:Int)))=(((((((As.dc (L++Ax)).act (acN 2 (i:Int))).dc Ax).dc (Am m)).dc Ax).act (acN 2 (i:Int))).dc Ax).dc (Am m):=by
  have e:∀ X:Meet,X.dc (Cx m (i:Int))=(((X.dc Ax).act (acN 2 (i:Int))).dc Ax).dc (Am m):=λX=>by
   unfold Cx;rw[AH,show Dr 0=Ax from mI _,AJ];unfold Dr;rw[AH]
  rw[AH,AH,e,e,AH]
 rw[F];have G:((((As.dc (L++Ax)).act (acN 2 (i:Int))).dc Ax).dc (Am m))=As.dc (L++Cx m (i:Int)):=by
  rw[AH _ L (Cx m (i:Int)),AH _ L Ax];unfold Cx;rw[AH,show Dr 0=Ax from mI _,AJ];unfold Dr;rw[AH]
 have a:=PO (L++Cx m (i:Int)) (λx hx=>(Q'.1 hx).elim (v x) (C x)) (by rw[E'];omega);rw[<- G]at a
 clear F G;generalize As.dc (L++Ax)=M at t g J u r a ⊢;obtain⟨q,f⟩:∃ q,cov++(F9 (M.ab 0).av.fv++(F9 (M.ab 1).av.fv++(F9 (M.ab 2).av.fv++(F9 (M.ab 3).av.fv++F9 (M.ab 4).av.fv))))=q:=⟨_,rfl⟩;have I:q.length<=L.length+205:=by
  rw[<- f];simp only[E',F9,mF,pq];simp only[List.length_nil]at w;omega
 have Z:∀ j,j<5->∀ s,s<40->((M.ab j).av.fv,s)∈q:=λj z s n=>by
  rw[<- f];refine mj _ ?_;simp only[Q'];rcases qk z with rfl|rfl|rfl|rfl|rfl
  .exact .inl (FA _ n)
  .exact .inr (.inl (FA _ n))
  .exact .inr (.inr (.inl (FA _ n)))
  .exact .inr (.inr (.inr (.inl (FA _ n))))
  .exact .inr (.inr (.inr (.inr (FA _ n))))
 have W:Cm (λc=>c∈KD L) (9*(lds L:Int)) (λj=>(M.ab j).av.fv) q M:=⟨⟨τ,J,λb s c h=>by rw[<- f];exact mn _ (y b s c h)⟩,⟨by omega,u.mono (mf _) (by omega)⟩,t,λ_ _=>rfl,g⟩;obtain⟨K',B',E,k1,D,k3,k4,P,Q,R⟩:=jF r (m:=m) (by omega) (by omega) Z W u (mf _) (by omega) (by omega) O;generalize (((M.act (acN 2 (i:Int))).dc Ax).dc (Am m))=N at D P Q R a ⊢;rw[JG D.up];obtain⟨U,T,p,b,A,z1,z2⟩:=jG (iW L) n R hm (by omega) k3 D P Q (by omega) (by omega) (by omega) O a.1 a.2;exact⟨U,T,p,b,A,z1,z2⟩
end
section
variable{C:List Cmd}{K:Int}{B:Nat->Bal}{cov:List (Bal × Nat)}{i:Nat}{b:Bal}{A:List Cmd}
theorem Rst.au{N:Meet}(r:Rst C K B cov i b A N)(k:A.length<40){j:Nat}(e:j<5):(N.ab j).au=[]:=oC.2 λc h=>by
 have g:=(r.z.l.pe.pb.ak j e).un c h;rw[r.z.a j e,r.d j e,nS]at g
 exact g (r.z.f.qu k c (r.z.l.pe.qw j e c h))
end
section
theorem aA(L:List Lac):(KD L).length<=L.countP λx=>decide (x.k=1):=by
 unfold KD;rw[mF,<- List.countP_eq_length_filter];exact List.countP_mono_left λx _ h=>P' (mN h).1
theorem gW(L:List Lac):lds L<=L.length:=List.countP_le_length
variable{M N:Meet}{c:Cmd}{i n:Nat}{p:Nod}{σ:Gs}
theorem eA(L:List Lac)(a:∀ x∈L,LacOk x)(g:L.length<=380)(h:L.countP (λx=>decide (x.k=1))<40){i:Nat}(c:i<5) :
  ∃ K B cov b A,PhC (KD L) K B cov i b/\Rst (KD L) K B cov i b A (As.dc (L++D6 L (i:Int))):=by
 have d:=gW L;have e:(L.filter hvy).length<=L.length:=oN _ _;have f:=aA L;exact settled L a (by omega) (by omega) (by omega) (Fo L) (by unfold Fo;omega) (by unfold Fo;omega) c
theorem Za{s:Nat}(h:p.mv s=some c):(∃ j,j<5/\∃ v∈(p.av.al j).vs,v.bn=(s:Int)/\v.w=c)\/c∉p.ae:=by
 unfold Nod.mv at h;split at h
 .cases h
 .rename_i d
  have d:=mh.1 d;split at h
  .rename_i hF
   left;have f:DZ (p.av.gC.map (·.vs)) (s:Int)=(Eh (p.av.gC.map (·.vs)) (s:Int)).isSome:=if_pos d;have o:G1 (p.av.gC.map (·.vs)) (s:Int)=((Eh (p.av.gC.map (·.vs)) (s:Int)).map (·.w)).getD ⟨0,0,0,0,0⟩:=if_pos d;have g:∀ l∈p.av.gC.map (·.vs),∀ v∈l,Ah v:=by
    unfold BY at d;split at d
    .cases d
    .split at d
     .assumption
     .cases d
   have n:∀ v∈Ae (p.av.gC.map (·.vs)).flatten (s:Int),Ao v.b:=λv e=>by
    obtain⟨l,q,r⟩:=nT.1 (AL.1 e).1;exact(g l q v r).2.1.pr
   rcases Lc _ n with⟨h0,hO⟩|⟨x,hO,hx,_⟩
   .have hO:Eh (p.av.gC.map (·.vs)) (s:Int)=none:=hO;rw[hO]at f;rw[f]at hF;cases hF
   .have hO:Eh (p.av.gC.map (·.vs)) (s:Int)=some x:=hO;rw[hO]at o
    obtain⟨u,i⟩:=AL.1 hx;obtain⟨l,t,e⟩:=nT.1 u;obtain⟨a,m,rfl⟩:=mB.1 t;have k:x.w=c:=o.symm.trans (mT h);unfold Rnd.gC at m;simp only[mp,O',or_false]at m;rcases m with rfl|rfl|rfl|rfl|rfl
    .exact⟨0,by decide,x,e,i,k⟩
    .exact⟨1,by decide,x,e,i,k⟩
    .exact⟨2,by decide,x,e,i,k⟩
    .exact⟨3,by decide,x,e,i,k⟩
    .exact⟨4,by decide,x,e,i,k⟩
  .exact .inr (by have:=qr h;simpa using this)
def NdW(σ:Gs):Prop:=∀ b s c,σ.W b s c->∃ l:List Cmd,l.length=s/\AgL σ l 0/\c∉l
theorem NdW.step{D:Wh}(h:AgI σ M)(k:NdW σ)(s:Stp D n M N):∃ τ,AgI τ N/\NdW τ:=by
 obtain⟨τ,w,d,r,t,u⟩:=h.sj s;refine⟨τ,r,λb s c g=>?_⟩;have a:∀ {b s c},σ.W b s c->∃ l:List Cmd,l.length=s/\AgL τ l 0/\c∉l:=λ{b s c} g=>by
  obtain⟨l,m,o,p⟩:=k b s c g;exact⟨l,m,o.mono d,p⟩
 rcases t b s c g with g2|e
 .exact a g2
 .obtain⟨_,_,i,hi,_,hu,rfl,hx⟩:=u b s e;rcases Za (hx c g)with⟨j,hj,v,hv,hs,rfl⟩|hc
  .obtain⟨rs,q⟩:=(h.nd i hi).up hu;have f:=(h.gs.hv j v (q.rd.al j hj v hv).1).2;rw[hs,mM]at f
   exact a f
  .exact⟨_,rfl,(h.nd i hi).ag.mono d,hc⟩
theorem NdW.dc(L:List Lac)(a:∀ x∈L,LacOk x)(c:L.length<=100000):∃ σ,AgI σ (As.dc L)/\NdW σ:=by
 have s:Sts whT L.length As (As.dc L):=Ir L MOk.zero (by omega) λx b=>⟨a x b,Vd x⟩;exact s.inv (I:=λM=>∃ σ,AgI σ M/\NdW σ) (λ_ M N g ⟨σ,h,k⟩=>NdW.step h k g) ⟨_,AgI.zero,λ_ _ _ g=>g.elim⟩
theorem AgI.nodup(h:AgI σ M)(k:NdW σ){j:Nat}(r:j<5):(M.ab j).ae.Nodup:=by
 refine m8.2 λs t w y x e=>?_;have c:=(h.nd j r).ag;obtain⟨b,Q,E,d⟩:=c t _ (H' y);rw[mU]at d
 obtain⟨q,u,p,_⟩:=Gy Q Q (by omega) (by omega);obtain⟨v,g,z,F,A⟩:=d q u p;have f:=(h.gs.hv q v g).2;rw[z,mM]at f
 obtain⟨l,D,n,o⟩:=k _ _ _ f;have a:s<l.length:=by omega
 obtain⟨B,i⟩:=n s _ (H' a);obtain⟨C,m⟩:=c s _ (H' w);have:=h.gs.rY.agree i m;exact o (by rw[A,<- e,<- this];exact mP a)
theorem OL{L:List Lac}(a:∀ x∈L,LacOk x)(c:L.length<=100000){j:Nat}(b:j<5):((As.dc L).ab j).ae.Nodup:=by
 obtain⟨σ,h,k⟩:=NdW.dc L a c;exact h.nodup k b
def whN:Wh:=⟨λ_ _=>False,True,False,True,True,False⟩
structure OnI(n:Nat)(c:Cmd)(M:Meet):Prop where
 w:∀ j,j<5->j≠n->(M.ab j).au=[]
 t:((M.ab n).au=[c]/\M.eb=[])\/((M.ab n).au=[]/\∃ k,k<(M.ab n).done/\(M.ab n).ae[k]?=some c/\M.eb=[⟨n,c.c,c.s,doC (JH ((M.ab n).ae.take k)) c,doA (JH ((M.ab n).ae.take k)) c⟩])
theorem OnI.jv(h:OnI n c M){i:Nat}(x:AskI (M.ab i)){p:Nod}(o:List Let)(l:p.au=(M.ab i).au/\p.bw=(M.ab i).bw/\p.done=(M.ab i).done\/p.au=(M.ab i).au/\p.done=(M.ab i).done)(m:(M.ab i).ae <+: p.ae):OnI n c (M.set i p o M.eb):=by
 have l:p.au=(M.ab i).au/\p.done=(M.ab i).done:=l.elim (λg=>⟨g.1,g.2.2⟩) id;have key:∀ j,((M.set i p o M.eb).ab j).au=(M.ab j).au:=λj=>by
  rw[Aj];split
  .rename_i e;rw[e];exact l.1
  .rfl
 refine⟨λj q u=>(key j).trans (h.w j q u),?_⟩;rw[key];rcases h.t with a|⟨a,k,b,d,f⟩
 .exact .inl a
 .refine .inr ⟨a,k,?_⟩;rw[Aj];split
  .rename_i e
   subst e;have s:=(V'.1 d).1;rw[l.2,Mz m (by omega)];obtain⟨r,v⟩:=m;rw[<- v,mt s];exact⟨b,d,f⟩
  .exact⟨b,d,f⟩
theorem OnI.step{v:Nat}(s:Stp whN v M N)(f:∀ j,j<5->AskI (M.ab j))(r:∀ j,j<5->StI (M.ab j))(h:OnI n c M):OnI n c N:=by
 cases s with
 | take _ l u hd hu ht=>exact h.jv (f _ hd.2) _ (.inl (My (M.ab l.dst) l (f _ hd.2).qn).1) (Ev.take _ l).ag
 | bm _ ls u hd=>exact⟨h.w,h.t⟩
 | one _ i d hi hu hc he =>
  have u:=(V'.1 hc).1;by_cases m:((M.ab i).bw d).isSome=true
  .have hm:=((f i hi).wa d).2 m;by_cases e:i=n
   .subst e;rcases h.t with⟨a,b⟩|⟨a,_⟩
    .rw[a]at hm
     obtain rfl:=D'.1 hm;refine⟨λj p o=>by rw[Aj,if_neg o];exact h.w j p o,.inr ?_⟩;rw[Bi];show _/\∃ k,_/\_/\(if((M.ab i).bw d).isSome=true then _ else _)=_;rw[if_pos m,b,r i hi];unfold Nod.fu;rw[if_pos m];exact⟨by show(M.ab i).au.erase d=[];rw[a];simp,(M.ab i).done,Nat.lt_succ_self _,hc,rfl⟩
    .rw[a]at hm;cases hm
   .rw[h.w i hi e]at hm;cases hm
  .rw[if_neg m];unfold Nod.fu;rw[if_neg m];have key:∀ j,((M.set i { M.ab i with ie:=doS (M.ab i).ie d,done:=(M.ab i).done+1 } M.bm M.eb).ab j).au=(M.ab j).au:=λj=>by
    rw[Aj];split
    .rename_i e;rw[e]
    .rfl
   refine⟨λj p o=>(key j).trans (h.w j p o),?_⟩;rw[key];rcases h.t with a|⟨a,k,b,g⟩
   .exact .inl a
   .refine .inr ⟨a,k,?_⟩;rw[Aj];split
    .rename_i e
     subst e;exact⟨pZ b,g⟩
    .exact⟨b,g⟩
 | ask _ i hi hu =>
  refine h.jv (f i hi) _ (.inr ?_) (Ev.hU _ i).ag;unfold Nod.hU;split
  .exact⟨rfl,rfl⟩
  .split
   .unfold Nod.dT;split<;>exact⟨rfl,rfl⟩
   .exact⟨rfl,rfl⟩
 | prop _ i hi hu =>
  refine h.jv (f i hi) _ (.inl ?_) (Ev.cl _).ag;unfold Nod.cl;split
  .exact⟨rfl,rfl,rfl⟩
  .split
   .exact⟨rfl,rfl,rfl⟩
   .split
    .exact⟨rfl,rfl,rfl⟩
    .exact(Cn (M.ab i) _).1
 | qJ _ i hi hu m hT=>exact h.jv (f i hi) _ (.inr ⟨rfl,rfl⟩) (mi _)
 | run _ i hi hu q l hp m =>
  refine h.jv (f i hi) _ (.inl ?_) ((Ev.hZ _ i q).br l).ag;show((M.ab i).hZ i q).au=_/\((M.ab i).hZ i q).bw=_/\((M.ab i).hZ i q).done=_;cases q<;>first|exact⟨rfl,rfl,rfl⟩|(simp only[Nod.hZ];split<;>exact⟨rfl,rfl,rfl⟩)|(simp only[Nod.hZ,Nod.count];split<;>first|exact⟨rfl,rfl,rfl⟩|(split<;>exact⟨rfl,rfl,rfl⟩))
 | qA _ i hi hu hL=>exact h.jv (f i hi) _ (.inr ⟨rfl,rfl⟩) (mi _)
 | lead _ i hi hu hL =>
  refine h.jv (f i hi) _ (.inl ?_) ?_
  .unfold Nod.lead;simp only;split
   .exact⟨rfl,rfl,rfl⟩
   .exact(AY (M.ab i) _).1
  .unfold Nod.lead;simp only;split
   .exact mi _
   .exact(Ev.an (M.ab i) _).ag
 | sub _ i d hi hu hD=>exact False.elim hD
 | ib _ i x hi hu hk hC=>exact False.elim hC
 | start _ i hi hu m=>exact False.elim m
theorem OnI.dc(R:List Lac)(v:∀ x∈R,LacOk x/\x.k≠1/\x.k≠8){m:Nat}{M:Meet}(i:MOk m M)(E:m+R.length<=1000000)(p:∀ j,j<5->(M.ab j).up=true)(w:∃ σ,AgI σ M)(l:∀ j,j<5->AskI (M.ab j))(z:∀ j,j<5->StI (M.ab j))(h:OnI n c M) :
  OnI n c (M.dc R)/\(∀ j,j<5->AskI ((M.dc R).ab j))/\∀ j,((M.dc R).ab j).ub=(M.ab j).ub:=by
 induction R generalizing m M with
 | nil=>exact⟨h,l,λ_=>rfl⟩
 | cons x R ih =>
  have a:=v x M';have b:∀ y∈R,LacOk y/\y.k≠1/\y.k≠8:=λy t=>v y (I' _ t);rw[mJ]at E
  show OnI n c ((M.act x).dc R)/\_;by_cases f:x.k=9
  .have hi:x.n.toNat<5:=by have:=a.1.n (by rw[f];rfl);omega
   have e:M.act x=M:=by
    unfold Meet.act;simp only;rw[if_neg (by omega),if_neg (by omega),if_neg (by omega),if_neg (by omega),if_neg (by omega),if_neg (by omega),if_pos f,if_pos (p _ hi)];unfold Meet.set;have:upN M.ab x.n.toNat (M.ab x.n.toNat)=M.ab:=GJ _ _;rw[this]
   rw[show M.dc (x::R)=(M.act x).dc R from rfl,e];exact ih b i (by omega) p w l z h
  .have s:Sts whN [x].length M (M.dc [x]):=Ir [x] i (by simp;omega) λy t=>by
    rw[D'.1 t];exact⟨a.1,λe=>absurd e a.2.1,λ_=>trivial,λe=>absurd e a.2.2,λ_=>⟨trivial,trivial⟩,λe=>absurd e f⟩
   have key:=s.inv (I:=λN=>OnI n c N/\(∃ σ,AgI σ N)/\(∀ j,j<5->AskI (N.ab j))/\∀ j,j<5->StI (N.ab j)) (λ_ A B g ⟨F,⟨σ,C⟩,u,D⟩=>⟨F.step g u D,(by obtain⟨τ,_,_,q,_⟩:=C.step g;exact⟨τ,q⟩),AskI.step g C u,StI.step g (λj o=>(u j o).dn) D⟩) ⟨h,w,l,z⟩;have d:=Xn M a.2.1 a.2.2 f;have r:∀ j,j<5->((M.act x).ab j).up=true:=λj o=>(congrArg Prod.fst (d j)).trans (p j o);obtain⟨G,H,J⟩:=ih b (i.act (by omega) a.1) (by omega) r key.2.1 key.2.2.1 key.2.2.2 key.1;exact⟨G,H,λj=>(J j).trans (d j)⟩
theorem Mm{P:Lac->Prop}(c:∀ n:Nat,n<5->P (acN 9 (n:Int)))(a:∀ n:Nat,n<5->P (acN 3 (n:Int)))(b:P (acN 7 0)){i:Int}(e:P (acN 2 i))(l:List Lac):∀ x∈D6 l i,P x:=by
 have d:∀ m,∀ x∈Cx m i,P x:=λm x hx=>by
  rcases Q'.1 hx with hx|hx
  .rcases Q'.1 hx with hx|hx
   .exact Mi c a b 0 x hx
   .rw[D'.1 hx];exact e
  .exact Mi c a b m x hx
 intro x hx;exact(Q'.1 hx).elim (d _ x) (d _ x)
theorem Rm(l:List Lac)(i:Int):(D6 l i).length<=1222+240*l.length:=by
 have b:(l.filter hvy).length<=l.length:=oN _ _;have a:∀ m,(Dr m).length=5+6*m:=λm=>by unfold Dr;rw[E',H8];rfl
 unfold D6 Cx Fo;simp only[E',a,mQ];omega
def AG(n:Nat)(d:List Int):Lac:=⟨1,(n:Int),0,0,d⟩
theorem P9(b:n<5){d:List Int}(a:d.length<=2000):LacOk (AG n d):=by
 rw[<- DO];simp[AG,dj,Gf,In,Io];omega
theorem dC(o:n<5)(hi:i<5){d:List Int}{c:Cmd}(V:opE d 0=0)(U:E9 d 0=c)(hd:d.length<=2000){N:Meet}(Z:As.dc ([AG n d]++D6 [AG n d] (i:Int))=N) :
  (∀ j,j<5->(N.ab j).ae=[c]/\(N.ab j).done=1/\StI (N.ab j))/\(∀ j,(N.ab j).ub=(true,0))/\OnI n c N/\(N.ab n).au=[]:=by
 subst Z;have r:=P9 o hd;have v:∀ y∈[AG n d],LacOk y:=λy R=>by rw[D'.1 R];exact r
 obtain⟨K,B,Y,b,A,hh,f⟩:=eA [AG n d] v (by simp) (by simp[AG]) hi;have W:∀ x∈D6 [AG n d] (i:Int),LacOk x/\x.k≠1/\x.k≠8:=Mm (P:=λx=>LacOk x/\x.k≠1/\x.k≠8) (λm hm=>⟨D9 ⟨.inr (.inr rfl),by omega,by omega⟩,by show(9:Int)≠1;decide,by show(9:Int)≠8;decide⟩) (λm hm=>⟨D9 ⟨.inr (.inl rfl),by omega,by omega⟩,by show(3:Int)≠1;decide,by show(3:Int)≠8;decide⟩) ⟨by rw[<- DO];decide,by decide,by decide⟩ (i:=(i:Int)) ⟨D9 ⟨.inl rfl,by omega,by omega⟩,by show(2:Int)≠1;decide,by show(2:Int)≠8;decide⟩ _;have D:=Rm [AG n d] (i:Int);have O:∀ x∈[AG n d]++D6 [AG n d] (i:Int),LacOk x:=λx r=>(Q'.1 r).elim (v x) λe=>(W x e).1;have C:([AG n d]++D6 [AG n d] (i:Int)).length<=100000:=by rw[E'];simp only[mQ]at D ⊢;omega
 have T:As.dc [AG n d]=As.set n (Cz.want c) [] []:=by
  show As.act (AG n d)=_;unfold Meet.act AG;simp only[mM];rw[if_pos trivial];have:(As.ab n).qK n d As.eb=(Cz.want c,[]):=by
   show Cz.qK n d []=_;unfold Nod.qK Nod.qY;rw[if_neg (by decide),show((Cz.done:Nat):Int)=0 from rfl,if_neg (λg=>g V),U,if_neg (by show c∉([]:List Cmd).take 0;simp)]
  rw[this];rfl
 have L:=PP [AG n d] v (by simp);have w:=PO [AG n d] v (by simp);have J:∃ σ,AgI σ (As.dc [AG n d]):=by
  obtain⟨σ,h,_⟩:=NdW.dc [AG n d] v (by simp);exact⟨σ,h⟩
 have q:=λ{j:Nat} (p:j<5)=>OL O C p;rw[AH]at f q ⊢
 have E:∀ j,((As.dc [AG n d]).ab j).ub=(true,0):=λj=>by
  rw[T,Aj];split<;>rfl
 have M:OnI n c (As.dc [AG n d]):=by
  rw[T];refine⟨λj p o=>by rw[Aj,if_neg o];rfl,.inl ⟨?_,rfl⟩⟩;rw[Bi];rfl
 obtain⟨S,q2,X⟩:=OnI.dc _ W L (by simp only[mQ]at D ⊢;omega) (λj p=>congrArg Prod.fst (E j)) J w.1 w.2 M;generalize (As.dc [AG n d]).dc (D6 [AG n d] (i:Int))=N at f q S q2 X ⊢;have F:∀ x∈A,x=c:=λx r=>by
  have:=(f.z.l.pe.pb.cm.s.nd n o).ag x (by rw[f.z.a n o];exact r);obtain⟨y,R,rfl⟩:=mB.1 this;rw[D'.1 (oL.1 R).1,<- U,Zj V];rfl
 have H:A.Nodup:=by have:=q o;rwa [f.z.a n o]at this
 have G:A.length<=1:=KO H (m:=[c]) λx r=>by rw[F x r];exact D'.2 rfl
 have Q:=f.au (by omega) o;have I:c∈A:=by
  rcases S.t with⟨a,_⟩|⟨_,a⟩
  .rw[a]at Q;cases Q
  .obtain⟨k,_,a,_⟩:=a;rw[f.z.a n o]at a
   exact mD a
 have u:A=[c]:=by
  match A,G,I with
  | [x],_,h=>rw[D'.1 h]
 exact⟨λj p=>⟨(f.z.a j p).trans u,by rw[f.d j p,u];rfl,f.z.s j p⟩,λj=>(X j).trans (E j),S,Q⟩
theorem Zh(g:n<5){c:Cmd}{N:Meet}(e:∀ j,j<5->(N.ab j).ae=[c]/\(N.ab j).done=1/\StI (N.ab j))(f:OnI n c N)(d:(N.ab n).au=[]):N.eb=[⟨n,c.c,c.s,doC CJ c,doA CJ c⟩]:=by
 rcases f.t with⟨a,_⟩|⟨_,k,b,_,t⟩
 .rw[a]at d;cases d
 .rw[(e n g).2.1]at b
  obtain rfl:k=0:=by omega
  exact t
theorem NA(b:c.e=0)(a:c.k≠0):doC (JH [c]) c=doC CJ c/\doA (JH [c]) c=doA CJ c:=by
 obtain⟨l,j⟩:=OU b;have g:doE (JH [c]) c=0:=(OX (Ms [c] λx d=>by rw[D'.1 d];exact b)).trans b;have f:doE CJ c=0:=(OX (Ms [] λx d=>by cases d)).trans b;have m:0<=c.s:=by unfold InC at j;omega
 have i:JH [c]=J1 CJ c:=by
  show dnS CJ c=_;unfold dnS;rw[if_pos ⟨a,by show ¬ c.s<0;omega,rfl⟩]
 rw[Sf g,Sf f,Se g,Se f,i];unfold dnC dnA;rw[if_neg a,if_neg a,if_neg a,if_neg a];have h:(J1 CJ c).L c.c.toNat=c.s+1:=Hf _ _ _;rw[if_pos h,if_pos h,if_neg (by show ¬ (0:Int)=c.s+1;omega),if_neg (by show ¬ c.s<0;omega),if_neg (by show ¬ false=true;decide),if_neg (by show ¬ (0:Int)=c.s+1;omega),if_neg (by show ¬ c.s<0;omega),if_neg (by show ¬ false=true;decide)];exact⟨Hf _ _ _,Hf _ _ _⟩
theorem Wg(a:n<5)(y:i<5){d:List Int}{c:Cmd}(z:opE d 0=0)(w:E9 d 0=c)(x:d.length<=2000)(l:opE d 1=0)(h:E9 d 1=c)(o:c.e=0)(p:c.k≠0){M N:Meet}(m:As.dc ([AG n d]++D6 [AG n d] (i:Int))=M)(f:As.dc ([AG n d]++D6 [AG n d] (i:Int)++[AG n d])=N) :
  ∃ t:Tol,M.eb=[t]/\N.eb=[t,t]/\N.ab=M.ab/\N.bm=M.bm:=by
 rw[AH,m]at f
 obtain⟨b,r,u,v⟩:=dC a y z w x m;have q:=Zh a b u v;have e:M.dc [AG n d]=⟨M.ab,M.bm,M.eb++[⟨n,c.c,c.s,doC CJ c,doA CJ c⟩]⟩:=by
  show M.act (AG n d)=_;unfold Meet.act AG;simp only[mM];rw[if_pos trivial];have:(M.ab n).qK n d M.eb=(M.ab n,M.eb++[⟨n,c.c,c.s,doC CJ c,doA CJ c⟩]):=by
   unfold Nod.qK Nod.qY;have A:(M.ab n).ie=JH [c]:=by
    have:=(b n a).2.2;unfold StI at this
    rwa [(b n a).1,(b n a).2.1]at this
   have j:((M.ab n).done:Int)=1:=by rw[(b n a).2.1];rfl
   rw[if_neg (by have:=congrArg Prod.fst (r n);rw[show(M.ab n).up=true from this];decide),j,if_neg (λg=>g l),h,if_pos (by rw[(b n a).1,(b n a).2.1];exact D'.2 rfl),A,(NA o p).1,(NA o p).2]
  rw[this];show(⟨upN M.ab n (M.ab n),M.bm,_⟩:Meet)=_;rw[GJ]
 rw[e]at f
 subst f;exact⟨_,q,by show M.eb++_=_;rw[q];rfl,rfl,rfl⟩
end
end
section
open Go.RowKit
section
variable{W w:World}{b off:Nat}{c n v:Int}{x:S3}
theorem PN{a:Int}(h:I64 n)(d:pick n a=c)(f:0<a:=by decide)(b:a<=9223372036854775807:=by decide) :
  Calls prog 5 #[iv n,iv a] w λe w'=>e=.returned (iv c)/\Bw w w':=by subst d;exact Vh h a f b
theorem fG{g i j k s m:Int}(h:paE n g i j k c s m v=0){now:Int}(o:EL g i j k c s m v now=0):opE (paL n g i j k c s m v) now=0/\E9 (paL n g i j k c s m v) now=⟨k,c,s,m,v⟩:=by
 have p:=dK h now;have r:=p.1.trans o;refine⟨r,?_⟩;have l:=p.2;rw[if_pos o,Zi]at l
 simp only[cmC,cmA,Array.mk.injEq,ol,Value.int.injEq,true_and,and_true]at l;obtain⟨a,b,d,e,f⟩:=l;generalize E9 (paL n g i j k c s m v) now=q at a b d e f;obtain⟨u,t,x,w,y⟩:=q;simp only at a b d e f;subst a b d e f;rfl
theorem UD{g:Gh}{a:Lac}{d:S3}(k:FSl g w d a.d):Dat g w [(a,d)]:=λp b=>by rw[D'.1 b];exact k
theorem Ov(c:x.a=some ⟨b,off,none⟩)(j:Nat){v:Int}(f:(j:Int)=v)(d:j<x.n):(Instr.indexAt 40 x.v (iv v)).run prog W=.ok (pt b (off+5*j)) W:=by
 subst f;obtain⟨g,i,h⟩:=x;simp only at c d;subst c;exact Nn (P:=prog) (e:=48) (z:=5) underlying40 (by kernel_rfl) (by kernel_rfl) d _ rfl
theorem KA{k:Nat}(t:Tol)(h:∀ j u,(Es t)[j]?=some u->W.cell? ⟨b,k+j,none⟩=some u):(Instr.loadAt 48 (pt b k)).run prog W=.ok (.agg #[iv (t.n:Int),iv t.c,iv t.s,iv t.e,iv t.a]) W:=by
 have d:=run_loadVar_mid (P:=prog) W b k 48 (Es t) _ h underlying48 rfl (by kernel_rfl);simp only[Instr.loadAt,Instr.sureAddr,Sem.run_bind,Sem.run_pure,Result.andThen_ok];exact d
theorem Ed{l:List Tol}(h:RdV w x 5 (l.flatMap Es)){i b c:Nat}(n:x.a=some ⟨b,c,none⟩){t:Tol}(e:l[i]?=some t){j:Nat}{u:Value}(m:(Es t)[j]?=some u):w.cell? ⟨b,c+5*i+j,none⟩=some u:=by
 have q:=aW h;have p:=(V'.1 e).1;obtain⟨o,g,d,_,k⟩:=h.spot (i:=i) (by omega);rw[n]at d;cases d
 exact k j u (Pa (f:=Es) (sz:=5) (λ_=>rfl) l e m)
theorem Ou{x y:Operand}(a b c d e:Int):(do Go.eqGuard .eql 48 x y (.agg #[iv a,iv b,iv c,iv d,iv e]) (.agg #[iv a,iv b,iv c,iv d,iv e]);Go.binOp .eql 48 (.agg #[iv a,iv b,iv c,iv d,iv e]) (.agg #[iv a,iv b,iv c,iv d,iv e]):Sem Value).run prog W=.ok (.bool true) W:=by
 have g:(Go.eqGuard .eql 48 x y (.agg #[iv a,iv b,iv c,iv d,iv e]) (.agg #[iv a,iv b,iv c,iv d,iv e])).run prog W=.ok () W:=by kernel_rfl
 rw[Sem.run_bind,g,Result.andThen_ok];rw[run_eql_struct,run_equalIn_agg W 9999 _ _ _ (by kernel_rfl) (by kernel_rfl)];unfold Program.fieldsOf;rw[underlying48];have f:=underlying3;simp[Op.eqFields,go_sem,f]
theorem N1{ck cc cs cn cv at_ ld:Int}(hk:I64 ck)(hc:I64 cc)(hs:I64 cs)(hn:I64 cn)(hv:I64 cv)(a6:I64 at_)(b0:I64 ld)(hT:Vi w) :
  Calls prog 3 #[.agg #[iv ck,iv cc,iv cs,iv cn,iv cv],iv at_,iv ld] w λe w'=>e=.returned (.bool true)/\Bw w w':=by
 have g8:=CA cc 4 (by omega);have h1:=CA cs 6 (by omega);have g9:=R9 ck;have ra:=CA at_ 5 (by omega);have rl:=CA ld 5 (by omega);obtain⟨n,b1,b⟩:∃ n:Nat,pick at_ 5=(n:Int)/\n<5:=⟨(pick at_ 5).toNat,by omega,by omega⟩;obtain⟨i,a8,a9⟩:∃ i:Nat,pick ld 5=(i:Int)/\i<5:=⟨(pick ld 5).toNat,by omega,by omega⟩;have t1:Dt (pick cc 4) 7 60:=by unfold Dt;omega
 have k1:Bh (wK ck) (pick cc 4) (pick cs 6) (pick cn 4) (wV ck cv)=0:=fg ck cn cv (pick cc 4) (pick cs 6) (by omega) (by omega);have p1:paE 1 (pick cc 4) 7 60 (wK ck) (pick cc 4) (pick cs 6) (pick cn 4) (wV ck cv)=0:=by rw[ix ⟨by decide,by decide⟩ (Ja t1)];exact k1
 have r1:KV (wK ck) 7:=by unfold KV;omega
 obtain⟨o1,q1⟩:=fG p1 (now:=0) (OM t1 k1 ⟨r1,rfl⟩ ⟨by decide,by decide⟩);obtain⟨o2,q2⟩:=fG p1 (now:=1) (OM t1 k1 ⟨r1,rfl⟩ ⟨by decide,by decide⟩);have d1:=Tk p1;generalize a7:paL 1 (pick cc 4) 7 60 (wK ck) (pick cc 4) (pick cs 6) (pick cn 4) (wV ck cv)=dx at o1 q1 o2 q2 d1;have A:∀ x∈[AG n dx]++D6 [AG n dx] (i:Int),LacOk x:=λx O=>by
  rcases Q'.1 O with e|e
  .rw[D'.1 e];exact P9 b (by omega)
  .exact Mm (λn hn=>D9 ⟨.inr (.inr rfl),by omega,by omega⟩) (λn hn=>D9 ⟨.inr (.inl rfl),by omega,by omega⟩) (by rw[<- DO];decide) (D9 ⟨.inl rfl,by omega,by omega⟩) _ _ e
 have T:∀ x∈[AG n dx]++D6 [AG n dx] (i:Int)++[AG n dx],LacOk x:=λx O=>(Q'.1 O).elim (A x) λe=>by rw[D'.1 e];exact P9 b (by omega)
 obtain⟨M,hM⟩:∃ M,As.dc ([AG n dx]++D6 [AG n dx] (i:Int))=M:=⟨_,rfl⟩;obtain⟨N,hN⟩:∃ N,As.dc ([AG n dx]++D6 [AG n dx] (i:Int)++[AG n dx])=N:=⟨_,rfl⟩;obtain⟨t,nt,nu,nd,ne⟩:=Wg b a9 o1 q1 (by omega) o2 q2 k1 (by show wK ck≠0;omega) hM hN;have b2:=Rm [AG n dx] (i:Int);simp only[mQ]at b2;refine tIn [] func3 trivial (tR 8 [1,0,0] λh2 _ _=>tC1 1 (λF C=>RB hk hc hs hn hv) λ_=>tR 6 [1,0,1,0] λh3 _ _=>tC1 1 (λF C=>PN a6 b1) λ_=>tR 8 [1,1] λh4 _ _=>tC 4 (λF C=>dL p1 (tbA hT.1 C)) λE=>?_);rintro _ _ ⟨g,rfl,O,U,b6⟩;refine⟨_,Fa.sl g dx::_,rfl,b6,λF=>⟨by rw[a7]at O U;exact DE O U E,F⟩,?_⟩;refine tR 13 [1,0] λW _ _=>lV (v:=true) 2 0 (W 0) 5 1 [iv 1,iv (n:Int),iv 0,iv 0,S3.v g] 36 [Fa.sl g dx] (λg' hz F=>⟨F.1.og hz,trivial⟩) (λg'=>?_) rfl (by unfold maxLen;omega);refine tCv [Fa.oa 0 (⟨some ⟨(W 0),0,none⟩,1,1⟩:S3) [(AG n dx,g)],Fa.sl g dx] (λF=>⟨⟨F.1,UD F.2.1⟩,F.2.1,trivial⟩) (tC1 5 (λF C=>PN b0 a8) λ_=>tC 6 (λF C=>T8 (n:=(i:Int)) (AcR.oo (L:=[AG n dx]) F.1 rfl) (by show 1<=2000;omega)) λE=>?_);rintro _ _ ⟨z,rfl,hz,a0⟩;refine⟨_,[Fa.ac z ([(AG n dx,g)]++rnP (D6 [AG n dx] (i:Int))),Fa.sl g dx],rfl,a0,λF=>⟨⟨hz.fz E,Dat.app F.1.2 (Pz _ _ (Mm (P:=λa=>a.d=[]) (λ_ _=>rfl) (λ_ _=>rfl) rfl rfl _))⟩,F.2.1,trivial⟩,?_⟩;have H:([(AG n dx,g)]++rnP (D6 [AG n dx] (i:Int))).map (·.1)=[AG n dx]++D6 [AG n dx] (i:Int):=by rw[mK,eg];rfl
 refine tF λF _=>?_;have b3:=(AcR.of F.1 H).n;rw[E',mQ]at b3
 refine tR 5 [] λb4 _ _=>tC 1 (λF C=>ZG (AcR.of F.1 H) A (by rw[E'];show 1+_<=_;omega) (tb5 hT C) hM) λE=>?_;rintro _ _ ⟨V,tv,h,rfl,hW,hO,a1⟩;refine⟨_,Fa.ot V tv h M::_,rfl,a1,λF=>⟨Pm hW hO E,F⟩,?_⟩;refine tR 10 [1,0,2,0] λb5 _ _=>aH 1 0 z (acV ([(AG n dx,g)]++rnP (D6 [AG n dx] (i:Int)))) 33 33 36 5 56 zLa (λF=>F.2.1.1.rd) [Fa.dt ([(AG n dx,g)]++rnP (D6 [AG n dx] (i:Int))),Fa.sl g dx,Fa.ot V tv h M] (λF=>⟨F.2.1.2,F.2.2.1,F.1,trivial⟩) rfl (by simp[TQ]) (OI ([(AG n dx,g)]++rnP (D6 [AG n dx] (i:Int)))) (by unfold maxLen;omega) (by omega) λv0 _ _ n0=>tR 4 [1,0] λD _ _=>Rv 6 0 (x:=v0) 33 33 36 5 56 zLa ⟨(D 0),0,none⟩ 1 1 [iv 1,iv (n:Int),iv 0,iv 0,S3.v g] (λF=>F.1) [Fa.sl g dx,Fa.ot V tv h M,Fa.dt (([(AG n dx,g)]++rnP (D6 [AG n dx] (i:Int)))++[(AG n dx,g)])] (λF=>⟨F.2.2.1,F.2.2.2.1,Dat.app F.2.1 (UD F.2.2.1),trivial⟩) rfl (by simp[TQ]) rfl (by simp[Value.oneCell']) (λF K=>Dx K 3 (D 0) [iv 1,iv (n:Int),iv 0,iv 0,S3.v g] 36 .l true (by kernel_rfl)) (by unfold maxLen;omega) (by omega) λv _ _ vn=>tCv [Fa.oa 0 v (([(AG n dx,g)]++rnP (D6 [AG n dx] (i:Int)))++[(AG n dx,g)]),Fa.sl g dx,Fa.ot V tv h M] (λF=>⟨⟨(by rw[Gg];exact F.1),F.2.2.2.1⟩,F.2.1,F.2.2.1,trivial⟩) ?_;have a4:(([(AG n dx,g)]++rnP (D6 [AG n dx] (i:Int)))++[(AG n dx,g)]).map (·.1)=[AG n dx]++D6 [AG n dx] (i:Int)++[AG n dx]:=by rw[mK,H];rfl
 refine tC 7 (λF C=>ZG (AcR.oo F.1 a4) T (by rw[E',E'];show 1+_+1<=_;omega) (tb5 hT C) hN) λE=>?_;rintro _ _ ⟨lz,tz,k,rfl,a5,a3,a2⟩;refine⟨_,[Fa.ot lz tz k N,Fa.ot V tv h M],rfl,a2,λF=>⟨Pm a5 a3 E,F.2.2.1,trivial⟩,?_⟩;refine tF λF _=>?_;have J:=aW F.2.1.eb.rd;have I:=aW F.1.eb.rd;have o:(h n).n=(k n).n:=by rw[j4 (F.2.1.log n b).rd,j4 (F.1.log n b).rd];unfold Meet.log;rw[nd]
 have g6:=(Pn F.2.1).n5;have g7:=(Pn F.1).n5;obtain⟨X,fl,q,_⟩:=F.2.1.qP.rd.spot (i:=0) (by omega);obtain⟨Y,Z,r,_⟩:=F.1.qP.rd.spot (i:=0) (by omega);have h0:M.eb[0]?=some t:=by rw[nt];rfl
 have Q:N.eb[0]?=some t:=by rw[nu];rfl
 have k2:N.eb[1]?=some t:=by rw[nu];rfl
 rw[nt]at J
 rw[nu]at I
 simp only[mJ,List.length_nil]at J I;obtain⟨bt,ft,G,_⟩:=F.2.1.eb.rd.spot (i:=0) (by omega);obtain⟨R,S,p,_⟩:=F.1.eb.rd.spot (i:=0) (by omega);refine tR 24 [1,0,4,0,2] λb7 _ _=>tV 14 (.bool false) (λF C=>(Hl (t:=3) (m:=(tv.n:Int)) (n:=1) (x:=(.tmp 64)) (y:=(.const (iv 1))) (by rw[J];rfl))) (tR 5 [4] λb8 _ _=>tV 20 (.bool false) (λF C=>(Hl (t:=3) (m:=(tz.n:Int)) (n:=2) (x:=(.tmp 70)) (y:=(.const (iv 2))) (by rw[I];rfl))) (tR 8 [43,0,2,2] λb9 _ _=>tT 2 (pt bt (ft+5*0)) (λ_=>(Ov G 0 rfl (by omega))) (tR 2 [8,10,4] λc0 _ _=>tT 6 (pt R (S+5*0)) (λ_=>(Ov p 0 rfl (by omega))) (Fv 3 7 ?_ ?_))))
 .refine tF λF _=>tV 3 (.agg #[iv (t.n:Int),iv t.c,iv t.s,iv t.e,iv t.a]) (λF C=>(KA t λj u f=>Ed F.2.1.eb.rd G h0 f)) (tF λF _=>tV 7 (.agg #[iv (t.n:Int),iv t.c,iv t.s,iv t.e,iv t.a]) (λF C=>(KA t λj u f=>Ed F.1.eb.rd p Q f)) (tT 8 (.bool true) (λ_=>(Ou (x:=(.tmp 76)) (y:=(.tmp 80)) (t.n:Int) t.c t.s t.e t.a)) (tR 3 [18,20,22,4] λc1 _ _=>tT 12 (pt R (S+5*1)) (λ_=>(Ov p 1 rfl (by omega))) (tR 2 [28,30,4] λc2 _ _=>tT 16 (pt R (S+5*0)) (λ_=>(Ov p 0 rfl (by omega))) (Fv 13 17 ?_ ?_)))))
  .refine tF λF _=>tV 13 (.agg #[iv (t.n:Int),iv t.c,iv t.s,iv t.e,iv t.a]) (λF C=>(KA t λj u f=>Ed F.1.eb.rd p k2 f)) (tF λF _=>tV 17 (.agg #[iv (t.n:Int),iv t.c,iv t.s,iv t.e,iv t.a]) (λF C=>(KA t λj u f=>Ed F.1.eb.rd p Q f)) (tT 18 (.bool true) (λ_=>(Ou (x:=(.tmp 86)) (y:=(.tmp 90)) (t.n:Int) t.c t.s t.e t.a)) (tR 5 [38,40,42,44,2,46] λc3 _ _=>tT 24 (pt X (fl+n)) (λ_=>(Kh q n (by omega))) (tR 3 [54,56,4,58] λc4 _ _=>tT 30 (pt Y (Z+n)) (λ_=>(Kh r n (by omega))) (Fv 25 31 ?_ ?_)))))
   .refine tF λF _=>tV 25 (S3.v (h n)) (λF C=>(BT underlying49 rfl (BN F.2.1.qP.rd q b))) (tR 1 [52] λc5 _ _=>tF λF _=>tV 31 (S3.v (k n)) (λF C=>(BT underlying49 rfl (BN F.1.qP.rd r b))) (tR 1 [64] λc6 _ _=>tT 33 (.bool true) (λ_=>(D4 (t:=3) (m:=((h n).n:Int)) (n:=((k n).n:Int)) (x:=(.tmp 99)) (y:=(.tmp 105)) (by rw[o];simp))) (tR 6 [68,70,72,74,2,76,78,4] λc7 _ _=>tT 40 (.bool true) (λ_=>(D4 (t:=3) (m:=(M.bm.length:Int)) (n:=(N.bm.length:Int)) (x:=(.tmp 110)) (y:=(.tmp 112)) (by rw[ne];simp))) (tR 3 [82,84] λc8 _ _=>tE (.bool true) λ_ B=>⟨rfl,B⟩))))
   .refine tF λF _=>tV 31 (S3.v (k n)) (λF C=>(BT underlying49 rfl (BN F.1.qP.rd r b))) (tR 1 [64] λc9 _ _=>tF λF _=>tV 25 (S3.v (h n)) (λF C=>(BT underlying49 rfl (BN F.2.1.qP.rd q b))) (tR 1 [52] λd0 _ _=>tT 33 (.bool true) (λ_=>(D4 (t:=3) (m:=((h n).n:Int)) (n:=((k n).n:Int)) (x:=(.tmp 99)) (y:=(.tmp 105)) (by rw[o];simp))) (tR 6 [68,70,72,74,2,76,78,4] λd2 _ _=>tT 40 (.bool true) (λ_=>(D4 (t:=3) (m:=(M.bm.length:Int)) (n:=(N.bm.length:Int)) (x:=(.tmp 110)) (y:=(.tmp 112)) (by rw[ne];simp))) (tR 3 [82,84] λd3 _ _=>tE (.bool true) λ_ B=>⟨rfl,B⟩))))
  .refine tF λF _=>tV 17 (.agg #[iv (t.n:Int),iv t.c,iv t.s,iv t.e,iv t.a]) (λF C=>(KA t λj u f=>Ed F.1.eb.rd p Q f)) (tF λF _=>tV 13 (.agg #[iv (t.n:Int),iv t.c,iv t.s,iv t.e,iv t.a]) (λF C=>(KA t λj u f=>Ed F.1.eb.rd p k2 f)) (tT 18 (.bool true) (λ_=>(Ou (x:=(.tmp 86)) (y:=(.tmp 90)) (t.n:Int) t.c t.s t.e t.a)) (tR 5 [38,40,42,44,2,46] λd4 _ _=>tT 24 (pt X (fl+n)) (λ_=>(Kh q n (by omega))) (tR 3 [54,56,4,58] λd5 _ _=>tT 30 (pt Y (Z+n)) (λ_=>(Kh r n (by omega))) (Fv 25 31 ?_ ?_)))))
   .refine tF λF _=>tV 25 (S3.v (h n)) (λF C=>(BT underlying49 rfl (BN F.2.1.qP.rd q b))) (tR 1 [52] λd6 _ _=>tF λF _=>tV 31 (S3.v (k n)) (λF C=>(BT underlying49 rfl (BN F.1.qP.rd r b))) (tR 1 [64] λd7 _ _=>tT 33 (.bool true) (λ_=>(D4 (t:=3) (m:=((h n).n:Int)) (n:=((k n).n:Int)) (x:=(.tmp 99)) (y:=(.tmp 105)) (by rw[o];simp))) (tR 6 [68,70,72,74,2,76,78,4] λd8 _ _=>tT 40 (.bool true) (λ_=>(D4 (t:=3) (m:=(M.bm.length:Int)) (n:=(N.bm.length:Int)) (x:=(.tmp 110)) (y:=(.tmp 112)) (by rw[ne];simp))) (tR 3 [82,84] λd9 _ _=>tE (.bool true) λ_ B=>⟨rfl,B⟩))))
   .refine tF λF _=>tV 31 (S3.v (k n)) (λF C=>(BT underlying49 rfl (BN F.1.qP.rd r b))) (tR 1 [64] λe0 _ _=>tF λF _=>tV 25 (S3.v (h n)) (λF C=>(BT underlying49 rfl (BN F.2.1.qP.rd q b))) (tR 1 [52] λe1 _ _=>tT 33 (.bool true) (λ_=>(D4 (t:=3) (m:=((h n).n:Int)) (n:=((k n).n:Int)) (x:=(.tmp 99)) (y:=(.tmp 105)) (by rw[o];simp))) (tR 6 [68,70,72,74,2,76,78,4] λe2 _ _=>tT 40 (.bool true) (λ_=>(D4 (t:=3) (m:=(M.bm.length:Int)) (n:=(N.bm.length:Int)) (x:=(.tmp 110)) (y:=(.tmp 112)) (by rw[ne];simp))) (tR 3 [82,84] λe3 _ _=>tE (.bool true) λ_ B=>⟨rfl,B⟩))))
 .refine tF λF _=>tV 7 (.agg #[iv (t.n:Int),iv t.c,iv t.s,iv t.e,iv t.a]) (λF C=>(KA t λj u f=>Ed F.1.eb.rd p Q f)) (tF λF _=>tV 3 (.agg #[iv (t.n:Int),iv t.c,iv t.s,iv t.e,iv t.a]) (λF C=>(KA t λj u f=>Ed F.2.1.eb.rd G h0 f)) (tT 8 (.bool true) (λ_=>(Ou (x:=(.tmp 76)) (y:=(.tmp 80)) (t.n:Int) t.c t.s t.e t.a)) (tR 3 [18,20,22,4] λe4 _ _=>tT 12 (pt R (S+5*1)) (λ_=>(Ov p 1 rfl (by omega))) (tR 2 [28,30,4] λe5 _ _=>tT 16 (pt R (S+5*0)) (λ_=>(Ov p 0 rfl (by omega))) (Fv 13 17 ?_ ?_)))))
  .refine tF λF _=>tV 13 (.agg #[iv (t.n:Int),iv t.c,iv t.s,iv t.e,iv t.a]) (λF C=>(KA t λj u f=>Ed F.1.eb.rd p k2 f)) (tF λF _=>tV 17 (.agg #[iv (t.n:Int),iv t.c,iv t.s,iv t.e,iv t.a]) (λF C=>(KA t λj u f=>Ed F.1.eb.rd p Q f)) (tT 18 (.bool true) (λ_=>(Ou (x:=(.tmp 86)) (y:=(.tmp 90)) (t.n:Int) t.c t.s t.e t.a)) (tR 5 [38,40,42,44,2,46] λe6 _ _=>tT 24 (pt X (fl+n)) (λ_=>(Kh q n (by omega))) (tR 3 [54,56,4,58] λe7 _ _=>tT 30 (pt Y (Z+n)) (λ_=>(Kh r n (by omega))) (Fv 25 31 ?_ ?_)))))
   .refine tF λF _=>tV 25 (S3.v (h n)) (λF C=>(BT underlying49 rfl (BN F.2.1.qP.rd q b))) (tR 1 [52] λe8 _ _=>tF λF _=>tV 31 (S3.v (k n)) (λF C=>(BT underlying49 rfl (BN F.1.qP.rd r b))) (tR 1 [64] λe9 _ _=>tT 33 (.bool true) (λ_=>(D4 (t:=3) (m:=((h n).n:Int)) (n:=((k n).n:Int)) (x:=(.tmp 99)) (y:=(.tmp 105)) (by rw[o];simp))) (tR 6 [68,70,72,74,2,76,78,4] λf0 _ _=>tT 40 (.bool true) (λ_=>(D4 (t:=3) (m:=(M.bm.length:Int)) (n:=(N.bm.length:Int)) (x:=(.tmp 110)) (y:=(.tmp 112)) (by rw[ne];simp))) (tR 3 [82,84] λf1 _ _=>tE (.bool true) λ_ B=>⟨rfl,B⟩))))
   .refine tF λF _=>tV 31 (S3.v (k n)) (λF C=>(BT underlying49 rfl (BN F.1.qP.rd r b))) (tR 1 [64] λf2 _ _=>tF λF _=>tV 25 (S3.v (h n)) (λF C=>(BT underlying49 rfl (BN F.2.1.qP.rd q b))) (tR 1 [52] λf3 _ _=>tT 33 (.bool true) (λ_=>(D4 (t:=3) (m:=((h n).n:Int)) (n:=((k n).n:Int)) (x:=(.tmp 99)) (y:=(.tmp 105)) (by rw[o];simp))) (tR 6 [68,70,72,74,2,76,78,4] λf4 _ _=>tT 40 (.bool true) (λ_=>(D4 (t:=3) (m:=(M.bm.length:Int)) (n:=(N.bm.length:Int)) (x:=(.tmp 110)) (y:=(.tmp 112)) (by rw[ne];simp))) (tR 3 [82,84] λf5 _ _=>tE (.bool true) λ_ B=>⟨rfl,B⟩))))
  .refine tF λF _=>tV 17 (.agg #[iv (t.n:Int),iv t.c,iv t.s,iv t.e,iv t.a]) (λF C=>(KA t λj u f=>Ed F.1.eb.rd p Q f)) (tF λF _=>tV 13 (.agg #[iv (t.n:Int),iv t.c,iv t.s,iv t.e,iv t.a]) (λF C=>(KA t λj u f=>Ed F.1.eb.rd p k2 f)) (tT 18 (.bool true) (λ_=>(Ou (x:=(.tmp 86)) (y:=(.tmp 90)) (t.n:Int) t.c t.s t.e t.a)) (tR 5 [38,40,42,44,2,46] λf6 _ _=>tT 24 (pt X (fl+n)) (λ_=>(Kh q n (by omega))) (tR 3 [54,56,4,58] λf7 _ _=>tT 30 (pt Y (Z+n)) (λ_=>(Kh r n (by omega))) (Fv 25 31 ?_ ?_)))))
   .refine tF λF _=>tV 25 (S3.v (h n)) (λF C=>(BT underlying49 rfl (BN F.2.1.qP.rd q b))) (tR 1 [52] λf8 _ _=>tF λF _=>tV 31 (S3.v (k n)) (λF C=>(BT underlying49 rfl (BN F.1.qP.rd r b))) (tR 1 [64] λf9 _ _=>tT 33 (.bool true) (λ_=>(D4 (t:=3) (m:=((h n).n:Int)) (n:=((k n).n:Int)) (x:=(.tmp 99)) (y:=(.tmp 105)) (by rw[o];simp))) (tR 6 [68,70,72,74,2,76,78,4] λg0 _ _=>tT 40 (.bool true) (λ_=>(D4 (t:=3) (m:=(M.bm.length:Int)) (n:=(N.bm.length:Int)) (x:=(.tmp 110)) (y:=(.tmp 112)) (by rw[ne];simp))) (tR 3 [82,84] λg1 _ _=>tE (.bool true) λ_ B=>⟨rfl,B⟩))))
   .refine tF λF _=>tV 31 (S3.v (k n)) (λF C=>(BT underlying49 rfl (BN F.1.qP.rd r b))) (tR 1 [64] λg2 _ _=>tF λF _=>tV 25 (S3.v (h n)) (λF C=>(BT underlying49 rfl (BN F.2.1.qP.rd q b))) (tR 1 [52] λg3 _ _=>tT 33 (.bool true) (λ_=>(D4 (t:=3) (m:=((h n).n:Int)) (n:=((k n).n:Int)) (x:=(.tmp 99)) (y:=(.tmp 105)) (by rw[o];simp))) (tR 6 [68,70,72,74,2,76,78,4] λg4 _ _=>tT 40 (.bool true) (λ_=>(D4 (t:=3) (m:=(M.bm.length:Int)) (n:=(N.bm.length:Int)) (x:=(.tmp 110)) (y:=(.tmp 112)) (by rw[ne];simp))) (tR 3 [82,84] λg5 _ _=>tE (.bool true) λ_ B=>⟨rfl,B⟩))))
end
end
end Go.Proofs.YtdjfdfpkkenjbacGreatDoor
