/- Part 18 of the walk. -/
import Derived.Deep.Slices
import Derived.Test.YtdjfdfpkkenjbadGreatDoorZ17
set_option maxRecDepth 100000
set_option maxHeartbeats 4000000
open Go.Proofs.Tryz
set_option linter.unusedVariables false
namespace Go.Proofs.YtdjfdfpkkenjbadGreatDoor
section
theorem Ph(p:Nod)(b:Bal):(p.au b).1.done=p.done:=by
 unfold Nod.au;split
 .rfl
 .split
  .rfl
  .split<;>rfl
theorem O7(p:Nod)(v:Vt):(p.cl v).1.done=p.done:=by
 unfold Nod.cl;split
 .rfl
 .split
  .rfl
  .split<;>rfl
theorem Lm(p:Nod)(j:Nat)(v:Vt):(p.count j v).done=p.done:=by
 unfold Nod.count;split
 .rfl
 .split<;>rfl
theorem Ki(p:Nod)(to:Nat)(e:Int):(p.ew to e).done=p.done:=by unfold Nod.ew;split<;>rfl
theorem Iw(p:Nod)(l:List Cmd):(p.eb l).done=p.done:=by unfold Nod.eb;split<;>rfl
theorem WP(p:Nod)(l:Let):(p.take l).done=p.done:=by
 unfold Nod.take;split
 .split
  .exact Ki _ _ _
  .exact Ph p l.hZ
 .simp only;split<;>rfl
 .rfl
 .split
  .exact Ki _ _ _
  .exact O7 p l.cl
 .exact Lm p _ _
 .split<;>rfl
 .simp only;split<;>exact Iw p l.gC
 .rfl
theorem Ow(p:Nod)(i:Nat)(q:Pend):(p.ic i q).done=p.done:=by
 cases q with
 | began b vs=>unfold Nod.ic;simp only;split<;>rfl
 | prop v=>exact Lm p i v
 | _=>rfl
theorem RU(i:Nat)(l:List Pend)(p:Nod)(a:List Let):(nn i l p a).1.done=p.done:=by
 induction l generalizing p a with
 | nil=>rfl
 | cons q l ih=>exact(ih _ _).trans (Ow p i q)
def WD(l:List Cmd):Sto:=l.foldl dnS EH
theorem WE(l:List Cmd)(c:Cmd):WD (l++[c])=dnS (WD l) c:=by unfold WD;rw[oO];rfl
theorem ah(l:List Cmd)(h:∀ c∈l,c.e=0):Ik (WD l):=by
 have key:∀ (l:List Cmd) (s:Sto),Ik s->(∀ c∈l,c.e=0)->Ik (l.foldl dnS s):=by
  intro l;induction l with
  | nil=>exact λs a _=>a
  | cons c l ih=>exact λs a h=>ih _ (Ub a (h c M')) λd b=>h d (I' _ b)
 exact key l EH ZY h
def StI(p:Nod):Prop:=p.lp=WD (p.ae.take p.done)
theorem StI.lr{p q:Nod}(h:StI p)(d:q.lp=p.lp)(b:q.done=p.done)(a:p.ae <+: q.ae)(c:p.done<=p.ae.length):StI q:=by
 unfold StI;rw[d,b,My a c];exact h
theorem aI(p:Nod)(l:Let):(p.take l).lp=p.lp:=by
 unfold Nod.take;split
 .split
  .unfold Nod.ew;split<;>rfl
  .show(p.au l.hZ).1.lp=_;unfold Nod.au;split
   .rfl
   .split
    .rfl
    .split<;>rfl
 .simp only;split<;>rfl
 .rfl
 .split
  .unfold Nod.ew;split<;>rfl
  .show(p.cl l.cl).1.lp=_;unfold Nod.cl;split
   .rfl
   .split
    .rfl
    .split<;>rfl
 .unfold Nod.count;split
  .rfl
  .split<;>rfl
 .split<;>rfl
 .simp only;unfold Nod.eb;split<;>split<;>rfl
 .rfl
theorem StI.bare(p:Nod)(u:Bool)(d:List Int)(s:Int)(a:Acc)(x:List Pend):StI (p.bare u d s a x):=rfl
theorem StI.step{D:Wh}{c:Nat}{M N:Meet}(s:Stp D c M N)(a:∀ j,j<5->(M.ab j).done<=(M.ab j).ae.length)(h:∀ j,j<5->StI (M.ab j)):∀ j,j<5->StI (N.ab j):=by
 intro j g;have put:∀ {k:Nat} {p:Nod} {f:List Let} {i:List Tol},(k<5->StI p)->StI ((M.set k p f i).ab j):=λ{k p f i} e=>by
  rw[Aj];split
  .rename_i e2;exact e (by omega)
  .exact h j g
 cases s with
 | take _ l hl hd2 hu ht=>exact put λ_=>(h _ hd2.2).lr (aI _ l) (WP _ l) (Ev.take _ l).ag (a _ hd2.2)
 | br _ f hl a=>exact h j g
 | one _ k c hi hu hc he =>
  refine put λ_=>?_;have e:StI { M.ab k with lp:=doS (M.ab k).lp c,done:=(M.ab k).done+1 }:=by
   unfold StI;show doS (M.ab k).lp c=WD ((M.ab k).ae.take ((M.ab k).done+1));rw[nS,hc,RT he,h k hi];exact(WE _ c).symm
  unfold Nod.hU;split<;>exact e
 | ask _ k hi hu =>
  refine put λ_=>?_;have:=h k hi;unfold Nod.ib;split
  .exact this
  .split
   .unfold Nod.eb;split<;>exact this
   .exact this
 | prop _ k hi hu =>
  refine put λ_=>?_;have:=h k hi;unfold Nod.cF;split
  .exact this
  .split
   .exact this
   .split
    .exact this
    .show StI ((M.ab k).cl _).1;unfold Nod.cl;split
     .exact this
     .split
      .exact this
      .split<;>exact this
 | qH _ k hi hu hs hT=>exact put λ_=>h k hi
 | run _ k hi hu q l hp hs =>
  refine put λ_=>(h k hi).lr ?_ ((Ow (M.ab k) k q)) ((Ev.ic (M.ab k) k q).bu l).ag (a k hi);show((M.ab k).ic k q).lp=_;cases q with
  | began b vs=>simp only[Nod.ic];split<;>rfl
  | prop v =>
   simp only[Nod.ic,Nod.count];split
   .rfl
   .split<;>rfl
  | _=>rfl
 | qz _ k hi hu hL=>exact put λ_=>h k hi
 | lead _ k hi hu hL =>
  refine put λ_=>?_;have:=h k hi;unfold Nod.lead;simp only;split
  .exact this
  .generalize (⟨max (M.ab k).dc (M.ab k).vo.p.r+1,(k:Int)⟩:Bal)=b;show StI ((M.ab k).au b).1;unfold Nod.au;split
   .exact this
   .split
    .exact this
    .split<;>exact this
 | sub _ k d hi hu hD =>
  refine put λ_=>?_;have:=h k hi;unfold Nod.qJ Nod.qW;split
  .exact this
  .split
   .exact this
   .split
    .exact this
    .show StI (Nod.want _ _);unfold Nod.want;split<;>exact this
 | jv _ k x hi hu hk hC =>
  refine put λ_=>?_;unfold Nod.jv;split
  .exact h k hi
  .exact .bare _ _ _ _ _ _
 | start _ k hi hu hs =>
  refine put λ_=>?_;unfold Nod.start;split
  .exact h k hi
  .split<;>exact .bare _ _ _ _ _ _
theorem StI.zero:∀ j,j<5->StI (As.ab j):=λj _=>rfl
theorem bS(i:Nat)(l:List Cmd)(p:Nod)(k:List Tol)(j:Ik p.lp)(h:∀ c∈l,c.e=0):(qK i l p k).1.done=p.done+l.length:=by
 induction l generalizing p k with
 | nil=>rfl
 | cons c l ih =>
  have a:=h c M';have b:doE p.lp c=0:=(bR j).trans a;rw[qK,if_neg (λg=>g b)];have f:(Nod.hU { p with lp:=doS p.lp c,done:=p.done+1 } c).lp=dnS p.lp c/\(Nod.hU { p with lp:=doS p.lp c,done:=p.done+1 } c).done=p.done+1:=by
   unfold Nod.hU;split<;>exact⟨RT b,rfl⟩
  rw[ih _ _ (by rw[f.1];exact Ub j a) λd m=>h d (I' _ m),f.2,mI];omega
theorem Ti(p:Nod)(i:Nat)(f:List Let)(e:List Tol):(p.piece i f e).1.done=(qK i (p.ae.drop p.done) p e).1.done:=by
 unfold Nod.piece;simp only;generalize (qK i (p.ae.drop p.done) p e).1=a;have g:(a.ib i).1.done=a.done:=by
  unfold Nod.ib;split
  .rfl
  .split
   .exact Iw _ _
   .rfl
 generalize a.ib i=b at g ⊢;have h:b.1.cF.done=b.1.done:=by
  unfold Nod.cF;split
  .rfl
  .split
   .rfl
   .split
    .rfl
    .exact O7 _ _
 generalize b.1.cF=c at h ⊢;generalize f++b.2=k;have j:(c.mv i k).1.done=c.done:=by
  unfold Nod.mv;split
  .rfl
  .rw[RU];unfold Nod.qH;split<;>rfl
 generalize c.mv i k=d at j ⊢;have l:(d.1.bw i d.2).1.done=d.1.done:=by unfold Nod.bw;split<;>rfl
 omega
theorem D8{I:Meet->Prop}(d:∀ c M N,Stp wh0 c M N->I M->I N)(j:∀ M,I M->I { M with br:=[] })(m:Nat){n:Nat}{M:Meet}(i:MOk n M)(o:n+6*m<=1000000)(h:I M):I (M.dT (Am m))/\MOk (n+6*m) (M.dT (Am m)):=by
 induction m with
 | zero=>exact⟨h,i⟩
 | succ m ih =>
  obtain⟨e,f⟩:=ih (by omega);show I (M.dT (Am m++An))/\MOk (n+6*(m+1)) (M.dT (Am m++An));rw[AG,EI];have a:=Bm (λc A N s g=>d c A N s.calm g) f (by omega) e;obtain⟨N,k,l,_⟩:=Cr (λA N s g=>d _ A N s.qZ g) a.1 a.2;have b:=a.1.act (x:=acN 7 0) (by omega) (by rw[<- DK];decide);rw[k]at b ⊢
  exact⟨j N l,b.mono (by omega)⟩
theorem JF{M:Meet}(h:∀ j,j<5->(M.ab j).up=true):M.dT Ax=M:=by
 have key:∀ l:List Lac,(∀ x∈l,M.act x=M)->M.dT l=M:=by
  intro l;induction l with
  | nil=>exact λ_=>rfl
  | cons x l ih =>
   intro a;show(M.act x).dT l=M;rw[a x M'];exact ih λy e=>a y (I' _ e)
 refine key _ λx d=>?_;obtain⟨k,b,rfl⟩:=mz.1 d;have c:=h k (oH.1 b);unfold Meet.act;simp only[acN];rw[if_neg (by decide),if_neg (by decide),if_neg (by decide),if_neg (by decide),if_neg (by decide),if_neg (by decide),if_pos trivial];show M.set k (if(M.ab k).up=true then M.ab k else _) M.br M.fa=M;rw[if_pos c,ER]
theorem I6{M:Meet}{i:Nat}(a:(M.ab i).up=true):M.act (acN 2 (i:Int))=M.set i ((M.ab i).lead i) M.br M.fa:=by
 unfold Meet.act;simp only[acN];rw[if_neg (by decide),if_pos trivial];show M.set i (if(M.ab i).up=true then _ else _) M.br M.fa=_;rw[if_pos a];rfl
theorem Ep(a b:Nat):Am (a+b)=Am a++Am b:=by
 induction b with
 | zero=>exact(mG _).symm
 | succ b ih=>show Am (a+b)++An=Am a++(Am b++An);rw[ih,ml]
theorem lG(f:Nat->Int):∃ j,j<5/\∀ k,k<5->f k<=f j:=by
 have key:∀ n,∃ j,j<n+1/\∀ k,k<n+1->f k<=f j:=by
  intro n;induction n with
  | zero=>exact⟨0,by omega,λk c=>by rw[show k=0 by omega];exact mc _⟩
  | succ n ih =>
   obtain⟨j,d,b⟩:=ih;by_cases e:f j<=f (n+1)
   .refine⟨n+1,by omega,λk c=>?_⟩;by_cases a:k=n+1
    .rw[a];exact mc _
    .exact mB (b k (by omega)) e
   .refine⟨j,by omega,λk c=>?_⟩;by_cases a:k=n+1
    .rw[a];omega
    .exact b k (by omega)
 exact key 4
def F4(b:Bal):List (Bal × Nat):=(List.range 40).map λs=>(b,s)
theorem F5(b:Bal){s:Nat}(h:s<40):(b,s)∈F4 b:=mz.2 ⟨s,oH.2 h,rfl⟩
section
variable{S:Cmd->Prop}{K:Int}{B:Nat->Bal}{cov:List (Bal × Nat)}
theorem Cm.to{M:Meet}(h:Cm S K B cov M){K':Int}(c:∀ j,j<5->(M.ab j).vo.p.key<=K')(b:K'<=3600):Cm S K' B cov M :=
 ⟨h.ex,⟨b,λj a=>⟨by unfold Nod.pk;rw[if_pos (h.up j a)];exact c j a,(h.kb.2 j a).2⟩⟩,h.up,h.hZ,h.s⟩
structure Led(i:Nat)(p q:Nod)(b:Bal):Prop where
 may:Ab b
 n:b.n=(i:Int)
 gt:5*p.dc+4<b.key/\p.vo.p.key<b.key
 le:b.key<=max (5*p.dc) p.vo.p.key+9
 up:q.up=p.up
 vo:q.vo.p=b
 hZ:q.bn.hZ=b
 p1:P1 i q
 pe:∃ vs,Pend.began b vs∈q.bu
 ask:q.av=p.av/\q.bN=p.bN/\q.done=p.done
 ro:q.dc=p.dc
theorem Cm.lead{M:Meet}(h:Cm S K B cov M)(z:14*K+38*(cov.length:Int)<=99000){i:Nat}(d:i<5)(I:K<=3591)(J:0<=(M.ab i).dc/\5*(M.ab i).dc<=3591) :
  ∃ b,Led i (M.ab i) ((M.ab i).lead i) b/\Cm S 3600 (upN B i b) (cov++F4 b) (M.set i ((M.ab i).lead i) M.br M.fa):=by
 have m:=h.up i d;have O:=h.le d;have u:=(h.acc d).1;have N:=Y6 u;have F:0<=(M.ab i).vo.p.r/\0<=(M.ab i).vo.p.n/\(M.ab i).vo.p.n<=4:=by unfold Ao Ab at u;omega
 obtain⟨b,l⟩:∃ b:Bal,(⟨max (M.ab i).dc (M.ab i).vo.p.r+1,(i:Int)⟩:Bal)=b:=⟨_,rfl⟩;have L:b.key=5*(max (M.ab i).dc (M.ab i).vo.p.r+1)+(i:Int):=by rw[<- l];rfl
 have C:(M.ab i).vo.p.key=5*(M.ab i).vo.p.r+(M.ab i).vo.p.n:=rfl;have t:Ab b:=by rw[<- l];refine⟨⟨?_,?_⟩,?_,?_⟩<;>simp only<;>omega
 have f:=h.prom z d t (by rw[EX t.pr u];omega);have E:(M.ab i).lead i=Nod.wait { ((M.ab i).au b).1 with bn:=⟨b,λ_=>false,λ_=>Eh,λ_=>(M.ab i).ae.length,0,[]⟩ } (.began b ((M.ab i).au b).2.1):=by
  unfold Nod.lead;simp only;rw[l,if_neg (λg=>g f.1)]
 have v:((M.ab i).au b).1.dc=(M.ab i).dc:=by
  unfold Nod.au;split
  .rfl
  .split
   .rfl
   .split<;>rfl
 have a:Led i (M.ab i) ((M.ab i).lead i) b:=by
  rw[E];exact⟨t,by rw[<- l],by omega,by omega,(Ev.au _ b).up,f.2,rfl,⟨rfl,λ_ _=>rfl⟩,⟨_,mg _ (D'.2 rfl)⟩,(AY _ b).1,v⟩
 refine⟨b,a,?_⟩;obtain⟨σ,g,A⟩:=h.ex;obtain⟨τ,G,H,w,x,y⟩:=g.step (D:=whT) (.lead M i d m trivial);refine⟨⟨τ,w,λo s c k=>?_⟩,⟨mc _,?_⟩,λj q=>?_,λj q=>?_,h.s.step (D:=⟨λ_ _=>False,True,False,False,False,False⟩) (λ_ _ e=>False.elim e) (.lead M i d m trivial)⟩
 .rcases x o s c k with k|k
  .exact mi _ (A o s c k)
  .exact absurd (y o s k).1 (by decide)
 .refine(h.kb.2.mono h.kb.1 (mc _)).set ⟨?_,by rw[a.ro];omega⟩ _ _;unfold Nod.pk;rw[if_pos (a.up.trans m),a.vo];omega
 .rw[Aj];split
  .exact a.up.trans m
  .exact h.up j q
 .rw[Aj];unfold upN;split
  .exact a.hZ
  .exact h.hZ j q
theorem jB{a:Int}{n:Nat}{M:Meet}(O:MOk n M){m:Nat}(hm:2<=m)(hn:n+6*m+20<=1000000)(U:∀ j,j<5->∀ s,s<40->(B j,s)∈cov)(h:Cm S K B cov M)(z:KbI a a M)(W:K<=a)(T:a<=3500)(Z:14*a+38*(cov.length:Int)<=97000){i:Nat}(q:i<5) :
  ∃ K' B' cov',K'<=a+9/\Cm S K' B' cov' (((M.act (acN 2 (i:Int))).dT Ax).dT (Am m))/\(∀ j,j<5->∀ s,s<40->(B' j,s)∈cov')/\cov'.length<=cov.length+40/\Gr8 K' ((((M.act (acN 2 (i:Int))).dT Ax).dT (Am m)).ab i)/\KbI (a+9) (a+9) (((M.act (acN 2 (i:Int))).dT Ax).dT (Am m))/\MOk (n+6*m+1) (((M.act (acN 2 (i:Int))).dT Ax).dT (Am m)):=by
 have G:=h.up i q;have hr:=z i q;have F:=(O.ab i q).ro;have d:=O.act (x:=acN 2 (i:Int)) (by omega) (D6 ⟨.inl rfl,by omega,by omega⟩);obtain⟨b,y,f⟩:=h.lead (by omega) q (by omega) ⟨F.1,by omega⟩;obtain⟨σ,g,_⟩:=h.ex;have o:=z.lead g q G M.br M.fa;have H:∀ j,j<5->((M.act (acN 2 (i:Int))).ab j).up=true:=by rw[I6 G];exact f.up
 rw[JF H];rw[I6 G]at d ⊢
 have u:=Bg M i ((M.ab i).lead i) M.br M.fa;generalize M.set i ((M.ab i).lead i) M.br M.fa=N at f o d u ⊢;rw[<- u]at y
 obtain⟨j,v,C⟩:=lG λj=>(N.ab j).vo.p.key;have E:∀ j,j<5->(N.ab j).vo.p.key<=a+9:=λj v=>by
  have:=(o j v).1;unfold Nod.pk at this
  rwa [if_pos (f.up j v)]at this
 have t:=E j v;have f:=f.to C (by omega);have l:∀ k,k<5->∀ s,s<40->(upN B i b k,s)∈cov++F4 b:=λk z s P=>by
  unfold upN;split
  .exact mg _ (F5 b P)
  .exact mi _ (U k z s P)
 obtain⟨vs,V⟩:=y.pe;have A:=iq l d (by omega) f q v rfl y.vo y.may V;generalize (N.ab j).vo.p.key=K' at f A t;have L:∀ c X Y,Stp wh0 c X Y->(Cm S K' (upN B i b) (cov++F4 b) X/\KbI (a+9) (a+9) X)->(Cm S K' (upN B i b) (cov++F4 b) Y/\KbI (a+9) (a+9) Y):=λc X Y s g=>by
  obtain⟨σ,R,_⟩:=g.1.ex;exact⟨g.1.step l s,g.2.step (D:=wh0) (λe=>e) R s (mc _)⟩
 have J:=D8 L (λX g=>⟨g.1.drop,g.2⟩) 2 d (by omega) ⟨f,o⟩;obtain⟨r,rfl⟩:∃ r,m=2+r:=⟨m-2,by omega⟩;rw[Ep,AG];have Q:N.dT (Am 2)=N.dT (An++An):=rfl;rw[<- Q]at A
 have w:=D8 (I:=λX=>(Cm S K' (upN B i b) (cov++F4 b) X/\KbI (a+9) (a+9) X)/\Gr8 K' (X.ab i)) (λc X Y s g=>⟨L c X Y s g.1,g.2.ev (s.ev i)⟩) (λX g=>⟨⟨g.1.1.drop,g.1.2⟩,g.2⟩) r J.2 (by omega) ⟨J.1,A⟩;refine⟨K',_,_,t,w.1.1.1,l,?_,w.1.2,w.1.1.2,w.2.mono (by omega)⟩;rw[H'];unfold F4;rw[mD,pl];exact A' _
end
section
variable{C:List Cmd}{K:Int}{B:Nat->Bal}{cov:List (Bal × Nat)}{i:Nat}{b:Bal}{A:List Cmd}
theorem Fin_.drop{N:Meet}(f:Fin_ i A N):Fin_ i A { N with br:=[] }:=⟨f.ag,f.nx,f.hd,f.qu⟩
theorem Fin_.sh(a:PhC C K B cov i b){M:Meet}(h:PhE C K B cov i b M)(f:Fin_ i A M){j:Nat}(c:j<5)(p:A.length<=(M.ab j).ae.length):(M.ab j).ae=A:=by
 have o:=f.le a h c;obtain⟨σ,g,_⟩:=h.pb.cm.ex;refine oE (by omega) λs k l=>?_;obtain⟨m,d⟩:=(g.nd j c).ag s _ (G' k);obtain⟨n,e⟩:=(g.nd i a.hi).ag s _ (by rw[f.ag];exact G' l);exact g.gs.rX.agree d e
structure Fz(C:List Cmd)(K:Int)(B:Nat->Bal)(cov:List (Bal × Nat))(i:Nat)(b:Bal)(A:List Cmd)(M:Meet):Prop where
 l:PhL C K B cov i b M
 f:Fin_ i A M
 a:∀ j,j<5->(M.ab j).ae=A
 s:∀ j,j<5->StI (M.ab j)
theorem Fz.step(d:PhC C K B cov i b){n:Nat}{M N:Meet}(s:Stp wh0 n M N)(h:Fz C K B cov i b A M):Fz C K B cov i b A N:=by
 have e:=h.l.step d s;have g:=Fin_.step d s h.l.pe h.f;exact⟨e,g,λj c=>g.sh d e.pe c (by have:=(s.ev j).ag.length_le;rw[h.a j c]at this;exact this),StI.step s (λj c=>(h.l.pe.pb.ak j c).dn) h.s⟩
theorem Fz.drop{N:Meet}(h:Fz C K B cov i b A N):Fz C K B cov i b A { N with br:=[] }:=⟨h.l.drop,h.f.drop,h.a,h.s⟩
structure Rst(C:List Cmd)(K:Int)(B:Nat->Bal)(cov:List (Bal × Nat))(i:Nat)(b:Bal)(A:List Cmd)(M:Meet):Prop where
 z:Fz C K B cov i b A M
 d:∀ j,j<5->(M.ab j).done=A.length
theorem OP(g:PhC C K B cov i b){n:Nat}{M N:Meet}(s:Stp wh0 n M N)(h:Fz C K B cov i b A M){j:Nat}(e:j<5)(d:(M.ab j).done=A.length):(N.ab j).done=A.length:=by
 have c:=h.step g s;have k:=(s.ev j).dn;have f:=(c.l.pe.pb.ak j e).dn;rw[c.a j e]at f
 omega
theorem Rst.step(a:PhC C K B cov i b){n:Nat}{M N:Meet}(s:Stp wh0 n M N)(h:Rst C K B cov i b A M):Rst C K B cov i b A N:=⟨h.z.step a s,λj c=>OP a s h.z c (h.d j c)⟩
theorem WB(o:PhC C K B cov i b)(g:∀ c∈C,c.e=0){M:Meet}(h:Fz C K B cov i b A M){j:Nat}(d:j<5):((M.act (acN 3 (j:Int))).ab j).done=A.length:=by
 have n:=h.l.pe.pb.cm.up j d;have m:=(h.l.pe.pb.ak j d).dn;have k:∀ c∈(M.ab j).ae,c.e=0:=λc f=>g c ((h.l.pe.pb.cm.s.nd j d).ag c f);rw[Ha n,Aj,if_pos rfl,Ti,bS]
 .rw[mm,h.a j d];rw[h.a j d]at m
  omega
 .rw[h.s j d];exact ah _ λc f=>k c (mt f)
 .exact λc f=>k c (nR f)
theorem Gr8.gt{p q:Nod}{K:Int}(h:Gr8 K p)(a:Ao p.vo.p){i:Nat}{b:Bal}(l:Led i p q b):K<b.key:=by
 have:=l.gt;unfold Gr8 at h;omega
theorem jC(R:∀ c∈C,c.e=0)(hC:C.length<40){K1:Int}{n:Nat}{M:Meet}(hM:MOk n M){m:Nat}(hm:85<=m)(hn:n+6*m+20<=990000)(hc:∀ j,j<5->∀ s,s<40->(B j,s)∈cov)(h:Cm (λc=>c∈C) K B cov M)(gr:Gr8 K (M.ab i))(hk:KbI K1 K1 M)(hK:K<=K1)(a4:K1<=3510)(hQ:14*K1+38*(cov.length:Int)<=97000)(t:i<5)(hA:∀ j,j<5->AskI (M.ab j))(hS:∀ j,j<5->StI (M.ab j)) :
  ∃ K' B' cov' b A,PhC C K' B' cov' i b/\Rst C K' B' cov' i b A (((M.act (acN 2 (i:Int))).dT Ax).dT (Am m)):=by
 have hu:=h.up i t;have hr:=hk i t;have a2:=(hM.ab i t).ro;have u:=hM.act (x:=acN 2 (i:Int)) (by omega) (D6 ⟨.inl rfl,by omega,by omega⟩);obtain⟨b,q,o⟩:=h.lead (by omega) t (by omega) ⟨a2.1,by omega⟩;obtain⟨σ,g,_⟩:=h.ex;have L:=AskI.step (Stp.lead (D:=whT) M i t hu trivial) g hA;have T:=StI.step (Stp.lead (D:=whT) M i t hu trivial) (λj f=>(hA j f).dn) hS;have a5:=gr.gt (h.acc t).1 q;have a6:b.key<=K1+9:=by
  have:=q.le;have:=h.le t;omega
 have a3:∀ j,j<5->((M.act (acN 2 (i:Int))).ab j).up=true:=by rw[I6 hu];exact o.up
 rw[JF a3];rw[I6 hu]at u ⊢
 have G:=Bg M i ((M.ab i).lead i) M.br M.fa;have S:∀ j,j≠i->((M.set i ((M.ab i).lead i) M.br M.fa).ab j)=M.ab j:=λj f=>by rw[Aj,if_neg f]
 have V:QA i b (M.set i ((M.ab i).lead i) M.br M.fa):=λj f c hx=>by
  refine absurd ?_ (show ¬ b.key<=max K (M.ab i).vo.p.key by have:=q.gt;omega);by_cases e:j=i
  .rw[e,G,q.ask.2.1]at hx
   have:=(hA i t).le c b hx;omega
  .rw[S j e]at hx
   have:=(hA j f).le c b hx;have:=h.le f;omega
 have F:∀ j,j<5->j≠i->((M.set i ((M.ab i).lead i) M.br M.fa).ab j).vo.p.key<b.key:=λj f e=>by
  rw[S j e];have:=h.le f;omega
 generalize M.set i ((M.ab i).lead i) M.br M.fa=N at o u G L T V F ⊢;rw[<- G]at q
 have o:=o.to (K':=b.key) (λj f=>by
  by_cases e:j=i
  .rw[e,q.vo];exact mc _
  .have:=F j f e;omega) (by omega)
 have E:∀ k,k<5->∀ s,s<40->(upN B i b k,s)∈cov++F4 b:=λk hk s hs=>by
  unfold upN;split
  .exact mg _ (F5 b hs)
  .exact mi _ (hc k hk s hs)
 have l:PhC C b.key (upN B i b) (cov++F4 b) i b:=⟨E,hC,t,q.may,q.n,Db _ _ _,rfl⟩;have y:14*b.key+38*((cov++F4 b).length:Int)<=99000:=by
  have:(cov++F4 b).length=cov.length+40:=by rw[H'];unfold F4;rw[mD,pl]
  omega
 obtain⟨vs,hq⟩:=q.pe;generalize cov++F4 b=cov' at o E l y;generalize upN B i b=B' at o E l;generalize a0:b.key=K' at o l y F;have O:PhB C K' B' cov' i b N:=⟨o,L,q.vo⟩;obtain⟨p1,p2,p3,p4,p5,p6,p7⟩:=dD E y u (by omega) o t q.may a0 l.hB q.vo F hq q.p1;obtain⟨q1,q2,_,_⟩:=QP l u (by omega) O V;have U:=D8 (I:=λX=>PhB C K' B' cov' i b X/\∀ j,j<5->StI (X.ab j)) (λc X Y s g=>⟨g.1.step l s,StI.step s (λj f=>(g.1.ak j f).dn) g.2⟩) (λX g=>⟨⟨g.1.cm.drop,g.1.ak,g.1.vi⟩,g.2⟩);have H:∀ a X k,MOk k X->k+6*a<=1000000->PhB C K' B' cov' i b X->(∀ j,j<5->StI (X.ab j))->∀ j,j<5->StI ((X.dT (Am a)).ab j):=λa X k h1 h2 h3 h4=>(U a h1 h2 ⟨h3,h4⟩).1.2;clear U;have s1:=H 1 N _ u (by omega) O T;rw[show Am 1=An from rfl]at s1
 obtain⟨r1,r2,r3,r4⟩:=dE l p7 (by omega) q1 (λj f c e=>.inl (q2 j f c e)) p2 p3 p4 p5 p6;have s2:=H 1 _ _ p7 (by omega) q1 s1;rw[show Am 1=An from rfl]at s2
 obtain⟨W,t1,t2,t3,t4,t5⟩:=gP l y R 81 r4 (by omega) r1 r2 r3 (by unfold mu;split<;>omega);have s3:=H W _ _ r4 (by omega) r1.pe.pb s2;obtain⟨r,rfl⟩:∃ r,m=1+(1+(W+(1+(1+r)))):=⟨m-W-4,by omega⟩;rw[Ep,AG,Ep,AG,Ep,AG,Ep,AG,Ep,AG];simp only[show Am 1=An from rfl];generalize (((N.dT An).dT An).dT (Am W))=X at t2 t3 t4 t5 s3 ⊢;generalize (X.ab i).ae=A at t2;obtain⟨u1,u2⟩:=MD l t5 (by omega) t3 t4;rw[t2.ag]at u2
 have v:=D8 (I:=λY=>PhL C K' B' cov' i b Y/\Fin_ i A Y/\∀ j,j<5->StI (Y.ab j)) (λc Y Z s g=>⟨g.1.step l s,Fin_.step l s g.1.pe g.2.1,StI.step s (λj f=>(g.1.pe.pb.ak j f).dn) g.2.2⟩) (λY g=>⟨g.1.drop,g.2.1.drop,g.2.2⟩) 1 t5 (by omega) ⟨t3,t2,s3⟩;rw[show Am 1=An from rfl]at v
 obtain⟨⟨v1,v2,v3⟩,v4⟩:=v;have w:Fz C K' B' cov' i b A (X.dT An):=⟨v1,v2,λj f=>v2.sh l v1.pe f (u2 j f),v3⟩;generalize X.dT An=Y at w v4 ⊢;have x:Rst C K' B' cov' i b A (Y.dT An):=by
  have hz:=D8 (λc Y Z s g=>Fz.step l s g) (λY g=>Fz.drop g) 1 v4 (by omega) w;rw[show Am 1=An from rfl]at hz
  refine⟨hz.1,λj f=>?_⟩;have a:=Bm (λc A N s g=>Fz.step l s.calm g) v4 (by omega) w;have d:=Mr (J:=λZ=>(Z.ab j).done=A.length) (λc A N s g=>Fz.step l s.calm g) (λc A N s g d=>OP l s.calm g f d) v4 (by omega) w f λZ _ _ _ g _=>WB l R g f;rw[EI];obtain⟨Z,k1,k2,_⟩:=Cr (I:=λZ=>Fz C K' B' cov' i b A Z/\(Z.ab j).done=A.length) (λP Q s g=>⟨g.1.step l s.qZ,OP l s.qZ g.1 f g.2⟩) a.1 ⟨a.2,d⟩;rw[k1];exact k2.2
 have a1:MOk (n+1+6+6+6*W+6*1+6*1) (Y.dT An):=(D8 (λc Y Z s g=>Fz.step l s g) (λY g=>Fz.drop g) 1 v4 (by omega) w).2;exact⟨K',B',cov',b,A,l,(D8 (λc Y Z s g=>Rst.step l s g) (λY g=>⟨g.z.drop,g.d⟩) r a1 (by omega) x).1⟩
end
section
def iG(l:List Int):Cmd:=⟨Ac (unQ l) 0,Ac (unQ l) 4,Ac (unQ l) 8,Ac (unQ l) 12,Ac (unQ l) 16⟩
variable{l:List Int}{now:Int}
theorem jS(h:opE l now=0):unE l=0:=by
 unfold opE at h;split at h
 .rename_i g;exact absurd h g
 .rename_i g;exact mf.1 g
theorem kz(h:unE l=0):(iG l).e=0:=by
 have:=(Rt h).2;unfold Ci at this;split at this
 .cases this
 .exact this
theorem Zf(h:opE l now=0):DZ l now=iG l:=by unfold DZ;rw[if_pos h];rfl
def KD(L:List Lac):List Cmd:=(L.filter λx=>decide (x.k=1/\unE x.d=0)).map λx=>iG x.d
theorem ep{L:List Lac}{x:Lac}(c:x∈L)(b:x.k=1){a:Int}(h:opE x.d a=0):DZ x.d a∈KD L:=by
 refine mz.2 ⟨x,oJ.2 ⟨c,O' ⟨b,jS h⟩⟩,?_⟩;unfold DZ;rw[if_pos h];rfl
theorem iT(L:List Lac):∀ c∈KD L,c.e=0:=λc a=>by
 obtain⟨x,b,rfl⟩:=mz.1 a;exact kz (mL (oJ.1 b).2).2
theorem PE(L:List Lac)(e:∀ x∈L,LacOk x)(k:L.length<=100000):(∀ j,j<5->AskI ((As.dT L).ab j))/\∀ j,j<5->StI ((As.dT L).ab j):=by
 have s:Sts whT L.length As (As.dT L):=In L MOk.zero (by omega) λx i=>⟨e x i,Vc x⟩;exact(s.inv (I:=λM=>(∃ σ,AgI σ M)/\(∀ j,j<5->AskI (M.ab j))/\∀ j,j<5->StI (M.ab j)) (λc M N h ⟨⟨σ,g⟩,a,b⟩=>by
  obtain⟨τ,_,_,d,_⟩:=g.step h;exact⟨⟨τ,d⟩,AskI.step h g a,StI.step h (λj f=>(a j f).dn) b⟩) ⟨⟨_,AgI.zero⟩,AskI.zero,StI.zero⟩).2
theorem da(L M:List Lac):lds (L++M)=lds L+lds M:=by unfold lds;rw[pf]
theorem settled(L:List Lac)(v:∀ x∈L,LacOk x)(a2:9*lds L<=3480)(n:(KD L).length<40)(hq:126*lds L+38*L.length<=85000)(m:Nat)(hm:85<=m)(hl:L.length+12*m<=99000){i:Nat}(O:i<5) :
  ∃ K B cov b A,PhC (KD L) K B cov i b/\Rst (KD L) K B cov i b A (As.dT (L++(Cv m (i:Int)++Cv m (i:Int)))):=by
 have C:∀ x∈Cv m (i:Int),LacOk x:=λx hx=>by
  rcases Q'.1 hx with hx|hx
  .rcases Q'.1 hx with hx|hx
   .exact Pr 0 x hx
   .rw[D'.1 hx];exact D6 ⟨.inl rfl,by omega,by omega⟩
  .exact Pr m x hx
 have a0:(Cv m (i:Int)).length=6*m+11:=by
  have V:∀ m,(Dp m).length=5+6*m:=λm=>by unfold Dp;rw[H',Hz];rfl
  unfold Cv;simp only[H',V,mT];omega
 have l:∀ x∈L++Ax,LacOk x:=λx hx=>(Q'.1 hx).elim (v x) λe=>Pr 0 x (mi _ e);have a1:(L++Ax).length=L.length+5:=by rw[H'];rfl
 have t:∀ j,j<5->((As.dT (L++Ax)).ab j).up=true:=λj z=>by
  have:=iI L v 0 (by omega) z
  rwa [show Dp 0=Ax from mG _]at this
 have Y:∀ x∈L++Ax,x.k=1->∀ o:Nat,opE x.d (o:Int)=0->DZ x.d (o:Int)∈KD L:=λx hx H o h=>by
  rcases Q'.1 hx with e|e
  .exact ep e H h
  .obtain⟨k,_,rfl⟩:=mz.1 e;exact absurd H (by show(9:Int)≠1;decide)
 have g:=fQ (S:=λc=>c∈KD L) (L++Ax) l (by omega) Y;obtain⟨τ,cov,_,J,u,w,y⟩:=Ww (L++Ax) MOk.zero (by omega) l AgI.zero KbI.zero (cov:=[]) (λb s c h=>h.elim);rw[show lds (L++Ax)=lds L by rw[da];rfl,Int.zero_add]at u
 have r:=PF (L++Ax) l (by omega);have F:As.dT (L++(Cv m (i:Int)++Cv m (i:Int)))=(((((((As.dT (L++Ax)).act (acN 2 (i:Int))).dT Ax).dT (Am m)).dT Ax).act (acN 2 (i:Int))).dT Ax).dT (Am m):=by
  have e:∀ X:Meet,X.dT (Cv m (i:Int))=(((X.dT Ax).act (acN 2 (i:Int))).dT Ax).dT (Am m):=λX=>by
   unfold Cv;rw[AG,show Dp 0=Ax from mG _,AI];unfold Dp;rw[AG]
  rw[AG,AG,e,e,AG]
 rw[F];have G:((((As.dT (L++Ax)).act (acN 2 (i:Int))).dT Ax).dT (Am m))=As.dT (L++Cv m (i:Int)):=by
  rw[AG _ L (Cv m (i:Int)),AG _ L Ax];unfold Cv;rw[AG,show Dp 0=Ax from mG _,AI];unfold Dp;rw[AG]
 have a:=PE (L++Cv m (i:Int)) (λx hx=>(Q'.1 hx).elim (v x) (C x)) (by rw[H'];omega);rw[<- G]at a
 clear F G;generalize As.dT (L++Ax)=M at t g J u r a ⊢;obtain⟨q,f⟩:∃ q,cov++(F4 (M.ab 0).bn.hZ++(F4 (M.ab 1).bn.hZ++(F4 (M.ab 2).bn.hZ++(F4 (M.ab 3).bn.hZ++F4 (M.ab 4).bn.hZ))))=q:=⟨_,rfl⟩;have I:q.length<=L.length+205:=by
  rw[<- f];simp only[H',F4,mD,pl];simp only[List.length_nil]at w;omega
 have Z:∀ j,j<5->∀ s,s<40->((M.ab j).bn.hZ,s)∈q:=λj z s n=>by
  rw[<- f];refine mg _ ?_;simp only[Q'];rcases qv z with rfl|rfl|rfl|rfl|rfl
  .exact .inl (F5 _ n)
  .exact .inr (.inl (F5 _ n))
  .exact .inr (.inr (.inl (F5 _ n)))
  .exact .inr (.inr (.inr (.inl (F5 _ n))))
  .exact .inr (.inr (.inr (.inr (F5 _ n))))
 have W:Cm (λc=>c∈KD L) (9*(lds L:Int)) (λj=>(M.ab j).bn.hZ) q M:=⟨⟨τ,J,λb s c h=>by rw[<- f];exact mi _ (y b s c h)⟩,⟨by omega,u.mono (mc _) (by omega)⟩,t,λ_ _=>rfl,g⟩;obtain⟨K',B',E,k1,D,k3,k4,P,Q,R⟩:=jB r (m:=m) (by omega) (by omega) Z W u (mc _) (by omega) (by omega) O;generalize (((M.act (acN 2 (i:Int))).dT Ax).dT (Am m))=N at D P Q R a ⊢;rw[JF D.up];obtain⟨U,T,p,b,A,z1,z2⟩:=jC (iT L) n R hm (by omega) k3 D P Q (by omega) (by omega) (by omega) O a.1 a.2;exact⟨U,T,p,b,A,z1,z2⟩
end
section
variable{C:List Cmd}{K:Int}{B:Nat->Bal}{cov:List (Bal × Nat)}{i:Nat}{b:Bal}{A:List Cmd}
theorem Rst.av{N:Meet}(r:Rst C K B cov i b A N)(k:A.length<40){j:Nat}(e:j<5):(N.ab j).av=[]:=oA.2 λc h=>by
 have g:=(r.z.l.pe.pb.ak j e).un c h;rw[r.z.a j e,r.d j e,nP]at g
 exact g (r.z.f.qu k c (r.z.l.pe.qw j e c h))
end
section
theorem ai(L:List Lac):(KD L).length<=L.countP λx=>decide (x.k=1):=by
 unfold KD;rw[mD,<- List.countP_eq_length_filter];exact List.countP_mono_left λx _ h=>O' (mL h).1
theorem gQ(L:List Lac):lds L<=L.length:=List.countP_le_length
variable{M N:Meet}{c:Cmd}{i n:Nat}{p:Nod}{σ:Gs}
theorem ei(L:List Lac)(a:∀ x∈L,LacOk x)(g:L.length<=380)(h:L.countP (λx=>decide (x.k=1))<40){i:Nat}(c:i<5) :
  ∃ K B cov b A,PhC (KD L) K B cov i b/\Rst (KD L) K B cov i b A (As.dT (L++EG L (i:Int))):=by
 have d:=gQ L;have e:(L.filter hvy).length<=L.length:=oL _ _;have f:=ai L;exact settled L a (by omega) (by omega) (by omega) (Fj L) (by unfold Fj;omega) (by unfold Fj;omega) c
theorem YY{s:Nat}(h:p.ov s=some c):(∃ j,j<5/\∃ v∈(p.bn.an j).vs,v.bt=(s:Int)/\v.w=c)\/c∉p.ae:=by
 unfold Nod.ov at h;split at h
 .cases h
 .rename_i d
  have d:=mf.1 d;split at h
  .rename_i hF
   left;have f:DV (p.bn.ia.map (·.vs)) (s:Int)=(Ed (p.bn.ia.map (·.vs)) (s:Int)).isSome:=if_pos d;have o:Gx (p.bn.ia.map (·.vs)) (s:Int)=((Ed (p.bn.ia.map (·.vs)) (s:Int)).map (·.w)).getD ⟨0,0,0,0,0⟩:=if_pos d;have g:∀ l∈p.bn.ia.map (·.vs),∀ v∈l,Ah v:=by
    unfold BW at d;split at d
    .cases d
    .split at d
     .assumption
     .cases d
   have n:∀ v∈Ae (p.bn.ia.map (·.vs)).flatten (s:Int),Ao v.b:=λv e=>by
    obtain⟨l,q,r⟩:=nQ.1 (AK.1 e).1;exact(g l q v r).2.1.pr
   rcases La _ n with⟨h0,hO⟩|⟨x,hO,hx,_⟩
   .have hO:Ed (p.bn.ia.map (·.vs)) (s:Int)=none:=hO;rw[hO]at f;rw[f]at hF;cases hF
   .have hO:Ed (p.bn.ia.map (·.vs)) (s:Int)=some x:=hO;rw[hO]at o
    obtain⟨u,i⟩:=AK.1 hx;obtain⟨l,t,e⟩:=nQ.1 u;obtain⟨a,m,rfl⟩:=mz.1 t;have k:x.w=c:=o.symm.trans (mQ h);unfold Rnd.ia at m;simp only[mn,P',or_false]at m;rcases m with rfl|rfl|rfl|rfl|rfl
    .exact⟨0,by decide,x,e,i,k⟩
    .exact⟨1,by decide,x,e,i,k⟩
    .exact⟨2,by decide,x,e,i,k⟩
    .exact⟨3,by decide,x,e,i,k⟩
    .exact⟨4,by decide,x,e,i,k⟩
  .exact .inr (by have:=qm h;simpa using this)
def NdW(σ:Gs):Prop:=∀ b s c,σ.W b s c->∃ l:List Cmd,l.length=s/\AgL σ l 0/\c∉l
theorem NdW.step{D:Wh}(h:AgI σ M)(k:NdW σ)(s:Stp D n M N):∃ τ,AgI τ N/\NdW τ:=by
 obtain⟨τ,w,d,r,t,u⟩:=h.si s;refine⟨τ,r,λb s c g=>?_⟩;have a:∀ {b s c},σ.W b s c->∃ l:List Cmd,l.length=s/\AgL τ l 0/\c∉l:=λ{b s c} g=>by
  obtain⟨l,m,o,p⟩:=k b s c g;exact⟨l,m,o.mono d,p⟩
 rcases t b s c g with g2|e
 .exact a g2
 .obtain⟨_,_,i,hi,_,hu,rfl,hx⟩:=u b s e;rcases YY (hx c g)with⟨j,hj,v,hv,hs,rfl⟩|hc
  .obtain⟨rs,q⟩:=(h.nd i hi).up hu;have f:=(h.gs.hv j v (q.rd.an j hj v hv).1).2;rw[hs,mK]at f
   exact a f
  .exact⟨_,rfl,(h.nd i hi).ag.mono d,hc⟩
theorem NdW.dT(L:List Lac)(a:∀ x∈L,LacOk x)(c:L.length<=100000):∃ σ,AgI σ (As.dT L)/\NdW σ:=by
 have s:Sts whT L.length As (As.dT L):=In L MOk.zero (by omega) λx b=>⟨a x b,Vc x⟩;exact s.inv (I:=λM=>∃ σ,AgI σ M/\NdW σ) (λ_ M N g ⟨σ,h,k⟩=>NdW.step h k g) ⟨_,AgI.zero,λ_ _ _ g=>g.elim⟩
theorem AgI.nodup(h:AgI σ M)(k:NdW σ){j:Nat}(r:j<5):(M.ab j).ae.Nodup:=by
 refine m6.2 λs t w y x e=>?_;have c:=(h.nd j r).ag;obtain⟨b,Q,E,d⟩:=c t _ (G' y);rw[mR]at d
 obtain⟨q,u,p,_⟩:=Gu Q Q (by omega) (by omega);obtain⟨v,g,z,F,A⟩:=d q u p;have f:=(h.gs.hv q v g).2;rw[z,mK]at f
 obtain⟨l,D,n,o⟩:=k _ _ _ f;have a:s<l.length:=by omega
 obtain⟨B,i⟩:=n s _ (G' a);obtain⟨C,m⟩:=c s _ (G' w);have:=h.gs.rX.agree i m;exact o (by rw[A,<- e,<- this];exact mN a)
theorem OE{L:List Lac}(a:∀ x∈L,LacOk x)(c:L.length<=100000){j:Nat}(b:j<5):((As.dT L).ab j).ae.Nodup:=by
 obtain⟨σ,h,k⟩:=NdW.dT L a c;exact h.nodup k b
def whN:Wh:=⟨λ_ _=>False,True,False,True,True,False⟩
structure OnI(n:Nat)(c:Cmd)(M:Meet):Prop where
 w:∀ j,j<5->j≠n->(M.ab j).av=[]
 t:((M.ab n).av=[c]/\M.fa=[])\/((M.ab n).av=[]/\c∈(M.ab n).ae.take (M.ab n).done/\∃ e a,M.fa=[⟨n,c.c,c.s,e,a⟩])
theorem OnI.lr(h:OnI n c M){i:Nat}(l:AskI (M.ab i)){p:Nod}(k:List Let)(f:p.av=(M.ab i).av/\p.bN=(M.ab i).bN/\p.done=(M.ab i).done\/p.av=(M.ab i).av/\p.done=(M.ab i).done)(m:(M.ab i).ae <+: p.ae):OnI n c (M.set i p k M.fa):=by
 have f:p.av=(M.ab i).av/\p.done=(M.ab i).done:=f.elim (λg=>⟨g.1,g.2.2⟩) id;have key:∀ j,((M.set i p k M.fa).ab j).av=(M.ab j).av:=λj=>by
  rw[Aj];split
  .rename_i e;rw[e];exact f.1
  .rfl
 refine⟨λj o q=>(key j).trans (h.w j o q),?_⟩;rw[key];rcases h.t with a|⟨a,b,d⟩
 .exact .inl a
 .refine .inr ⟨a,?_,d⟩;rw[Aj];split
  .rename_i e
   subst e;rw[f.2,My m l.dn];exact b
  .exact b
theorem OnI.step{u:Nat}(s:Stp whN u M N)(f:∀ j,j<5->AskI (M.ab j))(h:OnI n c M):OnI n c N:=by
 cases s with
 | take _ l r hd hu p=>exact h.lr (f _ hd.2) _ (.inl (Mx (M.ab l.dst) l (f _ hd.2).qn).1) (Ev.take _ l).ag
 | br _ ls r hd=>exact⟨h.w,h.t⟩
 | one _ i d hi hu hc he =>
  have r:=(V'.1 hc).1;have p:(M.ab i).ae.take ((M.ab i).done+1)=(M.ab i).ae.take (M.ab i).done++[d]:=by rw[nS,hc];rfl
  by_cases k:((M.ab i).bN d).isSome=true
  .have hm:=((f i hi).wa d).2 k;by_cases e:i=n
   .subst e;rcases h.t with⟨a,b⟩|⟨a,_⟩
    .rw[a]at hm
     obtain rfl:=D'.1 hm;refine⟨λj o m=>by rw[Aj,if_neg m];exact h.w j o m,.inr ?_⟩;rw[Bg,if_pos k,b];unfold Nod.hU;rw[if_pos k];refine⟨by show(M.ab i).av.erase d=[];rw[a];simp,?_,_,_,rfl⟩;show d∈(M.ab i).ae.take ((M.ab i).done+1);rw[p];exact mg _ (D'.2 rfl)
    .rw[a]at hm;cases hm
   .rw[h.w i hi e]at hm;cases hm
  .rw[if_neg k];unfold Nod.hU;rw[if_neg k];have key:∀ j,((M.set i { M.ab i with lp:=doS (M.ab i).lp d,done:=(M.ab i).done+1 } M.br M.fa).ab j).av=(M.ab j).av:=λj=>by
    rw[Aj];split
    .rename_i e;rw[e]
    .rfl
   refine⟨λj o m=>(key j).trans (h.w j o m),?_⟩;rw[key];rcases h.t with a|⟨a,b,g⟩
   .exact .inl a
   .refine .inr ⟨a,?_,g⟩;rw[Aj];split
    .rename_i e
     subst e;show c∈(M.ab n).ae.take ((M.ab n).done+1);rw[p];exact mi _ b
    .exact b
 | ask _ i hi hu =>
  refine h.lr (f i hi) _ (.inr ?_) (Ev.ib _ i).ag;unfold Nod.ib;split
  .exact⟨rfl,rfl⟩
  .split
   .unfold Nod.eb;split<;>exact⟨rfl,rfl⟩
   .exact⟨rfl,rfl⟩
 | prop _ i hi hu =>
  refine h.lr (f i hi) _ (.inl ?_) (Ev.cF _).ag;unfold Nod.cF;split
  .exact⟨rfl,rfl,rfl⟩
  .split
   .exact⟨rfl,rfl,rfl⟩
   .split
    .exact⟨rfl,rfl,rfl⟩
    .exact(Ck (M.ab i) _).1
 | qH _ i hi hu k hT=>exact h.lr (f i hi) _ (.inr ⟨rfl,rfl⟩) (mh _)
 | run _ i hi hu q l hp k =>
  refine h.lr (f i hi) _ (.inl ?_) ((Ev.ic _ i q).bu l).ag;show((M.ab i).ic i q).av=_/\((M.ab i).ic i q).bN=_/\((M.ab i).ic i q).done=_;cases q<;>first|exact⟨rfl,rfl,rfl⟩|(simp only[Nod.ic];split<;>exact⟨rfl,rfl,rfl⟩)|(simp only[Nod.ic,Nod.count];split<;>first|exact⟨rfl,rfl,rfl⟩|(split<;>exact⟨rfl,rfl,rfl⟩))
 | qz _ i hi hu hL=>exact h.lr (f i hi) _ (.inr ⟨rfl,rfl⟩) (mh _)
 | lead _ i hi hu hL =>
  refine h.lr (f i hi) _ (.inl ?_) ?_
  .unfold Nod.lead;simp only;split
   .exact⟨rfl,rfl,rfl⟩
   .exact(AY (M.ab i) _).1
  .unfold Nod.lead;simp only;split
   .exact mh _
   .exact(Ev.au (M.ab i) _).ag
 | sub _ i d hi hu hD=>exact False.elim hD
 | jv _ i x hi hu hk hC=>exact False.elim hC
 | start _ i hi hu k=>exact False.elim k
theorem OnI.dT(R:List Lac)(t:∀ x∈R,LacOk x/\x.k≠1/\x.k≠8){m:Nat}{M:Meet}(i:MOk m M)(C:m+R.length<=1000000)(o:∀ j,j<5->(M.ab j).up=true)(u:∃ σ,AgI σ M)(l:∀ j,j<5->AskI (M.ab j))(h:OnI n c M) :
  OnI n c (M.dT R)/\(∀ j,j<5->AskI ((M.dT R).ab j))/\∀ j,((M.dT R).ab j).ub=(M.ab j).ub:=by
 induction R generalizing m M with
 | nil=>exact⟨h,l,λ_=>rfl⟩
 | cons x R ih =>
  have a:=t x M';have b:∀ y∈R,LacOk y/\y.k≠1/\y.k≠8:=λy r=>t y (I' _ r);rw[mI]at C
  show OnI n c ((M.act x).dT R)/\_;by_cases f:x.k=9
  .have hi:x.n.toNat<5:=by have:=a.1.n (by rw[f];rfl);omega
   have e:M.act x=M:=by
    unfold Meet.act;simp only;rw[if_neg (by omega),if_neg (by omega),if_neg (by omega),if_neg (by omega),if_neg (by omega),if_neg (by omega),if_pos f,if_pos (o _ hi)];unfold Meet.set;have:upN M.ab x.n.toNat (M.ab x.n.toNat)=M.ab:=Je _ _;rw[this]
   rw[show M.dT (x::R)=(M.act x).dT R from rfl,e];exact ih b i (by omega) o u l h
  .have s:Sts whN [x].length M (M.dT [x]):=In [x] i (by simp;omega) λy r=>by
    rw[D'.1 r];exact⟨a.1,λe=>absurd e a.2.1,λ_=>trivial,λe=>absurd e a.2.2,λ_=>⟨trivial,trivial⟩,λe=>absurd e f⟩
   have key:=s.inv (I:=λN=>OnI n c N/\(∃ σ,AgI σ N)/\∀ j,j<5->AskI (N.ab j)) (λ_ A B g ⟨D,⟨σ,v⟩,w⟩=>⟨D.step g w,(by obtain⟨τ,_,_,q,_⟩:=v.step g;exact⟨τ,q⟩),AskI.step g v w⟩) ⟨h,u,l⟩;have d:=Xk M a.2.1 a.2.2 f;have p:∀ j,j<5->((M.act x).ab j).up=true:=λj z=>(congrArg Prod.fst (d j)).trans (o j z);obtain⟨E,F,G⟩:=ih b (i.act (by omega) a.1) (by omega) p key.2.1 key.2.2 key.1;exact⟨E,F,λj=>(G j).trans (d j)⟩
theorem Mm{P:Lac->Prop}(c:∀ n:Nat,n<5->P (acN 9 (n:Int)))(a:∀ n:Nat,n<5->P (acN 3 (n:Int)))(b:P (acN 7 0)){i:Int}(e:P (acN 2 i))(l:List Lac):∀ x∈EG l i,P x:=by
 have d:∀ m,∀ x∈Cv m i,P x:=λm x hx=>by
  rcases Q'.1 hx with hx|hx
  .rcases Q'.1 hx with hx|hx
   .exact Mi c a b 0 x hx
   .rw[D'.1 hx];exact e
  .exact Mi c a b m x hx
 intro x hx;exact(Q'.1 hx).elim (d _ x) (d _ x)
theorem QZ(l:List Lac)(i:Int):(EG l i).length<=1222+240*l.length:=by
 have b:(l.filter hvy).length<=l.length:=oL _ _;have a:∀ m,(Dp m).length=5+6*m:=λm=>by unfold Dp;rw[H',Hz];rfl
 unfold EG Cv Fj;simp only[H',a,mT];omega
def AZ(n:Nat)(d:List Int):Lac:=⟨1,(n:Int),0,0,d⟩
theorem Py(b:n<5){d:List Int}(a:d.length<=2000):LacOk (AZ n d):=by
 rw[<- DK];simp[AZ,cY,Gb,Ii,Ij];omega
theorem dq(o:n<5)(hi:i<5){d:List Int}{c:Cmd}(V:opE d 0=0)(U:DZ d 0=c)(hd:d.length<=2000){N:Meet}(Z:As.dT ([AZ n d]++EG [AZ n d] (i:Int))=N) :
  (∀ j,j<5->(N.ab j).ae=[c]/\(N.ab j).done=1/\StI (N.ab j))/\(∀ j,(N.ab j).ub=(true,0))/\OnI n c N/\(N.ab n).av=[]:=by
 subst Z;have r:=Py o hd;have v:∀ y∈[AZ n d],LacOk y:=λy R=>by rw[D'.1 R];exact r
 obtain⟨K,B,Y,b,A,hh,f⟩:=ei [AZ n d] v (by simp) (by simp[AZ]) hi;have W:∀ x∈EG [AZ n d] (i:Int),LacOk x/\x.k≠1/\x.k≠8:=Mm (P:=λx=>LacOk x/\x.k≠1/\x.k≠8) (λm hm=>⟨D6 ⟨.inr (.inr rfl),by omega,by omega⟩,by show(9:Int)≠1;decide,by show(9:Int)≠8;decide⟩) (λm hm=>⟨D6 ⟨.inr (.inl rfl),by omega,by omega⟩,by show(3:Int)≠1;decide,by show(3:Int)≠8;decide⟩) ⟨by rw[<- DK];decide,by decide,by decide⟩ (i:=(i:Int)) ⟨D6 ⟨.inl rfl,by omega,by omega⟩,by show(2:Int)≠1;decide,by show(2:Int)≠8;decide⟩ _;have C:=QZ [AZ n d] (i:Int);have O:∀ x∈[AZ n d]++EG [AZ n d] (i:Int),LacOk x:=λx r=>(Q'.1 r).elim (v x) λe=>(W x e).1;have w:([AZ n d]++EG [AZ n d] (i:Int)).length<=100000:=by rw[H'];simp only[mT]at C ⊢;omega
 have T:As.dT [AZ n d]=As.set n (Cx.want c) [] []:=by
  show As.act (AZ n d)=_;unfold Meet.act AZ;simp only[mK];rw[if_pos trivial];have:(As.ab n).qJ n d As.fa=(Cx.want c,[]):=by
   show Cx.qJ n d []=_;unfold Nod.qJ Nod.qW;rw[if_neg (by decide),show((Cx.done:Nat):Int)=0 from rfl,if_neg (λg=>g V),U,if_neg (by show c∉([]:List Cmd).take 0;simp)]
  rw[this];rfl
 have L:=PF [AZ n d] v (by simp);have J:=PE [AZ n d] v (by simp);have I:∃ σ,AgI σ (As.dT [AZ n d]):=by
  obtain⟨σ,h,_⟩:=NdW.dT [AZ n d] v (by simp);exact⟨σ,h⟩
 have q:=λ{j:Nat} (p:j<5)=>OE O w p;rw[AG]at f q ⊢
 have D:∀ j,((As.dT [AZ n d]).ab j).ub=(true,0):=λj=>by
  rw[T,Aj];split<;>rfl
 have M:OnI n c (As.dT [AZ n d]):=by
  rw[T];refine⟨λj p o=>by rw[Aj,if_neg o];rfl,.inl ⟨?_,rfl⟩⟩;rw[Bg];rfl
 obtain⟨S,q2,X⟩:=OnI.dT _ W L (by simp only[mT]at C ⊢;omega) (λj p=>congrArg Prod.fst (D j)) I J.1 M;generalize (As.dT [AZ n d]).dT (EG [AZ n d] (i:Int))=N at f q S q2 X ⊢;have E:∀ x∈A,x=c:=λx r=>by
  have:=(f.z.l.pe.pb.cm.s.nd n o).ag x (by rw[f.z.a n o];exact r);obtain⟨y,R,rfl⟩:=mz.1 this;rw[D'.1 (oJ.1 R).1,<- U,Zf V];rfl
 have G:A.Nodup:=by have:=q o;rwa [f.z.a n o]at this
 have F:A.length<=1:=KO G (m:=[c]) λx r=>by rw[E x r];exact D'.2 rfl
 have Q:=f.av (by omega) o;have H:c∈A:=by
  rcases S.t with⟨a,_⟩|⟨_,a,_⟩
  .rw[a]at Q;cases Q
  .have:=mt a
   rwa [f.z.a n o]at this
 have u:A=[c]:=by
  match A,F,H with
  | [x],_,h=>rw[D'.1 h]
 exact⟨λj p=>⟨(f.z.a j p).trans u,by rw[f.d j p,u];rfl,f.z.s j p⟩,λj=>(X j).trans (D j),S,Q⟩
theorem dp(o:n<5)(u:i<5){d f:List Int}{c:Cmd}(v:opE d 0=0)(r:DZ d 0=c)(s:d.length<=2000)(q:opE f 1≠0){N:Meet}(p:As.dT ([AZ n d]++EG [AZ n d] (i:Int)++[AZ n f])=N) :
  (N.ab n).bad=1/\N.fa.length=1/\∀ j,j<5->N.log j=[c]:=by
 subst p;rw[AG];obtain⟨b,k,m,l⟩:=dq o u v r s rfl;generalize As.dT ([AZ n d]++EG [AZ n d] (i:Int))=N at b k m l ⊢;have e:N.dT [AZ n f]=N.set n { N.ab n with bad:=(N.ab n).bad+1 } N.br N.fa:=by
  show N.act (AZ n f)=_;unfold Meet.act AZ;simp only[mK];rw[if_pos trivial];have:(N.ab n).qJ n f N.fa=({ N.ab n with bad:=(N.ab n).bad+1 },N.fa):=by
   unfold Nod.qJ Nod.qW;rw[if_neg (by have:=congrArg Prod.fst (k n);rw[show(N.ab n).up=true from this];decide),if_pos (by rw[(b n o).2.1];exact q)]
  rw[this]
 rw[e];refine⟨?_,?_,λj h=>?_⟩
 .rw[Bg];have:=congrArg Prod.snd (k n);show(N.ab n).bad+1=1;rw[show(N.ab n).bad=0 from this]
 .rcases m.t with⟨a,_⟩|⟨_,_,e,a,t⟩
  .rw[a]at l;cases l
  .show N.fa.length=1;rw[t];rfl
 .unfold Meet.log;rw[Aj];split
  .rename_i g
   subst g;show(N.ab j).ae.take (N.ab j).done=_;rw[(b j h).1,(b j h).2.1];rfl
  .rw[(b j h).1,(b j h).2.1];rfl
end
end
section
open Go.RowKit
section
variable{W w:World}{c n now:Int}
theorem PD{a:Int}(h:I64 n)(d:pick n a=c)(f:0<a:=by decide)(b:a<=9223372036854775807:=by decide) :
  Calls prog 6 #[iv n,iv a] w λe w'=>e=.returned (iv c)/\Bw w w':=by subst d;exact Vg h a f b
theorem U9{v:S3}{l:List Int}(h:Sl w v.v l)(a:Tabs w){c:Cmd}(d:DZ l now=c){E:Int}(b:opE l now=E) :
  Calls prog 9 #[v.v,iv now] w λe w'=>e=.returned (.tuple #[.agg #[iv c.k,iv c.c,iv c.s,iv c.n,iv c.v],iv E])/\Bw w w':=by
 subst d b;have:=Oc v.v l now w h a.t a.q a.n;rw[SM]at this
 exact this
theorem fs{g i j k s m v:Int}(h:paE n g i j k c s m v=0){now:Int}(o:EE g i j k c s m v now=0):opE (paL n g i j k c s m v) now=0/\DZ (paL n g i j k c s m v) now=⟨k,c,s,m,v⟩:=by
 have p:=UC h now;have r:=p.1.trans o;refine⟨r,?_⟩;have l:=p.2;rw[if_pos o,SM]at l
 simp only[cmC,cmA,Array.mk.injEq,oe,Value.int.injEq,true_and,and_true]at l;obtain⟨a,b,d,e,f⟩:=l;generalize DZ (paL n g i j k c s m v) now=q at a b d e f;obtain⟨u,t,x,w,y⟩:=q;simp only at a b d e f;subst a b d e f;rfl
theorem i7{b k n:Nat}(a:n<5):(Instr.indexAt 39 (pt b k) (iv (n:Int))).run prog W=.ok (pt b (k+n)) W:=by
 rcases qv a with rfl|rfl|rfl|rfl|rfl<;>kernel_rfl
theorem jT{M:Meet}{d tv:S3}{n:Nat}(c:n<5){b:Int}(a:((M.ab n).bad:Int)=b):(IE M d tv).toList[7+n]?=some (iv b):=by
 subst a;rcases qv c with rfl|rfl|rfl|rfl|rfl<;>rfl
theorem jY{x y:Operand}{a b:Cmd}(h:a=b):(do Go.eqGuard .eql 24 x y (.agg #[iv a.k,iv a.c,iv a.s,iv a.n,iv a.v]) (.agg #[iv b.k,iv b.c,iv b.s,iv b.n,iv b.v]);Go.binOp .eql 24 (.agg #[iv a.k,iv a.c,iv a.s,iv a.n,iv a.v]) (.agg #[iv b.k,iv b.c,iv b.s,iv b.n,iv b.v]):Sem Value).run prog W=.ok (.bool true) W:=by
 rw[i6 a b,O' h]
theorem U6{g:Gh}{a:Lac}{d:S3}(k:FSl g w d a.d):Dat g w [(a,d)]:=λp b=>by rw[D'.1 b];exact k
theorem KJ{ck cc cs cn cv at_ ld:Int}(hk:I64 ck)(hc:I64 cc)(hs:I64 cs)(hn:I64 cn)(hv:I64 cv)(V:I64 at_)(a1:I64 ld)(u:Vh w) :
  Calls prog 3 #[.agg #[iv ck,iv cc,iv cs,iv cn,iv cv],iv at_,iv ld] w λe w'=>e=.returned (.bool true)/\Bw w w':=by
 have b5:=CX cs 6 (by omega);have b3:=Rx ck;have ra:=CX at_ 5 (by omega);have rl:=CX ld 5 (by omega);obtain⟨n,a3,g⟩:∃ n:Nat,pick at_ 5=(n:Int)/\n<5:=⟨(pick at_ 5).toNat,by omega,by omega⟩;obtain⟨i,Z,a0⟩:∃ i:Nat,pick ld 5=(i:Int)/\i<5:=⟨(pick ld 5).toNat,by omega,by omega⟩;have t1:CU 1 7 60:=by unfold CU;omega
 have t2:CU 2 7 0:=by unfold CU;omega
 have k1:Bh 2 1 0 0 0=0:=ON ⟨by decide,by decide⟩ (by unfold InC;decide) (.inr rfl);have k2:Bh (wK ck) 2 (pick cs 6) (pick cn 4) (wV ck cv)=0:=eV ck cn cv 2 (pick cs 6) ⟨by decide,by decide⟩ (by omega);have p1:paE 1 1 7 60 2 1 0 0 0=0:=by rw[Zm ⟨by decide,by decide⟩ (Hc t1)];exact k1
 have O:paE 1 2 7 0 (wK ck) 2 (pick cs 6) (pick cn 4) (wV ck cv)=0:=by rw[Zm ⟨by decide,by decide⟩ (Hc t2)];exact k2
 have r2:Ku (wK ck) 7:=by unfold Ku;omega
 obtain⟨o1,q1⟩:=fs p1 (now:=0) (OF t1 k1 ⟨by unfold Ku;decide,rfl⟩ ⟨by decide,by decide⟩);obtain⟨o2,q2⟩:=fs O (now:=0) (OF t2 k2 ⟨r2,rfl⟩ ⟨by decide,by decide⟩);have M:opE (paL 1 2 7 0 (wK ck) 2 (pick cs 6) (pick cn 4) (wV ck cv)) 1=10:=(UC O 1).1.trans (Nt t2 k2 ⟨r2,rfl⟩ (by decide));have d1:=LS p1;have d2:=LS O;generalize X:paL 1 1 7 60 2 1 0 0 0=dx at o1 q1 d1;generalize Y:paL 1 2 7 0 (wK ck) 2 (pick cs 6) (pick cn 4) (wV ck cv)=dy at o2 q2 M d2;obtain⟨c,h⟩:∃ c:Cmd,(⟨wK ck,2,pick cs 6,pick cn 4,wV ck cv⟩:Cmd)=c:=⟨_,rfl⟩;rw[h]at q2
 have c1:(⟨2,1,0,0,0⟩:Cmd)≠c:=λe=>by rw[<- h]at e;simp at e
 have q3:DZ dy 1=RH:=by unfold DZ;rw[if_neg (by rw[M];decide)]
 obtain⟨N,hN⟩:∃ N,As.dT ([AZ n dx]++EG [AZ n dx] (i:Int)++[AZ n dy])=N:=⟨_,rfl⟩;obtain⟨nb,nt,nl⟩:=dp g a0 o1 q1 (by omega) (by rw[M];decide) hN;refine tIn [] func3 trivial (tR 8 [1,0,0] λb7 _ _=>tC1 1 (λF C=>R0 hk hc hs hn hv) λ_=>tR 18 [1,0,1,0,1,0,1,0,2,0,2] λb8 _ _=>tC 2 (λF C=>UD p1 (tbA u.1 C)) λq=>?_);rintro _ _ ⟨k,rfl,J,E,b4⟩;refine⟨_,Fa.sl k dx::_,rfl,b4,λF=>⟨by rw[X]at J E;exact Du J E q,F⟩,?_⟩;refine tR 10 [1] λb9 _ _=>tC 2 (λF C=>UD O (tbA u.1 C)) λq=>?_;rintro _ _ ⟨f,rfl,hy,G,b6⟩;refine⟨_,Fa.sl f dy::_,rfl,b6,λF=>⟨by rw[Y]at hy G;exact Du hy G q,F⟩,?_⟩;refine tR 9 [] λc0 _ _=>tC1 1 (λF C=>PD V a3) λ_=>tR 9 [1,0] λH _ _=>lT (v:=true) 3 0 (H 0) 5 1 [iv 1,iv (n:Int),iv 0,iv 0,S3.v k] 36 [Fa.sl k dx,Fa.sl f dy] (λg' hz F=>⟨F.2.1.og hz,F.1.og hz,trivial⟩) (λg'=>?_) rfl (by unfold maxLen;omega);refine tCv [Fa.oa 0 (⟨some ⟨(H 0),0,none⟩,1,1⟩:S3) [(AZ n dx,k)],Fa.sl f dy] (λF=>⟨⟨F.1,U6 F.2.1⟩,F.2.2.1,trivial⟩) (tC1 5 (λF C=>PD a1 Z) λ_=>tG 6 [true,true,true] 0 (λF C=>Tw (n:=(i:Int)) (AcR.oo (L:=[AZ n dx]) F.1 rfl) (by show 1<=2000;omega)) λq=>?_);rintro _ _ ⟨z,rfl,ho,Q⟩;have a4:=QZ [AZ n dx] (i:Int);have a5:z.n=([(AZ n dx,k)]++rnP (EG [AZ n dx] (i:Int))).length:=by have:=ho.len;rw[Il]at this;omega
 simp only[H',IM,mT]at a5 a4;refine⟨_,[Fa.oa 0 z ([(AZ n dx,k)]++rnP (EG [AZ n dx] (i:Int))),Fa.sl f dy],_,_,_,_,rfl,Q,ho,λ_=>⟨λF S _=>⟨⟨S,Dat.app F.1.2 (Pq _ _ (Mm (P:=λa=>a.d=[]) (λ_ _=>rfl) (λ_ _=>rfl) rfl rfl _))⟩,F.2.1,trivial⟩,?_⟩⟩;refine tR 9 [1,0] λo _ _=>Ri 5 0 (x:=z) 33 33 36 5 56 zLa ⟨(o 0),0,none⟩ 1 1 [iv 1,iv (n:Int),iv 0,iv 0,S3.v f] (λF=>F.1.1) [Fa.sl f dy,Fa.dt (([(AZ n dx,k)]++rnP (EG [AZ n dx] (i:Int)))++[(AZ n dy,f)])] (λF=>⟨F.2.1,Dat.app F.1.2 (U6 F.2.1),trivial⟩) rfl (by simp[TQ]) rfl (by simp[Value.oneCell']) (λF K=>Dv K 3 (o 0) [iv 1,iv (n:Int),iv 0,iv 0,S3.v f] 36 .l true (by kernel_rfl)) (by unfold maxLen;omega) (by omega) λv _ _ vn=>tCv [Fa.oa 0 v (([(AZ n dx,k)]++rnP (EG [AZ n dx] (i:Int)))++[(AZ n dy,f)]),Fa.sl f dy] (λF=>⟨⟨(by rw[Gc];exact F.1),F.2.2.1⟩,F.2.1,trivial⟩) ?_;have T:(([(AZ n dx,k)]++rnP (EG [AZ n dx] (i:Int)))++[(AZ n dy,f)]).map (·.1)=[AZ n dx]++EG [AZ n dx] (i:Int)++[AZ n dy]:=by rw[mH,mH,dS];rfl
 have A:∀ x∈[AZ n dx]++EG [AZ n dx] (i:Int)++[AZ n dy],LacOk x:=λx J=>by
  rcases Q'.1 J with e|e
  .rcases Q'.1 e with e|e
   .rw[D'.1 e];exact Py g (by omega)
   .exact Mm (λn hn=>D6 ⟨.inr (.inr rfl),by omega,by omega⟩) (λn hn=>D6 ⟨.inr (.inl rfl),by omega,by omega⟩) (by rw[<- DK];decide) (D6 ⟨.inl rfl,by omega,by omega⟩) _ _ e
  .rw[D'.1 e];exact Py g (by omega)
 refine tC 6 (λF C=>iE (AcR.oo F.1 T) A (by rw[H',H'];show 1+_+1<=_;omega) (tb5 u C) hN) λq=>?_;rintro _ _ ⟨ly,tv,ys,rfl,U,S,R⟩;refine⟨_,[Fa.ot ly tv ys N,Fa.sl f dy],rfl,R,λF=>⟨UA U S q,F.2.1,trivial⟩,?_⟩;refine tR 10 [1,0,4,0] λp _ _=>tC1 1 (λF C=>U9 F.2.1.s (tbA u.1 C) q2 o2) λ_=>tR 10 [1,0,5,0] λa6 _ _=>tC1 1 (λF C=>U9 F.2.1.s (tbA u.1 C) q3 M) λ_=>tF λF _=>?_;have D:=kP F.1.fa.rd;rw[nt]at D
 have a2:∀ d∈((lgN N 5).map N.log).getD [],d∈[(⟨2,1,0,0,0⟩:Cmd)]:=λd I=>by
  cases hh:lgN N 5 with
  | none=>rw[hh]at I;cases I
  | some j=>rw[hh]at I;rw[<- nl j (SC hh)];exact I
 have b2:(((lgN N 5).map N.log).getD []).length<=1:=by
  cases hh:lgN N 5 with
  | none=>exact mJ _
  | some j=>show(N.log j).length<=1;rw[nl j (SC hh)];exact A' _
 refine tR 29 [1,0,6,0,43,0,2,4,6,8,10,12,14,16,18,20,22,24,26,28,30,32,34,36,5,38,1] λa7 _ _=>tT 20 (.bool true) (λ_=>(jY (x:=(.tmp 84)) (y:=(.tmp 85)) (a:=c) (b:=⟨wK ck,2,pick cs 6,pick cn 4,wV ck cv⟩) h.symm)) (tR 4 [42,44,46,48] λa8 _ _=>tT 25 (pt (p 0) (7+n)) (λ_=>(i7 g)) (tU 26 (iv 1) (λW U=>(D3 underlying3 rfl (lP (U rfl) 4 (p 0) (IE N ly tv).toList 42 .l false (by kernel_rfl) (jT g (by rw[nb];rfl))))) (tR 5 [54,56,58,60,4,64,1] λa9 _ _=>tC1 31 (λF C=>SE (UB F.1)) λ_=>?_)));have c2:c∉((lgN N 5).map N.log).getD []:=λe=>c1 (D'.1 (a2 c e)).symm;refine tC1 33 (λF C=>gH (c:=⟨wK ck,2,pick cs 6,pick cn 4,wV ck cv⟩) (YK F.1 (n:=5) (A' 5)).rd (by omega) (r:=false) (by rw[h];exact E' c2)) λ_=>tR 6 [68,70,72,74,76,4,78] λb0 _ _=>tT 40 (.bool true) (λ_=>(J6 (t:=3) (m:=(tv.n:Int)) (n:=1) (x:=(.tmp 105)) (y:=(.const (iv 1))) (by rw[D];rfl))) (tR 3 [82,84] λb1 _ _=>tE (.bool true) λ_ B=>⟨rfl,B⟩)
end
end
section
open Go.RowKit Go.ChangeShapes Go.WideShapes Go.ChangeAt
section
variable{H:Type}{f0 f1 f2 f3 f4:Field}{t:TypeId}
theorem P6{P:Program}{c:TypeId × Value->H}{w:World}{b:Nat}{a:Nat->Bool}{held:Bool}{e:Nat}{d:List Value}{x:DataW H × List MemPlace}(j:P.underlying t=some (.struct #[f0,f1,f2,f3,f4]))(h:DataW.trod c P w b a held e t d=some x) :
  ∃ y0 y1 y2 y3 y4 n,x=(.agg [y0.1,y1.1,y2.1,y3.1,y4.1],y0.2++(y1.2++(y2.2++(y3.2++y4.2))))/\d.length=P.cellsOf t/\DataW.trod c P w b a held n f0.type ((d.drop f0.offset).take (P.cellsOf f0.type))=some y0 /\
   DataW.trod c P w b a held n f1.type ((d.drop f1.offset).take (P.cellsOf f1.type))=some y1/\DataW.trod c P w b a held n f2.type ((d.drop f2.offset).take (P.cellsOf f2.type))=some y2 /\
   DataW.trod c P w b a held n f3.type ((d.drop f3.offset).take (P.cellsOf f3.type))=some y3/\DataW.trod c P w b a held n f4.type ((d.drop f4.offset).take (P.cellsOf f4.type))=some y4:=by
 obtain⟨k,n,_,rfl,i,g,f⟩:=DataW.trod_struct j h
 match k,g with
 | [y0,y1,y2,y3,y4],_=>exact⟨y0,y1,y2,y3,y4,n,by simp,i,by simpa using f 0 f0 rfl,by simpa using f 1 f1 rfl,by simpa using f 2 f2 rfl,by simpa using f 3 f3 rfl,by simpa using f 4 f4 rfl⟩
theorem bv{α:Type}{a:Array α}(h:a.size=5):∃ c0 c1 c2 c3 c4,a=#[c0,c1,c2,c3,c4]:=by
 obtain⟨l⟩:=a
 match l,h with
 | [c0,c1,c2,c3,c4],_=>exact⟨c0,c1,c2,c3,c4,rfl⟩
theorem Lf:prog.cellsOf 3=1:=by kernel_rfl
theorem LB{n:Int}(h:(Lit.int .i64 n).wf=true):I64 n:=by have:=bounds_i64 h;unfold I64;omega
theorem Qh{e:TypeId × Value->H}{W:World}{b0:Nat}{v:Value}{d:DataW H}{p:List MemPlace}(y:prog.underlying t=some (.struct #[f0,f1,f2,f3,f4]))(D:prog.cellsOf t=5)(L:f0.type=3)(M:f1.type=3)(N:f2.type=3)(O:f3.type=3)(P:f4.type=3)(F:f0.offset=0)(G:f1.offset=1)(I:f2.offset=2)(J:f3.offset=3)(K:f4.offset=4)(b:Value.okWide prog W .any b0 t v)(h:DataW.Trod e prog W 0 (λ_=>true) true t v d p) :
  ∃ k c s n x:Int,v=.agg (cmA k c s n x)/\I64 k/\I64 c/\I64 s/\I64 n/\I64 x:=by
 obtain⟨cs,rfl,a⟩:=okWide_struct y b;rw[D]at a
 obtain⟨V,X,Y,Z,c4,rfl⟩:=bv a;obtain⟨m,E⟩:=h;obtain⟨y0,y1,y2,y3,y4,n,_,_,o,q,r,u,w⟩:=P6 y E;rw[L,F,Lf]at o
 rw[M,G,Lf]at q
 rw[N,I,Lf]at r
 rw[O,J,Lf]at u
 rw[P,K,Lf]at w
 obtain⟨a0,f,_,Q⟩:=DataW.trod_int underlying3 o;obtain⟨z,g,_,R⟩:=DataW.trod_int underlying3 q;obtain⟨A,i,_,S⟩:=DataW.trod_int underlying3 r;obtain⟨B,j,_,T⟩:=DataW.trod_int underlying3 u;obtain⟨C,l,_,U⟩:=DataW.trod_int underlying3 w;simp[Value.cells]at f g i j l
 subst f g i j l;exact⟨a0,z,A,B,C,rfl,LB Q,LB R,LB S,LB T,LB U⟩
end
end
section
open Go.ChangeShapes Go.WideShapes Go.ChangeAt Go.RowKit
section
theorem Hi(H:Type)(d:TypeId × Value->H)(W:World)(g:Nat)(a:Array Value)(l w:List (DataW H))(c:List MemPlace)(b:∀ (j:Nat) t v,f3.params[j]?=some t->a[j]?=some v->Value.okWide prog W .any g t v)(A:DataW.Whole d prog f3.params.toList Rows.topExpiredSpec.vars false W a.toList l w c)(r:(DataW.weightsEach prog (f3.params.toList++Rows.topExpiredSpec.plain.varTypes prog) (l++w)).all (·<=reachBytes)=true)(P:laidMetH prog Rows.topExpiredRow.laid W) :
  Calls prog 3 a W λe W'=>∃ v,e=.returned v/\Rows.topExpiredSpec.post d prog f3 false true false false W a v W':=by
 have n:=A;obtain⟨p,q,k,Q,rfl,S,U⟩:=A;have z:DataW.TrodAll d prog W 0 (λ_=>true) true f3.params.toList a.toList l p:=k;rw[params3]at z b r
 obtain⟨C,a0,d0,K,p0,q0,o,rfl,rfl,y,r0⟩:=trodAll_cons z;obtain⟨D,a3,d1,L,p1,q1,rfl,rfl,rfl,N,r1⟩:=trodAll_cons r0;obtain⟨E,a4,d2,M,p2,q2,rfl,rfl,rfl,O,r2⟩:=trodAll_cons r1;obtain⟨rfl,rfl,rfl⟩:=trodAll_nil r2;obtain rfl:a=#[C,D,E]:=by cases a;simp_all
 obtain⟨rfl,rfl⟩:=trodVars_none Q;have B:=y;have u:∀ x∈p0,x.block<W.heap.size:=by obtain⟨m,T⟩:=B;exact DataW.trod_lt m _ _ _ T
 obtain⟨ka,kb,kc,kd,ke,rfl,V,X,Y,s,Z⟩:=Qh underlying23 (by kernel_rfl) rfl rfl rfl rfl rfl rfl rfl rfl rfl rfl (b 0 23 C rfl rfl) y;obtain⟨I,rfl,rfl,rfl,F⟩:=open_int underlying3 (b 1 3 D rfl rfl) N;have b1:=bounds_i64 F;obtain⟨J,rfl,rfl,rfl,G⟩:=open_int underlying3 (b 2 3 E rfl rfl) O;have b2:=bounds_i64 G;clear k;refine(KJ (ck:=ka) (cc:=kb) (cs:=kc) (cn:=kd) (cv:=ke) (at_:=I) (ld:=J) V X Y s Z ⟨by omega,by omega⟩ ⟨by omega,by omega⟩ (lU P)).mono λe W' ⟨R,i⟩=>?_;subst R;exact⟨_,rfl,_,_,_,[],_,[],n,trodAll_mk1 (shut_bool underlying4 _),(trodAll_cons_mk (Below.trod cZ (by kernel_rfl) (mL (by kernel_rfl)) B i u) (trodAll_cons_mk (shut_int underlying3 F) (trodAll_cons_mk (shut_int underlying3 G) trodAll_mk0))),rfl,i.frame _,λh=>by cases h⟩
variable{W:World}{os:Os}
theorem MB(h:Ji os W):laidMet prog Rows.topExpiredRow.laid (W.forCall (λ_ _=>0) ⟨#[],#[.agg zV5,.int .i64 0,.int .i64 0],[]⟩).memory:=by
 unfold Ji at h;subst h;exact laidMet_of_run' 8 (by kernel_rfl) (by kernel_rfl)
theorem JN(h:Ji os W){H:Type}(a:TypeId × Value->H):∃ places,DataW.whole a prog (W.forCall (λ_ _=>0) ⟨#[],#[.agg zV5,.int .i64 0,.int .i64 0],[]⟩).memory f3.params.toList Rows.topExpiredSpec.vars false (#[.agg zV5,.int .i64 0,.int .i64 0]:Array Value).toList 8=some ([.agg [.lit (.int .i64 0),.lit (.int .i64 0),.lit (.int .i64 0),.lit (.int .i64 0),.lit (.int .i64 0)],.lit (.int .i64 0),.lit (.int .i64 0)],[],places):=by
 unfold Ji at h;subst h;exact⟨[],by kernel_rfl⟩
theorem Ja(d:Os)(a:d.Started)(H:Type)(enc:TypeId × Value->H)(F:Stop.Interp) :
  ReturnsInHanded {} Tryz.checked d 3 .any ((OpenSpec.ofChange Rows.topExpiredSpec).preRow enc prog f3 Rows.topExpiredRow.domain false Rows.topExpiredRow.laid) (((OpenSpec.ofChange Rows.topExpiredSpec).at F).post enc prog f3 false true false false):=by
 obtain⟨i,b⟩:=ce d;obtain⟨c,h⟩:=JN b enc;have g:=MB b;refine returnsInHanded_of_row (C:=Tryz.checked) (s:=OpenSpec.ofChange Rows.topExpiredSpec) own a (by kernel_rfl) func3 ?_ ?_
 .unfold Ji at b;subst b;exact witness_row_at (enc:=enc) (C:=Tryz.checked) false _ #[.agg zV5,.int .i64 0,.int .i64 0] rfl (by kernel_rfl) (by kernel_rfl) (by kernel_rfl)
   (OpenSpec.preRow_of_cond 8 h (by kernel_rfl) (λk e=>by cases e) (by kernel_rfl) g)
 .intro W base args ds gs before hval hW _ _ hsz hL _ _;exact Hi H enc W base args ds gs before hval hW hsz hL
theorem KI:Rows.TopExpiredSaid :=
 OpenClaim.holds_of_cond 3 f3 rfl rfl rfl rfl rfl rfl rfl ⟨rfl,rfl,rfl,rfl,rfl⟩ rfl rfl rfl rfl rfl (by kernel_rfl) func3 (by kernel_rfl)
  (mL (by kernel_rfl)) (by unfold Func.isWrapper;first|(rw[if_pos (by decide +kernel)];kernel_rfl)|(rw[if_neg (by decide +kernel)];exact⟨rfl,rfl⟩))
  (λc a H b _ F=>by rw[OpenClaim.pre_eq_preRow];exact Ja c a H b F)
theorem JM(f : FuncId)(b : Func)(e : Tryz.pinned.checked.prog.funcNamed "conclave/conclavetop.TopExpired" = some f)(c : Tryz.pinned.checked.prog.funcs[f]? = some b) :
  false=Tryz.pinned.checked.prog.looks []/\∀ (j:Nat) t,b.params[j]?=some t->Tryz.pinned.checked.prog.wantsStandIn t=false:=by
 obtain rfl : f = 3 := Option.some.inj ((show prog.funcNamed "conclave/conclavetop.TopExpired" = some 3 by kernel_rfl).symm.trans e) |>.symm
 obtain rfl:b=f3:=(mQ (func3.symm.trans c)).symm;refine⟨by kernel_rfl,λj t d=>?_⟩;rw[params3]at d
 have a:=Array.mem_of_getElem? d;simp only[List.mem_toArray,mn,P',or_false]at a;rcases a with rfl|rfl|rfl
 .exact(show prog.wantsStandIn 23=false by kernel_rfl)
 .exact(show prog.wantsStandIn 3=false by kernel_rfl)
 .exact(show prog.wantsStandIn 3=false by kernel_rfl)
theorem topExpired_card:Rows.TopExpiredCardSaid :=
 Claim7.holds_tied_plain_at .later [] _ _ _ _ KI (λ_ h=>by cases h) (by kernel_rfl) (λ_ h=>by cases h) topExpired_row_tie rfl ⟨rfl,rfl⟩ (by kernel_rfl) rfl JM (by kernel_rfl)
#print axioms topExpired_card
end
end
end Go.Proofs.YtdjfdfpkkenjbadGreatDoor
