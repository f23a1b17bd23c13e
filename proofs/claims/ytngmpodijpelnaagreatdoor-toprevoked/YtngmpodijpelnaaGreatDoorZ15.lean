/- Part 15 of the walk. -/
import Derived.Test.YtngmpodijpelnaaGreatDoorZ14
set_option maxRecDepth 100000
set_option maxHeartbeats 4000000
open Go.Proofs.Tryz
set_option linter.unusedVariables false
namespace Go.Proofs.YtngmpodijpelnaaGreatDoor
section
theorem PF(p:Nod)(b:Bal):(p.av b).1.done=p.done:=by
 unfold Nod.av;split
 .rfl
 .split
  .rfl
  .split<;>rfl
theorem Ke(p:Nod)(v:Vt):(p.dT v).1.done=p.done:=by
 unfold Nod.dT;split
 .rfl
 .split
  .rfl
  .split<;>rfl
theorem LB(p:Nod)(j:Nat)(v:Vt):(p.count j v).done=p.done:=by
 unfold Nod.count;split
 .rfl
 .split<;>rfl
theorem K3(p:Nod)(to:Nat)(e:Int):(p.fa to e).done=p.done:=by unfold Nod.fa;split<;>rfl
theorem FF(p:Nod)(l:List Cmd):(p.eo l).done=p.done:=by unfold Nod.eo;split<;>rfl
theorem Xr(p:Nod)(l:Let):(p.take l).done=p.done:=by
 unfold Nod.take;split
 .split
  .exact K3 _ _ _
  .exact PF p l.hZ
 .simp only;split<;>rfl
 .rfl
 .split
  .exact K3 _ _ _
  .exact Ke p l.dT
 .exact LB p _ _
 .split<;>rfl
 .simp only;split<;>exact FF p l.hU
 .rfl
theorem OL(p:Nod)(i:Nat)(q:Pend):(p.ic i q).done=p.done:=by
 cases q with
 | began b vs=>unfold Nod.ic;simp only;split<;>rfl
 | prop v=>exact LB p i v
 | _=>rfl
theorem LG(i:Nat)(l:List Pend)(p:Nod)(a:List Let):(ov i l p a).1.done=p.done:=by
 induction l generalizing p a with
 | nil=>rfl
 | cons q l ih=>exact(ih _ _).trans (OL p i q)
theorem Yr(i:Nat)(l:List Cmd)(p:Nod)(a:List Tol):p.done<=(sD i l p a).1.done/\∃ us,(sD i l p a).2=a++us:=by
 induction l generalizing p a with
 | nil=>exact⟨A' _,[],(nA _).symm⟩
 | cons c l ih =>
  rw[sD];split
  .exact⟨A' _,[],(nA _).symm⟩
  .obtain⟨h1,us,h2⟩:=ih (Nod.fv { p with ln:=doS p.ln c,done:=p.done+1 } c) (if(p.cl c).isSome=true then a++[⟨i,c.c,c.s,doC p.ln c,doA p.ln c⟩]else a);rw[(Dt _ _).2.2.1]at h1
   refine⟨na (oh _) h1,?_⟩;rw[h2];split
   .exact⟨_,nm _ _ _⟩
   .exact⟨us,rfl⟩
theorem Mq(p:Nod)(i:Nat)(f:List Let)(e:List Tol):p.done<=(p.piece i f e).1.done/\∃ us,(p.piece i f e).2.2=e++us:=by
 obtain⟨l,m⟩:=Yr i (p.ae.drop p.done) p e;refine⟨?_,m⟩;unfold Nod.piece;simp only;generalize (sD i (p.ae.drop p.done) p e).1=a at l ⊢;have g:(a.ib i).1.done=a.done:=by
  unfold Nod.ib;split
  .rfl
  .split
   .exact FF _ _
   .rfl
 generalize a.ib i=b at g ⊢;have h:b.1.dc.done=b.1.done:=by
  unfold Nod.dc;split
  .rfl
  .split
   .rfl
   .split
    .rfl
    .exact Ke _ _
 generalize b.1.dc=c at h ⊢;generalize f++b.2=k;have j:(c.ni i k).1.done=c.done:=by
  unfold Nod.ni;split
  .rfl
  .rw[LG];unfold Nod.sC;split<;>rfl
 generalize c.ni i k=d at j ⊢;have n:(d.1.bN i d.2).1.done=d.1.done:=by unfold Nod.bN;split<;>rfl
 omega
theorem kg(M:Meet){x:Lac}(b:x.k=3)(j:Nat):(M.ab j).done<=((M.act x).ab j).done/\(x.n.toNat≠j->((M.act x).ab j).done=(M.ab j).done):=by
 unfold Meet.act;simp only;rw[if_neg (by omega),if_neg (by omega),if_pos b];unfold Meet.set upN;simp only;by_cases a:j=x.n.toNat
 .rw[if_pos a];refine⟨?_,λe=>absurd a.symm e⟩;rw[a];split
  .exact(Mq _ _ _ _).1
  .exact A' _
 .rw[if_neg a];exact⟨A' _,λ_=>rfl⟩
theorem VA(M:Meet)(x:Lac):∃ us,(M.act x).eb=M.eb++us/\(x.k≠3->x.k≠1->us=[]):=by
 by_cases a:x.k=1
 .unfold Meet.act;simp only;rw[if_pos a];show ∃ us,(Nod.sg _ _ _ _).2=M.eb++us/\_;unfold Nod.sg Nod.sE;split
  .exact⟨[],(nA _).symm,λ_ _=>rfl⟩
  .split
   .exact⟨[],(nA _).symm,λ_ _=>rfl⟩
   .split
    .exact⟨_,rfl,λ_ e=>absurd a e⟩
    .exact⟨[],(nA _).symm,λ_ _=>rfl⟩
 .by_cases h3:x.k=3
  .unfold Meet.act;simp only;rw[if_neg a,if_neg (by omega),if_pos h3];unfold Meet.set;simp only;split
   .obtain⟨us,h⟩:=(Mq (M.ab x.n.toNat) x.n.toNat M.br M.eb).2;exact⟨us,h,λe=>absurd h3 e⟩
   .exact⟨[],(nA _).symm,λ_ _=>rfl⟩
  .exact⟨[],by rw[Qi M a h3,nA],λ_ _=>rfl⟩
def Eg(l:List Cmd):Sto:=l.foldl dnS AG
theorem OR(l:List Cmd)(c:Cmd):Eg (l++[c])=dnS (Eg l) c:=by unfold Eg;rw[p8];rfl
theorem MO(l:List Cmd)(h:∀ c∈l,c.e=0):Fj (Eg l):=by
 have key:∀ (l:List Cmd) (s:Sto),Fj s->(∀ c∈l,c.e=0)->Fj (l.foldl dnS s):=by
  intro l;induction l with
  | nil=>exact λs a _=>a
  | cons c l ih=>exact λs a h=>ih _ (Pp a (h c M')) λd b=>h d (I' _ b)
 exact key l AG RB h
def StI(p:Nod):Prop:=p.ln=Eg (p.ae.take p.done)
theorem StI.lr{p q:Nod}(h:StI p)(d:q.ln=p.ln)(b:q.done=p.done)(a:p.ae <+: q.ae)(c:p.done<=p.ae.length):StI q:=by
 unfold StI;rw[d,b,MY a c];exact h
theorem bJ(p:Nod)(l:Let):(p.take l).ln=p.ln:=by
 unfold Nod.take;split
 .split
  .unfold Nod.fa;split<;>rfl
  .show(p.av l.hZ).1.ln=_;unfold Nod.av;split
   .rfl
   .split
    .rfl
    .split<;>rfl
 .simp only;split<;>rfl
 .rfl
 .split
  .unfold Nod.fa;split<;>rfl
  .show(p.dT l.dT).1.ln=_;unfold Nod.dT;split
   .rfl
   .split
    .rfl
    .split<;>rfl
 .unfold Nod.count;split
  .rfl
  .split<;>rfl
 .split<;>rfl
 .simp only;unfold Nod.eo;split<;>split<;>rfl
 .rfl
theorem StI.bare(p:Nod)(u:Bool)(d:List Int)(s:Int)(a:Acc)(x:List Pend):StI (p.bare u d s a x):=rfl
theorem StI.step{D:Wh}{c:Nat}{M N:Meet}(s:Stp D c M N)(a:∀ j,j<5->(M.ab j).done<=(M.ab j).ae.length)(h:∀ j,j<5->StI (M.ab j)):∀ j,j<5->StI (N.ab j):=by
 intro j g;have put:∀ {k:Nat} {p:Nod} {f:List Let} {i:List Tol},(k<5->StI p)->StI ((M.set k p f i).ab j):=λ{k p f i} e=>by
  rw[Aj];split
  .rename_i e2;exact e (by omega)
  .exact h j g
 cases s with
 | take _ l hl hd2 hu ht=>exact put λ_=>(h _ hd2.2).lr (bJ _ l) (Xr _ l) (Ev.take _ l).ag (a _ hd2.2)
 | br _ f hl a=>exact h j g
 | one _ k c hi hu hc he =>
  refine put λ_=>?_;have e:StI { M.ab k with ln:=doS (M.ab k).ln c,done:=(M.ab k).done+1 }:=by
   unfold StI;show doS (M.ab k).ln c=Eg ((M.ab k).ae.take ((M.ab k).done+1));rw[oX,hc,Ps he,h k hi];exact(OR _ c).symm
  unfold Nod.fv;split<;>exact e
 | ask _ k hi hu =>
  refine put λ_=>?_;have:=h k hi;unfold Nod.ib;split
  .exact this
  .split
   .unfold Nod.eo;split<;>exact this
   .exact this
 | prop _ k hi hu =>
  refine put λ_=>?_;have:=h k hi;unfold Nod.dc;split
  .exact this
  .split
   .exact this
   .split
    .exact this
    .show StI ((M.ab k).dT _).1;unfold Nod.dT;split
     .exact this
     .split
      .exact this
      .split<;>exact this
 | sC _ k hi hu hs hT=>exact put λ_=>h k hi
 | run _ k hi hu q l hp hs =>
  refine put λ_=>(h k hi).lr ?_ ((OL (M.ab k) k q)) ((Ev.ic (M.ab k) k q).bw l).ag (a k hi);show((M.ab k).ic k q).ln=_;cases q with
  | began b vs=>simp only[Nod.ic];split<;>rfl
  | prop v =>
   simp only[Nod.ic,Nod.count];split
   .rfl
   .split<;>rfl
  | _=>rfl
 | rN _ k hi hu hL=>exact put λ_=>h k hi
 | lead _ k hi hu hL =>
  refine put λ_=>?_;have:=h k hi;unfold Nod.lead;simp only;split
  .exact this
  .generalize (⟨max (M.ab k).ed (M.ab k).vo.p.r+1,(k:Int)⟩:Bal)=b;show StI ((M.ab k).av b).1;unfold Nod.av;split
   .exact this
   .split
    .exact this
    .split<;>exact this
 | sub _ k d hi hu hD =>
  refine put λ_=>?_;have:=h k hi;unfold Nod.sg Nod.sE;split
  .exact this
  .split
   .exact this
   .split
    .exact this
    .show StI (Nod.want _ _);unfold Nod.want;split<;>exact this
 | ie _ k x hi hu hk hC =>
  refine put λ_=>?_;unfold Nod.ie;split
  .exact h k hi
  .exact .bare _ _ _ _ _ _
 | start _ k hi hu hs =>
  refine put λ_=>?_;unfold Nod.start;split
  .exact h k hi
  .split<;>exact .bare _ _ _ _ _ _
theorem StI.zero:∀ j,j<5->StI (Ag.ab j):=λj _=>rfl
theorem dg(i:Nat)(l:List Cmd)(p:Nod)(k:List Tol)(j:Fj p.ln)(h:∀ c∈l,c.e=0):(sD i l p k).1.done=p.done+l.length:=by
 induction l generalizing p k with
 | nil=>rfl
 | cons c l ih =>
  have a:=h c M';have b:doE p.ln c=0:=(Lb j).trans a;rw[sD,if_neg (λg=>g b)];have f:(Nod.fv { p with ln:=doS p.ln c,done:=p.done+1 } c).ln=dnS p.ln c/\(Nod.fv { p with ln:=doS p.ln c,done:=p.done+1 } c).done=p.done+1:=by
   unfold Nod.fv;split<;>exact⟨Ps b,rfl⟩
  rw[ih _ _ (by rw[f.1];exact Pp j a) λd m=>h d (I' _ m),f.2,nQ];omega
theorem TH(p:Nod)(i:Nat)(f:List Let)(e:List Tol):(p.piece i f e).1.done=(sD i (p.ae.drop p.done) p e).1.done:=by
 unfold Nod.piece;simp only;generalize (sD i (p.ae.drop p.done) p e).1=a;have g:(a.ib i).1.done=a.done:=by
  unfold Nod.ib;split
  .rfl
  .split
   .exact FF _ _
   .rfl
 generalize a.ib i=b at g ⊢;have h:b.1.dc.done=b.1.done:=by
  unfold Nod.dc;split
  .rfl
  .split
   .rfl
   .split
    .rfl
    .exact Ke _ _
 generalize b.1.dc=c at h ⊢;generalize f++b.2=k;have j:(c.ni i k).1.done=c.done:=by
  unfold Nod.ni;split
  .rfl
  .rw[LG];unfold Nod.sC;split<;>rfl
 generalize c.ni i k=d at j ⊢;have l:(d.1.bN i d.2).1.done=d.1.done:=by unfold Nod.bN;split<;>rfl
 omega
theorem DE{I:Meet->Prop}(d:∀ c M N,Stp wh0 c M N->I M->I N)(j:∀ M,I M->I { M with br:=[] })(m:Nat){n:Nat}{M:Meet}(i:MOk n M)(o:n+6*m<=1000000)(h:I M):I (M.cF (An m))/\MOk (n+6*m) (M.cF (An m)):=by
 induction m with
 | zero=>exact⟨h,i⟩
 | succ m ih =>
  obtain⟨e,f⟩:=ih (by omega);show I (M.cF (An m++Ao))/\MOk (n+6*(m+1)) (M.cF (An m++Ao));rw[At,ES];have a:=Bn (λc A N s g=>d c A N s.calm g) f (by omega) e;obtain⟨N,k,l,_⟩:=Cu (λA N s g=>d _ A N s.sL g) a.1 a.2;have b:=a.1.act (x:=acN 7 0) (by omega) (by rw[<- DR];decide);rw[k]at b ⊢
  exact⟨j N l,b.mono (by omega)⟩
theorem JU{M:Meet}(h:∀ j,j<5->(M.ab j).up=true):M.cF AA=M:=by
 have key:∀ l:List Lac,(∀ x∈l,M.act x=M)->M.cF l=M:=by
  intro l;induction l with
  | nil=>exact λ_=>rfl
  | cons x l ih =>
   intro a;show(M.act x).cF l=M;rw[a x M'];exact ih λy e=>a y (I' _ e)
 refine key _ λx d=>?_;obtain⟨k,b,rfl⟩:=nF.1 d;have c:=h k (pU.1 b);unfold Meet.act;simp only[acN];rw[if_neg (by decide),if_neg (by decide),if_neg (by decide),if_neg (by decide),if_neg (by decide),if_neg (by decide),if_pos trivial];show M.set k (if(M.ab k).up=true then M.ab k else _) M.br M.eb=M;rw[if_pos c,EZ]
theorem IG{M:Meet}{i:Nat}(a:(M.ab i).up=true):M.act (acN 2 (i:Int))=M.set i ((M.ab i).lead i) M.br M.eb:=by
 unfold Meet.act;simp only[acN];rw[if_neg (by decide),if_pos trivial];show M.set i (if(M.ab i).up=true then _ else _) M.br M.eb=_;rw[if_pos a];rfl
theorem Ez(a b:Nat):An (a+b)=An a++An b:=by
 induction b with
 | zero=>exact(nA _).symm
 | succ b ih=>show An (a+b)++Ao=An a++(An b++Ao);rw[ih,nm]
theorem mE(f:Nat->Int):∃ j,j<5/\∀ k,k<5->f k<=f j:=by
 have key:∀ n,∃ j,j<n+1/\∀ k,k<n+1->f k<=f j:=by
  intro n;induction n with
  | zero=>exact⟨0,by omega,λk c=>by rw[show k=0 by omega];exact nf _⟩
  | succ n ih =>
   obtain⟨j,d,b⟩:=ih;by_cases e:f j<=f (n+1)
   .refine⟨n+1,by omega,λk c=>?_⟩;by_cases a:k=n+1
    .rw[a];exact nf _
    .exact nI (b k (by omega)) e
   .refine⟨j,by omega,λk c=>?_⟩;by_cases a:k=n+1
    .rw[a];omega
    .exact b k (by omega)
 exact key 4
def FD(b:Bal):List (Bal × Nat):=(List.range 40).map λs=>(b,s)
theorem FE(b:Bal){s:Nat}(h:s<40):(b,s)∈FD b:=nF.2 ⟨s,pU.2 h,rfl⟩
section
variable{S:Cmd->Prop}{K:Int}{B:Nat->Bal}{cov:List (Bal × Nat)}
theorem Cm.to{M:Meet}(h:Cm S K B cov M){K':Int}(c:∀ j,j<5->(M.ab j).vo.p.key<=K')(b:K'<=3600):Cm S K' B cov M :=
 ⟨h.ex,⟨b,λj a=>⟨by unfold Nod.pk;rw[if_pos (h.up j a)];exact c j a,(h.kb.2 j a).2⟩⟩,h.up,h.hZ,h.s⟩
structure Led(i:Nat)(p q:Nod)(b:Bal):Prop where
 may:Ac b
 n:b.n=(i:Int)
 gt:5*p.ed+4<b.key/\p.vo.p.key<b.key
 le:b.key<=max (5*p.ed) p.vo.p.key+9
 up:q.up=p.up
 vo:q.vo.p=b
 hZ:q.bn.hZ=b
 p1:P1 i q
 pe:∃ vs,Pend.began b vs∈q.bw
 ask:q.au=p.au/\q.cl=p.cl/\q.done=p.done
 ro:q.ed=p.ed
theorem Cm.lead{M:Meet}(h:Cm S K B cov M)(z:14*K+38*(cov.length:Int)<=99000){i:Nat}(d:i<5)(I:K<=3591)(J:0<=(M.ab i).ed/\5*(M.ab i).ed<=3591) :
  ∃ b,Led i (M.ab i) ((M.ab i).lead i) b/\Cm S 3600 (upN B i b) (cov++FD b) (M.set i ((M.ab i).lead i) M.br M.eb):=by
 have m:=h.up i d;have O:=h.le d;have u:=(h.acc d).1;have N:=Za u;have F:0<=(M.ab i).vo.p.r/\0<=(M.ab i).vo.p.n/\(M.ab i).vo.p.n<=4:=by unfold Ap Ac at u;omega
 obtain⟨b,l⟩:∃ b:Bal,(⟨max (M.ab i).ed (M.ab i).vo.p.r+1,(i:Int)⟩:Bal)=b:=⟨_,rfl⟩;have L:b.key=5*(max (M.ab i).ed (M.ab i).vo.p.r+1)+(i:Int):=by rw[<- l];rfl
 have C:(M.ab i).vo.p.key=5*(M.ab i).vo.p.r+(M.ab i).vo.p.n:=rfl;have t:Ac b:=by rw[<- l];refine⟨⟨?_,?_⟩,?_,?_⟩<;>simp only<;>omega
 have f:=h.prom z d t (by rw[Ff t.pr u];omega);have E:(M.ab i).lead i=Nod.wait { ((M.ab i).av b).1 with bn:=⟨b,λ_=>false,λ_=>Eq,λ_=>(M.ab i).ae.length,0,[]⟩ } (.began b ((M.ab i).av b).2.1):=by
  unfold Nod.lead;simp only;rw[l,if_neg (λg=>g f.1)]
 have v:((M.ab i).av b).1.ed=(M.ab i).ed:=by
  unfold Nod.av;split
  .rfl
  .split
   .rfl
   .split<;>rfl
 have a:Led i (M.ab i) ((M.ab i).lead i) b:=by
  rw[E];exact⟨t,by rw[<- l],by omega,by omega,(Ev.av _ b).up,f.2,rfl,⟨rfl,λ_ _=>rfl⟩,⟨_,nc _ (D'.2 rfl)⟩,(AL _ b).1,v⟩
 refine⟨b,a,?_⟩;obtain⟨σ,g,A⟩:=h.ex;obtain⟨τ,G,H,w,x,y⟩:=g.step (D:=whT) (.lead M i d m trivial);refine⟨⟨τ,w,λo s c k=>?_⟩,⟨nf _,?_⟩,λj q=>?_,λj q=>?_,h.s.step (D:=⟨λ_ _=>False,True,False,False,False,False⟩) (λ_ _ e=>False.elim e) (.lead M i d m trivial)⟩
 .rcases x o s c k with k|k
  .exact nh _ (A o s c k)
  .exact absurd (y o s k).1 (by decide)
 .refine(h.kb.2.mono h.kb.1 (nf _)).set ⟨?_,by rw[a.ro];omega⟩ _ _;unfold Nod.pk;rw[if_pos (a.up.trans m),a.vo];omega
 .rw[Aj];split
  .exact a.up.trans m
  .exact h.up j q
 .rw[Aj];unfold upN;split
  .exact a.hZ
  .exact h.hZ j q
theorem kN{a:Int}{n:Nat}{M:Meet}(O:MOk n M){m:Nat}(hm:2<=m)(hn:n+6*m+20<=1000000)(U:∀ j,j<5->∀ s,s<40->(B j,s)∈cov)(h:Cm S K B cov M)(z:KbI a a M)(W:K<=a)(T:a<=3500)(Z:14*a+38*(cov.length:Int)<=97000){i:Nat}(q:i<5) :
  ∃ K' B' cov',K'<=a+9/\Cm S K' B' cov' (((M.act (acN 2 (i:Int))).cF AA).cF (An m))/\(∀ j,j<5->∀ s,s<40->(B' j,s)∈cov')/\cov'.length<=cov.length+40/\Gr8 K' ((((M.act (acN 2 (i:Int))).cF AA).cF (An m)).ab i)/\KbI (a+9) (a+9) (((M.act (acN 2 (i:Int))).cF AA).cF (An m))/\MOk (n+6*m+1) (((M.act (acN 2 (i:Int))).cF AA).cF (An m)):=by
 have G:=h.up i q;have hr:=z i q;have F:=(O.ab i q).ro;have d:=O.act (x:=acN 2 (i:Int)) (by omega) (DC ⟨.inl rfl,by omega,by omega⟩);obtain⟨b,y,f⟩:=h.lead (by omega) q (by omega) ⟨F.1,by omega⟩;obtain⟨σ,g,_⟩:=h.ex;have o:=z.lead g q G M.br M.eb;have H:∀ j,j<5->((M.act (acN 2 (i:Int))).ab j).up=true:=by rw[IG G];exact f.up
 rw[JU H];rw[IG G]at d ⊢
 have u:=Bg M i ((M.ab i).lead i) M.br M.eb;generalize M.set i ((M.ab i).lead i) M.br M.eb=N at f o d u ⊢;rw[<- u]at y
 obtain⟨j,v,C⟩:=mE λj=>(N.ab j).vo.p.key;have E:∀ j,j<5->(N.ab j).vo.p.key<=a+9:=λj v=>by
  have:=(o j v).1;unfold Nod.pk at this
  rwa [if_pos (f.up j v)]at this
 have t:=E j v;have f:=f.to C (by omega);have l:∀ k,k<5->∀ s,s<40->(upN B i b k,s)∈cov++FD b:=λk z s P=>by
  unfold upN;split
  .exact nc _ (FE b P)
  .exact nh _ (U k z s P)
 obtain⟨vs,V⟩:=y.pe;have A:=ji l d (by omega) f q v rfl y.vo y.may V;generalize (N.ab j).vo.p.key=K' at f A t;have L:∀ c X Y,Stp wh0 c X Y->(Cm S K' (upN B i b) (cov++FD b) X/\KbI (a+9) (a+9) X)->(Cm S K' (upN B i b) (cov++FD b) Y/\KbI (a+9) (a+9) Y):=λc X Y s g=>by
  obtain⟨σ,R,_⟩:=g.1.ex;exact⟨g.1.step l s,g.2.step (D:=wh0) (λe=>e) R s (nf _)⟩
 have J:=DE L (λX g=>⟨g.1.drop,g.2⟩) 2 d (by omega) ⟨f,o⟩;obtain⟨r,rfl⟩:∃ r,m=2+r:=⟨m-2,by omega⟩;rw[Ez,At];have Q:N.cF (An 2)=N.cF (Ao++Ao):=rfl;rw[<- Q]at A
 have w:=DE (I:=λX=>(Cm S K' (upN B i b) (cov++FD b) X/\KbI (a+9) (a+9) X)/\Gr8 K' (X.ab i)) (λc X Y s g=>⟨L c X Y s g.1,g.2.ev (s.ev i)⟩) (λX g=>⟨⟨g.1.1.drop,g.1.2⟩,g.2⟩) r J.2 (by omega) ⟨J.1,A⟩;refine⟨K',_,_,t,w.1.1.1,l,?_,w.1.2,w.1.1.2,w.2.mono (by omega)⟩;rw[E'];unfold FD;rw[nK,qD];exact A' _
end
section
variable{C:List Cmd}{K:Int}{B:Nat->Bal}{cov:List (Bal × Nat)}{i:Nat}{b:Bal}{A:List Cmd}
theorem Fin_.drop{N:Meet}(f:Fin_ i A N):Fin_ i A { N with br:=[] }:=⟨f.ag,f.nx,f.hd,f.qu⟩
theorem Fin_.uf(a:PhC C K B cov i b){M:Meet}(h:PhE C K B cov i b M)(f:Fin_ i A M){j:Nat}(c:j<5)(p:A.length<=(M.ab j).ae.length):(M.ab j).ae=A:=by
 have o:=f.le a h c;obtain⟨σ,g,_⟩:=h.pb.cm.ex;refine pz (by omega) λs k l=>?_;obtain⟨m,d⟩:=(g.nd j c).ag s _ (G' k);obtain⟨n,e⟩:=(g.nd i a.hi).ag s _ (by rw[f.ag];exact G' l);exact g.gs.tj.agree d e
structure Fz(C:List Cmd)(K:Int)(B:Nat->Bal)(cov:List (Bal × Nat))(i:Nat)(b:Bal)(A:List Cmd)(M:Meet):Prop where
 l:PhL C K B cov i b M
 f:Fin_ i A M
 a:∀ j,j<5->(M.ab j).ae=A
 s:∀ j,j<5->StI (M.ab j)
theorem Fz.step(d:PhC C K B cov i b){n:Nat}{M N:Meet}(s:Stp wh0 n M N)(h:Fz C K B cov i b A M):Fz C K B cov i b A N:=by
 have e:=h.l.step d s;have g:=Fin_.step d s h.l.pe h.f;exact⟨e,g,λj c=>g.uf d e.pe c (by have:=(s.ev j).ag.length_le;rw[h.a j c]at this;exact this),StI.step s (λj c=>(h.l.pe.pb.ak j c).dn) h.s⟩
theorem Fz.drop{N:Meet}(h:Fz C K B cov i b A N):Fz C K B cov i b A { N with br:=[] }:=⟨h.l.drop,h.f.drop,h.a,h.s⟩
structure Rst(C:List Cmd)(K:Int)(B:Nat->Bal)(cov:List (Bal × Nat))(i:Nat)(b:Bal)(A:List Cmd)(M:Meet):Prop where
 z:Fz C K B cov i b A M
 d:∀ j,j<5->(M.ab j).done=A.length
theorem Pq(g:PhC C K B cov i b){n:Nat}{M N:Meet}(s:Stp wh0 n M N)(h:Fz C K B cov i b A M){j:Nat}(e:j<5)(d:(M.ab j).done=A.length):(N.ab j).done=A.length:=by
 have c:=h.step g s;have k:=(s.ev j).dn;have f:=(c.l.pe.pb.ak j e).dn;rw[c.a j e]at f
 omega
theorem Rst.step(a:PhC C K B cov i b){n:Nat}{M N:Meet}(s:Stp wh0 n M N)(h:Rst C K B cov i b A M):Rst C K B cov i b A N:=⟨h.z.step a s,λj c=>Pq a s h.z c (h.d j c)⟩
theorem Xh(o:PhC C K B cov i b)(g:∀ c∈C,c.e=0){M:Meet}(h:Fz C K B cov i b A M){j:Nat}(d:j<5):((M.act (acN 3 (j:Int))).ab j).done=A.length:=by
 have n:=h.l.pe.pb.cm.up j d;have m:=(h.l.pe.pb.ak j d).dn;have k:∀ c∈(M.ab j).ae,c.e=0:=λc f=>g c ((h.l.pe.pb.cm.s.nd j d).ag c f);rw[Hm n,Aj,if_pos rfl,TH,dg]
 .rw[nu,h.a j d];rw[h.a j d]at m
  omega
 .rw[h.s j d];exact MO _ λc f=>k c (nB f)
 .exact λc f=>k c (pm f)
theorem Gr8.gt{p q:Nod}{K:Int}(h:Gr8 K p)(a:Ap p.vo.p){i:Nat}{b:Bal}(l:Led i p q b):K<b.key:=by
 have:=l.gt;unfold Gr8 at h;omega
theorem kO(R:∀ c∈C,c.e=0)(hC:C.length<40){K1:Int}{n:Nat}{M:Meet}(hM:MOk n M){m:Nat}(hm:85<=m)(hn:n+6*m+20<=990000)(hc:∀ j,j<5->∀ s,s<40->(B j,s)∈cov)(h:Cm (λc=>c∈C) K B cov M)(gr:Gr8 K (M.ab i))(hk:KbI K1 K1 M)(hK:K<=K1)(a4:K1<=3510)(hQ:14*K1+38*(cov.length:Int)<=97000)(t:i<5)(hA:∀ j,j<5->AskI (M.ab j))(hS:∀ j,j<5->StI (M.ab j)) :
  ∃ K' B' cov' b A,PhC C K' B' cov' i b/\Rst C K' B' cov' i b A (((M.act (acN 2 (i:Int))).cF AA).cF (An m)):=by
 have hu:=h.up i t;have hr:=hk i t;have a2:=(hM.ab i t).ro;have u:=hM.act (x:=acN 2 (i:Int)) (by omega) (DC ⟨.inl rfl,by omega,by omega⟩);obtain⟨b,q,o⟩:=h.lead (by omega) t (by omega) ⟨a2.1,by omega⟩;obtain⟨σ,g,_⟩:=h.ex;have L:=AskI.step (Stp.lead (D:=whT) M i t hu trivial) g hA;have T:=StI.step (Stp.lead (D:=whT) M i t hu trivial) (λj f=>(hA j f).dn) hS;have a5:=gr.gt (h.acc t).1 q;have a6:b.key<=K1+9:=by
  have:=q.le;have:=h.le t;omega
 have a3:∀ j,j<5->((M.act (acN 2 (i:Int))).ab j).up=true:=by rw[IG hu];exact o.up
 rw[JU a3];rw[IG hu]at u ⊢
 have G:=Bg M i ((M.ab i).lead i) M.br M.eb;have S:∀ j,j≠i->((M.set i ((M.ab i).lead i) M.br M.eb).ab j)=M.ab j:=λj f=>by rw[Aj,if_neg f]
 have V:QA i b (M.set i ((M.ab i).lead i) M.br M.eb):=λj f c hx=>by
  refine absurd ?_ (show ¬ b.key<=max K (M.ab i).vo.p.key by have:=q.gt;omega);by_cases e:j=i
  .rw[e,G,q.ask.2.1]at hx
   have:=(hA i t).le c b hx;omega
  .rw[S j e]at hx
   have:=(hA j f).le c b hx;have:=h.le f;omega
 have F:∀ j,j<5->j≠i->((M.set i ((M.ab i).lead i) M.br M.eb).ab j).vo.p.key<b.key:=λj f e=>by
  rw[S j e];have:=h.le f;omega
 generalize M.set i ((M.ab i).lead i) M.br M.eb=N at o u G L T V F ⊢;rw[<- G]at q
 have o:=o.to (K':=b.key) (λj f=>by
  by_cases e:j=i
  .rw[e,q.vo];exact nf _
  .have:=F j f e;omega) (by omega)
 have E:∀ k,k<5->∀ s,s<40->(upN B i b k,s)∈cov++FD b:=λk hk s hs=>by
  unfold upN;split
  .exact nc _ (FE b hs)
  .exact nh _ (hc k hk s hs)
 have l:PhC C b.key (upN B i b) (cov++FD b) i b:=⟨E,hC,t,q.may,q.n,Dh _ _ _,rfl⟩;have y:14*b.key+38*((cov++FD b).length:Int)<=99000:=by
  have:(cov++FD b).length=cov.length+40:=by rw[E'];unfold FD;rw[nK,qD]
  omega
 obtain⟨vs,hq⟩:=q.pe;generalize cov++FD b=cov' at o E l y;generalize upN B i b=B' at o E l;generalize a0:b.key=K' at o l y F;have O:PhB C K' B' cov' i b N:=⟨o,L,q.vo⟩;obtain⟨p1,p2,p3,p4,p5,p6,p7⟩:=eH E y u (by omega) o t q.may a0 l.hB q.vo F hq q.p1;obtain⟨q1,q2,_,_⟩:=Rx l u (by omega) O V;have U:=DE (I:=λX=>PhB C K' B' cov' i b X/\∀ j,j<5->StI (X.ab j)) (λc X Y s g=>⟨g.1.step l s,StI.step s (λj f=>(g.1.ak j f).dn) g.2⟩) (λX g=>⟨⟨g.1.cm.drop,g.1.ak,g.1.vi⟩,g.2⟩);have H:∀ a X k,MOk k X->k+6*a<=1000000->PhB C K' B' cov' i b X->(∀ j,j<5->StI (X.ab j))->∀ j,j<5->StI ((X.cF (An a)).ab j):=λa X k h1 h2 h3 h4=>(U a h1 h2 ⟨h3,h4⟩).1.2;clear U;have s1:=H 1 N _ u (by omega) O T;rw[show An 1=Ao from rfl]at s1
 obtain⟨r1,r2,r3,r4⟩:=eI l p7 (by omega) q1 (λj f c e=>.inl (q2 j f c e)) p2 p3 p4 p5 p6;have s2:=H 1 _ _ p7 (by omega) q1 s1;rw[show An 1=Ao from rfl]at s2
 obtain⟨W,t1,t2,t3,t4,t5⟩:=iO l y R 81 r4 (by omega) r1 r2 r3 (by unfold mu;split<;>omega);have s3:=H W _ _ r4 (by omega) r1.pe.pb s2;obtain⟨r,rfl⟩:∃ r,m=1+(1+(W+(1+(1+r)))):=⟨m-W-4,by omega⟩;rw[Ez,At,Ez,At,Ez,At,Ez,At,Ez,At];simp only[show An 1=Ao from rfl];generalize (((N.cF Ao).cF Ao).cF (An W))=X at t2 t3 t4 t5 s3 ⊢;generalize (X.ab i).ae=A at t2;obtain⟨u1,u2⟩:=Ng l t5 (by omega) t3 t4;rw[t2.ag]at u2
 have v:=DE (I:=λY=>PhL C K' B' cov' i b Y/\Fin_ i A Y/\∀ j,j<5->StI (Y.ab j)) (λc Y Z s g=>⟨g.1.step l s,Fin_.step l s g.1.pe g.2.1,StI.step s (λj f=>(g.1.pe.pb.ak j f).dn) g.2.2⟩) (λY g=>⟨g.1.drop,g.2.1.drop,g.2.2⟩) 1 t5 (by omega) ⟨t3,t2,s3⟩;rw[show An 1=Ao from rfl]at v
 obtain⟨⟨v1,v2,v3⟩,v4⟩:=v;have w:Fz C K' B' cov' i b A (X.cF Ao):=⟨v1,v2,λj f=>v2.uf l v1.pe f (u2 j f),v3⟩;generalize X.cF Ao=Y at w v4 ⊢;have x:Rst C K' B' cov' i b A (Y.cF Ao):=by
  have hz:=DE (λc Y Z s g=>Fz.step l s g) (λY g=>Fz.drop g) 1 v4 (by omega) w;rw[show An 1=Ao from rfl]at hz
  refine⟨hz.1,λj f=>?_⟩;have a:=Bn (λc A N s g=>Fz.step l s.calm g) v4 (by omega) w;have d:=MN (J:=λZ=>(Z.ab j).done=A.length) (λc A N s g=>Fz.step l s.calm g) (λc A N s g d=>Pq l s.calm g f d) v4 (by omega) w f λZ _ _ _ g _=>Xh l R g f;rw[ES];obtain⟨Z,k1,k2,_⟩:=Cu (I:=λZ=>Fz C K' B' cov' i b A Z/\(Z.ab j).done=A.length) (λP Q s g=>⟨g.1.step l s.sL,Pq l s.sL g.1 f g.2⟩) a.1 ⟨a.2,d⟩;rw[k1];exact k2.2
 have a1:MOk (n+1+6+6+6*W+6*1+6*1) (Y.cF Ao):=(DE (λc Y Z s g=>Fz.step l s g) (λY g=>Fz.drop g) 1 v4 (by omega) w).2;exact⟨K',B',cov',b,A,l,(DE (λc Y Z s g=>Rst.step l s g) (λY g=>⟨g.z.drop,g.d⟩) r a1 (by omega) x).1⟩
end
section
def jz(l:List Int):Cmd:=⟨Ad (unQ l) 0,Ad (unQ l) 4,Ad (unQ l) 8,Ad (unQ l) 12,Ad (unQ l) 16⟩
variable{l:List Int}{now:Int}
theorem l7(h:opE l now=0):unE l=0:=by
 unfold opE at h;split at h
 .rename_i g;exact absurd h g
 .rename_i g;exact nk.1 g
theorem lX(h:unE l=0):(jz l).e=0:=by
 have:=(RP h).2;unfold Co at this;split at this
 .cases this
 .exact this
theorem Mn(h:opE l now=0):Ee l now=jz l:=by unfold Ee;rw[if_pos h];rfl
def Jl(L:List Lac):List Cmd:=(L.filter λx=>decide (x.k=1/\unE x.d=0)).map λx=>jz x.d
theorem fA{L:List Lac}{x:Lac}(c:x∈L)(b:x.k=1){a:Int}(h:opE x.d a=0):Ee x.d a∈Jl L:=by
 refine nF.2 ⟨x,pq.2 ⟨c,P' ⟨b,l7 h⟩⟩,?_⟩;unfold Ee;rw[if_pos h];rfl
theorem jC(L:List Lac):∀ c∈Jl L,c.e=0:=λc a=>by
 obtain⟨x,b,rfl⟩:=nF.1 a;exact lX (nT (pq.1 b).2).2
theorem Fk(L:List Lac)(e:∀ x∈L,LacOk x)(k:L.length<=100000):(∀ j,j<5->AskI ((Ag.cF L).ab j))/\∀ j,j<5->StI ((Ag.cF L).ab j):=by
 have s:Sts whT L.length Ag (Ag.cF L):=Cw L MOk.zero (by omega) λx i=>⟨e x i,Gd x⟩;exact(s.inv (I:=λM=>(∃ σ,AgI σ M)/\(∀ j,j<5->AskI (M.ab j))/\∀ j,j<5->StI (M.ab j)) (λc M N h ⟨⟨σ,g⟩,a,b⟩=>by
  obtain⟨τ,_,_,d,_⟩:=g.step h;exact⟨⟨τ,d⟩,AskI.step h g a,StI.step h (λj f=>(a j f).dn) b⟩) ⟨⟨_,AgI.zero⟩,AskI.zero,StI.zero⟩).2
theorem dZ(L M:List Lac):lds (L++M)=lds L+lds M:=by unfold lds;rw[oF]
theorem settled(L:List Lac)(v:∀ x∈L,LacOk x)(a2:9*lds L<=3480)(n:(Jl L).length<40)(hq:126*lds L+38*L.length<=85000)(m:Nat)(hm:85<=m)(hl:L.length+12*m<=99000){i:Nat}(O:i<5) :
  ∃ K B cov b A,PhC (Jl L) K B cov i b/\Rst (Jl L) K B cov i b A (Ag.cF (L++(Cb m (i:Int)++Cb m (i:Int)))):=by
 have C:∀ x∈Cb m (i:Int),LacOk x:=λx hx=>by
  rcases O'.1 hx with hx|hx
  .rcases O'.1 hx with hx|hx
   .exact PL 0 x hx
   .rw[D'.1 hx];exact DC ⟨.inl rfl,by omega,by omega⟩
  .exact PL m x hx
 have a0:(Cb m (i:Int)).length=6*m+11:=by
  have V:∀ m,(CT m).length=5+6*m:=λm=>by unfold CT;rw[E',FI];rfl
  unfold Cb;simp only[E',V,nH];omega
 have l:∀ x∈L++AA,LacOk x:=λx hx=>(O'.1 hx).elim (v x) λe=>PL 0 x (nh _ e);have a1:(L++AA).length=L.length+5:=by rw[E'];rfl
 have t:∀ j,j<5->((Ag.cF (L++AA)).ab j).up=true:=λj z=>by
  have:=j1 L v 0 (by omega) z
  rwa [show CT 0=AA from nA _]at this
 have Y:∀ x∈L++AA,x.k=1->∀ o:Nat,opE x.d (o:Int)=0->Ee x.d (o:Int)∈Jl L:=λx hx H o h=>by
  rcases O'.1 hx with e|e
  .exact fA e H h
  .obtain⟨k,_,rfl⟩:=nF.1 e;exact absurd H (by show(9:Int)≠1;decide)
 have g:=gX (S:=λc=>c∈Jl L) (L++AA) l (by omega) Y;obtain⟨τ,cov,_,J,u,w,y⟩:=Xa (L++AA) MOk.zero (by omega) l AgI.zero KbI.zero (cov:=[]) (λb s c h=>h.elim);rw[show lds (L++AA)=lds L by rw[dZ];rfl,Int.zero_add]at u
 have r:=Fl (L++AA) l (by omega);have F:Ag.cF (L++(Cb m (i:Int)++Cb m (i:Int)))=(((((((Ag.cF (L++AA)).act (acN 2 (i:Int))).cF AA).cF (An m)).cF AA).act (acN 2 (i:Int))).cF AA).cF (An m):=by
  have e:∀ X:Meet,X.cF (Cb m (i:Int))=(((X.cF AA).act (acN 2 (i:Int))).cF AA).cF (An m):=λX=>by
   unfold Cb;rw[At,show CT 0=AA from nA _,AM];unfold CT;rw[At]
  rw[At,At,e,e,At]
 rw[F];have G:((((Ag.cF (L++AA)).act (acN 2 (i:Int))).cF AA).cF (An m))=Ag.cF (L++Cb m (i:Int)):=by
  rw[At _ L (Cb m (i:Int)),At _ L AA];unfold Cb;rw[At,show CT 0=AA from nA _,AM];unfold CT;rw[At]
 have a:=Fk (L++Cb m (i:Int)) (λx hx=>(O'.1 hx).elim (v x) (C x)) (by rw[E'];omega);rw[<- G]at a
 clear F G;generalize Ag.cF (L++AA)=M at t g J u r a ⊢;obtain⟨q,f⟩:∃ q,cov++(FD (M.ab 0).bn.hZ++(FD (M.ab 1).bn.hZ++(FD (M.ab 2).bn.hZ++(FD (M.ab 3).bn.hZ++FD (M.ab 4).bn.hZ))))=q:=⟨_,rfl⟩;have I:q.length<=L.length+205:=by
  rw[<- f];simp only[E',FD,nK,qD];simp only[List.length_nil]at w;omega
 have Z:∀ j,j<5->∀ s,s<40->((M.ab j).bn.hZ,s)∈q:=λj z s n=>by
  rw[<- f];refine nc _ ?_;simp only[O'];rcases sc z with rfl|rfl|rfl|rfl|rfl
  .exact .inl (FE _ n)
  .exact .inr (.inl (FE _ n))
  .exact .inr (.inr (.inl (FE _ n)))
  .exact .inr (.inr (.inr (.inl (FE _ n))))
  .exact .inr (.inr (.inr (.inr (FE _ n))))
 have W:Cm (λc=>c∈Jl L) (9*(lds L:Int)) (λj=>(M.ab j).bn.hZ) q M:=⟨⟨τ,J,λb s c h=>by rw[<- f];exact nh _ (y b s c h)⟩,⟨by omega,u.mono (nf _) (by omega)⟩,t,λ_ _=>rfl,g⟩;obtain⟨K',B',E,k1,D,k3,k4,P,Q,R⟩:=kN r (m:=m) (by omega) (by omega) Z W u (nf _) (by omega) (by omega) O;generalize (((M.act (acN 2 (i:Int))).cF AA).cF (An m))=N at D P Q R a ⊢;rw[JU D.up];obtain⟨U,T,p,b,A,z1,z2⟩:=kO (jC L) n R hm (by omega) k3 D P Q (by omega) (by omega) (by omega) O a.1 a.2;exact⟨U,T,p,b,A,z1,z2⟩
theorem am{l A:List Cmd}(e:l.length<=A.length)(h:∀ (s:Nat) (c d:Cmd),l[s]?=some c->A[s]?=some d->c=d):l <+: A:=by
 refine List.prefix_iff_eq_take.2 (pz (by rw[j'];omega) λs a b=>?_);rw[List.getElem_take];exact h s _ _ (G' a) (G' (by omega))
end
section
variable{C:List Cmd}{K:Int}{B:Nat->Bal}{cov:List (Bal × Nat)}{i:Nat}{b:Bal}{A:List Cmd}
theorem Rst.log{N:Meet}(r:Rst C K B cov i b A N){j:Nat}(c:j<5):N.log j=A:=by unfold Meet.log;rw[r.z.a j c,r.d j c,oG]
theorem Rst.u4(m:PhC C K B cov i b){L R:List Lac}(k:∀ x∈L++R,LacOk x)(o:(L++R).length<=100000)(r:Rst C K B cov i b A (Ag.cF (L++R))){j:Nat}(n:j<5):(Ag.cF L).log j <+: A:=by
 refine(pB _ _).trans (am ?_ λs c d g h=>agree k o n m.hi g (by rw[r.z.f.ag];exact h));rw[E']at o
 have a:∀ x∈L,LacOk x:=λx e=>k x (nh _ e);have q:Sts whT L.length Ag (Ag.cF L):=Cw L MOk.zero (by omega) λx e=>⟨a x e,Gd x⟩;have t:Sts whT R.length (Ag.cF L) (Ag.cF (L++R)):=by
  rw[At];exact Cw R (Fl L a (by omega)) (by omega) λx e=>⟨k x (nc _ e),Gd x⟩
 obtain⟨σ,_,_,g,_⟩:=AgI.zero.steps q;obtain⟨τ,_,h,p,_⟩:=g.steps t;have:=((g.nd j n).ag.mono h).le (r.z.f.none m r.z.l.pe p) (nM _);omega
theorem Rst.au{N:Meet}(r:Rst C K B cov i b A N)(k:A.length<40){j:Nat}(e:j<5):(N.ab j).au=[]:=pO.2 λc h=>by
 have g:=(r.z.l.pe.pb.ak j e).un c h;rw[r.z.a j e,r.d j e,oG]at g
 exact g (r.z.f.qu k c (r.z.l.pe.qw j e c h))
end
section
theorem RF(L:List Lac):(Jl L).length<=L.countP λx=>decide (x.k=1):=by
 unfold Jl;rw[nK,<- rz];exact List.countP_mono_left λx _ h=>P' (nT h).1
theorem iP(L:List Lac):lds L<=L.length:=List.countP_le_length
variable{M N:Meet}{c:Cmd}{i k0 n:Nat}{l:List Cmd}{p:Nod}{x:Lac}{α:Type}{σ:Gs}
theorem fs(L:List Lac)(a:∀ x∈L,LacOk x)(g:L.length<=380)(h:L.countP (λx=>decide (x.k=1))<40){i:Nat}(c:i<5) :
  ∃ K B cov b A,PhC (Jl L) K B cov i b/\Rst (Jl L) K B cov i b A (Ag.cF (L++BY L (i:Int))):=by
 have d:=iP L;have e:(L.filter hvy).length<=L.length:=pX _ _;have f:=RF L;exact settled L a (by omega) (by omega) (by omega) (D9 L) (by unfold D9;omega) (by unfold D9;omega) c
theorem ZF{s:Nat}(h:p.pd s=some c):(∃ j,j<5/\∃ v∈(p.bn.an j).vs,v.bu=(s:Int)/\v.w=c)\/c∉p.ae:=by
 unfold Nod.pd at h;split at h
 .cases h
 .rename_i d
  have d:=nk.1 d;split at h
  .rename_i hF
   left;have f:Ea (p.bn.ia.map (·.vs)) (s:Int)=(El (p.bn.ia.map (·.vs)) (s:Int)).isSome:=if_pos d;have o:GB (p.bn.ia.map (·.vs)) (s:Int)=((El (p.bn.ia.map (·.vs)) (s:Int)).map (·.w)).getD ⟨0,0,0,0,0⟩:=if_pos d;have g:∀ l∈p.bn.ia.map (·.vs),∀ v∈l,Ai v:=by
    unfold Cc at d;split at d
    .cases d
    .split at d
     .assumption
     .cases d
   have n:∀ v∈Ae (p.bn.ia.map (·.vs)).flatten (s:Int),Ap v.b:=λv e=>by
    obtain⟨l,q,r⟩:=pl.1 (AN.1 e).1;exact(g l q v r).2.1.pr
   rcases Lt _ n with⟨h0,hO⟩|⟨x,hO,hx,_⟩
   .have hO:El (p.bn.ia.map (·.vs)) (s:Int)=none:=hO;rw[hO]at f;rw[f]at hF;cases hF
   .have hO:El (p.bn.ia.map (·.vs)) (s:Int)=some x:=hO;rw[hO]at o
    obtain⟨u,i⟩:=AN.1 hx;obtain⟨l,t,e⟩:=pl.1 u;obtain⟨a,m,rfl⟩:=nF.1 t;have k:x.w=c:=o.symm.trans (nX h);unfold Rnd.ia at m;simp only[nr,Q',or_false]at m;rcases m with rfl|rfl|rfl|rfl|rfl
    .exact⟨0,by decide,x,e,i,k⟩
    .exact⟨1,by decide,x,e,i,k⟩
    .exact⟨2,by decide,x,e,i,k⟩
    .exact⟨3,by decide,x,e,i,k⟩
    .exact⟨4,by decide,x,e,i,k⟩
  .exact .inr (by have:=sq h;simpa using this)
def NdW(σ:Gs):Prop:=∀ b s c,σ.W b s c->∃ l:List Cmd,l.length=s/\AgL σ l 0/\c∉l
theorem NdW.step{D:Wh}(h:AgI σ M)(k:NdW σ)(s:Stp D n M N):∃ τ,AgI τ N/\NdW τ:=by
 obtain⟨τ,w,d,r,t,u⟩:=h.ug s;refine⟨τ,r,λb s c g=>?_⟩;have a:∀ {b s c},σ.W b s c->∃ l:List Cmd,l.length=s/\AgL τ l 0/\c∉l:=λ{b s c} g=>by
  obtain⟨l,m,o,p⟩:=k b s c g;exact⟨l,m,o.mono d,p⟩
 rcases t b s c g with g2|e
 .exact a g2
 .obtain⟨_,_,i,hi,_,hu,rfl,hx⟩:=u b s e;rcases ZF (hx c g)with⟨j,hj,v,hv,hs,rfl⟩|hc
  .obtain⟨rs,q⟩:=(h.nd i hi).up hu;have f:=(h.gs.hv j v (q.rd.an j hj v hv).1).2;rw[hs,nS]at f
   exact a f
  .exact⟨_,rfl,(h.nd i hi).ag.mono d,hc⟩
theorem NdW.cF(L:List Lac)(a:∀ x∈L,LacOk x)(c:L.length<=100000):∃ σ,AgI σ (Ag.cF L)/\NdW σ:=by
 have s:Sts whT L.length Ag (Ag.cF L):=Cw L MOk.zero (by omega) λx b=>⟨a x b,Gd x⟩;exact s.inv (I:=λM=>∃ σ,AgI σ M/\NdW σ) (λ_ M N g ⟨σ,h,k⟩=>NdW.step h k g) ⟨_,AgI.zero,λ_ _ _ g=>g.elim⟩
theorem AgI.nodup(h:AgI σ M)(k:NdW σ){j:Nat}(r:j<5):(M.ab j).ae.Nodup:=by
 refine ou.2 λs t w y x e=>?_;have c:=(h.nd j r).ag;obtain⟨b,Q,E,d⟩:=c t _ (G' y);rw[nV]at d
 obtain⟨q,u,p,_⟩:=G8 Q Q (by omega) (by omega);obtain⟨v,g,z,F,A⟩:=d q u p;have f:=(h.gs.hv q v g).2;rw[z,nS]at f
 obtain⟨l,D,n,o⟩:=k _ _ _ f;have a:s<l.length:=by omega
 obtain⟨B,i⟩:=n s _ (G' a);obtain⟨C,m⟩:=c s _ (G' w);have:=h.gs.tj.agree i m;exact o (by rw[A,<- e,<- this];exact nU a)
theorem Ix{L:List Lac}(a:∀ x∈L,LacOk x)(c:L.length<=100000){j:Nat}(b:j<5):((Ag.cF L).ab j).ae.Nodup:=by
 obtain⟨σ,h,k⟩:=NdW.cF L a c;exact h.nodup k b
def whN:Wh:=⟨λ_ _=>False,True,False,True,True,False⟩
structure OnI(n:Nat)(c:Cmd)(M:Meet):Prop where
 w:∀ j,j<5->j≠n->(M.ab j).au=[]
 t:((M.ab n).au=[c]/\M.eb=[])\/((M.ab n).au=[]/\∃ k,k<(M.ab n).done/\(M.ab n).ae[k]?=some c/\M.eb=[⟨n,c.c,c.s,doC (Eg ((M.ab n).ae.take k)) c,doA (Eg ((M.ab n).ae.take k)) c⟩])
theorem OnI.lr(h:OnI n c M){i:Nat}(x:AskI (M.ab i)){p:Nod}(o:List Let)(l:p.au=(M.ab i).au/\p.cl=(M.ab i).cl/\p.done=(M.ab i).done\/p.au=(M.ab i).au/\p.done=(M.ab i).done)(m:(M.ab i).ae <+: p.ae):OnI n c (M.set i p o M.eb):=by
 have l:p.au=(M.ab i).au/\p.done=(M.ab i).done:=l.elim (λg=>⟨g.1,g.2.2⟩) id;have key:∀ j,((M.set i p o M.eb).ab j).au=(M.ab j).au:=λj=>by
  rw[Aj];split
  .rename_i e;rw[e];exact l.1
  .rfl
 refine⟨λj q u=>(key j).trans (h.w j q u),?_⟩;rw[key];rcases h.t with a|⟨a,k,b,d,f⟩
 .exact .inl a
 .refine .inr ⟨a,k,?_⟩;rw[Aj];split
  .rename_i e
   subst e;have s:=(V'.1 d).1;rw[l.2,MY m (by omega)];obtain⟨r,v⟩:=m;rw[<- v,ny s];exact⟨b,d,f⟩
  .exact⟨b,d,f⟩
theorem OnI.step(s:Stp whN k0 M N)(f:∀ j,j<5->AskI (M.ab j))(r:∀ j,j<5->StI (M.ab j))(h:OnI n c M):OnI n c N:=by
 cases s with
 | take _ l u hd hu ht=>exact h.lr (f _ hd.2) _ (.inl (GO (M.ab l.dst) l (f _ hd.2).qn).1) (Ev.take _ l).ag
 | br _ ls u hd=>exact⟨h.w,h.t⟩
 | one _ i d hi hu hc he =>
  have u:=(V'.1 hc).1;by_cases m:((M.ab i).cl d).isSome=true
  .have hm:=((f i hi).wa d).2 m;by_cases e:i=n
   .subst e;rcases h.t with⟨a,b⟩|⟨a,_⟩
    .rw[a]at hm
     obtain rfl:=D'.1 hm;refine⟨λj p o=>by rw[Aj,if_neg o];exact h.w j p o,.inr ?_⟩;rw[Bg];show _/\∃ k,_/\_/\(if((M.ab i).cl d).isSome=true then _ else _)=_;rw[if_pos m,b,r i hi];unfold Nod.fv;rw[if_pos m];exact⟨by show(M.ab i).au.erase d=[];rw[a];simp,(M.ab i).done,Nat.lt_succ_self _,hc,rfl⟩
    .rw[a]at hm;cases hm
   .rw[h.w i hi e]at hm;cases hm
  .rw[if_neg m];unfold Nod.fv;rw[if_neg m];have key:∀ j,((M.set i { M.ab i with ln:=doS (M.ab i).ln d,done:=(M.ab i).done+1 } M.br M.eb).ab j).au=(M.ab j).au:=λj=>by
    rw[Aj];split
    .rename_i e;rw[e]
    .rfl
   refine⟨λj p o=>(key j).trans (h.w j p o),?_⟩;rw[key];rcases h.t with a|⟨a,k,b,g⟩
   .exact .inl a
   .refine .inr ⟨a,k,?_⟩;rw[Aj];split
    .rename_i e
     subst e;exact⟨rQ b,g⟩
    .exact⟨b,g⟩
 | ask _ i hi hu =>
  refine h.lr (f i hi) _ (.inr ?_) (Ev.ib _ i).ag;unfold Nod.ib;split
  .exact⟨rfl,rfl⟩
  .split
   .unfold Nod.eo;split<;>exact⟨rfl,rfl⟩
   .exact⟨rfl,rfl⟩
 | prop _ i hi hu =>
  refine h.lr (f i hi) _ (.inl ?_) (Ev.dc _).ag;unfold Nod.dc;split
  .exact⟨rfl,rfl,rfl⟩
  .split
   .exact⟨rfl,rfl,rfl⟩
   .split
    .exact⟨rfl,rfl,rfl⟩
    .exact(BJ (M.ab i) _).1
 | sC _ i hi hu m hT=>exact h.lr (f i hi) _ (.inr ⟨rfl,rfl⟩) (ng _)
 | run _ i hi hu q l hp m =>
  refine h.lr (f i hi) _ (.inl ?_) ((Ev.ic _ i q).bw l).ag;show((M.ab i).ic i q).au=_/\((M.ab i).ic i q).cl=_/\((M.ab i).ic i q).done=_;cases q<;>first|exact⟨rfl,rfl,rfl⟩|(simp only[Nod.ic];split<;>exact⟨rfl,rfl,rfl⟩)|(simp only[Nod.ic,Nod.count];split<;>first|exact⟨rfl,rfl,rfl⟩|(split<;>exact⟨rfl,rfl,rfl⟩))
 | rN _ i hi hu hL=>exact h.lr (f i hi) _ (.inr ⟨rfl,rfl⟩) (ng _)
 | lead _ i hi hu hL =>
  refine h.lr (f i hi) _ (.inl ?_) ?_
  .unfold Nod.lead;simp only;split
   .exact⟨rfl,rfl,rfl⟩
   .exact(AL (M.ab i) _).1
  .unfold Nod.lead;simp only;split
   .exact ng _
   .exact(Ev.av (M.ab i) _).ag
 | sub _ i d hi hu hD=>exact False.elim hD
 | ie _ i x hi hu hk hC=>exact False.elim hC
 | start _ i hi hu m=>exact False.elim m
theorem OnI.cF(R:List Lac)(v:∀ x∈R,LacOk x/\x.k≠1/\x.k≠8){m:Nat}{M:Meet}(i:MOk m M)(E:m+R.length<=1000000)(p:∀ j,j<5->(M.ab j).up=true)(w:∃ σ,AgI σ M)(l:∀ j,j<5->AskI (M.ab j))(z:∀ j,j<5->StI (M.ab j))(h:OnI n c M) :
  OnI n c (M.cF R)/\(∀ j,j<5->AskI ((M.cF R).ab j))/\∀ j,((M.cF R).ab j).ub=(M.ab j).ub:=by
 induction R generalizing m M with
 | nil=>exact⟨h,l,λ_=>rfl⟩
 | cons x R ih =>
  have a:=v x M';have b:∀ y∈R,LacOk y/\y.k≠1/\y.k≠8:=λy t=>v y (I' _ t);rw[nQ]at E
  show OnI n c ((M.act x).cF R)/\_;by_cases f:x.k=9
  .have hi:x.n.toNat<5:=by have:=a.1.n (by rw[f];rfl);omega
   have e:M.act x=M:=by
    unfold Meet.act;simp only;rw[if_neg (by omega),if_neg (by omega),if_neg (by omega),if_neg (by omega),if_neg (by omega),if_neg (by omega),if_pos f,if_pos (p _ hi)];unfold Meet.set;have:upN M.ab x.n.toNat (M.ab x.n.toNat)=M.ab:=Ju _ _;rw[this]
   rw[show M.cF (x::R)=(M.act x).cF R from rfl,e];exact ih b i (by omega) p w l z h
  .have s:Sts whN [x].length M (M.cF [x]):=Cw [x] i (by simp;omega) λy t=>by
    rw[D'.1 t];exact⟨a.1,λe=>absurd e a.2.1,λ_=>trivial,λe=>absurd e a.2.2,λ_=>⟨trivial,trivial⟩,λe=>absurd e f⟩
   have key:=s.inv (I:=λN=>OnI n c N/\(∃ σ,AgI σ N)/\(∀ j,j<5->AskI (N.ab j))/\∀ j,j<5->StI (N.ab j)) (λ_ A B g ⟨F,⟨σ,C⟩,u,D⟩=>⟨F.step g u D,(by obtain⟨τ,_,_,q,_⟩:=C.step g;exact⟨τ,q⟩),AskI.step g C u,StI.step g (λj o=>(u j o).dn) D⟩) ⟨h,w,l,z⟩;have d:=XC M a.2.1 a.2.2 f;have r:∀ j,j<5->((M.act x).ab j).up=true:=λj o=>(congrArg Prod.fst (d j)).trans (p j o);obtain⟨G,H,J⟩:=ih b (i.act (by omega) a.1) (by omega) r key.2.1 key.2.2.1 key.2.2.2 key.1;exact⟨G,H,λj=>(J j).trans (d j)⟩
theorem Jh{P:Lac->Prop}(c:∀ n:Nat,n<5->P (acN 9 (n:Int)))(a:∀ n:Nat,n<5->P (acN 3 (n:Int)))(b:P (acN 7 0)){i:Int}(e:P (acN 2 i))(l:List Lac):∀ x∈BY l i,P x:=by
 have d:∀ m,∀ x∈Cb m i,P x:=λm x hx=>by
  rcases O'.1 hx with hx|hx
  .rcases O'.1 hx with hx|hx
   .exact Je c a b 0 x hx
   .rw[D'.1 hx];exact e
  .exact Je c a b m x hx
 intro x hx;exact(O'.1 hx).elim (d _ x) (d _ x)
theorem aT(l:List Lac)(i:Int):(BY l i).length<=1222+240*l.length:=by
 have b:(l.filter hvy).length<=l.length:=pX _ _;have a:∀ m,(CT m).length=5+6*m:=λm=>by unfold CT;rw[E',FI];rfl
 unfold BY Cb D9;simp only[E',a,nH];omega
def AR(n:Nat)(d:List Int):Lac:=⟨1,(n:Int),0,0,d⟩
theorem PS(b:n<5){d:List Int}(a:d.length<=2000):LacOk (AR n d):=by
 rw[<- DR];simp[AR,dX,Gn,It,Iu];omega
theorem ey(o:n<5)(hi:i<5){d:List Int}{c:Cmd}(V:opE d 0=0)(U:Ee d 0=c)(hd:d.length<=2000){N:Meet}(Z:Ag.cF ([AR n d]++BY [AR n d] (i:Int))=N) :
  (∀ j,j<5->(N.ab j).ae=[c]/\(N.ab j).done=1/\StI (N.ab j))/\(∀ j,(N.ab j).ub=(true,0))/\OnI n c N/\(N.ab n).au=[]:=by
 subst Z;have r:=PS o hd;have v:∀ y∈[AR n d],LacOk y:=λy R=>by rw[D'.1 R];exact r
 obtain⟨K,B,Y,b,A,hh,f⟩:=fs [AR n d] v (by simp) (by simp[AR]) hi;have W:∀ x∈BY [AR n d] (i:Int),LacOk x/\x.k≠1/\x.k≠8:=Jh (P:=λx=>LacOk x/\x.k≠1/\x.k≠8) (λm hm=>⟨DC ⟨.inr (.inr rfl),by omega,by omega⟩,by show(9:Int)≠1;decide,by show(9:Int)≠8;decide⟩) (λm hm=>⟨DC ⟨.inr (.inl rfl),by omega,by omega⟩,by show(3:Int)≠1;decide,by show(3:Int)≠8;decide⟩) ⟨by rw[<- DR];decide,by decide,by decide⟩ (i:=(i:Int)) ⟨DC ⟨.inl rfl,by omega,by omega⟩,by show(2:Int)≠1;decide,by show(2:Int)≠8;decide⟩ _;have D:=aT [AR n d] (i:Int);have O:∀ x∈[AR n d]++BY [AR n d] (i:Int),LacOk x:=λx r=>(O'.1 r).elim (v x) λe=>(W x e).1;have C:([AR n d]++BY [AR n d] (i:Int)).length<=100000:=by rw[E'];simp only[nH]at D ⊢;omega
 have T:Ag.cF [AR n d]=Ag.set n (Cz.want c) [] []:=by
  show Ag.act (AR n d)=_;unfold Meet.act AR;simp only[nS];rw[if_pos trivial];have:(Ag.ab n).sg n d Ag.eb=(Cz.want c,[]):=by
   show Cz.sg n d []=_;unfold Nod.sg Nod.sE;rw[if_neg (by decide),show((Cz.done:Nat):Int)=0 from rfl,if_neg (λg=>g V),U,if_neg (by show c∉([]:List Cmd).take 0;simp)]
  rw[this];rfl
 have L:=Fl [AR n d] v (by simp);have w:=Fk [AR n d] v (by simp);have J:∃ σ,AgI σ (Ag.cF [AR n d]):=by
  obtain⟨σ,h,_⟩:=NdW.cF [AR n d] v (by simp);exact⟨σ,h⟩
 have q:=λ{j:Nat} (p:j<5)=>Ix O C p;rw[At]at f q ⊢
 have E:∀ j,((Ag.cF [AR n d]).ab j).ub=(true,0):=λj=>by
  rw[T,Aj];split<;>rfl
 have M:OnI n c (Ag.cF [AR n d]):=by
  rw[T];refine⟨λj p o=>by rw[Aj,if_neg o];rfl,.inl ⟨?_,rfl⟩⟩;rw[Bg];rfl
 obtain⟨S,q2,X⟩:=OnI.cF _ W L (by simp only[nH]at D ⊢;omega) (λj p=>congrArg Prod.fst (E j)) J w.1 w.2 M;generalize (Ag.cF [AR n d]).cF (BY [AR n d] (i:Int))=N at f q S q2 X ⊢;have F:∀ x∈A,x=c:=λx r=>by
  have:=(f.z.l.pe.pb.cm.s.nd n o).ag x (by rw[f.z.a n o];exact r);obtain⟨y,R,rfl⟩:=nF.1 this;rw[D'.1 (pq.1 R).1,<- U,Mn V];rfl
 have H:A.Nodup:=by have:=q o;rwa [f.z.a n o]at this
 have G:A.length<=1:=IH H (m:=[c]) λx r=>by rw[F x r];exact D'.2 rfl
 have Q:=f.au (by omega) o;have I:c∈A:=by
  rcases S.t with⟨a,_⟩|⟨_,a⟩
  .rw[a]at Q;cases Q
  .obtain⟨k,_,a,_⟩:=a;rw[f.z.a n o]at a
   exact nD a
 have u:A=[c]:=by
  match A,G,I with
  | [x],_,h=>rw[D'.1 h]
 exact⟨λj p=>⟨(f.z.a j p).trans u,by rw[f.d j p,u];rfl,f.z.s j p⟩,λj=>(X j).trans (E j),S,Q⟩
theorem ZM(g:n<5){c:Cmd}{N:Meet}(e:∀ j,j<5->(N.ab j).ae=[c]/\(N.ab j).done=1/\StI (N.ab j))(f:OnI n c N)(d:(N.ab n).au=[]):N.eb=[⟨n,c.c,c.s,doC AG c,doA AG c⟩]:=by
 rcases f.t with⟨a,_⟩|⟨_,k,b,_,t⟩
 .rw[a]at d;cases d
 .rw[(e n g).2.1]at b
  obtain rfl:k=0:=by omega
  exact t
def whS:Wh:=⟨λ_ _=>True,True,False,True,True,False⟩
def RY(n:Nat)(c:Cmd)(ts:List Tol):Prop:=∃ t∈ts,t.n=n/\t.c=c.c/\t.s=c.s
def SvI(n:Nat)(c:Cmd)(M:Meet):Prop:=(M.ab n).up=true/\(c∈(M.ab n).au\/c∈(M.ab n).ae.take (M.ab n).done/\RY n c M.eb)
theorem iV{l m:List α}{k a:Nat}(h:l <+: m)(d:k<=a){c:α}(b:c∈l.take k):c∈m.take a :=
 (List.prefix_take_iff.2 ⟨(pB _ _).trans h,by rw[j'];omega⟩).subset b
theorem SvI.step(s:Stp whS k0 M N)(y:∀ j,j<5->AskI (M.ab j))(h:SvI n c M):SvI n c N:=by
 obtain⟨a,h⟩:=h;have put:∀ {i:Nat} {p:Nod} (b:List Let) {m:List Tol},(∀ t∈M.eb,t∈m)->(p.up=(M.ab i).up)->(M.ab i).done<=p.done->(M.ab i).ae <+: p.ae->(i=n->c∈(M.ab i).au->c∈p.au\/c∈p.ae.take p.done/\RY n c m)->SvI n c (M.set i p b m):=λ{i p} b {m} u A B C D=>by
  unfold SvI;rw[Aj];split
  .rename_i e
   subst e;refine⟨A.trans a,?_⟩;rcases h with h|⟨g1,t,g2,g3⟩
   .exact D rfl h
   .exact .inr ⟨iV C B g1,t,u t g2,g3⟩
  .refine⟨a,?_⟩;rcases h with h|⟨g1,t,g2,g3⟩
   .exact .inl h
   .exact .inr ⟨g1,t,u t g2,g3⟩
 have k:∀ {i:Nat} {p:Nod} (b:List Let),Ev (M.ab i) p->p.au=(M.ab i).au/\p.done=(M.ab i).done->SvI n c (M.set i p b M.eb):=λ{i p} b e w=>put b (λ_ h=>h) e.up (Nat.le_of_eq w.2.symm) e.ag λ_ g=>.inl (by rw[w.1];exact g);cases s with
 | take _ l hl hd hu z =>
  have:=(GO (M.ab l.dst) l (y _ hd.2).qn).1;exact k _ (Ev.take _ l) ⟨this.1,this.2.2⟩
 | br _ b hl hd=>exact⟨a,h⟩
 | one _ i d hi hu hc he =>
  have z:(M.ab i).ae.take ((M.ab i).done+1)=(M.ab i).ae.take (M.ab i).done++[d]:=by rw[oX,hc];rfl
  have o:=congrArg Prod.fst (OW { M.ab i with ln:=doS (M.ab i).ln d,done:=(M.ab i).done+1 } d);refine put M.br (λt h=>?_) o ?_ ?_ λe g=>?_
  .split
   .exact nh _ h
   .exact h
  .unfold Nod.fv;split<;>exact oh _
  .unfold Nod.fv;split<;>exact ng _
  .by_cases e2:c=d
   .subst e2;have f:=((y i hi).wa c).1 g;right;rw[if_pos f];unfold Nod.fv;rw[if_pos f];exact⟨by show c∈(M.ab i).ae.take ((M.ab i).done+1);rw[z];exact nc _ (D'.2 rfl),_,nc _ (D'.2 rfl),e,rfl,rfl⟩
   .left;unfold Nod.fv;split
    .exact(rp e2).2 g
    .exact g
 | ask _ i hi hu =>
  refine k _ (Ev.ib _ i) ?_;unfold Nod.ib;split
  .exact⟨rfl,rfl⟩
  .split
   .unfold Nod.eo;split<;>exact⟨rfl,rfl⟩
   .exact⟨rfl,rfl⟩
 | prop _ i hi hu =>
  refine k _ (Ev.dc _) ?_;unfold Nod.dc;split
  .exact⟨rfl,rfl⟩
  .split
   .exact⟨rfl,rfl⟩
   .split
    .exact⟨rfl,rfl⟩
    .exact(BJ (M.ab i) _).1.imp_right And.right
 | sC _ i hi hu f hT=>exact put _ (λ_ h=>h) rfl (A' _) (ng _) λ_ g=>.inl g
 | run _ i hi hu q l hp f =>
  refine k _ ((Ev.ic _ i q).bw l) ?_;show((M.ab i).ic i q).au=_/\((M.ab i).ic i q).done=_;cases q<;>first|exact⟨rfl,rfl⟩|(simp only[Nod.ic];split<;>exact⟨rfl,rfl⟩)|(simp only[Nod.ic,Nod.count];split<;>first|exact⟨rfl,rfl⟩|(split<;>exact⟨rfl,rfl⟩))
 | rN _ i hi hu hL=>exact put _ (λ_ h=>h) rfl (A' _) (ng _) λ_ g=>.inl g
 | lead _ i hi hu hL =>
  have e:=AL (M.ab i) ⟨max (M.ab i).ed (M.ab i).vo.p.r+1,(i:Int)⟩;have v:=Ev.av (M.ab i) ⟨max (M.ab i).ed (M.ab i).vo.p.r+1,(i:Int)⟩;refine put _ (λ_ h=>h) (congrArg Prod.fst (P4 (M.ab i) i)) ?_ ?_ λ_ g=>.inl ?_
  .unfold Nod.lead;simp only;split
   .exact A' _
   .exact Nat.le_of_eq e.1.2.2.symm
  .unfold Nod.lead;simp only;split
   .exact ng _
   .exact v.ag
  .unfold Nod.lead;simp only;split
   .exact g
   .show c∈(Nod.av _ _).1.au;rw[e.1.1];exact g
 | sub _ i d hi hu hD =>
  unfold Nod.sg Nod.sE;split
  .exact put _ (λ_ h=>h) rfl (A' _) (ng _) λ_ g=>.inl g
  .split
   .exact put _ (λ_ h=>h) rfl (A' _) (ng _) λ_ g=>.inl g
   .split
    .exact put _ (λ_ h=>nh _ h) rfl (A' _) (ng _) λ_ g=>.inl g
    .refine put _ (λ_ h=>h) ?_ ?_ ?_ λ_ g=>.inl ?_
     .unfold Nod.want;split<;>rfl
     .unfold Nod.want;split<;>exact A' _
     .unfold Nod.want;split<;>exact ng _
     .unfold Nod.want;split
      .exact g
      .exact nh _ g
 | ie _ i x hi hu hk hC=>exact False.elim hC
 | start _ i hi hu f=>exact False.elim f
theorem SvI.act(D:n<5){c:Cmd}{P:List Lac}(b:∀ x∈P,LacOk x)(C:P.length<100000){x:Lac}(l:LacOk x)(u:¬ (x.k=8/\x.n=(n:Int)))(h:SvI n c (Ag.cF P)):SvI n c (Ag.cF (P++[x])):=by
 rw[At];have same:∀ {N:Meet},N.ab n=(Ag.cF P).ab n->N.eb=(Ag.cF P).eb->SvI n c N:=λr t=>by unfold SvI at h ⊢;rw[r,t];exact h
 have f:=(Fk P b (by omega)).1;have d:=Fl P b (by omega);obtain⟨σ,i,_⟩:=NdW.cF P b (by omega);generalize Ag.cF P=M at h f d i same ⊢;by_cases a:x.k=8
 .have hne:x.n≠(n:Int):=λe=>u ⟨a,e⟩;have v:=l.n (by rw[a];rfl);have e:M.cF [x]=M.set x.n.toNat (if(M.ab x.n.toNat).up then(M.ab x.n.toNat).ie x.p else M.ab x.n.toNat) M.br M.eb:=by
   show M.act x=_;unfold Meet.act;simp only;rw[if_neg (by omega),if_neg (by omega),if_neg (by omega),if_neg (by omega),if_neg (by omega),if_pos a]
  rw[e];exact same (by rw[Aj,if_neg (by omega)]) rfl
 .by_cases k9:x.k=9
  .have e:M.cF [x]=M.set x.n.toNat (if(M.ab x.n.toNat).up then M.ab x.n.toNat else(M.ab x.n.toNat).start) M.br M.eb:=by
    show M.act x=_;unfold Meet.act;simp only;rw[if_neg (by omega),if_neg (by omega),if_neg (by omega),if_neg (by omega),if_neg (by omega),if_neg (by omega),if_pos k9]
   rw[e];refine same ?_ rfl;rw[Aj];split
   .rename_i g;rw[<- g,if_pos h.1]
   .rfl
  .have s:Sts whS [x].length M (M.cF [x]):=Cw [x] d (by simp;omega) λy w=>by
    rw[D'.1 w];exact⟨l,λ_=>trivial,λ_=>trivial,λe=>absurd e a,λ_=>⟨trivial,trivial⟩,λe=>absurd e k9⟩
   exact(s.inv (I:=λN=>SvI n c N/\(∃ σ,AgI σ N)/\∀ j,j<5->AskI (N.ab j)) (λ_ A B g ⟨z,⟨σ,m⟩,o⟩=>⟨z.step g o,(by obtain⟨τ,_,_,q,_⟩:=m.step g;exact⟨τ,q⟩),AskI.step g m o⟩) ⟨h,⟨σ,i⟩,f⟩).1
theorem SvI.cF(f:n<5){c:Cmd}{P:List Lac}(R:List Lac)(a:∀ x∈P++R,LacOk x)(b:(P++R).length<=100000)(e:∀ x∈R,¬ (x.k=8/\x.n=(n:Int)))(h:SvI n c (Ag.cF P)):SvI n c (Ag.cF (P++R)):=by
 induction R generalizing P with
 | nil=>rwa [nA]
 | cons x R ih =>
  rw[show P++x::R=P++[x]++R by simp]at a b ⊢
  rw[E',E']at b
  simp only[nH]at b;refine ih (P:=P++[x]) a (by rw[E',E'];simp only[nH];omega) (λy d=>e y (I' _ d)) ?_;exact h.act f (λy d=>a y (nh _ (nh _ d))) (by omega) (a x (nh _ (nc _ (D'.2 rfl)))) (e x M')
theorem SvI.sub(b:x.k=1)(i:x.n=(n:Int))(a:(M.ab n).up=true)(e:AskI (M.ab n))(h:opE x.d ((M.ab n).done:Int)=0){c:Cmd}(f:Ee x.d ((M.ab n).done:Int)=c):SvI n c (M.act x):=by
 unfold Meet.act;simp only;rw[if_pos b,i,nS];unfold SvI;rw[Bg];unfold Nod.sg Nod.sE;rw[if_neg (by rw[a];decide),if_neg (λg=>g h),f];split
 .rename_i g
  exact⟨a,.inr ⟨g,_,nc _ (D'.2 rfl),rfl,rfl,rfl⟩⟩
 .refine⟨by unfold Nod.want;split<;>exact a,.inl ?_⟩;unfold Nod.want;split
  .rename_i g;exact(e.wa c).2 g
  .exact nc _ (D'.2 rfl)
def mo:Wh:=⟨λ_ _=>False,True,True,True,True,True⟩
def twM(M:Meet):Nat:=M.eb.length+ww M
theorem fJ(s:Stp mo k0 M N)(f:∀ j,j<5->AskI (M.ab j)):twM N<=twM M:=by
 have put:∀ {i:Nat} {p:Nod} (b:List Let) {e:List Tol},i<5->e.length+p.au.length<=M.eb.length+(M.ab i).au.length->twM (M.set i p b e)<=twM M:=λ{i p} b {e} a h=>by
  have k:=Qg M a p b e;have m:=cG M a;show e.length+ww (M.set i p b e)<=M.eb.length+ww M;omega
 have lr:∀ {i:Nat} {p:Nod} (b:List Let),i<5->p.au=(M.ab i).au->twM (M.set i p b M.eb)<=twM M:=λ{i p} b a h=>put b a (by rw[h];exact A' _);cases s with
 | take _ l hl hd hu ht=>exact lr _ hd.2 (GO (M.ab l.dst) l (f _ hd.2).qn).1.1
 | br _ b hl hd=>exact A' _
 | one _ i d a hu hc he =>
  by_cases c:((M.ab i).cl d).isSome=true
  .refine put _ a ?_;rw[if_pos c];unfold Nod.fv;rw[if_pos c];have g:=((f i a).wa d).2 c;have k:=qi g;have m:=qy g;show(M.eb++[_]).length+((M.ab i).au.erase d).length<=_;rw[E',nH];omega
  .refine put _ a ?_;rw[if_neg c];unfold Nod.fv;rw[if_neg c];exact A' _
 | ask _ i a hu =>
  refine lr _ a ?_;unfold Nod.ib;split
  .rfl
  .split
   .unfold Nod.eo;split<;>rfl
   .rfl
 | prop _ i a hu =>
  refine lr _ a ?_;unfold Nod.dc;split
  .rfl
  .split
   .rfl
   .split
    .rfl
    .exact(BJ (M.ab i) _).1.1
 | sC _ i a hu c hT=>exact lr _ a rfl
 | run _ i a hu q l hp c =>
  refine lr _ a ?_;show((M.ab i).ic i q).au=_;cases q<;>first|rfl|(simp only[Nod.ic];split<;>rfl)|(simp only[Nod.ic,Nod.count];split<;>first|rfl|(split<;>rfl))
 | rN _ i a hu hL=>exact lr _ a rfl
 | lead _ i a hu hL =>
  refine lr _ a ?_;unfold Nod.lead;simp only;split
  .rfl
  .exact(AL (M.ab i) _).1.1
 | sub _ i d a hu hD=>exact False.elim hD
 | ie _ i x a hu hk hC =>
  unfold Nod.ie;split
  .exact lr _ a rfl
  .exact put _ a (by show M.eb.length+0<=_;omega)
 | start _ i a hu c =>
  unfold Nod.start;split
  .exact lr _ a rfl
  .split<;>exact put _ a (by show M.eb.length+0<=_;omega)
theorem fI(L:List Lac)(o:∀ x∈L,LacOk x)(F:L.length<=100000):twM (Ag.cF L)<=L.countP λx=>decide (x.k=1):=by
 suffices ∀ i,i<=L.length->twM (Ag.cF (L.take i))<=(L.take i).countP λx=>decide (x.k=1)by have:=this L.length (A' _);rwa [oG]at this
 intro i;induction i with
 | zero=>intro _;exact nM _
 | succ i h =>
  intro E;obtain⟨x,u⟩:∃ x,L[i]?=some x:=⟨_,G' (by omega)⟩;have c:=o x (nD u);have l:∀ y∈L.take i,LacOk y:=λy m=>o y (nB m);have a:(L.take i).length<=100000:=by rw[j'];omega
  have r:=(Fk (L.take i) l a).1;have p:=Fl (L.take i) l a;obtain⟨σ,t,_⟩:=NdW.cF (L.take i) l a;have h:=h (by omega);rw[oX,u];show twM (Ag.cF (L.take i++[x]))<=(L.take i++[x]).countP _;rw[At,oF];generalize Ag.cF (L.take i)=M at h r p t ⊢;by_cases f:x.k=1
  .have hn:=c.n (by rw[f];rfl);have e:[x].countP (λx=>decide (x.k=1))=1:=by simp[f]
   rw[e];refine na ?_ (Nat.add_le_add_right h 1);show twM (M.act x)<=_;unfold Meet.act;simp only;rw[if_pos f];have b:x.n.toNat<5:=by omega
   generalize x.n.toNat=n at b;have C:=Qg M b ((M.ab n).sg n x.d M.eb).1 M.br ((M.ab n).sg n x.d M.eb).2;show((M.ab n).sg n x.d M.eb).2.length+ww (M.set n _ _ _)<=M.eb.length+ww M+1;have key:((M.ab n).sg n x.d M.eb).2.length+((M.ab n).sg n x.d M.eb).1.au.length<=M.eb.length+(M.ab n).au.length+1:=by
    unfold Nod.sg Nod.sE;split
    .exact oh _
    .split
     .exact oh _
     .split
      .show(M.eb++[_]).length+(M.ab n).au.length<=_;rw[E',nH];omega
      .unfold Nod.want;split
       .exact oh _
       .show M.eb.length+((M.ab n).au++[_]).length<=_;rw[E',nH];omega
   have D:=cG M b;omega
  .have s:Sts mo [x].length M (M.cF [x]):=Cw [x] p (by simp;omega) λy m=>by
    rw[D'.1 m];exact⟨c,λe=>absurd e f,λ_=>trivial,λ_=>trivial,λ_=>⟨trivial,trivial⟩,λ_=>trivial⟩
   have:=(s.inv (I:=λN=>twM N<=twM M/\(∃ σ,AgI σ N)/\∀ j,j<5->AskI (N.ab j)) (λ_ A B g ⟨z,⟨σ,v⟩,w⟩=>⟨na (fJ g w) z,(by obtain⟨τ,_,_,q,_⟩:=v.step g;exact⟨τ,q⟩),AskI.step g v w⟩) ⟨A' _,⟨σ,t⟩,r⟩).1;omega
theorem VZ(k:c.k≠0)(s:0<=c.s):dnS AG c=Mj AG c:=by
 unfold dnS;rw[if_pos ⟨k,by show ¬ c.s<0;omega,rfl⟩]
theorem jJ{A:List α}{c d:α}(b:A.Nodup)(a:∀ x∈A,x=c\/x=d)(m:c∈A)(n:d∈A)(h:c≠d):A=[c,d]\/A=[d,c]:=by
 match A,b,a,m,n with
 | [x],_,_,e,f=>exact absurd ((D'.1 e).trans (D'.1 f).symm) h
 | [x,y],b,a,_,_ =>
  have e:=a x (by simp);have f:=a y (by simp);have g:x≠y:=by simp at b;exact b
  rcases e with rfl|rfl<;>rcases f with rfl|rfl
  .exact absurd rfl g
  .exact .inl rfl
  .exact .inr rfl
  .exact absurd rfl g
 | x::y::z::l,b,a,_,_ =>
  have e:=a x (by simp);have f:=a y (by simp);have g:=a z (by simp);simp at b;obtain⟨⟨i,j,_⟩,⟨k,_⟩,_⟩:=b;rcases e with rfl|rfl<;>rcases f with rfl|rfl<;>rcases g with rfl|rfl<;>first|exact absurd rfl i|exact absurd rfl j|exact absurd rfl k
def RX(σ:Gs)(t:Tol):Prop:=∃ (l:List Cmd) (c:Cmd),AgL σ l 0/\(AgL σ (l++[c]) 0\/c∈l)/\t.c=c.c/\t.s=c.s/\t.e=doC (Eg l) c/\t.a=doA (Eg l) c
theorem RX.mono{τ:Gs}(h:σ.le τ){t:Tol}(g:RX σ t):RX τ t:=by
 obtain⟨l,c,a,b,d⟩:=g;exact⟨l,c,a.mono h,b.imp (λq=>q.mono h) id,d⟩
theorem AgL.take(h:AgL σ l 0)(k:Nat):AgL σ (l.take k) 0:=λs c e=>by
 rw[oD]at e
 split at e
 .exact h s c e
 .cases e
theorem bR(s:Stp whT k0 M N)(h:AgI σ M)(b:∀ j,j<5->StI (M.ab j)):∀ t∈N.eb,t∈M.eb\/RX σ t:=by
 cases s with
 | one _ i d hi hu hc he =>
  intro t a;have a:t∈(if((M.ab i).cl d).isSome=true then M.eb++[⟨i,d.c,d.s,doC (M.ab i).ln d,doA (M.ab i).ln d⟩]else M.eb):=a;split at a
  .rcases O'.1 a with g|g
   .exact .inl g
   .rw[D'.1 g];have e:(M.ab i).ae.take ((M.ab i).done+1)=(M.ab i).ae.take (M.ab i).done++[d]:=by rw[oX,hc];rfl
    refine .inr ⟨(M.ab i).ae.take (M.ab i).done,d,(h.nd i hi).ag.take _,.inl (by rw[<- e];exact(h.nd i hi).ag.take _),rfl,rfl,?_,?_⟩
    .show doC (M.ab i).ln d=_;rw[b i hi]
    .show doA (M.ab i).ln d=_;rw[b i hi]
  .exact .inl a
 | sub _ i d hi hu hD =>
  intro t a;have a:t∈((M.ab i).sg i d M.eb).2:=a;unfold Nod.sg Nod.sE at a;split at a
  .exact .inl a
  .split at a
   .exact .inl a
   .split at a
    .rename_i hm
     rcases O'.1 a with g|g
     .exact .inl g
     .rw[D'.1 g];refine .inr ⟨(M.ab i).ae.take (M.ab i).done,Ee d ((M.ab i).done:Int),(h.nd i hi).ag.take _,.inr hm,rfl,rfl,?_,?_⟩
      .show doC (M.ab i).ln _=_;rw[b i hi]
      .show doA (M.ab i).ln _=_;rw[b i hi]
    .exact .inl a
 | _=>exact λt a=>.inl a
theorem bQ(L:List Lac)(i:∀ x∈L,LacOk x)(m:L.length<=100000):∃ σ,AgI σ (Ag.cF L)/\∀ t∈(Ag.cF L).eb,RX σ t:=by
 have s:Sts whT L.length Ag (Ag.cF L):=Cw L MOk.zero (by omega) λx b=>⟨i x b,Gd x⟩;exact(s.inv (I:=λM=>(∃ σ,AgI σ M/\∀ t∈M.eb,RX σ t)/\(∀ j,j<5->AskI (M.ab j))/\∀ j,j<5->StI (M.ab j)) (λ_ A B g ⟨⟨σ,c,l⟩,e,f⟩=>by
  obtain⟨τ,_,d,h,_⟩:=c.step g;exact⟨⟨τ,h,λt a=>(bR g c f t a).elim (λq=>(l t q).mono d) λq=>q.mono d⟩,AskI.step g c e,StI.step g (λj k=>(e j k).dn) f⟩) ⟨⟨_,AgI.zero,λt a=>by cases a⟩,AskI.zero,(Fk [] (λx b=>by cases b) (nM _)).2⟩).1
theorem AgL.pre(g:GsI σ){l A:List Cmd}(h:AgL σ l 0)(k:AgL σ A 0)(i:l.length<=A.length):l <+: A:=am i λs c d e f=>by
 obtain⟨j,a⟩:=h s c e;obtain⟨m,b⟩:=k s d f;exact g.tj.agree a b
end
end
section
open Go.RowKit
variable{f:Nat->Cmd}{n:Nat}
end
section
section
variable{A:List Cmd}{c:Cmd}{i n:Nat}
theorem aN{f:Nat->Cmd}(a:∀ i c,A[i]?=some c->f i=c){n:Nat}(b:n<=A.length):Eg (A.take n)=sAt f n:=by
 induction n with
 | zero=>rfl
 | succ n ih =>
  have h:=G' (l:=A) (i:=n) (by omega);rw[oX,h];show Eg (A.take n++[A[n]])=_;rw[OR,ih (by omega),sAt,a n _ h]
theorem Rst.uJ{C:List Cmd}{K:Int}{B:Nat->Bal}{d:List (Bal × Nat)}{b:Bal}(o:PhC C K B d i b){N:Meet}(r:Rst C K B d i b A N){σ:Gs}(h:AgI σ N){t:Tol}(g:RX σ t) :
  ∃ (l:List Cmd) (c:Cmd),l <+: A/\(l++[c] <+: A\/c∈l)/\t.c=c.c/\t.s=c.s/\t.e=doC (Eg l) c/\t.a=doA (Eg l) c:=by
 have n:AgL σ A 0:=by have:=(h.nd 0 (by omega)).ag;rwa [r.z.a 0 (by omega)]at this
 have pre:∀ {l:List Cmd},AgL σ l 0->l <+: A:=λ{l} q=>q.pre h.gs n (by
  have:=q.le (r.z.f.none o r.z.l.pe h) (nM _);omega)
 obtain⟨l,c,j,k,m⟩:=g;exact⟨l,c,pre j,k.imp (λq=>pre q) id,m⟩
theorem VC(R:List Lac)(M:Meet):∃ us,(M.cF R).eb=M.eb++us:=by
 induction R generalizing M with
 | nil=>exact⟨[],(nA _).symm⟩
 | cons x R ih =>
  obtain⟨us,a,_⟩:=VA M x;obtain⟨c,b⟩:=ih (M.act x);exact⟨us++c,by show((M.act x).cF R).eb=_;rw[b,a,nm]⟩
theorem Ye(p:Lac->Bool)(d:∀ n:Nat,p (acN 9 (n:Int))=false)(b:∀ n:Nat,p (acN 3 (n:Int))=false)(c:p (acN 7 0)=false)(l:List Lac)(i:Int):(BY l i).countP p=2*if p (acN 2 i)then 1 else 0:=by
 have a:∀ m,(CT m).countP p=0:=λm=>List.countP_eq_zero.2 (Je (P:=λx=>¬ p x=true) (λn _=>by rw[d];decide) (λn _=>by rw[b];decide) (by rw[c];decide) m);have e:∀ m,(Cb m i).countP p=if p (acN 2 i)then 1 else 0:=λm=>by
  unfold Cb;rw[oF,oF,a,a,qZ,nV,pD]
 unfold BY;rw[oF,e];omega
theorem OO(l:List Lac)(i:Int):(BY l i).length=12*D9 l+22:=by
 have a:∀ m,(CT m).length=5+6*m:=λm=>by unfold CT;rw[E',FI];rfl
 unfold BY Cb;simp only[E',a,nH];omega
theorem Vg(e:c.c=2)(f:c.k≠0):Eg [⟨3,1,0,2,0⟩,c]=Eg [⟨3,1,0,2,0⟩]/\(Eg [⟨3,1,0,2,0⟩]).R 2=true/\(Eg [⟨3,1,0,2,0⟩]).L 2=0:=by
 have b:Eg [⟨3,1,0,2,0⟩]=Mj AG ⟨3,1,0,2,0⟩:=VZ (c:=⟨3,1,0,2,0⟩) (by decide) (by decide);have a:(Mj AG ⟨3,1,0,2,0⟩).R 2=true:=rfl;have d:Eg [⟨3,1,0,2,0⟩,c]=dnS (Eg [⟨3,1,0,2,0⟩]) c:=rfl;rw[d,b];refine⟨?_,a,rfl⟩;unfold dnS;rw[e,if_neg (λg=>by rw[show(2:Int).toNat=2 from rfl,a]at g;cases g.2.2)]
theorem aE(n:c.e=0)(f:c.c=2)(o:c.k≠0){l:List Cmd}(b:l <+: [⟨3,1,0,2,0⟩,c])(h:l++[c] <+: [⟨3,1,0,2,0⟩,c]\/c∈l):doC (Eg l) c=11:=by
 have j:c≠⟨3,1,0,2,0⟩:=λe=>by rw[e]at f;exact absurd f (by decide)
 have w:0<=c.s:=by
  have:=(I3 n).2;unfold InC at this;omega
 obtain⟨u,v,s3⟩:=Vg f o;have m:Eg l=Eg [⟨3,1,0,2,0⟩]:=by
  match l,b,h with
  | [],_,h=>exact absurd (h.elim (λg=>(List.prefix_cons_iff.1 g).elim (λe=>by cases e) λ⟨t,e,_⟩=>by cases e;rfl) λg=>by cases g) j
  | [a],b,_ =>
   obtain⟨t,e⟩:=b;cases e;rfl
  | [a,d],b,_ =>
   obtain⟨t,e⟩:=b;cases e;exact u
  | a::d::x::r,b,_=>exact absurd b.length_le (by simp)
 have i:∀ x∈[(⟨3,1,0,2,0⟩:Cmd)],x.e=0:=λx q=>by rw[D'.1 q];decide
 have p:doE (Eg [⟨3,1,0,2,0⟩]) c=0:=(Lb (MO _ i)).trans n;rw[m,Pr p];unfold dnC;rw[if_neg o,f,show(2:Int).toNat=2 from rfl,s3,if_neg (by omega),if_neg (by omega),if_pos v]
theorem OI:doC AG ⟨3,1,0,2,0⟩=0/\doA AG ⟨3,1,0,2,0⟩=0:=by
 have a:doE AG ⟨3,1,0,2,0⟩=0:=(Lb (MO [] λx b=>by cases b)).trans (by decide);rw[Pr a,S9 a];exact⟨by decide,by decide⟩
theorem eY(q:n<5)(hi:i<5){J F:List Int}{c:Cmd}(lx:J.length<=2000)(ly:F.length<=2000)(ox:opE J 0=0)(cx:Ee J 0=⟨3,1,0,2,0⟩)(oy:opE F 1=0)(cy:Ee F 1=c)(X:c.c=2)(hk:c.k≠0)(he:c.e=0){E f:List Lac}(V:[AR n J]++BY [AR n J] (i:Int)=E)(M:E++[AR n F]=f){N:Meet}(T:Ag.cF (f++BY f (i:Int))=N) :
  f.length<=1464/\(∀ x∈E,LacOk x)/\(∀ x∈f++BY f (i:Int),LacOk x)/\(f++BY f (i:Int)).length<=100000/\(∀ j,j<5->N.log j=[⟨3,1,0,2,0⟩,c])/\∃ t u:Tol,N.eb=[t,u]/\t.e=0/\t.a=0/\u.e=11:=by
 have hq:∀ l,∀ x∈BY l (i:Int),LacOk x/\x.k≠1/\x.k≠8:=λl=>Jh (P:=λx=>LacOk x/\x.k≠1/\x.k≠8) (λm hm=>⟨DC ⟨.inr (.inr rfl),by omega,by omega⟩,by show(9:Int)≠1;decide,by show(9:Int)≠8;decide⟩) (λm hm=>⟨DC ⟨.inr (.inl rfl),by omega,by omega⟩,by show(3:Int)≠1;decide,by show(3:Int)≠8;decide⟩) ⟨by rw[<- DR];decide,by decide,by decide⟩ (i:=(i:Int)) ⟨DC ⟨.inl rfl,by omega,by omega⟩,by show(2:Int)≠1;decide,by show(2:Int)≠8;decide⟩ l;have Q:∀ x∈E,LacOk x:=λx r=>by
  rw[<- V]at r
  rcases O'.1 r with e|e
  .rw[D'.1 e];exact PS q lx
  .exact(hq _ x e).1
 have W:∀ x∈f,LacOk x:=λx r=>by
  rw[<- M]at r
  rcases O'.1 r with e|e
  .exact Q x e
  .rw[D'.1 e];exact PS q ly
 have v:∀ x∈f++BY f (i:Int),LacOk x:=λx r=>(O'.1 r).elim (W x) λe=>(hq _ x e).1;have I:∀ p:Lac->Bool,(∀ m:Nat,p (acN 9 (m:Int))=false)->(∀ m:Nat,p (acN 3 (m:Int))=false)->p (acN 7 0)=false->f.countP p=(if p (AR n J)then 1 else 0)+(2*if p (acN 2 (i:Int))then 1 else 0)+if p (AR n F)then 1 else 0:=λp a b d=>by
  rw[<- M,<- V,oF,oF,Ye p a b d,qZ,qZ]
 have c1:f.countP (λx=>decide (x.k=1))=2:=I _ (λ_=>rfl) (λ_=>rfl) rfl;have c2:lds f=2:=I _ (λ_=>rfl) (λ_=>rfl) rfl;have c3:f.countP hvy=4:=I _ (λ_=>rfl) (λ_=>rfl) rfl;have m2:D9 f=180:=by unfold D9;rw[<- rz,c3]
 have m1:D9 [AR n J]=120:=rfl;have l2:f.length=1464:=by rw[<- M,<- V,E',E',OO,m1];rfl
 have o:(f++BY f (i:Int)).length<=100000:=by rw[E',OO,m2,l2];decide
 obtain⟨a1,a2,a3,a4⟩:=ey q hi ox cx lx (N:=Ag.cF E) (by rw[V]);have t1:=ZM q a1 a3 a4;have b0:=Fk E Q (by rw[<- M,E',nH]at l2;omega);have s1:SvI n c (Ag.cF f):=by
  have hd:(((Ag.cF E).ab n).done:Int)=1:=by rw[(a1 n q).2.1];rfl
  rw[<- M,At];exact SvI.sub (x:=AR n F) rfl rfl (congrArg Prod.fst (a2 n)) (b0.1 n q) (by rw[hd];exact oy) (by rw[hd];exact cy)
 have s2:=s1.cF q (BY f (i:Int)) v o λx r g=>(hq _ x r).2.2 g.1;obtain⟨us,C⟩:=VC ([AR n F]++BY f (i:Int)) (Ag.cF E);have e2:f++BY f (i:Int)=E++([AR n F]++BY f (i:Int)):=by rw[<- M,nm]
 rw[<- At,<- e2,t1,T]at C
 have tw:=fI _ v o;rw[oF,c1,List.countP_eq_zero.2 (λx r=>by have:=(hq _ x r).2.1;simpa using this),T]at tw
 have b5:=RF f;obtain⟨K,B,a9,b,A,hh,w⟩:=settled f W (by omega) (by omega) (by omega) (D9 f) (by omega) (by omega) hi;have w:Rst (Jl f) K B a9 i b A N:=T▸w;have D:[⟨3,1,0,2,0⟩] <+: A:=by
  have:=Rst.u4 hh (L:=E) (R:=[AR n F]++BY f (i:Int)) (by rw[<- e2];exact v) (by rw[<- e2];exact o) (by rw[<- e2,T];exact w) q;unfold Meet.log at this
  rwa [(a1 n q).1,(a1 n q).2.1]at this
 have G:=Ix v o q;rw[T]at G s2
 rw[w.z.a n q]at G
 have H:∀ x∈A,x∈Jl f:=λx r=>(w.z.l.pe.pb.cm.s.nd n q).ag x (by rw[w.z.a n q];exact r);have b4:=IH G H;have hA:∀ x∈A,x=⟨3,1,0,2,0⟩\/x=c:=λx r=>by
  obtain⟨y,hy,rfl⟩:=nF.1 (H x r);have a7:=(pq.1 hy).1;have b3:=(nT (pq.1 hy).2).1;rw[<- M,<- V]at a7
  rcases O'.1 a7 with e|e
  .rcases O'.1 e with e|e
   .left;rw[D'.1 e,<- cx,Mn ox];rfl
   .exact absurd b3 (hq _ y e).2.1
  .right;rw[D'.1 e,<- cy,Mn oy];rfl
 have Y:c∈A/\RY n c N.eb:=by
  rcases s2.2 with g|⟨S,U⟩
  .rw[w.au (by omega) q]at g;cases g
  .rw[w.z.a n q,w.d n q,oG]at S
   exact⟨S,U⟩
 have a0:(⟨3,1,0,2,0⟩:Cmd)≠c:=λe=>by rw[<- e]at X;exact absurd X (by decide)
 have O:A=[⟨3,1,0,2,0⟩,c]:=by
  rcases jJ G hA (D.subset (D'.2 rfl)) Y.1 a0 with e|e
  .exact e
  .rw[e]at D
   obtain⟨t,g⟩:=D;cases g;exact absurd rfl a0
 refine⟨by omega,Q,v,o,λj hj=>(w.log hj).trans O,?_⟩;obtain⟨t,ht,_,tc,_⟩:=Y.2;have b2:us.length<=1:=by
  unfold twM at tw;rw[C,E',nH]at tw
  omega
 have b1:t∈us:=by
  rw[C]at ht
  rcases O'.1 ht with e|e
  .rw[D'.1 e]at tc
   exact absurd (tc.trans X) (by show ¬ ((1:Int)=2);decide)
  .exact e
 have a6:us=[t]:=by
  match us,b2,b1 with
  | [x],_,h=>rw[D'.1 h]
 rw[a6]at C
 obtain⟨σ,a8,a5⟩:=bQ _ v o;rw[T]at a8 a5
 obtain⟨l,d,S,U,g3,g4,g5,_⟩:=w.uJ hh a8 (a5 t ht);have hd:d∈A:=U.elim (λg=>g.subset (nc _ (D'.2 rfl))) λg=>S.subset g;have Z:d=c:=(hA d hd).resolve_left λe=>by
  rw[e]at g3
  exact absurd ((g3.symm.trans tc).trans X) (by decide)
 rw[Z,O]at U
 rw[O]at S
 exact⟨_,t,C,OI.1,OI.2,by rw[g5,Z];exact aE he X hk S U⟩
end
end
section
open Go.RowKit
section
variable{f:Nat->Cmd}{g:Gh}{n:Nat}{w:World}
theorem Sl.uh(w:World)(l:List Int)(e:TypeId){g:Nat}(b:g=w.heap.size){n:Nat}(f:n=l.length)(d:l.length<=140737488351232)(a:∀ x∈l,0<=x/\x<256) :
  Sl (w.alloc (.cells (l.map (Value.int .u8)).toArray e)) (.slice (some ⟨g,0,none⟩) n n) l:=by
 subst b f;refine⟨⟨_,_,rfl,A' _,by simp,?_⟩,d,a⟩;refine .inr ⟨w.heap.size,0,rfl,by simp,λi c=>?_⟩;rw[cell_of_row _ _ (0+i) _ _ _ (heap_alloc_new w (.cells (l.map (Value.int .u8)).toArray e))];simp[List.getElem?_eq_getElem c,List.getD]
def zEn:Value:=.agg #[.int .i64 0,.int .i64 0,.int .i64 0,.int .i64 0,.int .i64 0,.int .i64 0,.int .i64 0,.slice none 0 0]
def tlA(s:Sto)(a:Option Addr)(n c:Nat):Array Value:=(stA s).push (.slice a n c)
theorem KE(c a:Int)(w:World)(G:0<=c)(H:c<2147483648)(a0:0<=a)(F:a<2147483648) :
  Calls prog 67 #[.agg #[.int .i64 c,.int .i64 a]] w λe w'=>∃ v',e=.returned v'/\w'.ownsRow w.heap.size 5 1 v' (Ab c++Ab a).length ((Ab c++Ab a).map (Value.int .u8))/\Bw w w':=by
 obtain⟨d,rfl⟩:=nR G;obtain⟨f,rfl⟩:=nR a0;have u:Bw w (w.alloc (.cells #[.int .i64 (d:Int),.int .i64 (f:Int)] 48)):=(Below.refl _ _).alloc (A' _) _;have s:=heap_alloc_new w (.cells #[.int .i64 (d:Int),.int .i64 (f:Int)] 48);generalize J:w.alloc (.cells #[.int .i64 (d:Int),.int .i64 (f:Int)] 48)=W at u s;have M:W.cell? ⟨w.heap.size,0,none⟩=some (.int .i64 (d:Int)):=cell_of_row _ _ 0 _ _ _ s;have N:W.cell? ⟨w.heap.size,1,none⟩=some (.int .i64 (f:Int)):=cell_of_row _ _ 1 _ _ _ s;have R:w.heap.size<=W.heap.size:=u.size;go_enter func67,ntmps67
 go_wp2_with fail
 clear J M N s
 go_loopw [3,11] (λv iv wr=>∃ i:Nat,i<=2/\iv=.int .i64 (i:Int)/\Hid (wr.ownsRow w.heap.size 5 1 v (([Ab (d:Int),Ab (f:Int)].take i).flatten).length ((([Ab (d:Int),Ab (f:Int)].take i).flatten).map (Value.int .u8)))/\Bw w wr) (λ_ iv _=>(2-intOf iv).toNat)
 case atStart=>exact⟨0,by omega,rfl,World.ownsRow_nil _ _ _ _,u⟩
 case round =>
  obtain⟨i,Q,rfl,h,g⟩:=hrel;have b:=h.out;clear h;have l:=b.lt;have A:=g.size;by_cases P:i<2
  .have hm:∃ m:Nat,(m:Int)<2147483648/\(∀ W,(Instr.index 191 (.agg #[.int .i64 (d:Int),.int .i64 (f:Int)]) (.int .i64 (i:Int))).run prog W=.ok (.int .i64 (m:Int)) W)/\([Ab (d:Int),Ab (f:Int)].take (i+1)).flatten=([Ab (d:Int),Ab (f:Int)].take i).flatten++Ab (m:Int):=by
    rcases(by omega:i=0\/i=1)with rfl|rfl
    .exact⟨d,H,λW=>by kernel_rfl,by simp⟩
    .exact⟨f,F,λW=>by kernel_rfl,by simp⟩
   obtain⟨m,L,z,o⟩:=hm;have B:Hid _:=o;have q:(([Ab (d:Int),Ab (f:Int)].take i).flatten).length<=8:=by
    rcases(by omega:i=0\/i=1)with rfl|rfl<;>simp[Ab]
   clear o;have I:(i:Int)<2:=by omega
   generalize ([Ab (d:Int),Ab (f:Int)].take i).flatten=pre at b B q;have D:(m:Int)/16777216%256=(m:Int)/16777216:=by omega
   have C:Hid ([(m:Int)/16777216,(m:Int)/65536%256,(m:Int)/256%256,(m:Int)%256]=Ab (m:Int)):=by
    show _=[_,_,_,_];rw[D]
   have n:∀ x∈[(m:Int)/16777216,(m:Int)/65536%256,(m:Int)/256%256,(m:Int)%256],0<=x/\x<256:=by rw[C.out];exact Ax _
   have t:Hid _:=n
   clear n D;go_wp2_with (at_builtin;refine Aa _ rfl _ _ 26 rfl w.heap.size 5 underlying26 Ay _ _ rfl rfl pre [(m:Int)/16777216,(m:Int)/65536%256,(m:Int)/256%256,(m:Int)%256] (b.alloc _) (Sl.uh _ _ _ rfl rfl (by simp) t.out) (by simp;omega) (by simp;omega) ?_)
   intro O E r p;have y:Bw w E:=(g.alloc A _).grown p (by simp;omega) (λk K=>(l k K).1);have j:Hid (E.ownsRow w.heap.size 5 1 O (([Ab (d:Int),Ab (f:Int)].take (i+1)).flatten).length ((([Ab (d:Int),Ab (f:Int)].take (i+1)).flatten).map (Value.int .u8))):=by
    unfold Hid;rw[B.out,<- C.out];simpa using r
   clear r p b l g z;go_wp2
   go_roundw
   case rel=>exact⟨i+1,by omega,by go_num,j,y⟩
   case measure=>simp[intOf];omega
  .obtain rfl:i=2:=by omega
   have j:Hid (wr.ownsRow w.heap.size 5 1 u3 (Ab (d:Int)++Ab (f:Int)).length ((Ab (d:Int)++Ab (f:Int)).map (Value.int .u8))):=by
    unfold Hid;simpa using b
   clear b l;go_wp2
   go_ret;exact⟨_,rfl,j.out,g⟩
theorem cA(a0:Option Addr)(c0:Nat)(d:List Int)(k c q n v C A:Int)(w:World)(hS:Sl w (.slice a0 32 c0) d)(hl:d.length=32)(he:Bh k c q n v=0)(C0:0<=C)(C1:C<2147483648)(A0:0<=A)(A1:A<2147483648)(hT:AD w)(hN:NTab w) :
  Calls prog 37 #[.slice a0 32 c0,.agg #[.int .i64 k,.int .i64 c,.int .i64 q,.int .i64 n,.int .i64 v],.agg #[.int .i64 C,.int .i64 A]] w λe w'=>∃ g cap,e=.returned (.tuple #[.slice (some ⟨g,0,none⟩) 32 cap,.int .i64 0])/\w.heap.size<=g/\So w' g cap (lnk d ⟨k,c,q,n,v⟩ C A)/\Bw w w':=by
 have W:Hid (d.length=32):=hl;clear hl;have a8:=hT;have a7:=hN;obtain⟨K,J⟩:∃ K,(w.alloc (.cells #[.int .i64 k,.int .i64 c,.int .i64 q,.int .i64 n,.int .i64 v] 24)).alloc (.cells #[.int .i64 C,.int .i64 A] 48)=K:=⟨_,rfl⟩;have o:K.heap[w.heap.size]?=some (.cells #[.int .i64 k,.int .i64 c,.int .i64 q,.int .i64 n,.int .i64 v] 24):=by rw[<- J];exact MU _ _ _
 have s:K.heap[w.heap.size+1]?=some (.cells #[.int .i64 C,.int .i64 A] 48):=by rw[<- J];exact MV _ _ _
 have P:Bw w K:=by rw[<- J];exact OT _ _ _
 have r:w.heap.size<K.heap.size:=(U'.1 o).1;have p:(w.heap.size+1)<K.heap.size:=(U'.1 s).1;have M:=hT.af P;have E:=hN.af P;have z:=hS.af P;go_enter func37,ntmps37
 go_wp2_with ((with_reducible (refine Eh ?_));(refine wpList_load_row rfl 24 _ rfl w.heap.size rfl 24 _ (0,0) _ o underlying24 rfl U6 ?_))
 clear J;have key:=LI k c q n v K E;rw[he,Pt he]at key
 simp only[cmA]at key;refine(key).mono ?_;rintro e w1 ⟨v1,rfl,U,b⟩;have s1:=Sl.mv U (by rw[BF];omega) (Fq _ _ _ _ _);rw[BF]at U
 obtain⟨g1,c1,rfl⟩:=CE U;clear U key;have d1:=P.trans (b.mono P.size);have F:=M.af b;have G:=E.af b;have t:=(b.block _ r).trans o;have i:=X' r b.size;have m:=(b.block _ p).trans s;have f:=X' p b.size;have B:=z.af b;clear M E r o p s z;clear b;go_wp2_with ((with_reducible (refine Eh ?_));(refine wpList_load_row rfl 48 _ rfl (w.heap.size+1) rfl 48 _ (0,0) _ m underlying48 rfl ig ?_))
 refine(KE C A w1 C0 C1 A0 A1).mono ?_;rintro e w2 ⟨v2,rfl,S,a⟩;have s2:=Sl.mv S (by simp[Ab]) (λx hx=>by rcases O'.1 hx with h|h;(· exact Ax _ x h);exact Ax _ x h);replace S:w2.ownsRow _ 5 1 v2 8 _:=S;obtain⟨g2,c2,rfl⟩:=CE S;clear S;have d2:=d1.trans (a.mono d1.size);have H:=F.af a;have I:=G.af a;have y:=(a.block _ i).trans t;have l:=X' i a.size;have u:=(a.block _ f).trans m;have j:=X' f a.size;have D:=B.af a;have N:=s1.af a;clear F G i t f m B s1;clear a;go_wp2_with fail
 refine(da _ _ _ d (CR k c q n v) (Ab C++Ab A) w2 _ _ rfl D N s2 (by rw[W.out];omega) (by rw[BF];omega) (by simp[Ab]) (by rw[W.out];omega)).mono ?_;rintro e w3 ⟨v3,rfl,V,L⟩;have T:(d++(CR k c q n v++(Ab C++Ab A))).length=60:=by rw[E',W.out,E',BF];rfl
 have s3:=Sl.mv V (by rw[T];omega) (λx hx=>by rcases O'.1 hx with h|h;(· exact D.byte x h);rcases O'.1 h with h|h;(· exact Fq _ _ _ _ _ x h);rcases O'.1 h with h|h;(· exact Ax _ x h);exact Ax _ x h);rw[T]at V
 obtain⟨g3,c3,rfl⟩:=CE V;clear V;have Y:=d2.trans (L.mono d2.size);have O:=H.af L;have a6:=I.af L;have a5:=(L.block _ l).trans y;have a3:=X' l L.size;have a4:=(L.block _ j).trans u;have a2:=X' j L.size;clear H I l y j u;clear L;have R:(d++(CR k c q n v++(Ab C++Ab A))).length<=2000:=by rw[T];omega
 clear T;go_wp2_with fail
 refine(fB _ (d++(CR k c q n v++(Ab C++Ab A))) w3 s3 R O).mono ?_;rintro e w4 ⟨v4,rfl,o4,b4⟩;obtain⟨Z,c4,rfl,Q,s4⟩:=So.mv o4 (Au _) (Dx _);have dd:=Y.trans (b4.mono Y.size);have a1:w.heap.size<=Z:=na Y.size Q;have X:Hid (So w4 Z c4 (lnk d ⟨k,c,q,n,v⟩ C A)):=s4;clear s4 s3 b4 Q R o4;go_wp2
 go_ret2
 exact⟨Z,c4,rfl,a1,X.out,dd⟩
structure En where
 m:Cmd
 c:Int
 a:Int
 y:S3
 g:List Int
def enV(e:En):List Value:=[iv e.m.k,iv e.m.c,iv e.m.s,iv e.m.n,iv e.m.v,iv e.c,iv e.a,e.y.v]
def enL(E:List En):List Value:=E.flatMap enV
theorem Y3(E:List En)(e:En):enL (E++[e])=enL E++enV e:=by simp[enL]
def Qh(g:Gh)(w:World)(E:List En):Prop:=∀ e∈E,FSl g w e.y e.g
variable{E:List En}
theorem Qh.ch{B:Nat}{T:List Tg}{a:Gh}{b:World}(h:Qh g w E)(c:Cg B T g w a b)(e:Tg.z∉T:=by simp):Qh a b E:=λp d=>(h p d).ch c e
def Fa.oe(r:Nat)(x:S3)(E:List En):Fa:=⟨some r,λg w=>OwnS g w (.n 60 r) true 75 8 x (enL E)/\Qh g w E,λhz hr c h=>⟨h.1.ch c (hr r rfl) (by simp),h.2.ch c hz⟩⟩
def Fa.sm(E:List En):Fa:=⟨none,λg w=>Qh g w E,λhz _ c h=>h.ch c hz⟩
theorem Qh.snoc(h:Qh g w E){e:En}(k:FSl g w e.y e.g):Qh g w (E++[e]):=λp a=>(O'.1 a).elim (h p) λq=>by rw[D'.1 q];exact k
def chQ(f:Nat->Cmd)(n:Nat)(E:List En):Prop:=E.map (λe=>(e.m,e.c,e.a,e.g))=(List.range n).map λi=>(f i,cAt f i,aAt f i,gAt f (i+1))
theorem chQ.len(h:chQ f n E):E.length=n:=by have:=congrArg List.length h;simpa using this
theorem chQ.snoc(h:chQ f n E)(y:S3):chQ f (n+1) (E++[⟨f n,cAt f n,aAt f n,y,gAt f (n+1)⟩]):=by
 unfold chQ;rw[nL,h,px,nL];rfl
structure EnN(B:Nat)(w:World)(x:S3)(E:List En):Prop where
 o:OwN B w 75 8 x (enL E)
 d:∀ e∈E,Sl w e.y.v e.g/\Nb B e.y e.g
end
section
variable{P:Program}{fn:Func}{R:Ending->World->Prop}{w0:World}{Φ:List Fa}{g:Gh}{w:World}
theorem tMk{s:Xs}(i r c:Nat)(t e:TypeId)(j a:Nat)(z:Value)(Q:a*c<=281474976710656)(B:c<=maxLen)(K:Φ.all (λf=>f.ro != some r)=true)
  (J:∀ x' g' w',x'.n=0->GT P fn R w0 (Fa.ow r e j x' []::Φ) (nxt s i (S3.v x') s.L).s g' w')
  (M:P.underlying t=some (.slice e):=by kernel_rfl)(d:(P.info? e).map (λi=>(i.zero,i.size,i.bytes))=some (some z,j,a):=by kernel_rfl)
  (b:D3 s i=some (Instr.makeSlice t (.int .i64 0) (.int .i64 (c:Int))>>=λv=>pure (.value v)):=by kernel_rfl)(q:(nxt s i undef s.L).o.map Ob.l'=(nxt s i undef s.L).o.map Ob.r':=by kernel_rfl):GT P fn R w0 Φ s g w:=by
 refine⟨λF C=>KK i s.L q (BW b) λA O S o u=>?_⟩;obtain⟨y,I,N,x,p⟩:=info_parts d;have l:(c:Int)<=9223372036854775807:=by have h:=B;simp[maxLen]at h;omega
 have D:=run_make (P:=P) w t e y z M I N .i64 .i64 0 (c:Int) (nf _) (by omega) (by rw[p];have:((a*c:Nat):Int)<=281474976710656:=(by omega);rwa [rA]at this) l;simp only[Int.toNat_zero,nS,x]at D;have E:Bw w (w.alloc (.cells (madeCells z.cells (c*j)) e)):=(Below.refl _ _).alloc (A' _) _;have H:OwN w.heap.size (w.alloc (.cells (madeCells z.cells (c*j)) e)) e j ⟨some ⟨w.heap.size,0,none⟩,0,c⟩ []:=⟨by simp,.inr ⟨w.heap.size,_,A' _,rfl,heap_alloc_new _ _,nM _,B,size_madeCells _ _,by simp⟩⟩;obtain⟨g',k,G,m,_⟩:=H.take E A.new r;refine⟨_,_,g',.inl ?_,A.ch (k w.heap.size) G (by simp),(J ⟨some ⟨w.heap.size,0,none⟩,0,c⟩ g' _ rfl).ex ⟨m,F.sF (k w0.heap.size)⟩ (C.trans ((k _).nil TQ))⟩;rw[D4 b u,Sem.run_bind,D,Result.andThen_ok];rfl
theorem qE6{B:Nat}{T:List Tg}{s:Xs}(u p m:Tmp)(c:TypeId)(i b:Nat)(a:Array Value)(v q:Value)(h:Kn B g w s.L->R (.returned (.tuple #[v,.agg a,q])) w)(H:(s.L[i]?).map (λx=>(x.g,CQ x.o,Ef x.o))=some (b,a,true):=by kernel_rfl)(A:fn.results=#[.tmp u,.cell p c,.tmp m]:=by kernel_rfl)(D:s.f.act.tmps.getD p undef=pt b 0:=by kernel_rfl)(G:s.f.act.tmps.getD u undef=v:=by kernel_rfl)(k:s.f.act.tmps.getD m undef=q:=by kernel_rfl)(F:Gl P c=true:=by kernel_rfl)(C:(P.info? c).map (·.size)=some a.size:=by kernel_rfl)(E:LJ s.K=true:=by kernel_rfl):GG P fn R B T s g w :=
 SP _ E (λK=>by
  obtain⟨e,y⟩:=K.tY H;obtain⟨d,r,t⟩:=GI F;have j:s.f.act.tmps[p]?.getD undef=.pointer (some ⟨b,0,none⟩):=by simpa using D
  rw[<- G,<- k];simp[results,A,j,asAddr,run_loadVar_row w b e c a (0,0) d y r (by cases d<;>first|rfl|cases t) C]) h
end
section
variable{A C K a c k n v:Int}{W w:World}{a0:Option Addr}{b c0:Nat}{m:Cmd}{s:Sto}{sum:List Int}
theorem jO(f:NTab w)(i:Fj s)(h:m.e=0){S:Sto}{C A:Int}(g:dnS s m=S)(d:dnC s m=C)(b:dnA s m=A) :
  Calls prog 36 #[.agg (stA s),.agg #[iv m.k,iv m.c,iv m.s,iv m.n,iv m.v]] w λe w'=>e=.returned (.tuple #[.agg (stA S),.agg #[iv C,iv A],iv 0])/\Bw w w':=by
 subst g d b;have a:doE s m=0:=(Lb i).trans h;have:=gO s m w f
 rwa [a,Ps a,Pr a,S9 a]at this
theorem fW(l:Sl w (.slice a0 32 c0) sum)(r:sum.length=32)(q:m.e=0)(i:(C=0\/C=7\/C=11)/\VaB A)(o:AD w)(j:NTab w) :
  Calls prog 37 #[.slice a0 32 c0,.agg #[iv m.k,iv m.c,iv m.s,iv m.n,iv m.v],.agg #[iv C,iv A]] w λe w'=>∃ za zc,e=.returned (.tuple #[.slice za 32 zc,iv 0])/\Sl w' (.slice za 32 zc) (lnk sum m C A)/\(∀ a,za=some a->w.heap.size<=a.block)/\Bw w w':=by
 unfold VaB at i;refine(cA a0 c0 sum m.k m.c m.s m.n m.v C A w l r q (by omega) (by omega) (by omega) (by omega) o j).mono ?_;rintro e w' ⟨g,b,rfl,d,f,h⟩;exact⟨_,_,rfl,f.sl,λa p=>by cases p;exact d,h⟩
theorem aX(h:w.heap[b]?=some (.cells (List.replicate 32 (Value.int .u8 0)).toArray 5)):Sl w (.slice (some ⟨b,0,none⟩) 32 32) (List.replicate 32 0):=by
 refine⟨⟨_,_,rfl,A' _,λe=>(by cases e),.inr ⟨b,0,rfl,rl h,λi a=>?_⟩⟩,by simp,λx c=>?_⟩
 .rw[cell_of_row _ _ _ _ _ _ h];have a:i<32:=by simpa using a
  simp only[ol,nV,List.getElem?_replicate,if_pos a,nP,rh]
 .obtain rfl:=qh c;omega
theorem XM(w:World) :
  Calls prog 20 #[] w λe w'=>∃ za zc,e=.returned (.agg (tlA AG za 32 zc))/\Sl w' (.slice za 32 zc) (List.replicate 32 0)/\(∀ a,za=some a->w.heap.size<=a.block)/\Bw w w':=by
 refine tIn [] func20 trivial (tR 10 [1,0,1,0,0,0] λb _ _=>tX λF C=>Af λK=>?_);obtain⟨c,_,d,_⟩:=K.row _ (nD (show _[1]?=some ⟨(b 1),.cells (List.replicate 32 (Value.int .u8 0)).toArray 5,.l,true⟩from by kernel_rfl));exact qE1 0 72 0 (b 0) (tlA AG (some ⟨(b 1),0,none⟩) 32 32) λ_=>⟨_,_,rfl,aX c,λa f=>by cases f;exact d rfl,CgQ.af C⟩
theorem Wu(x:Sl w (.slice a0 32 c0) sum)(z:sum.length=32)(r:Fj s)(f:AnB s)(i:m.e=0)(y:AD w)(q:NTab w){S:Sto}{K A:Int}(d:dnS s m=S)(p:dnC s m=K)(l:dnA s m=A) :
  Calls prog 21 #[.agg (tlA s a0 32 c0),.agg #[iv m.k,iv m.c,iv m.s,iv m.n,iv m.v]] w λe w'=>∃ za zc,e=.returned (.tuple #[.agg #[iv m.k,iv m.c,iv m.s,iv m.n,iv m.v,iv K,iv A,.slice za 32 zc],.agg (tlA S za 32 zc),iv 0])/\Sl w' (.slice za 32 zc) (lnk sum m K A)/\(∀ a,za=some a->w.heap.size<=a.block)/\Bw w w':=by
 have o:=ky r f i;rw[p,l]at o
 refine tIn [] func21 trivial (tR 13 [0,0,0,0,1,0,1,0,0,1] λb _ _=>tC1 3 (λF C=>jO (q.af (CgQ.af C)) r i d p l) λ_=>tR 24 [1,0,1,0,4,0,5,0,0,1,5] λD _ _=>tF λ_ j=>tC 4 (λF C=>fW (x.af (CgQ.af C)) z i o (y.af (CgQ.af C)) (q.af (CgQ.af C))) λt=>?_);rintro _ _ ⟨za,zc,rfl,B,g,u⟩;refine⟨_,Fa.sl ⟨za,32,zc⟩ (lnk sum m K A)::_,rfl,u,λF=>⟨⟨B,λ_ a f=>t _ (g a f)⟩,F⟩,?_⟩;refine tR 21 [7,0,1,2,5,4,6,10] λE _ _=>Iq 4 7 ?_ ?_
 .refine tR 6 [4,12,15,2,0,17,3,0,18] λG _ _=>tX λF C=>qE5 4 5 6 75 72 2 (b 2) 3 (b 3) #[iv m.k,iv m.c,iv m.s,iv m.n,iv m.v,iv K,iv A,.slice za 32 zc] (tlA S za 32 zc) (iv 0) λ_=>⟨za,zc,rfl,F.1.s,λa h=>na j.size (g a h),CgQ.af C⟩
 .refine tR 6 [2,0,9,4,12,17,3,0,18] λH _ _=>tX λF C=>qE5 4 5 6 75 72 2 (b 2) 3 (b 3) #[iv m.k,iv m.c,iv m.s,iv m.n,iv m.v,iv K,iv A,.slice za 32 zc] (tlA S za 32 zc) (iv 0) λ_=>⟨za,zc,rfl,F.1.s,λa h=>na j.size (g a h),CgQ.af C⟩
theorem XV{x:S3}{l:List Cmd}(h:RdV w x 5 (cmL l))(hl:l.length<=200)(he:∀ c∈l,c.e=0)(hT:AD w)(hN:NTab w){f:Nat->Cmd}(hf:∀ i c,l[i]?=some c->f i=c) :
  Calls prog 9 #[x.v] w λe w'=>∃ z E,e=.returned (.tuple #[S3.v z,.agg (stA (sAt f l.length)),iv 0])/\chQ f l.length E/\EnN w.heap.size w' z E/\Bw w w':=by
 have hx:=iz h;have W:∀ j,j<l.length->(f j).e=0:=λj X=>by rw[hf j _ (G' X)];exact he _ (nU X)
 refine tIn [Fa.zv x 5 (cmL l)] func9 ⟨h.fz,trivial⟩ (tR 13 [1,0] λb _ _=>tI ((decide (200<(x.n:Int)))) false (H' (by omega)) (tR 3 [] λa7 _ _=>tF λ_ N=>?_));have Y:=N.size;refine tC 0 (λF C=>XM _) λO=>?_;rintro _ _ ⟨r,zc,rfl,hz,hb,b3⟩;refine⟨_,Fa.sl ⟨r,32,zc⟩ (gAt f 0)::_,rfl,b3,λF=>⟨⟨hz,λ_ a q=>O _ (hb a q)⟩,F⟩,?_⟩;refine tR 7 [1,0,1,0] λm _ _=>tMk 2 0 x.n 45 75 8 80 zEn (by omega) (by unfold maxLen;omega) rfl (λy5 _ _ n5=>?_);refine tR 10 [] λa8 _ _=>EL 46 [(20,S3.v x),(21,iv (x.n:Int)),(22,iv 0),(3,pt (b 0) 0),(5,pt (m 0) 0),(6,S3.v y5)] [true,true] [⟨(b 0),.cells #[iv 0,iv 0,iv 0,iv 0,iv 0,iv 0,iv 0,iv 0,iv 0,iv 0,iv 0,iv 0,iv 0,iv 0,iv 0,iv 0,iv 0,iv 0,iv 0,iv 0,iv 0,iv 0,iv 0,iv 0,iv 0,iv 0,iv 0,iv 0,iv 0,iv 0,iv 0,iv 0,.bool false,.bool false,.bool false,.bool false,.bool false,.bool false,.bool false,.bool false] 52,.l,false⟩,⟨(m 0),.cells #[iv (AG.V 0),iv (AG.V 1),iv (AG.V 2),iv (AG.V 3),iv (AG.V 4),iv (AG.V 5),iv (AG.V 6),iv (AG.V 7),iv (AG.L 0),iv (AG.L 1),iv (AG.L 2),iv (AG.L 3),iv (AG.L 4),iv (AG.L 5),iv (AG.L 6),iv (AG.L 7),iv (AG.C 0),iv (AG.A 0),iv (AG.C 1),iv (AG.A 1),iv (AG.C 2),iv (AG.A 2),iv (AG.C 3),iv (AG.A 3),iv (AG.C 4),iv (AG.A 4),iv (AG.C 5),iv (AG.A 5),iv (AG.C 6),iv (AG.A 6),iv (AG.C 7),iv (AG.A 7),.bool (AG.R 0),.bool (AG.R 1),.bool (AG.R 2),.bool (AG.R 3),.bool (AG.R 4),.bool (AG.R 5),.bool (AG.R 6),.bool (AG.R 7),.slice r 32 zc] 72,.l,false⟩] [Fa.oe 0 y5 [],Fa.sl ⟨r,32,zc⟩ (gAt f 0),Fa.zv x 5 (cmL l)] (λkk ee LL M=>∃ (i:Nat) (y:S3) (E:List En) (r:Option Addr) (zc:Nat),kk=x.n-i/\ee=[(20,S3.v x),(21,iv (x.n:Int)),(22,iv (i:Int)),(3,pt (b 0) 0),(5,pt (m 0) 0),(6,S3.v y)]/\LL=[⟨(b 0),.cells (stA AG) 52,.l,false⟩,⟨(m 0),.cells (tlA (sAt f i) r 32 zc) 72,.l,false⟩]/\M=[Fa.oe 0 y E,Fa.sl ⟨r,32,zc⟩ (gAt f i),Fa.zv x 5 (cmL l)]/\i<=l.length/\y.n=i/\chQ f i E/\(∀ e∈E,Nb w.heap.size e.y e.g)/\∀ a,r=some a->w.heap.size<=a.block) (x.n) ⟨0,y5,[],r,zc,rfl,rfl,rfl,rfl,by omega,n5,rfl,λ_ h=>(by cases h),λa q=>na Y (hb a q)⟩ (λF=>⟨⟨F.1,λ_ h=>(by cases h)⟩,F.2⟩) ?_;rintro k _ _ _ ⟨i,y,E,r,zc,rfl,rfl,rfl,rfl,hi,hy,Q,D,a5⟩ _ _ _ J hJ;refine tR 5 [] λa9 _ _=>?_;by_cases h1:i<l.length
 .refine tI ((decide ((i:Int)<(x.n:Int)))) true (P' (by omega)) ?_;obtain⟨c,T⟩:∃ c,l[i]?=some c:=⟨_,G' (by omega)⟩;have d:=hf i c T;have U:=he c (nD T);have a4:=Q.len;obtain⟨sB,sA⟩:=ff (f:=f) (i:=i) λj X=>W j (by omega);refine tF λF _=>?_;obtain⟨bx,ox,H⟩:=F.2.2.1.rd.rc.addr (k:=i) (by omega);refine tR 5 [] λb0 _ _=>tV 0 (pt bx (ox+5*i)) (λF C=>(OD H i (by omega))) (tV 1 (.agg #[iv c.k,iv c.c,iv c.s,iv c.n,iv c.v]) (λF C=>(WU c λq_ u Z=>F.2.2.1.rd.rc.cellAt H T Z)) (tR 7 [0,0,2,0,1,2] λa0 _ _=>tF λF N=>?_));have G:=N.size;refine tC 2 (λF C=>Wu F.2.1.s (SN f i) sB sA U (hT.af (CgQ.af C)) (hN.af (CgQ.af C)) (S:=sAt f (i+1)) (K:=cAt f i) (A:=aAt f i) (by rw[<- d];rfl) (by rw[<- d];rfl) (by rw[<- d];rfl)) λO=>?_;rintro _ _ ⟨o,p,rfl,Z,B,P⟩;refine⟨_,Fa.sl ⟨o,32,p⟩ (gAt f (i+1))::_,rfl,P,λF=>⟨⟨by rw[show gAt f (i+1)=lnk (gAt f i) c (cAt f i) (aAt f i)from by rw[<- d];rfl];exact Z,λ_ a q=>O _ (B a q)⟩,F⟩,?_⟩;refine tR 23 [0,0,0,0,3,0,4,0,6,0,2,3,8,4,5,0,0] λt _ _=>tCv [Fa.ow 0 75 8 y (enL E),Fa.sm E,Fa.sl ⟨o,32,p⟩ (gAt f (i+1)),Fa.zv x 5 (cmL l)] (λF=>⟨F.2.1.1,F.2.1.2,F.1,F.2.2.2.1,trivial⟩) (PU 3 0 (x:=y) 45 45 75 8 80 (zEn) ⟨(t 2),0,none⟩ 1 1 [iv c.k,iv c.c,iv c.s,iv c.n,iv c.v,iv (cAt f i),iv (aAt f i),.slice o 32 p] (λF=>F.1) [Fa.sm E,Fa.sl ⟨o,32,p⟩ (gAt f (i+1)),Fa.zv x 5 (cmL l)] (λF=>⟨F.2.1,F.2.2.1,F.2.2.2.1,trivial⟩) rfl (by simp[TQ]) rfl (by simp[Value.oneCell']) (λF K=>CS K 5 (t 2) [iv c.k,iv c.c,iv c.s,iv c.n,iv c.v,iv (cAt f i),iv (aAt f i),.slice o 32 p] 75 .z true (by kernel_rfl)) (by unfold maxLen;omega) (by omega) λI _ _ a6=>tCv [Fa.oe 0 I (E++[⟨c,cAt f i,aAt f i,⟨o,32,p⟩,gAt f (i+1)⟩]),Fa.sl ⟨o,32,p⟩ (gAt f (i+1)),Fa.zv x 5 (cmL l)] (λF=>⟨⟨Y3 E _▸F.1,F.2.1.snoc (e:=⟨c,cAt f i,aAt f i,⟨o,32,p⟩,gAt f (i+1)⟩) F.2.2.1⟩,F.2.2⟩) (tR 5 [10,13,1,0] λa1 _ _=>tV 0 (iv ((i:Int)+1)) (λF C=>(Bk 22 (i:Int) underlying3 (by omega))) (tR 2 [] λa2 _ _=>tB hJ (x.n-(i+1)) (by omega) [true,true,false,false,false,false] (L':=[⟨(b 0),.cells (stA AG) 52,.l,false⟩,⟨(m 0),.cells #[iv ((sAt f (i+1)).V 0),iv ((sAt f (i+1)).V 1),iv ((sAt f (i+1)).V 2),iv ((sAt f (i+1)).V 3),iv ((sAt f (i+1)).V 4),iv ((sAt f (i+1)).V 5),iv ((sAt f (i+1)).V 6),iv ((sAt f (i+1)).V 7),iv ((sAt f (i+1)).L 0),iv ((sAt f (i+1)).L 1),iv ((sAt f (i+1)).L 2),iv ((sAt f (i+1)).L 3),iv ((sAt f (i+1)).L 4),iv ((sAt f (i+1)).L 5),iv ((sAt f (i+1)).L 6),iv ((sAt f (i+1)).L 7),iv ((sAt f (i+1)).C 0),iv ((sAt f (i+1)).A 0),iv ((sAt f (i+1)).C 1),iv ((sAt f (i+1)).A 1),iv ((sAt f (i+1)).C 2),iv ((sAt f (i+1)).A 2),iv ((sAt f (i+1)).C 3),iv ((sAt f (i+1)).A 3),iv ((sAt f (i+1)).C 4),iv ((sAt f (i+1)).A 4),iv ((sAt f (i+1)).C 5),iv ((sAt f (i+1)).A 5),iv ((sAt f (i+1)).C 6),iv ((sAt f (i+1)).A 6),iv ((sAt f (i+1)).C 7),iv ((sAt f (i+1)).A 7),.bool ((sAt f (i+1)).R 0),.bool ((sAt f (i+1)).R 1),.bool ((sAt f (i+1)).R 2),.bool ((sAt f (i+1)).R 3),.bool ((sAt f (i+1)).R 4),.bool ((sAt f (i+1)).R 5),.bool ((sAt f (i+1)).R 6),.bool ((sAt f (i+1)).R 7),.slice o 32 p] 72,.l,false⟩]) ⟨i+1,I,_,o,p,rfl,rfl,rfl,rfl,by omega,by omega,d▸Q.snoc _,λe h=>(O'.1 h).elim (D e) λg=>by rw[D'.1 g];exact λ_ a q=>na G (B a q),λa q=>na G (B a q)⟩ (λF=>F))))
 .refine tI ((decide ((i:Int)<(x.n:Int)))) false (H' (by omega)) ?_;obtain rfl:i=l.length:=by omega
  refine tR 10 [4,0,2,4,1,6,9,0,0,10] λa3 _ _=>tX λF C=>qE6 2 3 4 52 0 (b 0) (stA (sAt f l.length)) (S3.v y) (iv 0) λ_=>⟨y,E,rfl,Q,⟨F.1.1.own C,λe h=>⟨(F.1.2 e h).s,D e h⟩⟩,CgQ.af C⟩
theorem Lo{a:Int}(h:I64 n)(d:pick n a=c)(f:0<a:=by decide)(b:a<=9223372036854775807:=by decide) :
  Calls prog 6 #[iv n,iv a] w λe w'=>e=.returned (iv c)/\Bw w w':=by subst d;exact V7 h a f b
theorem gp{g i j s m:Int}(h:paE n g i j k c s m v=0){now:Int}(o:EP g i j k c s m v now=0):opE (paL n g i j k c s m v) now=0/\Ee (paL n g i j k c s m v) now=⟨k,c,s,m,v⟩:=by
 have p:=eG h now;have r:=p.1.trans o;refine⟨r,?_⟩;have l:=p.2;rw[if_pos o,ZN]at l
 simp only[cmC,cmA,Array.mk.injEq,pJ,Value.int.injEq,true_and,and_true]at l;obtain⟨a,b,d,e,f⟩:=l;generalize Ee (paL n g i j k c s m v) now=q at a b d e f;obtain⟨u,t,x,w,y⟩:=q;simp only at a b d e f;subst a b d e f;rfl
theorem UX{g:Gh}{a:Lac}{d:S3}(k:FSl g w d a.d):Dat g w [(a,d)]:=λp b=>by rw[D'.1 b];exact k
theorem Zq{N:Meet}{A:List Cmd}(h:∀ j,j<5->N.log j=A):((lgN N 5).map N.log).getD []=A:=by
 cases hh:lgN N 5 with
 | some j=>exact h j (Zo hh)
 | none =>
  refine p9 λa=>?_;have b:0<A.length:=rL λe=>a (Y' e).symm;have key:∀ n,n<5->lgN N (n+1)≠none:=by
   intro n;induction n with
   | zero=>intro _ e;rw[lgN,h 0 (by omega)]at e;simp[lgN,b]at e
   | succ n ih =>
    intro c e;rw[lgN]at e
    split at e
    .cases e
    .exact ih (by omega) e
  exact key 4 (by omega) hh
theorem lE{x y:Operand}{b d:Int}{r:Bool}(j:decide (a=c/\b=d)=r):(do Go.eqGuard .eql 48 x y (.agg #[iv a,iv b]) (.agg #[iv c,iv d]);Go.binOp .eql 48 (.agg #[iv a,iv b]) (.agg #[iv c,iv d]):Sem Value).run prog W=.ok (.bool r) W:=by
 subst j;have i:(Go.eqGuard .eql 48 x y (.agg #[iv a,iv b]) (.agg #[iv c,iv d])).run prog W=.ok () W:=by kernel_rfl
 rw[Sem.run_bind,i,Result.andThen_ok];rw[run_eql_struct,run_equalIn_agg W 9999 _ _ _ (by kernel_rfl) (by kernel_rfl)];unfold Program.fieldsOf;rw[underlying48];have g:=underlying3;have h:=underlying27;simp[Op.eqFields,go_sem,g,h];by_cases e:a=c
 .rw[if_pos e,P' e];by_cases f:b=d
  .rw[if_pos f,P' f];rfl
  .rw[if_neg f,H' f];rfl
 .rw[if_neg e,H' e];rfl
theorem lJ{k:Nat}(h:∀ j u,[iv a,iv c][j]?=some u->W.cell? ⟨b,k+j,none⟩=some u):(Instr.loadAt 48 (pt b k)).run prog W=.ok (.agg #[iv a,iv c]) W:=by
 have d:=run_loadVar_mid (P:=prog) W b k 48 [iv a,iv c] _ h underlying48 rfl (by kernel_rfl);simp only[Instr.loadAt,Instr.sureAddr,Sem.run_bind,Sem.run_pure,Result.andThen_ok];exact d
theorem jU{s S N V:Int}(i:I64 k)(h:I64 c)(l:I64 s)(j:I64 n)(m:I64 v)(a:wK k=K)(b:pick c 4=C)(d:pick s 6=S)(f:pick n 4=N)(g:wV k v=V) :
  Calls prog 4 #[.agg #[iv k,iv c,iv s,iv n,iv v]] w λe w'=>e=.returned (.agg #[iv K,iv C,iv S,iv N,iv V])/\Bw w w':=by subst a b d f g;exact RU i h l j m
theorem KY{ck cc cs cn cv at_ ld:Int}(hk:I64 ck)(hc:I64 cc)(hs:I64 cs)(hn:I64 cn)(Y:I64 cv)(b0:I64 at_)(W:I64 ld)(R:V8 w) :
  Calls prog 3 #[.agg #[iv ck,iv cc,iv cs,iv cn,iv cv],iv at_,iv ld] w λe w'=>e=.returned (.bool true)/\Bw w w':=by
 have c2:=DJ cs 6 (by omega);have c1:=DJ cn 4 (by omega);have c3:=cC ck cv;have ra:=DJ at_ 5 (by omega);have rl:=DJ ld 5 (by omega);obtain⟨n,b7,b8⟩:∃ n:Nat,pick at_ 5=(n:Int)/\n<5:=⟨(pick at_ 5).toNat,by omega,by omega⟩;obtain⟨i,V,b3⟩:∃ i:Nat,pick ld 5=(i:Int)/\i<5:=⟨(pick ld 5).toNat,by omega,by omega⟩;obtain⟨H,M⟩:∃ x,pick cn 4=x:=⟨_,rfl⟩;obtain⟨I,Q⟩:∃ x,pick cs 6=x:=⟨_,rfl⟩;obtain⟨J,U⟩:∃ x,wV ck cv=x:=⟨_,rfl⟩;rw[M]at c1
 rw[Q]at c2
 rw[U]at c3
 have t1:Dc 1 4 60:=by unfold Dc;omega
 have t2:Dc 2 2 60:=by unfold Dc;omega
 have k1:Bh 3 1 0 2 0=0:=Pn ⟨by decide,by decide⟩ (by unfold InC;decide) (.inr rfl);have k2:Bh 1 2 I H J=0:=Pn ⟨by decide,by decide⟩ (by unfold InC;omega) (.inl rfl);have p1:paE 1 1 4 60 3 1 0 2 0=0:=by rw[ZU ⟨by decide,by decide⟩ (Hp t1)];exact k1
 have p2:paE 1 2 2 60 1 2 I H J=0:=by rw[ZU ⟨by decide,by decide⟩ (Hp t2)];exact k2
 obtain⟨o1,q1⟩:=gp p1 (now:=0) (Pf t1 k1 ⟨by unfold Ll;decide,rfl⟩ ⟨by decide,by decide⟩);obtain⟨o2,q2⟩:=gp p2 (now:=1) (Pf t2 k2 ⟨by unfold Ll;decide,rfl⟩ ⟨by decide,by decide⟩);have d1:=Mp p1;have d2:=Mp p2;generalize b1:paL 1 1 4 60 3 1 0 2 0=dx at o1 q1 d1;generalize b2:paL 1 2 2 60 1 2 I H J=dy at o2 q2 d2;obtain⟨L1,s⟩:∃ L,[AR n dx]++BY [AR n dx] (i:Int)=L:=⟨_,rfl⟩;obtain⟨o,D⟩:∃ L,L1++[AR n dy]=L:=⟨_,rfl⟩;obtain⟨N,hN⟩:∃ N,Ag.cF (o++BY o (i:Int))=N:=⟨_,rfl⟩;obtain⟨e1,c0,b9,X,q,t,u,nt,te,ta,ue⟩:=eY b8 b3 (by omega) (by omega) o1 q1 o2 q2 rfl (by show(1:Int)≠0;decide) k2 s D hN;obtain⟨A,hA⟩:∃ A,[(⟨3,1,0,2,0⟩:Cmd),⟨1,2,I,H,J⟩]=A:=⟨_,rfl⟩;rw[hA]at q
 have d9:A.length=2:=by rw[<- hA];rfl
 have a8:∀ x∈A,x.e=0:=λx hx=>by
  rw[<- hA]at hx
  rcases nr.1 hx with rfl|hx
  .exact k1
  .rw[D'.1 hx];exact k2
 have a7:=Zq q;obtain⟨f,hf⟩:∃ f:Nat->Cmd,∀ i c,A[i]?=some c->f i=c:=⟨λi=>A.getD i Ss,λi c e=>by simp[List.getD_eq_getElem?_getD,e]⟩;obtain⟨T,S⟩:∃ T,sAt f A.length=T:=⟨_,rfl⟩;have G:=aN hf (A' A.length);obtain⟨s1,s2,s3⟩:=Vg (c:=⟨1,2,I,H,J⟩) rfl (by show(1:Int)≠0;decide);rw[oG,S,<- hA,s1]at G
 rw[G]at s2 s3
 clear s1 G;refine tIn [] func3 trivial (tR 8 [1,0,0] λe2 _ _=>tC1 1 (λF C=>jU hk hc hs hn Y rfl rfl Q M U) λ_=>tR 23 [1,0,1,0,1,0,1,0,1,0,2,0,2] λe3 _ _=>tC 2 (λF C=>Vc p1 (tbA R.1 C)) λp=>?_);rintro _ _ ⟨b,rfl,hx,Z,b4⟩;refine⟨_,Fa.sl b dx::_,rfl,b4,λF=>⟨by rw[b1]at hx Z;exact D0 hx Z p,F⟩,?_⟩;refine tR 10 [1] λe4 _ _=>tC 2 (λF C=>Vc p2 (tbA R.1 C)) λp=>?_;rintro _ _ ⟨k,rfl,hy,a0,b6⟩;refine⟨_,Fa.sl k dy::_,rfl,b6,λF=>⟨by rw[b2]at hy a0;exact D0 hy a0 p,F⟩,?_⟩;refine tR 9 [] λe5 _ _=>tC1 1 (λF C=>Lo b0 b7) λ_=>tR 9 [1,0] λa2 _ _=>mS (v:=true) 3 0 (a2 0) 5 1 [iv 1,iv (n:Int),iv 0,iv 0,S3.v b] 36 [Fa.sl b dx,Fa.sl k dy] (λg' hz F=>⟨F.2.1.og hz,F.1.og hz,trivial⟩) (λg'=>?_) rfl (by unfold maxLen;omega);refine tCv [Fa.oa 0 (⟨some ⟨(a2 0),0,none⟩,1,1⟩:S3) [(AR n dx,b)],Fa.sl k dy] (λF=>⟨⟨F.1,UX F.2.1⟩,F.2.2.1,trivial⟩) (tC1 5 (λF C=>Lo W V) λ_=>tG 6 [true,true,true] 0 (λF C=>MI (n:=(i:Int)) (AcR.oo (L:=[AR n dx]) F.1 rfl) (by show 1<=2000;omega)) λp=>?_);rintro _ _ ⟨z,rfl,ho,a3⟩;have b5:([(AR n dx,b)]++rnP (BY [AR n dx] (i:Int))).length=L1.length:=by rw[<- s,E',E',Ja];rfl
 have c5:o.length=L1.length+1:=by rw[<- D,E'];rfl
 have c4:z.n=([(AR n dx,b)]++rnP (BY [AR n dx] (i:Int))).length:=by have:=ho.len;rw[Iv]at this;omega
 rw[b5]at c4
 refine⟨_,[Fa.oa 0 z ([(AR n dx,b)]++rnP (BY [AR n dx] (i:Int))),Fa.sl k dy],_,_,_,_,rfl,a3,ho,λ_=>⟨λF hO _=>⟨⟨hO,Dat.app F.1.2 (Lh _ _ (Jh (P:=λa=>a.d=[]) (λ_ _=>rfl) (λ_ _=>rfl) rfl rfl _))⟩,F.2.1,trivial⟩,?_⟩⟩;refine tR 9 [1,0] λr _ _=>PU 5 0 (x:=z) 33 33 36 5 56 zLa ⟨(r 0),0,none⟩ 1 1 [iv 1,iv (n:Int),iv 0,iv 0,S3.v k] (λF=>F.1.1) [Fa.dt (([(AR n dx,b)]++rnP (BY [AR n dx] (i:Int)))++[(AR n dy,k)])] (λF=>⟨Dat.app F.1.2 (UX F.2.1),trivial⟩) rfl (by simp[TQ]) rfl (by simp[Value.oneCell']) (λF K=>CS K 3 (r 0) [iv 1,iv (n:Int),iv 0,iv 0,S3.v k] 36 .l true (by kernel_rfl)) (by unfold maxLen;omega) (by omega) λv _ _ vn=>tCv [Fa.oa 0 v (([(AR n dx,b)]++rnP (BY [AR n dx] (i:Int)))++[(AR n dy,k)])] (λF=>⟨⟨(by rw[Gp];exact F.1),F.2.1⟩,trivial⟩) ?_;have O:(([(AR n dx,b)]++rnP (BY [AR n dx] (i:Int)))++[(AR n dy,k)]).map (·.1)=o:=by rw[nL,nL,Vj,<- D,<- s];rfl
 refine tR 1 [] λc6 _ _=>tC1 7 (λF C=>Lo W V) λ_=>tC 8 (λF C=>MI (n:=(i:Int)) (AcR.oo (L:=o) F.1 O) (by omega)) λp=>?_;rintro _ _ ⟨z2,rfl,hz,a4⟩;refine⟨_,[Fa.ac z2 ((([(AR n dx,b)]++rnP (BY [AR n dx] (i:Int)))++[(AR n dy,k)])++rnP (BY o (i:Int)))],rfl,a4,λF=>⟨⟨hz.fz p,Dat.app F.1.2 (Lh _ _ (Jh (P:=λa=>a.d=[]) (λ_ _=>rfl) (λ_ _=>rfl) rfl rfl _))⟩,trivial⟩,?_⟩;have a9:((([(AR n dx,b)]++rnP (BY [AR n dx] (i:Int)))++[(AR n dy,k)])++rnP (BY o (i:Int))).map (·.1)=o++BY o (i:Int):=by rw[nL,Vj,O]
 refine tR 5 [] λc7 _ _=>tC 1 (λF C=>jx (AcR.of F.1 a9) b9 X (tb5 R C) hN) λp=>?_;rintro _ _ ⟨ly,tv,ys,rfl,hW,hO,a5⟩;refine⟨_,[Fa.ot ly tv ys N],rfl,a5,λF=>⟨Va hW hO p,trivial⟩,?_⟩;refine tF λF _=>?_;have h:=gN F.1.eb.rd;rw[nt]at h
 obtain⟨bt,ft,g,_⟩:=F.1.eb.rd.spot (i:=0) (by simp at h;omega);have k0:N.eb[0]?=some t:=by rw[nt];rfl
 have k1:N.eb[1]?=some u:=by rw[nt];rfl
 have h:tv.n=2:=h;refine tR 27 [1,0,4,0,4] λc8 _ _=>tI (((tv.n:Int) != 2)) false (by rw[h];rfl) (tR 4 [4] λc9 _ _=>tC1 1 (λF C=>Tn (Vb F.1)) λ_=>tC 2 (λF C=>by have:=XV (a7▸(Zp F.1 (n:=5) (A' 5)).rd) (by omega) a8 (R.1.t.af (CgQ.af C)) (R.1.n.af (CgQ.af C)) hf;rw[S]at this;exact this) λp=>?_);rintro _ _ ⟨z3,E,rfl,hE,e0,a6⟩;refine⟨_,_,rfl,a6,id,?_⟩;refine tR 16 [0,0,5,0,4] λa1 _ _=>tV 5 (pt bt (ft+5*0)) (λF C=>(gB g 0 (by omega))) (tR 1 [] λd0 _ _=>tF λF _=>?_);refine tV 7 (.agg #[iv t.e,iv t.a]) (λF C=>(lJ λj v Y=>by rcases j with _|_|j<;>first|exact Un F.1.eb.rd g k0 (j:=3) Y|exact Un F.1.eb.rd g k0 (j:=4) Y|(simp at Y))) ?_;refine tR 1 [] λd3 _ _=>tV 9 (.bool true) (λF C=>(lE (x:=(.tmp 90)) (y:=(.tmp 91)) (P' ⟨te,ta⟩))) (tR 4 [4] λd4 _ _=>tV 14 (pt bt (ft+5*1)) (λF C=>(gB g 1 (by omega))) (tR 2 [] λd5 _ _=>tF λF _=>tV 17 (iv u.e) (λF C=>(D2 underlying27 rfl (Un F.1.eb.rd g k1 (j:=3) rfl))) (tV 18 (.bool true) (λF C=>(IV (t:=27) (m:=u.e) (n:=11) (x:=(.tmp 100)) (y:=(.const (iv 11))) (by rw[ue];rfl))) (tR 4 [] λd6 _ _=>tW 23 (.bool true) (λF K=>D2 underlying4 rfl (mO K 5 (a1 0) (stA T).toList 52 .z false (j:=34) (by kernel_rfl) (by rw[<- s2];rfl))) (tR 5 [5] λd7 _ _=>tV 29 (.bool true) (λF C=>(IV (t:=3) (m:=T.L 2) (n:=0) (x:=(.tmp 111)) (y:=(.const (iv 0))) (by rw[s3];rfl))) (tR 3 [] λd8 _ _=>tE (.bool true) λ_ B=>⟨rfl,B⟩))))))
end
end
end Go.Proofs.YtngmpodijpelnaaGreatDoor
