/- Part 15 of the walk. -/
import Derived.Test.YthkjeoamjgnpoaaGreatDoorZ14
set_option maxRecDepth 100000
set_option maxHeartbeats 4000000
open Go.Proofs.Tryz
set_option linter.unusedVariables false
namespace Go.Proofs.YthkjeoamjgnpoaaGreatDoor
section
theorem IQ(p:Nod)(b:Bal):(p.au b).1.done=p.done:=by
 unfold Nod.au;split
 .rfl
 .split
  .rfl
  .split<;>rfl
theorem OR(p:Nod)(v:Vt):(p.cl v).1.done=p.done:=by
 unfold Nod.cl;split
 .rfl
 .split
  .rfl
  .split<;>rfl
theorem L8(p:Nod)(j:Nat)(v:Vt):(p.count j v).done=p.done:=by
 unfold Nod.count;split
 .rfl
 .split<;>rfl
theorem Ku(p:Nod)(to:Nat)(e:Int):(p.ew to e).done=p.done:=by unfold Nod.ew;split<;>rfl
theorem I5(p:Nod)(l:List Cmd):(p.dT l).done=p.done:=by unfold Nod.dT;split<;>rfl
theorem OL(p:Nod)(l:Let):(p.take l).done=p.done:=by
 unfold Nod.take;split
 .split
  .exact Ku _ _ _
  .exact IQ p l.hU
 .simp only;split<;>rfl
 .rfl
 .split
  .exact Ku _ _ _
  .exact OR p l.cl
 .exact L8 p _ _
 .split<;>rfl
 .simp only;split<;>exact I5 p l.gC
 .rfl
theorem OD(p:Nod)(i:Nat)(q:Pend):(p.ln i q).done=p.done:=by
 cases q with
 | began b vs=>unfold Nod.ln;simp only;split<;>rfl
 | prop v=>exact L8 p i v
 | _=>rfl
theorem Sy(i:Nat)(l:List Pend)(p:Nod)(a:List Let):(qv i l p a).1.done=p.done:=by
 induction l generalizing p a with
 | nil=>rfl
 | cons q l ih=>exact(ih _ _).trans (OD p i q)
theorem NW(M:Meet)(l:Let)(j:Nat):((M.pd l).ab j).done=(M.ab j).done:=by
 unfold Meet.pd;split
 .show(upN M.ab l.dst ((M.ab l.dst).take l) j).done=_;unfold upN;split
  .rename_i e;rw[e];exact OL _ _
  .rfl
 .rfl
theorem Sm(l:List Let)(M:Meet)(j:Nat):((l.foldl (λM l=>M.pd l) M).ab j).done=(M.ab j).done:=by
 induction l generalizing M with
 | nil=>rfl
 | cons x l ih=>exact(ih _).trans (NW M x j)
theorem RJ{f:Nat->Nod}{i j:Nat}{p:Nod}(h:p.done=(f i).done):(upN f i p j).done=(f j).done:=by
 unfold upN;split
 .rename_i e;rw[e];exact h
 .rfl
theorem X6(M:Meet){x:Lac}(a:x.k≠3)(b:x.k≠8)(c:x.k≠9)(j:Nat):((M.act x).ab j).done=(M.ab j).done:=by
 unfold Meet.act;simp only;split
 .refine RJ ?_;unfold Nod.sj Nod.ss;split
  .rfl
  .split
   .rfl
   .split
    .rfl
    .show(Nod.want _ _).done=_;unfold Nod.want;split<;>rfl
 .split
  .refine RJ ?_;split
   .unfold Nod.lead;simp only;split
    .rfl
    .exact IQ _ _
   .rfl
  .split
   .unfold Meet.move;split
    .rfl
    .simp only;split
     .rw[NW];split<;>rfl
     .split<;>rfl
   .split
    .unfold Meet.si;exact Sm _ { M with br:=[] } j
    .rfl
def GL(l:List Cmd):Sto:=l.foldl dnS AC
theorem OI(l:List Cmd)(c:Cmd):GL (l++[c])=dnS (GL l) c:=by unfold GL;rw[pT];rfl
theorem aX(l:List Cmd)(h:∀ c∈l,c.e=0):Fg (GL l):=by
 have key:∀ (l:List Cmd) (s:Sto),Fg s->(∀ c∈l,c.e=0)->Fg (l.foldl dnS s):=by
  intro l;induction l with
  | nil=>exact λs a _=>a
  | cons c l ih=>exact λs a h=>ih _ (Pg a (h c M')) λd b=>h d (I' _ b)
 exact key l AC R1 h
def StI(p:Nod):Prop:=p.ni=GL (p.ae.take p.done)
theorem StI.nn{p q:Nod}(h:StI p)(d:q.ni=p.ni)(b:q.done=p.done)(a:p.ae <+: q.ae)(c:p.done<=p.ae.length):StI q:=by
 unfold StI;rw[d,b,RD a c];exact h
theorem bD(p:Nod)(l:Let):(p.take l).ni=p.ni:=by
 unfold Nod.take;split
 .split
  .unfold Nod.ew;split<;>rfl
  .show(p.au l.hU).1.ni=_;unfold Nod.au;split
   .rfl
   .split
    .rfl
    .split<;>rfl
 .simp only;split<;>rfl
 .rfl
 .split
  .unfold Nod.ew;split<;>rfl
  .show(p.cl l.cl).1.ni=_;unfold Nod.cl;split
   .rfl
   .split
    .rfl
    .split<;>rfl
 .unfold Nod.count;split
  .rfl
  .split<;>rfl
 .split<;>rfl
 .simp only;unfold Nod.dT;split<;>split<;>rfl
 .rfl
theorem StI.bare(p:Nod)(u:Bool)(d:List Int)(s:Int)(a:Acc)(x:List Pend):StI (p.bare u d s a x):=rfl
theorem StI.step{D:Wh}{c:Nat}{M N:Meet}(s:Stp D c M N)(a:∀ j,j<5->(M.ab j).done<=(M.ab j).ae.length)(h:∀ j,j<5->StI (M.ab j)):∀ j,j<5->StI (N.ab j):=by
 intro j g;have put:∀ {k:Nat} {p:Nod} {f:List Let} {i:List Tol},(k<5->StI p)->StI ((M.set k p f i).ab j):=λ{k p f i} e=>by
  rw[Am];split
  .rename_i e2;exact e (by omega)
  .exact h j g
 cases s with
 | take _ l hl hd2 hu ht=>exact put λ_=>(h _ hd2.2).nn (bD _ l) (OL _ l) (Ev.take _ l).ag (a _ hd2.2)
 | br _ f hl a=>exact h j g
 | one _ k c hi hu hc he =>
  refine put λ_=>?_;have e:StI { M.ab k with ni:=doS (M.ab k).ni c,done:=(M.ab k).done+1 }:=by
   unfold StI;show doS (M.ab k).ni c=GL ((M.ab k).ae.take ((M.ab k).done+1));rw[oF,hc,Pi he,h k hi];exact(OI _ c).symm
  unfold Nod.fv;split<;>exact e
 | ask _ k hi hu =>
  refine put λ_=>?_;have:=h k hi;unfold Nod.jv;split
  .exact this
  .split
   .unfold Nod.dT;split<;>exact this
   .exact this
 | prop _ k hi hu =>
  refine put λ_=>?_;have:=h k hi;unfold Nod.cx;split
  .exact this
  .split
   .exact this
   .split
    .exact this
    .show StI ((M.ab k).cl _).1;unfold Nod.cl;split
     .exact this
     .split
      .exact this
      .split<;>exact this
 | so _ k hi hu hs hT=>exact put λ_=>h k hi
 | run _ k hi hu q l hp hs =>
  refine put λ_=>(h k hi).nn ?_ ((OD (M.ab k) k q)) ((Ev.ln (M.ab k) k q).bu l).ag (a k hi);show((M.ab k).ln k q).ni=_;cases q with
  | began b vs=>simp only[Nod.ln];split<;>rfl
  | prop v =>
   simp only[Nod.ln,Nod.count];split
   .rfl
   .split<;>rfl
  | _=>rfl
 | sg _ k hi hu hL=>exact put λ_=>h k hi
 | lead _ k hi hu hL =>
  refine put λ_=>?_;have:=h k hi;unfold Nod.lead;simp only;split
  .exact this
  .generalize (⟨max (M.ab k).cF (M.ab k).vo.p.r+1,(k:Int)⟩:Bal)=b;show StI ((M.ab k).au b).1;unfold Nod.au;split
   .exact this
   .split
    .exact this
    .split<;>exact this
 | sub _ k d hi hu hD =>
  refine put λ_=>?_;have:=h k hi;unfold Nod.sj Nod.ss;split
  .exact this
  .split
   .exact this
   .split
    .exact this
    .show StI (Nod.want _ _);unfold Nod.want;split<;>exact this
 | lp _ k x hi hu hk hC =>
  refine put λ_=>?_;unfold Nod.lp;split
  .exact h k hi
  .exact .bare _ _ _ _ _ _
 | start _ k hi hu hs =>
  refine put λ_=>?_;unfold Nod.start;split
  .exact h k hi
  .split<;>exact .bare _ _ _ _ _ _
theorem StI.zero:∀ j,j<5->StI (Ao.ab j):=λj _=>rfl
theorem cZ(i:Nat)(l:List Cmd)(p:Nod)(k:List Tol)(j:Fg p.ni)(h:∀ c∈l,c.e=0):(sq i l p k).1.done=p.done+l.length:=by
 induction l generalizing p k with
 | nil=>rfl
 | cons c l ih =>
  have a:=h c M';have b:doE p.ni c=0:=(U5 j).trans a;rw[sq,if_neg (λg=>g b)];have f:(Nod.fv { p with ni:=doS p.ni c,done:=p.done+1 } c).ni=dnS p.ni c/\(Nod.fv { p with ni:=doS p.ni c,done:=p.done+1 } c).done=p.done+1:=by
   unfold Nod.fv;split<;>exact⟨Pi b,rfl⟩
  rw[ih _ _ (by rw[f.1];exact Pg j a) λd m=>h d (I' _ m),f.2,nK];omega
theorem T9(p:Nod)(i:Nat)(f:List Let)(e:List Tol):(p.piece i f e).1.done=(sq i (p.ae.drop p.done) p e).1.done:=by
 unfold Nod.piece;simp only;generalize (sq i (p.ae.drop p.done) p e).1=a;have g:(a.jv i).1.done=a.done:=by
  unfold Nod.jv;split
  .rfl
  .split
   .exact I5 _ _
   .rfl
 generalize a.jv i=b at g ⊢;have h:b.1.cx.done=b.1.done:=by
  unfold Nod.cx;split
  .rfl
  .split
   .rfl
   .split
    .rfl
    .exact OR _ _
 generalize b.1.cx=c at h ⊢;generalize f++b.2=k;have j:(c.qk i k).1.done=c.done:=by
  unfold Nod.qk;split
  .rfl
  .rw[Sy];unfold Nod.so;split<;>rfl
 generalize c.qk i k=d at j ⊢;have l:(d.1.bw i d.2).1.done=d.1.done:=by unfold Nod.bw;split<;>rfl
 omega
theorem DA{I:Meet->Prop}(d:∀ c M N,Stp wh0 c M N->I M->I N)(j:∀ M,I M->I { M with br:=[] })(m:Nat){n:Nat}{M:Meet}(i:MOk n M)(o:n+6*m<=1000000)(h:I M):I (M.dc (Al m))/\MOk (n+6*m) (M.dc (Al m)):=by
 induction m with
 | zero=>exact⟨h,i⟩
 | succ m ih =>
  obtain⟨e,f⟩:=ih (by omega);show I (M.dc (Al m++An))/\MOk (n+6*(m+1)) (M.dc (Al m++An));rw[AE,EO];have a:=Bl (λc A N s g=>d c A N s.calm g) f (by omega) e;obtain⟨N,k,l,_⟩:=Cr (λA N s g=>d _ A N s.sF g) a.1 a.2;have b:=a.1.act (x:=acN 7 0) (by omega) (by rw[<- DM];decide);rw[k]at b ⊢
  exact⟨j N l,b.mono (by omega)⟩
theorem JO{M:Meet}(h:∀ j,j<5->(M.ab j).up=true):M.dc Az=M:=by
 have key:∀ l:List Lac,(∀ x∈l,M.act x=M)->M.dc l=M:=by
  intro l;induction l with
  | nil=>exact λ_=>rfl
  | cons x l ih =>
   intro a;show(M.act x).dc l=M;rw[a x M'];exact ih λy e=>a y (I' _ e)
 refine key _ λx d=>?_;obtain⟨k,b,rfl⟩:=nw.1 d;have c:=h k (pM.1 b);unfold Meet.act;simp only[acN];rw[if_neg (by decide),if_neg (by decide),if_neg (by decide),if_neg (by decide),if_neg (by decide),if_neg (by decide),if_pos trivial];show M.set k (if(M.ab k).up=true then M.ab k else _) M.br M.ed=M;rw[if_pos c,EW]
theorem IF{M:Meet}{i:Nat}(a:(M.ab i).up=true):M.act (acN 2 (i:Int))=M.set i ((M.ab i).lead i) M.br M.ed:=by
 unfold Meet.act;simp only[acN];rw[if_neg (by decide),if_pos trivial];show M.set i (if(M.ab i).up=true then _ else _) M.br M.ed=_;rw[if_pos a];rfl
theorem Ex(a b:Nat):Al (a+b)=Al a++Al b:=by
 induction b with
 | zero=>exact(nB _).symm
 | succ b ih=>show Al (a+b)++An=Al a++(Al b++An);rw[ih,mY]
theorem m8(f:Nat->Int):∃ j,j<5/\∀ k,k<5->f k<=f j:=by
 have key:∀ n,∃ j,j<n+1/\∀ k,k<n+1->f k<=f j:=by
  intro n;induction n with
  | zero=>exact⟨0,by omega,λk c=>by rw[show k=0 by omega];exact mT _⟩
  | succ n ih =>
   obtain⟨j,d,b⟩:=ih;by_cases e:f j<=f (n+1)
   .refine⟨n+1,by omega,λk c=>?_⟩;by_cases a:k=n+1
    .rw[a];exact mT _
    .exact ny (b k (by omega)) e
   .refine⟨j,by omega,λk c=>?_⟩;by_cases a:k=n+1
    .rw[a];omega
    .exact b k (by omega)
 exact key 4
def FA(b:Bal):List (Bal × Nat):=(List.range 40).map λs=>(b,s)
theorem FB(b:Bal){s:Nat}(h:s<40):(b,s)∈FA b:=nw.2 ⟨s,pM.2 h,rfl⟩
section
variable{S:Cmd->Prop}{K:Int}{B:Nat->Bal}{cov:List (Bal × Nat)}
theorem Cm.to{M:Meet}(h:Cm S K B cov M){K':Int}(c:∀ j,j<5->(M.ab j).vo.p.key<=K')(b:K'<=3600):Cm S K' B cov M :=
 ⟨h.ex,⟨b,λj a=>⟨by unfold Nod.pk;rw[if_pos (h.up j a)];exact c j a,(h.kb.2 j a).2⟩⟩,h.up,h.hU,h.s⟩
structure Led(i:Nat)(p q:Nod)(b:Bal):Prop where
 may:Ac b
 n:b.n=(i:Int)
 gt:5*p.cF+4<b.key/\p.vo.p.key<b.key
 le:b.key<=max (5*p.cF) p.vo.p.key+9
 up:q.up=p.up
 vo:q.vo.p=b
 hU:q.bn.hU=b
 p1:P1 i q
 pe:∃ vs,Pend.began b vs∈q.bu
 ask:q.av=p.av/\q.bN=p.bN/\q.done=p.done
 ro:q.cF=p.cF
theorem Cm.lead{M:Meet}(h:Cm S K B cov M)(z:14*K+38*(cov.length:Int)<=99000){i:Nat}(d:i<5)(I:K<=3591)(J:0<=(M.ab i).cF/\5*(M.ab i).cF<=3591) :
  ∃ b,Led i (M.ab i) ((M.ab i).lead i) b/\Cm S 3600 (upN B i b) (cov++FA b) (M.set i ((M.ab i).lead i) M.br M.ed):=by
 have m:=h.up i d;have O:=h.le d;have u:=(h.acc d).1;have N:=YX u;have F:0<=(M.ab i).vo.p.r/\0<=(M.ab i).vo.p.n/\(M.ab i).vo.p.n<=4:=by unfold Ap Ac at u;omega
 obtain⟨b,l⟩:∃ b:Bal,(⟨max (M.ab i).cF (M.ab i).vo.p.r+1,(i:Int)⟩:Bal)=b:=⟨_,rfl⟩;have L:b.key=5*(max (M.ab i).cF (M.ab i).vo.p.r+1)+(i:Int):=by rw[<- l];rfl
 have C:(M.ab i).vo.p.key=5*(M.ab i).vo.p.r+(M.ab i).vo.p.n:=rfl;have t:Ac b:=by rw[<- l];refine⟨⟨?_,?_⟩,?_,?_⟩<;>simp only<;>omega
 have f:=h.prom z d t (by rw[Fc t.pr u];omega);have E:(M.ab i).lead i=Nod.wait { ((M.ab i).au b).1 with bn:=⟨b,λ_=>false,λ_=>Em,λ_=>(M.ab i).ae.length,0,[]⟩ } (.began b ((M.ab i).au b).2.1):=by
  unfold Nod.lead;simp only;rw[l,if_neg (λg=>g f.1)]
 have v:((M.ab i).au b).1.cF=(M.ab i).cF:=by
  unfold Nod.au;split
  .rfl
  .split
   .rfl
   .split<;>rfl
 have a:Led i (M.ab i) ((M.ab i).lead i) b:=by
  rw[E];exact⟨t,by rw[<- l],by omega,by omega,(Ev.au _ b).up,f.2,rfl,⟨rfl,λ_ _=>rfl⟩,⟨_,mU _ (D'.2 rfl)⟩,(AO _ b).1,v⟩
 refine⟨b,a,?_⟩;obtain⟨σ,g,A⟩:=h.ex;obtain⟨τ,G,H,w,x,y⟩:=g.step (D:=whT) (.lead M i d m trivial);refine⟨⟨τ,w,λo s c k=>?_⟩,⟨mT _,?_⟩,λj q=>?_,λj q=>?_,h.s.step (D:=⟨λ_ _=>False,True,False,False,False,False⟩) (λ_ _ e=>False.elim e) (.lead M i d m trivial)⟩
 .rcases x o s c k with k|k
  .exact mV _ (A o s c k)
  .exact absurd (y o s k).1 (by decide)
 .refine(h.kb.2.mono h.kb.1 (mT _)).set ⟨?_,by rw[a.ro];omega⟩ _ _;unfold Nod.pk;rw[if_pos (a.up.trans m),a.vo];omega
 .rw[Am];split
  .exact a.up.trans m
  .exact h.up j q
 .rw[Am];unfold upN;split
  .exact a.hU
  .exact h.hU j q
theorem ky{a:Int}{n:Nat}{M:Meet}(O:MOk n M){m:Nat}(hm:2<=m)(hn:n+6*m+20<=1000000)(U:∀ j,j<5->∀ s,s<40->(B j,s)∈cov)(h:Cm S K B cov M)(z:KbI a a M)(W:K<=a)(T:a<=3500)(Z:14*a+38*(cov.length:Int)<=97000){i:Nat}(q:i<5) :
  ∃ K' B' cov',K'<=a+9/\Cm S K' B' cov' (((M.act (acN 2 (i:Int))).dc Az).dc (Al m))/\(∀ j,j<5->∀ s,s<40->(B' j,s)∈cov')/\cov'.length<=cov.length+40/\Gr8 K' ((((M.act (acN 2 (i:Int))).dc Az).dc (Al m)).ab i)/\KbI (a+9) (a+9) (((M.act (acN 2 (i:Int))).dc Az).dc (Al m))/\MOk (n+6*m+1) (((M.act (acN 2 (i:Int))).dc Az).dc (Al m)):=by
 have G:=h.up i q;have hr:=z i q;have F:=(O.ab i q).ro;have d:=O.act (x:=acN 2 (i:Int)) (by omega) (D8 ⟨.inl rfl,by omega,by omega⟩);obtain⟨b,y,f⟩:=h.lead (by omega) q (by omega) ⟨F.1,by omega⟩;obtain⟨σ,g,_⟩:=h.ex;have o:=z.lead g q G M.br M.ed;have H:∀ j,j<5->((M.act (acN 2 (i:Int))).ab j).up=true:=by rw[IF G];exact f.up
 rw[JO H];rw[IF G]at d ⊢
 have u:=Bp M i ((M.ab i).lead i) M.br M.ed;generalize M.set i ((M.ab i).lead i) M.br M.ed=N at f o d u ⊢;rw[<- u]at y
 obtain⟨j,v,C⟩:=m8 λj=>(N.ab j).vo.p.key;have E:∀ j,j<5->(N.ab j).vo.p.key<=a+9:=λj v=>by
  have:=(o j v).1;unfold Nod.pk at this
  rwa [if_pos (f.up j v)]at this
 have t:=E j v;have f:=f.to C (by omega);have l:∀ k,k<5->∀ s,s<40->(upN B i b k,s)∈cov++FA b:=λk z s P=>by
  unfold upN;split
  .exact mU _ (FB b P)
  .exact mV _ (U k z s P)
 obtain⟨vs,V⟩:=y.pe;have A:=iX l d (by omega) f q v rfl y.vo y.may V;generalize (N.ab j).vo.p.key=K' at f A t;have L:∀ c X Y,Stp wh0 c X Y->(Cm S K' (upN B i b) (cov++FA b) X/\KbI (a+9) (a+9) X)->(Cm S K' (upN B i b) (cov++FA b) Y/\KbI (a+9) (a+9) Y):=λc X Y s g=>by
  obtain⟨σ,R,_⟩:=g.1.ex;exact⟨g.1.step l s,g.2.step (D:=wh0) (λe=>e) R s (mT _)⟩
 have J:=DA L (λX g=>⟨g.1.drop,g.2⟩) 2 d (by omega) ⟨f,o⟩;obtain⟨r,rfl⟩:∃ r,m=2+r:=⟨m-2,by omega⟩;rw[Ex,AE];have Q:N.dc (Al 2)=N.dc (An++An):=rfl;rw[<- Q]at A
 have w:=DA (I:=λX=>(Cm S K' (upN B i b) (cov++FA b) X/\KbI (a+9) (a+9) X)/\Gr8 K' (X.ab i)) (λc X Y s g=>⟨L c X Y s g.1,g.2.ev (s.ev i)⟩) (λX g=>⟨⟨g.1.1.drop,g.1.2⟩,g.2⟩) r J.2 (by omega) ⟨J.1,A⟩;refine⟨K',_,_,t,w.1.1.1,l,?_,w.1.2,w.1.1.2,w.2.mono (by omega)⟩;rw[G'];unfold FA;rw[nA,qr];exact A' _
end
section
variable{C:List Cmd}{K:Int}{B:Nat->Bal}{cov:List (Bal × Nat)}{i:Nat}{b:Bal}{A:List Cmd}
theorem Fin_.drop{N:Meet}(f:Fin_ i A N):Fin_ i A { N with br:=[] }:=⟨f.ag,f.nx,f.hd,f.qu⟩
theorem Fin_.tS(a:PhC C K B cov i b){M:Meet}(h:PhE C K B cov i b M)(f:Fin_ i A M){j:Nat}(c:j<5)(p:A.length<=(M.ab j).ae.length):(M.ab j).ae=A:=by
 have o:=f.le a h c;obtain⟨σ,g,_⟩:=h.pb.cm.ex;refine pI (by omega) λs k l=>?_;obtain⟨m,d⟩:=(g.nd j c).ag s _ (E' k);obtain⟨n,e⟩:=(g.nd i a.hi).ag s _ (by rw[f.ag];exact E' l);exact g.gs.tH.agree d e
structure Fz(C:List Cmd)(K:Int)(B:Nat->Bal)(cov:List (Bal × Nat))(i:Nat)(b:Bal)(A:List Cmd)(M:Meet):Prop where
 l:PhL C K B cov i b M
 f:Fin_ i A M
 a:∀ j,j<5->(M.ab j).ae=A
 s:∀ j,j<5->StI (M.ab j)
theorem Fz.step(d:PhC C K B cov i b){n:Nat}{M N:Meet}(s:Stp wh0 n M N)(h:Fz C K B cov i b A M):Fz C K B cov i b A N:=by
 have e:=h.l.step d s;have g:=Fin_.step d s h.l.pe h.f;exact⟨e,g,λj c=>g.tS d e.pe c (by have:=(s.ev j).ag.length_le;rw[h.a j c]at this;exact this),StI.step s (λj c=>(h.l.pe.pb.ak j c).dn) h.s⟩
theorem Fz.drop{N:Meet}(h:Fz C K B cov i b A N):Fz C K B cov i b A { N with br:=[] }:=⟨h.l.drop,h.f.drop,h.a,h.s⟩
structure Rst(C:List Cmd)(K:Int)(B:Nat->Bal)(cov:List (Bal × Nat))(i:Nat)(b:Bal)(A:List Cmd)(M:Meet):Prop where
 z:Fz C K B cov i b A M
 d:∀ j,j<5->(M.ab j).done=A.length
theorem Ph(g:PhC C K B cov i b){n:Nat}{M N:Meet}(s:Stp wh0 n M N)(h:Fz C K B cov i b A M){j:Nat}(e:j<5)(d:(M.ab j).done=A.length):(N.ab j).done=A.length:=by
 have c:=h.step g s;have k:=(s.ev j).dn;have f:=(c.l.pe.pb.ak j e).dn;rw[c.a j e]at f
 omega
theorem Rst.step(a:PhC C K B cov i b){n:Nat}{M N:Meet}(s:Stp wh0 n M N)(h:Rst C K B cov i b A M):Rst C K B cov i b A N:=⟨h.z.step a s,λj c=>Ph a s h.z c (h.d j c)⟩
theorem Xc(o:PhC C K B cov i b)(g:∀ c∈C,c.e=0){M:Meet}(h:Fz C K B cov i b A M){j:Nat}(d:j<5):((M.act (acN 3 (j:Int))).ab j).done=A.length:=by
 have n:=h.l.pe.pb.cm.up j d;have m:=(h.l.pe.pb.ak j d).dn;have k:∀ c∈(M.ab j).ae,c.e=0:=λc f=>g c ((h.l.pe.pb.cm.s.nd j d).ag c f);rw[Hk n,Am,if_pos rfl,T9,cZ]
 .rw[nc,h.a j d];rw[h.a j d]at m
  omega
 .rw[h.s j d];exact aX _ λc f=>k c (nm f)
 .exact λc f=>k c (oP f)
theorem Gr8.gt{p q:Nod}{K:Int}(h:Gr8 K p)(a:Ap p.vo.p){i:Nat}{b:Bal}(l:Led i p q b):K<b.key:=by
 have:=l.gt;unfold Gr8 at h;omega
theorem kz(R:∀ c∈C,c.e=0)(hC:C.length<40){K1:Int}{n:Nat}{M:Meet}(hM:MOk n M){m:Nat}(hm:85<=m)(hn:n+6*m+20<=990000)(hc:∀ j,j<5->∀ s,s<40->(B j,s)∈cov)(h:Cm (λc=>c∈C) K B cov M)(gr:Gr8 K (M.ab i))(hk:KbI K1 K1 M)(hK:K<=K1)(a4:K1<=3510)(hQ:14*K1+38*(cov.length:Int)<=97000)(t:i<5)(hA:∀ j,j<5->AskI (M.ab j))(hS:∀ j,j<5->StI (M.ab j)) :
  ∃ K' B' cov' b A,PhC C K' B' cov' i b/\Rst C K' B' cov' i b A (((M.act (acN 2 (i:Int))).dc Az).dc (Al m)):=by
 have hu:=h.up i t;have hr:=hk i t;have a2:=(hM.ab i t).ro;have u:=hM.act (x:=acN 2 (i:Int)) (by omega) (D8 ⟨.inl rfl,by omega,by omega⟩);obtain⟨b,q,o⟩:=h.lead (by omega) t (by omega) ⟨a2.1,by omega⟩;obtain⟨σ,g,_⟩:=h.ex;have L:=AskI.step (Stp.lead (D:=whT) M i t hu trivial) g hA;have T:=StI.step (Stp.lead (D:=whT) M i t hu trivial) (λj f=>(hA j f).dn) hS;have a5:=gr.gt (h.acc t).1 q;have a6:b.key<=K1+9:=by
  have:=q.le;have:=h.le t;omega
 have a3:∀ j,j<5->((M.act (acN 2 (i:Int))).ab j).up=true:=by rw[IF hu];exact o.up
 rw[JO a3];rw[IF hu]at u ⊢
 have G:=Bp M i ((M.ab i).lead i) M.br M.ed;have S:∀ j,j≠i->((M.set i ((M.ab i).lead i) M.br M.ed).ab j)=M.ab j:=λj f=>by rw[Am,if_neg f]
 have V:QA i b (M.set i ((M.ab i).lead i) M.br M.ed):=λj f c hx=>by
  refine absurd ?_ (show ¬ b.key<=max K (M.ab i).vo.p.key by have:=q.gt;omega);by_cases e:j=i
  .rw[e,G,q.ask.2.1]at hx
   have:=(hA i t).le c b hx;omega
  .rw[S j e]at hx
   have:=(hA j f).le c b hx;have:=h.le f;omega
 have F:∀ j,j<5->j≠i->((M.set i ((M.ab i).lead i) M.br M.ed).ab j).vo.p.key<b.key:=λj f e=>by
  rw[S j e];have:=h.le f;omega
 generalize M.set i ((M.ab i).lead i) M.br M.ed=N at o u G L T V F ⊢;rw[<- G]at q
 have o:=o.to (K':=b.key) (λj f=>by
  by_cases e:j=i
  .rw[e,q.vo];exact mT _
  .have:=F j f e;omega) (by omega)
 have E:∀ k,k<5->∀ s,s<40->(upN B i b k,s)∈cov++FA b:=λk hk s hs=>by
  unfold upN;split
  .exact mU _ (FB b hs)
  .exact mV _ (hc k hk s hs)
 have l:PhC C b.key (upN B i b) (cov++FA b) i b:=⟨E,hC,t,q.may,q.n,Dd _ _ _,rfl⟩;have y:14*b.key+38*((cov++FA b).length:Int)<=99000:=by
  have:(cov++FA b).length=cov.length+40:=by rw[G'];unfold FA;rw[nA,qr]
  omega
 obtain⟨vs,hq⟩:=q.pe;generalize cov++FA b=cov' at o E l y;generalize upN B i b=B' at o E l;generalize a0:b.key=K' at o l y F;have O:PhB C K' B' cov' i b N:=⟨o,L,q.vo⟩;obtain⟨p1,p2,p3,p4,p5,p6,p7⟩:=eA E y u (by omega) o t q.may a0 l.hB q.vo F hq q.p1;obtain⟨q1,q2,_,_⟩:=Rj l u (by omega) O V;have U:=DA (I:=λX=>PhB C K' B' cov' i b X/\∀ j,j<5->StI (X.ab j)) (λc X Y s g=>⟨g.1.step l s,StI.step s (λj f=>(g.1.ak j f).dn) g.2⟩) (λX g=>⟨⟨g.1.cm.drop,g.1.ak,g.1.vi⟩,g.2⟩);have H:∀ a X k,MOk k X->k+6*a<=1000000->PhB C K' B' cov' i b X->(∀ j,j<5->StI (X.ab j))->∀ j,j<5->StI ((X.dc (Al a)).ab j):=λa X k h1 h2 h3 h4=>(U a h1 h2 ⟨h3,h4⟩).1.2;clear U;have s1:=H 1 N _ u (by omega) O T;rw[show Al 1=An from rfl]at s1
 obtain⟨r1,r2,r3,r4⟩:=eB l p7 (by omega) q1 (λj f c e=>.inl (q2 j f c e)) p2 p3 p4 p5 p6;have s2:=H 1 _ _ p7 (by omega) q1 s1;rw[show Al 1=An from rfl]at s2
 obtain⟨W,t1,t2,t3,t4,t5⟩:=iC l y R 81 r4 (by omega) r1 r2 r3 (by unfold mu;split<;>omega);have s3:=H W _ _ r4 (by omega) r1.pe.pb s2;obtain⟨r,rfl⟩:∃ r,m=1+(1+(W+(1+(1+r)))):=⟨m-W-4,by omega⟩;rw[Ex,AE,Ex,AE,Ex,AE,Ex,AE,Ex,AE];simp only[show Al 1=An from rfl];generalize (((N.dc An).dc An).dc (Al W))=X at t2 t3 t4 t5 s3 ⊢;generalize (X.ab i).ae=A at t2;obtain⟨u1,u2⟩:=MW l t5 (by omega) t3 t4;rw[t2.ag]at u2
 have v:=DA (I:=λY=>PhL C K' B' cov' i b Y/\Fin_ i A Y/\∀ j,j<5->StI (Y.ab j)) (λc Y Z s g=>⟨g.1.step l s,Fin_.step l s g.1.pe g.2.1,StI.step s (λj f=>(g.1.pe.pb.ak j f).dn) g.2.2⟩) (λY g=>⟨g.1.drop,g.2.1.drop,g.2.2⟩) 1 t5 (by omega) ⟨t3,t2,s3⟩;rw[show Al 1=An from rfl]at v
 obtain⟨⟨v1,v2,v3⟩,v4⟩:=v;have w:Fz C K' B' cov' i b A (X.dc An):=⟨v1,v2,λj f=>v2.tS l v1.pe f (u2 j f),v3⟩;generalize X.dc An=Y at w v4 ⊢;have x:Rst C K' B' cov' i b A (Y.dc An):=by
  have hz:=DA (λc Y Z s g=>Fz.step l s g) (λY g=>Fz.drop g) 1 v4 (by omega) w;rw[show Al 1=An from rfl]at hz
  refine⟨hz.1,λj f=>?_⟩;have a:=Bl (λc A N s g=>Fz.step l s.calm g) v4 (by omega) w;have d:=MH (J:=λZ=>(Z.ab j).done=A.length) (λc A N s g=>Fz.step l s.calm g) (λc A N s g d=>Ph l s.calm g f d) v4 (by omega) w f λZ _ _ _ g _=>Xc l R g f;rw[EO];obtain⟨Z,k1,k2,_⟩:=Cr (I:=λZ=>Fz C K' B' cov' i b A Z/\(Z.ab j).done=A.length) (λP Q s g=>⟨g.1.step l s.sF,Ph l s.sF g.1 f g.2⟩) a.1 ⟨a.2,d⟩;rw[k1];exact k2.2
 have a1:MOk (n+1+6+6+6*W+6*1+6*1) (Y.dc An):=(DA (λc Y Z s g=>Fz.step l s g) (λY g=>Fz.drop g) 1 v4 (by omega) w).2;exact⟨K',B',cov',b,A,l,(DA (λc Y Z s g=>Rst.step l s g) (λY g=>⟨g.z.drop,g.d⟩) r a1 (by omega) x).1⟩
end
section
def jo(l:List Int):Cmd:=⟨Ad (unQ l) 0,Ad (unQ l) 4,Ad (unQ l) 8,Ad (unQ l) 12,Ad (unQ l) 16⟩
variable{l:List Int}{now:Int}
theorem kU(h:opE l now=0):unE l=0:=by
 unfold opE at h;split at h
 .rename_i g;exact absurd h g
 .rename_i g;exact mX.1 g
theorem lN(h:unE l=0):(jo l).e=0:=by
 have:=(RH h).2;unfold Cl at this;split at this
 .cases this
 .exact this
theorem QV(h:opE l now=0):Eb l now=jo l:=by unfold Eb;rw[if_pos h];rfl
def JP(L:List Lac):List Cmd:=(L.filter λx=>decide (x.k=1/\unE x.d=0)).map λx=>jo x.d
theorem fm{L:List Lac}{x:Lac}(c:x∈L)(b:x.k=1){a:Int}(h:opE x.d a=0):Eb x.d a∈JP L:=by
 refine nw.2 ⟨x,pO.2 ⟨c,O' ⟨b,kU h⟩⟩,?_⟩;unfold Eb;rw[if_pos h];rfl
theorem j3(L:List Lac):∀ c∈JP L,c.e=0:=λc a=>by
 obtain⟨x,b,rfl⟩:=nw.1 a;exact lN (nL (pO.1 b).2).2
theorem Iv(L:List Lac)(e:∀ x∈L,LacOk x)(k:L.length<=100000):(∀ j,j<5->AskI ((Ao.dc L).ab j))/\∀ j,j<5->StI ((Ao.dc L).ab j):=by
 have s:Sts whT L.length Ao (Ao.dc L):=Gl L MOk.zero (by omega) λx i=>⟨e x i,V0 x⟩;exact(s.inv (I:=λM=>(∃ σ,AgI σ M)/\(∀ j,j<5->AskI (M.ab j))/\∀ j,j<5->StI (M.ab j)) (λc M N h ⟨⟨σ,g⟩,a,b⟩=>by
  obtain⟨τ,_,_,d,_⟩:=g.step h;exact⟨⟨τ,d⟩,AskI.step h g a,StI.step h (λj f=>(a j f).dn) b⟩) ⟨⟨_,AgI.zero⟩,AskI.zero,StI.zero⟩).2
theorem dU(L M:List Lac):lds (L++M)=lds L+lds M:=by unfold lds;rw[pl]
theorem settled(L:List Lac)(v:∀ x∈L,LacOk x)(a2:9*lds L<=3480)(n:(JP L).length<40)(hq:126*lds L+38*L.length<=85000)(m:Nat)(hm:85<=m)(hl:L.length+12*m<=99000){i:Nat}(O:i<5) :
  ∃ K B cov b A,PhC (JP L) K B cov i b/\Rst (JP L) K B cov i b A (Ao.dc (L++(Cv m (i:Int)++Cv m (i:Int)))):=by
 have C:∀ x∈Cv m (i:Int),LacOk x:=λx hx=>by
  rcases P'.1 hx with hx|hx
  .rcases P'.1 hx with hx|hx
   .exact PC 0 x hx
   .rw[D'.1 hx];exact D8 ⟨.inl rfl,by omega,by omega⟩
  .exact PC m x hx
 have a0:(Cv m (i:Int)).length=6*m+11:=by
  have V:∀ m,(Dr m).length=5+6*m:=λm=>by unfold Dr;rw[G',Id];rfl
  unfold Cv;simp only[G',V,nN];omega
 have l:∀ x∈L++Az,LacOk x:=λx hx=>(P'.1 hx).elim (v x) λe=>PC 0 x (mV _ e);have a1:(L++Az).length=L.length+5:=by rw[G'];rfl
 have t:∀ j,j<5->((Ao.dc (L++Az)).ab j).up=true:=λj z=>by
  have:=jq L v 0 (by omega) z
  rwa [show Dr 0=Az from nB _]at this
 have Y:∀ x∈L++Az,x.k=1->∀ o:Nat,opE x.d (o:Int)=0->Eb x.d (o:Int)∈JP L:=λx hx H o h=>by
  rcases P'.1 hx with e|e
  .exact fm e H h
  .obtain⟨k,_,rfl⟩:=nw.1 e;exact absurd H (by show(9:Int)≠1;decide)
 have g:=gL (S:=λc=>c∈JP L) (L++Az) l (by omega) Y;obtain⟨τ,cov,_,J,u,w,y⟩:=WV (L++Az) MOk.zero (by omega) l AgI.zero KbI.zero (cov:=[]) (λb s c h=>h.elim);rw[show lds (L++Az)=lds L by rw[dU];rfl,Int.zero_add]at u
 have r:=Lm (L++Az) l (by omega);have F:Ao.dc (L++(Cv m (i:Int)++Cv m (i:Int)))=(((((((Ao.dc (L++Az)).act (acN 2 (i:Int))).dc Az).dc (Al m)).dc Az).act (acN 2 (i:Int))).dc Az).dc (Al m):=by
  have e:∀ X:Meet,X.dc (Cv m (i:Int))=(((X.dc Az).act (acN 2 (i:Int))).dc Az).dc (Al m):=λX=>by
   unfold Cv;rw[AE,show Dr 0=Az from nB _,AL];unfold Dr;rw[AE]
  rw[AE,AE,e,e,AE]
 rw[F];have G:((((Ao.dc (L++Az)).act (acN 2 (i:Int))).dc Az).dc (Al m))=Ao.dc (L++Cv m (i:Int)):=by
  rw[AE _ L (Cv m (i:Int)),AE _ L Az];unfold Cv;rw[AE,show Dr 0=Az from nB _,AL];unfold Dr;rw[AE]
 have a:=Iv (L++Cv m (i:Int)) (λx hx=>(P'.1 hx).elim (v x) (C x)) (by rw[G'];omega);rw[<- G]at a
 clear F G;generalize Ao.dc (L++Az)=M at t g J u r a ⊢;obtain⟨q,f⟩:∃ q,cov++(FA (M.ab 0).bn.hU++(FA (M.ab 1).bn.hU++(FA (M.ab 2).bn.hU++(FA (M.ab 3).bn.hU++FA (M.ab 4).bn.hU))))=q:=⟨_,rfl⟩;have I:q.length<=L.length+205:=by
  rw[<- f];simp only[G',FA,nA,qr];simp only[List.length_nil]at w;omega
 have Z:∀ j,j<5->∀ s,s<40->((M.ab j).bn.hU,s)∈q:=λj z s n=>by
  rw[<- f];refine mU _ ?_;simp only[P'];rcases se z with rfl|rfl|rfl|rfl|rfl
  .exact .inl (FB _ n)
  .exact .inr (.inl (FB _ n))
  .exact .inr (.inr (.inl (FB _ n)))
  .exact .inr (.inr (.inr (.inl (FB _ n))))
  .exact .inr (.inr (.inr (.inr (FB _ n))))
 have W:Cm (λc=>c∈JP L) (9*(lds L:Int)) (λj=>(M.ab j).bn.hU) q M:=⟨⟨τ,J,λb s c h=>by rw[<- f];exact mV _ (y b s c h)⟩,⟨by omega,u.mono (mT _) (by omega)⟩,t,λ_ _=>rfl,g⟩;obtain⟨K',B',E,k1,D,k3,k4,P,Q,R⟩:=ky r (m:=m) (by omega) (by omega) Z W u (mT _) (by omega) (by omega) O;generalize (((M.act (acN 2 (i:Int))).dc Az).dc (Al m))=N at D P Q R a ⊢;rw[JO D.up];obtain⟨U,T,p,b,A,z1,z2⟩:=kz (j3 L) n R hm (by omega) k3 D P Q (by omega) (by omega) (by omega) O a.1 a.2;exact⟨U,T,p,b,A,z1,z2⟩
end
section
variable{C:List Cmd}{K:Int}{B:Nat->Bal}{cov:List (Bal × Nat)}{i:Nat}{b:Bal}{A:List Cmd}
theorem Rst.log{N:Meet}(r:Rst C K B cov i b A N){j:Nat}(c:j<5):N.log j=A:=by unfold Meet.log;rw[r.z.a j c,r.d j c,ou]
theorem Rst.av{N:Meet}(r:Rst C K B cov i b A N)(k:A.length<40){j:Nat}(e:j<5):(N.ab j).av=[]:=pE.2 λc h=>by
 have g:=(r.z.l.pe.pb.ak j e).un c h;rw[r.z.a j e,r.d j e,ou]at g
 exact g (r.z.f.qu k c (r.z.l.pe.qw j e c h))
end
section
theorem R5(L:List Lac):(JP L).length<=L.countP λx=>decide (x.k=1):=by
 unfold JP;rw[nA,<- List.countP_eq_length_filter];exact List.countP_mono_left λx _ h=>O' (nL h).1
theorem iD(L:List Lac):lds L<=L.length:=qM
theorem Vg(L:List Lac)(a:∀ x∈L,LacOk x)(g:L.length<=380)(h:L.countP (λx=>decide (x.k=1))<40){i:Nat}(c:i<5) :
  ∃ K B cov b A,PhC (JP L) K B cov i b/\Rst (JP L) K B cov i b A (Ao.dc (L++DX L (i:Int))):=by
 have d:=iD L;have e:(L.filter hvy).length<=L.length:=pQ _ _;have f:=R5 L;exact settled L a (by omega) (by omega) (by omega) (Fq L) (by unfold Fq;omega) (by unfold Fq;omega) c
variable{L:List Lac}{M N:Meet}{c d:Cmd}{k0 n:Nat}{x:Lac}{α:Type}{σ:Gs}
theorem ZC{p:Nod}{s:Nat}(h:p.rk s=some c):(∃ j,j<5/\∃ v∈(p.bn.an j).vs,v.bt=(s:Int)/\v.w=c)\/c∉p.ae:=by
 unfold Nod.rk at h;split at h
 .cases h
 .rename_i d
  have d:=mX.1 d;split at h
  .rename_i hF
   left;have f:DV (p.bn.hZ.map (·.vs)) (s:Int)=(Eh (p.bn.hZ.map (·.vs)) (s:Int)).isSome:=if_pos d;have o:G8 (p.bn.hZ.map (·.vs)) (s:Int)=((Eh (p.bn.hZ.map (·.vs)) (s:Int)).map (·.w)).getD ⟨0,0,0,0,0⟩:=if_pos d;have g:∀ l∈p.bn.hZ.map (·.vs),∀ v∈l,Ah v:=by
    unfold BZ at d;split at d
    .cases d
    .split at d
     .assumption
     .cases d
   have n:∀ v∈Ae (p.bn.hZ.map (·.vs)).flatten (s:Int),Ap v.b:=λv e=>by
    obtain⟨l,q,r⟩:=pa.1 (AM.1 e).1;exact(g l q v r).2.1.pr
   rcases Lr _ n with⟨h0,hO⟩|⟨x,hO,hx,_⟩
   .have hO:Eh (p.bn.hZ.map (·.vs)) (s:Int)=none:=hO;rw[hO]at f;rw[f]at hF;cases hF
   .have hO:Eh (p.bn.hZ.map (·.vs)) (s:Int)=some x:=hO;rw[hO]at o
    obtain⟨u,i⟩:=AM.1 hx;obtain⟨l,t,e⟩:=pa.1 u;obtain⟨a,m,rfl⟩:=nw.1 t;have k:x.w=c:=o.symm.trans (nP h);unfold Rnd.hZ at m;simp only[mZ,Q',or_false]at m;rcases m with rfl|rfl|rfl|rfl|rfl
    .exact⟨0,by decide,x,e,i,k⟩
    .exact⟨1,by decide,x,e,i,k⟩
    .exact⟨2,by decide,x,e,i,k⟩
    .exact⟨3,by decide,x,e,i,k⟩
    .exact⟨4,by decide,x,e,i,k⟩
  .exact .inr (by have:=rX h;simpa using this)
def NdW(σ:Gs):Prop:=∀ b s c,σ.W b s c->∃ l:List Cmd,l.length=s/\AgL σ l 0/\c∉l
theorem NdW.step{D:Wh}(h:AgI σ M)(k:NdW σ)(s:Stp D n M N):∃ τ,AgI τ N/\NdW τ:=by
 obtain⟨τ,w,d,r,t,u⟩:=h.tY s;refine⟨τ,r,λb s c g=>?_⟩;have a:∀ {b s c},σ.W b s c->∃ l:List Cmd,l.length=s/\AgL τ l 0/\c∉l:=λ{b s c} g=>by
  obtain⟨l,m,o,p⟩:=k b s c g;exact⟨l,m,o.mono d,p⟩
 rcases t b s c g with g2|e
 .exact a g2
 .obtain⟨_,_,i,hi,_,hu,rfl,hx⟩:=u b s e;rcases ZC (hx c g)with⟨j,hj,v,hv,hs,rfl⟩|hc
  .obtain⟨rs,q⟩:=(h.nd i hi).up hu;have f:=(h.gs.hv j v (q.rd.an j hj v hv).1).2;rw[hs,nE]at f
   exact a f
  .exact⟨_,rfl,(h.nd i hi).ag.mono d,hc⟩
theorem NdW.dc(L:List Lac)(a:∀ x∈L,LacOk x)(c:L.length<=100000):∃ σ,AgI σ (Ao.dc L)/\NdW σ:=by
 have s:Sts whT L.length Ao (Ao.dc L):=Gl L MOk.zero (by omega) λx b=>⟨a x b,V0 x⟩;exact s.inv (I:=λM=>∃ σ,AgI σ M/\NdW σ) (λ_ M N g ⟨σ,h,k⟩=>NdW.step h k g) ⟨_,AgI.zero,λ_ _ _ g=>g.elim⟩
theorem AgI.nodup(h:AgI σ M)(k:NdW σ){j:Nat}(r:j<5):(M.ab j).ae.Nodup:=by
 refine nZ.2 λs t w y x e=>?_;have c:=(h.nd j r).ag;obtain⟨b,Q,E,d⟩:=c t _ (E' y);rw[nM]at d
 obtain⟨q,u,p,_⟩:=G3 Q Q (by omega) (by omega);obtain⟨v,g,z,F,A⟩:=d q u p;have f:=(h.gs.hv q v g).2;rw[z,nE]at f
 obtain⟨l,D,n,o⟩:=k _ _ _ f;have a:s<l.length:=by omega
 obtain⟨B,i⟩:=n s _ (E' a);obtain⟨C,m⟩:=c s _ (E' w);have:=h.gs.tH.agree i m;exact o (by rw[A,<- e,<- this];exact nJ a)
theorem Iw(a:∀ x∈L,LacOk x)(c:L.length<=100000){j:Nat}(b:j<5):((Ao.dc L).ab j).ae.Nodup:=by
 obtain⟨σ,h,k⟩:=NdW.dc L a c;exact h.nodup k b
def whS:Wh:=⟨λ_ _=>True,True,False,True,True,False⟩
def Ll(n:Nat)(c:Cmd)(ts:List Tol):Prop:=∃ t∈ts,t.n=n/\t.c=c.c/\t.s=c.s
def SvI(n:Nat)(c:Cmd)(M:Meet):Prop:=(M.ab n).up=true/\(c∈(M.ab n).av\/c∈(M.ab n).ae.take (M.ab n).done/\Ll n c M.ed)
theorem iJ{l m:List α}{k a:Nat}(h:l <+: m)(d:k<=a){c:α}(b:c∈l.take k):c∈m.take a :=
 (List.prefix_take_iff.2 ⟨(pJ _ _).trans h,by rw[j'];omega⟩).subset b
theorem SvI.step(s:Stp whS k0 M N)(y:∀ j,j<5->AskI (M.ab j))(h:SvI n c M):SvI n c N:=by
 obtain⟨a,h⟩:=h;have put:∀ {i:Nat} {p:Nod} (b:List Let) {m:List Tol},(∀ t∈M.ed,t∈m)->(p.up=(M.ab i).up)->(M.ab i).done<=p.done->(M.ab i).ae <+: p.ae->(i=n->c∈(M.ab i).av->c∈p.av\/c∈p.ae.take p.done/\Ll n c m)->SvI n c (M.set i p b m):=λ{i p} b {m} u A B C D=>by
  unfold SvI;rw[Am];split
  .rename_i e
   subst e;refine⟨A.trans a,?_⟩;rcases h with h|⟨g1,t,g2,g3⟩
   .exact D rfl h
   .exact .inr ⟨iJ C B g1,t,u t g2,g3⟩
  .refine⟨a,?_⟩;rcases h with h|⟨g1,t,g2,g3⟩
   .exact .inl h
   .exact .inr ⟨g1,t,u t g2,g3⟩
 have k:∀ {i:Nat} {p:Nod} (b:List Let),Ev (M.ab i) p->p.av=(M.ab i).av/\p.done=(M.ab i).done->SvI n c (M.set i p b M.ed):=λ{i p} b e w=>put b (λ_ h=>h) e.up (Nat.le_of_eq w.2.symm) e.ag λ_ g=>.inl (by rw[w.1];exact g);cases s with
 | take _ l hl hd hu z =>
  have:=(Ji (M.ab l.dst) l (y _ hd.2).qn).1;exact k _ (Ev.take _ l) ⟨this.1,this.2.2⟩
 | br _ b hl hd=>exact⟨a,h⟩
 | one _ i d hi hu hc he =>
  have z:(M.ab i).ae.take ((M.ab i).done+1)=(M.ab i).ae.take (M.ab i).done++[d]:=by rw[oF,hc];rfl
  have o:=congrArg Prod.fst (OO { M.ab i with ni:=doS (M.ab i).ni d,done:=(M.ab i).done+1 } d);refine put M.br (λt h=>?_) o ?_ ?_ λe g=>?_
  .split
   .exact mV _ h
   .exact h
  .unfold Nod.fv;split<;>exact nX _
  .unfold Nod.fv;split<;>exact mW _
  .by_cases e2:c=d
   .subst e2;have f:=((y i hi).wa c).1 g;right;rw[if_pos f];unfold Nod.fv;rw[if_pos f];exact⟨by show c∈(M.ab i).ae.take ((M.ab i).done+1);rw[z];exact mU _ (D'.2 rfl),_,mU _ (D'.2 rfl),e,rfl,rfl⟩
   .left;unfold Nod.fv;split
    .exact(qZ e2).2 g
    .exact g
 | ask _ i hi hu =>
  refine k _ (Ev.jv _ i) ?_;unfold Nod.jv;split
  .exact⟨rfl,rfl⟩
  .split
   .unfold Nod.dT;split<;>exact⟨rfl,rfl⟩
   .exact⟨rfl,rfl⟩
 | prop _ i hi hu =>
  refine k _ (Ev.cx _) ?_;unfold Nod.cx;split
  .exact⟨rfl,rfl⟩
  .split
   .exact⟨rfl,rfl⟩
   .split
    .exact⟨rfl,rfl⟩
    .exact(BX (M.ab i) _).1.imp_right And.right
 | so _ i hi hu f hT=>exact put _ (λ_ h=>h) rfl (A' _) (mW _) λ_ g=>.inl g
 | run _ i hi hu q l hp f =>
  refine k _ ((Ev.ln _ i q).bu l) ?_;show((M.ab i).ln i q).av=_/\((M.ab i).ln i q).done=_;cases q<;>first|exact⟨rfl,rfl⟩|(simp only[Nod.ln];split<;>exact⟨rfl,rfl⟩)|(simp only[Nod.ln,Nod.count];split<;>first|exact⟨rfl,rfl⟩|(split<;>exact⟨rfl,rfl⟩))
 | sg _ i hi hu hL=>exact put _ (λ_ h=>h) rfl (A' _) (mW _) λ_ g=>.inl g
 | lead _ i hi hu hL =>
  have e:=AO (M.ab i) ⟨max (M.ab i).cF (M.ab i).vo.p.r+1,(i:Int)⟩;have v:=Ev.au (M.ab i) ⟨max (M.ab i).cF (M.ab i).vo.p.r+1,(i:Int)⟩;refine put _ (λ_ h=>h) (congrArg Prod.fst (Pr (M.ab i) i)) ?_ ?_ λ_ g=>.inl ?_
  .unfold Nod.lead;simp only;split
   .exact A' _
   .exact Nat.le_of_eq e.1.2.2.symm
  .unfold Nod.lead;simp only;split
   .exact mW _
   .exact v.ag
  .unfold Nod.lead;simp only;split
   .exact g
   .show c∈(Nod.au _ _).1.av;rw[e.1.1];exact g
 | sub _ i d hi hu hD =>
  unfold Nod.sj Nod.ss;split
  .exact put _ (λ_ h=>h) rfl (A' _) (mW _) λ_ g=>.inl g
  .split
   .exact put _ (λ_ h=>h) rfl (A' _) (mW _) λ_ g=>.inl g
   .split
    .exact put _ (λ_ h=>mV _ h) rfl (A' _) (mW _) λ_ g=>.inl g
    .refine put _ (λ_ h=>h) ?_ ?_ ?_ λ_ g=>.inl ?_
     .unfold Nod.want;split<;>rfl
     .unfold Nod.want;split<;>exact A' _
     .unfold Nod.want;split<;>exact mW _
     .unfold Nod.want;split
      .exact g
      .exact mV _ g
 | lp _ i x hi hu hk hC=>exact False.elim hC
 | start _ i hi hu f=>exact False.elim f
theorem SvI.act(D:n<5){c:Cmd}{P:List Lac}(b:∀ x∈P,LacOk x)(C:P.length<100000){x:Lac}(l:LacOk x)(u:¬ (x.k=8/\x.n=(n:Int)))(h:SvI n c (Ao.dc P)):SvI n c (Ao.dc (P++[x])):=by
 rw[AE];have same:∀ {N:Meet},N.ab n=(Ao.dc P).ab n->N.ed=(Ao.dc P).ed->SvI n c N:=λr t=>by unfold SvI at h ⊢;rw[r,t];exact h
 have f:=(Iv P b (by omega)).1;have d:=Lm P b (by omega);obtain⟨σ,i,_⟩:=NdW.dc P b (by omega);generalize Ao.dc P=M at h f d i same ⊢;by_cases a:x.k=8
 .have hne:x.n≠(n:Int):=λe=>u ⟨a,e⟩;have v:=l.n (by rw[a];rfl);have e:M.dc [x]=M.set x.n.toNat (if(M.ab x.n.toNat).up then(M.ab x.n.toNat).lp x.p else M.ab x.n.toNat) M.br M.ed:=by
   show M.act x=_;unfold Meet.act;simp only;rw[if_neg (by omega),if_neg (by omega),if_neg (by omega),if_neg (by omega),if_neg (by omega),if_pos a]
  rw[e];exact same (by rw[Am,if_neg (by omega)]) rfl
 .by_cases k9:x.k=9
  .have e:M.dc [x]=M.set x.n.toNat (if(M.ab x.n.toNat).up then M.ab x.n.toNat else(M.ab x.n.toNat).start) M.br M.ed:=by
    show M.act x=_;unfold Meet.act;simp only;rw[if_neg (by omega),if_neg (by omega),if_neg (by omega),if_neg (by omega),if_neg (by omega),if_neg (by omega),if_pos k9]
   rw[e];refine same ?_ rfl;rw[Am];split
   .rename_i g;rw[<- g,if_pos h.1]
   .rfl
  .have s:Sts whS [x].length M (M.dc [x]):=Gl [x] d (by simp;omega) λy w=>by
    rw[D'.1 w];exact⟨l,λ_=>trivial,λ_=>trivial,λe=>absurd e a,λ_=>⟨trivial,trivial⟩,λe=>absurd e k9⟩
   exact(s.inv (I:=λN=>SvI n c N/\(∃ σ,AgI σ N)/\∀ j,j<5->AskI (N.ab j)) (λ_ A B g ⟨z,⟨σ,m⟩,o⟩=>⟨z.step g o,(by obtain⟨τ,_,_,q,_⟩:=m.step g;exact⟨τ,q⟩),AskI.step g m o⟩) ⟨h,⟨σ,i⟩,f⟩).1
theorem SvI.dc(f:n<5){c:Cmd}{P:List Lac}(R:List Lac)(a:∀ x∈P++R,LacOk x)(b:(P++R).length<=100000)(e:∀ x∈R,¬ (x.k=8/\x.n=(n:Int)))(h:SvI n c (Ao.dc P)):SvI n c (Ao.dc (P++R)):=by
 induction R generalizing P with
 | nil=>rwa [nB]
 | cons x R ih =>
  rw[show P++x::R=P++[x]++R by simp]at a b ⊢
  rw[G',G']at b
  simp only[nN]at b;refine ih (P:=P++[x]) a (by rw[G',G'];simp only[nN];omega) (λy d=>e y (I' _ d)) ?_;exact h.act f (λy d=>a y (mV _ (mV _ d))) (by omega) (a x (mV _ (mU _ (D'.2 rfl)))) (e x M')
theorem SvI.sub(b:x.k=1)(i:x.n=(n:Int))(a:(M.ab n).up=true)(e:AskI (M.ab n))(h:opE x.d ((M.ab n).done:Int)=0){c:Cmd}(f:Eb x.d ((M.ab n).done:Int)=c):SvI n c (M.act x):=by
 unfold Meet.act;simp only;rw[if_pos b,i,nE];unfold SvI;rw[Bp];unfold Nod.sj Nod.ss;rw[if_neg (by rw[a];decide),if_neg (λg=>g h),f];split
 .rename_i g
  exact⟨a,.inr ⟨g,_,mU _ (D'.2 rfl),rfl,rfl,rfl⟩⟩
 .refine⟨by unfold Nod.want;split<;>exact a,.inl ?_⟩;unfold Nod.want;split
  .rename_i g;exact(e.wa c).2 g
  .exact mU _ (D'.2 rfl)
theorem ju(v:∀ x∈L,LacOk x)(Q:L.length<=380)(T:L.countP (λx=>decide (x.k=1))<40){j:Nat}(P:j<5){N:Meet}(J:Ao.dc (L++DX L (j:Int))=N)(F:∀ x∈DX L (j:Int),LacOk x/\x.k≠8)(p:(L++DX L (j:Int)).length<=100000) :
  (N.log 0).length<40/\∀ {i:Nat} {x:Lac} {n:Nat} {c:Cmd},L[i]?=some x->x.k=1->x.n=(n:Int)->n<5->((Ao.dc (L.take i)).ab n).up=true->opE x.d (((Ao.dc (L.take i)).ab n).done:Int)=0->Eb x.d (((Ao.dc (L.take i)).ab n).done:Int)=c->(∀ y∈L.drop (i+1),¬ (y.k=8/\y.n=(n:Int)))->c∈N.log 0/\Ll n c N.ed:=by
 subst J;have t:∀ x∈L++DX L (j:Int),LacOk x:=λx o=>(P'.1 o).elim (v x) λe=>(F x e).1;obtain⟨K,B,H,b,A,W,h⟩:=Vg L v Q T P;have r:=Iw t p (j:=0) (by omega);rw[h.z.a 0 (by omega)]at r
 have E:A.length<40:=by
  have C:=La r (m:=JP L) λx o=>(h.z.l.pe.pb.cm.s.nd 0 (by omega)).ag x (by rw[h.z.a 0 (by omega)];exact o);have:=R5 L;omega
 refine⟨by rw[h.log (by omega)];exact E,λ{i x n c} o C R f U S O I=>?_⟩;have X:=(V'.1 o).1;have e:L=L.take i++[x]++L.drop (i+1):=by
  have D:=oq (i+1) L;rw[oF,o]at D
  exact D.symm
 have M:∀ y∈L.take i,LacOk y:=λy w=>v y (nm w);have V:SvI n c (Ao.dc (L.take i++[x])):=by
  rw[AE];exact SvI.sub C R U ((Iv (L.take i) M (by rw[j'];omega)).1 n f) S O
 have u:L++DX L (j:Int)=L.take i++[x]++(L.drop (i+1)++DX L (j:Int)):=by rw[<- mY,<- e]
 have G:=V.dc f (L.drop (i+1)++DX L (j:Int)) (by rw[<- u];exact t) (by rw[<- u];exact p) λy w=>(P'.1 w).elim (I y) λg q=>(F y g).2 q.1;rw[<- u]at G
 rcases G.2 with g|⟨g1,g2⟩
 .rw[h.av E f]at g;cases g
 .rw[h.z.a n f,h.d n f,ou]at g1
  exact⟨by rw[h.log (by omega)];exact g1,g2⟩
def mg:Wh:=⟨λ_ _=>False,True,True,True,True,True⟩
def twM(M:Meet):Nat:=M.ed.length+ww M
theorem fC(s:Stp mg k0 M N)(f:∀ j,j<5->AskI (M.ab j)):twM N<=twM M:=by
 have put:∀ {i:Nat} {p:Nod} (b:List Let) {e:List Tol},i<5->e.length+p.av.length<=M.ed.length+(M.ab i).av.length->twM (M.set i p b e)<=twM M:=λ{i p} b {e} a h=>by
  have k:=PV M a p b e;have m:=co M a;show e.length+ww (M.set i p b e)<=M.ed.length+ww M;omega
 have nn:∀ {i:Nat} {p:Nod} (b:List Let),i<5->p.av=(M.ab i).av->twM (M.set i p b M.ed)<=twM M:=λ{i p} b a h=>put b a (by rw[h];exact A' _);cases s with
 | take _ l hl hd hu ht=>exact nn _ hd.2 (Ji (M.ab l.dst) l (f _ hd.2).qn).1.1
 | br _ b hl hd=>exact A' _
 | one _ i d a hu hc he =>
  by_cases c:((M.ab i).bN d).isSome=true
  .refine put _ a ?_;rw[if_pos c];unfold Nod.fv;rw[if_pos c];have g:=((f i a).wa d).2 c;have k:=p9 g;have m:=qo g;show(M.ed++[_]).length+((M.ab i).av.erase d).length<=_;rw[G',nN];omega
  .refine put _ a ?_;rw[if_neg c];unfold Nod.fv;rw[if_neg c];exact A' _
 | ask _ i a hu =>
  refine nn _ a ?_;unfold Nod.jv;split
  .rfl
  .split
   .unfold Nod.dT;split<;>rfl
   .rfl
 | prop _ i a hu =>
  refine nn _ a ?_;unfold Nod.cx;split
  .rfl
  .split
   .rfl
   .split
    .rfl
    .exact(BX (M.ab i) _).1.1
 | so _ i a hu c hT=>exact nn _ a rfl
 | run _ i a hu q l hp c =>
  refine nn _ a ?_;show((M.ab i).ln i q).av=_;cases q<;>first|rfl|(simp only[Nod.ln];split<;>rfl)|(simp only[Nod.ln,Nod.count];split<;>first|rfl|(split<;>rfl))
 | sg _ i a hu hL=>exact nn _ a rfl
 | lead _ i a hu hL =>
  refine nn _ a ?_;unfold Nod.lead;simp only;split
  .rfl
  .exact(AO (M.ab i) _).1.1
 | sub _ i d a hu hD=>exact False.elim hD
 | lp _ i x a hu hk hC =>
  unfold Nod.lp;split
  .exact nn _ a rfl
  .exact put _ a (by show M.ed.length+0<=_;omega)
 | start _ i a hu c =>
  unfold Nod.start;split
  .exact nn _ a rfl
  .split<;>exact put _ a (by show M.ed.length+0<=_;omega)
theorem fB(L:List Lac)(o:∀ x∈L,LacOk x)(F:L.length<=100000):twM (Ao.dc L)<=L.countP λx=>decide (x.k=1):=by
 suffices ∀ i,i<=L.length->twM (Ao.dc (L.take i))<=(L.take i).countP λx=>decide (x.k=1)by have:=this L.length (A' _);rwa [ou]at this
 intro i;induction i with
 | zero=>intro _;exact nH _
 | succ i h =>
  intro E;obtain⟨x,u⟩:∃ x,L[i]?=some x:=⟨_,E' (by omega)⟩;have c:=o x (np u);have l:∀ y∈L.take i,LacOk y:=λy m=>o y (nm m);have a:(L.take i).length<=100000:=by rw[j'];omega
  have r:=(Iv (L.take i) l a).1;have p:=Lm (L.take i) l a;obtain⟨σ,t,_⟩:=NdW.dc (L.take i) l a;have h:=h (by omega);rw[oF,u];show twM (Ao.dc (L.take i++[x]))<=(L.take i++[x]).countP _;rw[AE,pl];generalize Ao.dc (L.take i)=M at h r p t ⊢;by_cases f:x.k=1
  .have hn:=c.n (by rw[f];rfl);have e:[x].countP (λx=>decide (x.k=1))=1:=by simp[f]
   rw[e];refine mS ?_ (Nat.add_le_add_right h 1);show twM (M.act x)<=_;unfold Meet.act;simp only;rw[if_pos f];have b:x.n.toNat<5:=by omega
   generalize x.n.toNat=n at b;have C:=PV M b ((M.ab n).sj n x.d M.ed).1 M.br ((M.ab n).sj n x.d M.ed).2;show((M.ab n).sj n x.d M.ed).2.length+ww (M.set n _ _ _)<=M.ed.length+ww M+1;have key:((M.ab n).sj n x.d M.ed).2.length+((M.ab n).sj n x.d M.ed).1.av.length<=M.ed.length+(M.ab n).av.length+1:=by
    unfold Nod.sj Nod.ss;split
    .exact nX _
    .split
     .exact nX _
     .split
      .show(M.ed++[_]).length+(M.ab n).av.length<=_;rw[G',nN];omega
      .unfold Nod.want;split
       .exact nX _
       .show M.ed.length+((M.ab n).av++[_]).length<=_;rw[G',nN];omega
   have D:=co M b;omega
  .have s:Sts mg [x].length M (M.dc [x]):=Gl [x] p (by simp;omega) λy m=>by
    rw[D'.1 m];exact⟨c,λe=>absurd e f,λ_=>trivial,λ_=>trivial,λ_=>⟨trivial,trivial⟩,λ_=>trivial⟩
   have:=(s.inv (I:=λN=>twM N<=twM M/\(∃ σ,AgI σ N)/\∀ j,j<5->AskI (N.ab j)) (λ_ A B g ⟨z,⟨σ,v⟩,w⟩=>⟨mS (fC g w) z,(by obtain⟨τ,_,_,q,_⟩:=v.step g;exact⟨τ,q⟩),AskI.step g v w⟩) ⟨A' _,⟨σ,t⟩,r⟩).1;omega
theorem VV(k:c.k≠0)(s:0<=c.s):dnS AC c=Ge AC c:=by
 unfold dnS;rw[if_pos ⟨k,by show ¬ c.s<0;omega,rfl⟩]
theorem Vo(h:c.k=1)(i:d.k=1)(j:0<=c.s)(sd:0<=d.s)(a:c.c.toNat≠d.c.toNat)(b:c.n.toNat≠d.n.toNat) :
  (GL [c,d]).V c.n.toNat=c.v/\(GL [c,d]).V d.n.toNat=d.v/\(GL [c,d]).L c.c.toNat=c.s+1/\(GL [c,d]).L d.c.toNat=d.s+1:=by
 have e:GL [c,d]=Ge (Ge AC c) d:=by
  show dnS (dnS AC c) d=_;rw[VV (by omega) j];unfold dnS;have f:(Ge AC c).L d.c.toNat=0:=EU _ _ (Ne.symm a);have g:(Ge AC c).R d.c.toNat=false:=by
   unfold Ge;simp only;rw[if_neg (by omega)];rfl
  rw[if_pos ⟨by omega,by rw[f];omega,g⟩]
 rw[e];have l:(Ge AC c).V=KM AC.V c.n.toNat c.v:=if_pos h;have m:(Ge (Ge AC c) d).V=KM (Ge AC c).V d.n.toNat d.v:=if_pos i;rw[m,l];refine⟨?_,Es _ _ _,?_,Es _ _ _⟩
 .rw[EU _ _ b,Es]
 .show KM (KM AC.L c.c.toNat (c.s+1)) d.c.toNat (d.s+1) c.c.toNat=_;rw[EU _ _ a,Es]
theorem jA{A:List α}{c d:α}(b:A.Nodup)(a:∀ x∈A,x=c\/x=d)(m:c∈A)(n:d∈A)(h:c≠d):A=[c,d]\/A=[d,c]:=by
 match A,b,a,m,n with
 | [x],_,_,e,f=>exact absurd ((D'.1 e).trans (D'.1 f).symm) h
 | [x,y],b,a,_,_ =>
  have e:=a x (by simp);have f:=a y (by simp);have g:x≠y:=by simp at b;exact b
  rcases e with rfl|rfl<;>rcases f with rfl|rfl
  .exact absurd rfl g
  .exact .inl rfl
  .exact .inr rfl
  .exact absurd rfl g
 | x::y::z::l,b,a,_,_ =>
  have e:=a x (by simp);have f:=a y (by simp);have g:=a z (by simp);simp at b;obtain⟨⟨i,j,_⟩,⟨k,_⟩,_⟩:=b;rcases e with rfl|rfl<;>rcases f with rfl|rfl<;>rcases g with rfl|rfl<;>first|exact absurd rfl i|exact absurd rfl j|exact absurd rfl k
theorem bK{m:Nat}{g:List Tol}(i:Ll n c g)(j:Ll m d g)(h:c.c≠d.c)(k:g.length<=2):g.length=2:=by
 obtain⟨t,a,_,b,_⟩:=i;obtain⟨u,e,_,f,_⟩:=j
 match g,k,a,e with
 | [x],_,a,e=>exact absurd (b.symm.trans ((congrArg Tol.c ((D'.1 a).trans (D'.1 e).symm)).trans f)) h
 | [x,y],_,_,_=>rfl
theorem MC{P:Lac->Prop}(c:∀ n:Nat,n<5->P (acN 9 (n:Int)))(a:∀ n:Nat,n<5->P (acN 3 (n:Int)))(b:P (acN 7 0)){i:Int}(e:P (acN 2 i))(l:List Lac):∀ x∈DX l i,P x:=by
 have d:∀ m,∀ x∈Cv m i,P x:=λm x hx=>by
  rcases P'.1 hx with hx|hx
  .rcases P'.1 hx with hx|hx
   .exact Mz c a b 0 x hx
   .rw[D'.1 hx];exact e
  .exact Mz c a b m x hx
 intro x hx;exact(P'.1 hx).elim (d _ x) (d _ x)
theorem Rw(l:List Lac)(i:Int):(DX l i).length<=1222+240*l.length:=by
 have b:(l.filter hvy).length<=l.length:=pQ _ _;have a:∀ m,(Dr m).length=5+6*m:=λm=>by unfold Dr;rw[G',Id];rfl
 unfold DX Cv Fq;simp only[G',a,nN];omega
def Fw(n:Nat)(d:List Int):Lac:=⟨1,(n:Int),0,0,d⟩
theorem Lg(b:n<5){d:List Int}(a:d.length<=2000):LacOk (Fw n d):=by
 rw[<- DM];simp[Fw,dQ,Gj,Ir,Is];omega
theorem cO{a b q:Nat}(Q:a<5)(R:b<5)(F:q<5){h r:List Int}{c d:Cmd}(lx:h.length<=2000)(ly:r.length<=2000)(T:opE h 0=0)(M:Eb h 0=c)(U:opE r 0=0)(O:Eb r 0=d)(E:c.c≠d.c){N:Meet}(I:Ao.dc ([Fw a h,Fw b r]++DX [Fw a h,Fw b r] (q:Int))=N) :
  N.ed.length=2/\∃ A,(A=[c,d]\/A=[d,c])/\∀ j,j<5->N.log j=A:=by
 obtain⟨L,f⟩:∃ L,[Fw a h,Fw b r]=L:=⟨_,rfl⟩;rw[f]at I
 have a0:L.length=2:=by rw[<- f];rfl
 have u:∀ x∈L,LacOk x:=λx hx=>by
  rw[<- f]at hx
  rcases mZ.1 hx with rfl|hx
  .exact Lg Q lx
  .rw[D'.1 hx];exact Lg R ly
 have Z:∀ x∈L,x.k=1:=λx hx=>by
  rw[<- f]at hx
  rcases mZ.1 hx with rfl|hx
  .rfl
  .rw[D'.1 hx];rfl
 have a2:=Rw L (q:Int);have o:∀ x∈DX L (q:Int),LacOk x/\x.k≠8/\x.k≠1:=MC (P:=λx=>LacOk x/\x.k≠8/\x.k≠1) (λn hn=>⟨D8 ⟨.inr (.inr rfl),by omega,by omega⟩,by show(9:Int)≠8;decide,by show(9:Int)≠1;decide⟩) (λn hn=>⟨D8 ⟨.inr (.inl rfl),by omega,by omega⟩,by show(3:Int)≠8;decide,by show(3:Int)≠1;decide⟩) ⟨by rw[<- DM];decide,by decide,by decide⟩ ⟨D8 ⟨.inl rfl,by omega,by omega⟩,by show(2:Int)≠8;decide,by show(2:Int)≠1;decide⟩ L;have t:(L++DX L (q:Int)).length<=100000:=by rw[G'];omega
 have p:∀ x∈L++DX L (q:Int),LacOk x:=λx hx=>(P'.1 hx).elim (u x) λe=>(o x e).1;have w:L.countP (λx=>decide (x.k=1))<40:=qj qM (by omega);obtain⟨_,G⟩:=ju u (by omega) w F I (λx hx=>⟨(o x hx).1,(o x hx).2.1⟩) t;have S:∀ {m:Nat} {n:Nat},∀ y∈L.drop m,¬ (y.k=8/\y.n=(n:Int)):=λ{m n} y hy g=>by
  have:=Z y (oP hy);omega
 obtain⟨V,t1⟩:=G (i:=0) (x:=Fw a h) (n:=a) (c:=c) (by rw[<- f];rfl) rfl rfl Q rfl T M S;have C:((Ao.dc (L.take 1)).ab b).done=0:=by
  rw[<- f];exact X6 Ao (x:=Fw a h) (by show(1:Int)≠3;decide) (by show(1:Int)≠8;decide) (by show(1:Int)≠9;decide) b
 have J:((Ao.dc (L.take 1)).ab b).up=true:=by
  rw[<- f];exact X8 Ao (x:=Fw a h) (by show(1:Int)≠8;decide) rfl
 obtain⟨W,t2⟩:=G (i:=1) (x:=Fw b r) (n:=b) (c:=d) (by rw[<- f];rfl) rfl rfl R J (by rw[C];exact U) (by rw[C];exact O) S;obtain⟨K,B,X,bb,A,hh,v⟩:=Vg L u (by omega) w F;have D:=Iw p t (j:=0) (by omega);rw[v.z.a 0 (by omega)]at D
 have H:=fB (L++DX L (q:Int)) p t;rw[I]at v H
 have a1:(L++DX L (q:Int)).countP (λx=>decide (x.k=1))<=2:=by
  have Y:(DX L (q:Int)).countP (λx=>decide (x.k=1))=0:=List.countP_eq_zero.2 λx hx=>by have:=(o x hx).2.2;simpa using this
  rw[pl,Y];exact mS qM (by omega)
 rw[v.log (by omega)]at V W
 refine⟨bK t1 t2 E (by unfold twM at H;omega),A,jA D (λx hx=>?_) V W (λe=>E (by rw[e])),λj hj=>v.log hj⟩;have:=(v.z.l.pe.pb.cm.s.nd 0 (by omega)).ag x (by rw[v.z.a 0 (by omega)];exact hx);obtain⟨y,hy,rfl⟩:=nw.1 this;have hy:=(pO.1 hy).1;rw[<- f]at hy
 rcases mZ.1 hy with rfl|hy
 .left;rw[<- M,QV T];rfl
 .right;rw[D'.1 hy,<- O,QV U];rfl
end
end
section
open Go.RowKit
variable{f:Nat->Cmd}{n:Nat}
end
section
open Go.RowKit
section
variable{f:Nat->Cmd}{g:Gh}{n:Nat}{w:World}
theorem Sl.tZ(w:World)(l:List Int)(e:TypeId){g:Nat}(b:g=w.heap.size){n:Nat}(f:n=l.length)(d:l.length<=140737488351232)(a:∀ x∈l,0<=x/\x<256) :
  Sl (w.alloc (.cells (l.map (Value.int .u8)).toArray e)) (.slice (some ⟨g,0,none⟩) n n) l:=by
 subst b f;refine⟨⟨_,_,rfl,A' _,by simp,?_⟩,d,a⟩;refine .inr ⟨w.heap.size,0,rfl,by simp,λi c=>?_⟩;rw[cell_of_row _ _ (0+i) _ _ _ (heap_alloc_new w (.cells (l.map (Value.int .u8)).toArray e))];simp[List.getElem?_eq_getElem c,List.getD]
def zEn:Value:=.agg #[.int .i64 0,.int .i64 0,.int .i64 0,.int .i64 0,.int .i64 0,.int .i64 0,.int .i64 0,.slice none 0 0]
def tlA(s:Sto)(a:Option Addr)(n c:Nat):Array Value:=(stA s).push (.slice a n c)
theorem K8(c a:Int)(w:World)(G:0<=c)(H:c<2147483648)(a0:0<=a)(F:a<2147483648) :
  Calls prog 68 #[.agg #[.int .i64 c,.int .i64 a]] w λe w'=>∃ v',e=.returned v'/\w'.ownsRow w.heap.size 5 1 v' (Ab c++Ab a).length ((Ab c++Ab a).map (Value.int .u8))/\Bw w w':=by
 obtain⟨d,rfl⟩:=nI G;obtain⟨f,rfl⟩:=nI a0;have u:Bw w (w.alloc (.cells #[.int .i64 (d:Int),.int .i64 (f:Int)] 50)):=(Below.refl _ _).alloc (A' _) _;have s:=heap_alloc_new w (.cells #[.int .i64 (d:Int),.int .i64 (f:Int)] 50);generalize J:w.alloc (.cells #[.int .i64 (d:Int),.int .i64 (f:Int)] 50)=W at u s;have M:W.cell? ⟨w.heap.size,0,none⟩=some (.int .i64 (d:Int)):=cell_of_row _ _ 0 _ _ _ s;have N:W.cell? ⟨w.heap.size,1,none⟩=some (.int .i64 (f:Int)):=cell_of_row _ _ 1 _ _ _ s;have R:w.heap.size<=W.heap.size:=u.size;go_enter func68,ntmps68
 go_wp2_with fail
 clear J M N s
 go_loopw [3,11] (λv iv wr=>∃ i:Nat,i<=2/\iv=.int .i64 (i:Int)/\Hid (wr.ownsRow w.heap.size 5 1 v (([Ab (d:Int),Ab (f:Int)].take i).flatten).length ((([Ab (d:Int),Ab (f:Int)].take i).flatten).map (Value.int .u8)))/\Bw w wr) (λ_ iv _=>(2-intOf iv).toNat)
 case atStart=>exact⟨0,by omega,rfl,World.ownsRow_nil _ _ _ _,u⟩
 case round =>
  obtain⟨i,Q,rfl,h,g⟩:=hrel;have b:=h.out;clear h;have l:=b.lt;have A:=g.size;by_cases P:i<2
  .have hm:∃ m:Nat,(m:Int)<2147483648/\(∀ W,(Instr.index 191 (.agg #[.int .i64 (d:Int),.int .i64 (f:Int)]) (.int .i64 (i:Int))).run prog W=.ok (.int .i64 (m:Int)) W)/\([Ab (d:Int),Ab (f:Int)].take (i+1)).flatten=([Ab (d:Int),Ab (f:Int)].take i).flatten++Ab (m:Int):=by
    rcases(by omega:i=0\/i=1)with rfl|rfl
    .exact⟨d,H,λW=>by kernel_rfl,by simp⟩
    .exact⟨f,F,λW=>by kernel_rfl,by simp⟩
   obtain⟨m,L,z,o⟩:=hm;have B:Hid _:=o;have q:(([Ab (d:Int),Ab (f:Int)].take i).flatten).length<=8:=by
    rcases(by omega:i=0\/i=1)with rfl|rfl<;>simp[Ab]
   clear o;have I:(i:Int)<2:=by omega
   generalize ([Ab (d:Int),Ab (f:Int)].take i).flatten=pre at b B q;have D:(m:Int)/16777216%256=(m:Int)/16777216:=by omega
   have C:Hid ([(m:Int)/16777216,(m:Int)/65536%256,(m:Int)/256%256,(m:Int)%256]=Ab (m:Int)):=by
    show _=[_,_,_,_];rw[D]
   have n:∀ x∈[(m:Int)/16777216,(m:Int)/65536%256,(m:Int)/256%256,(m:Int)%256],0<=x/\x<256:=by rw[C.out];exact Aw _
   have t:Hid _:=n
   clear n D;go_wp2_with (at_builtin;refine Aa _ rfl _ _ 27 rfl w.heap.size 5 underlying27 Ax _ _ rfl rfl pre [(m:Int)/16777216,(m:Int)/65536%256,(m:Int)/256%256,(m:Int)%256] (b.alloc _) (Sl.tZ _ _ _ rfl rfl (by simp) t.out) (by simp;omega) (by simp;omega) ?_)
   intro O E r p;have y:Bw w E:=(g.alloc A _).grown p (by simp;omega) (λk K=>(l k K).1);have j:Hid (E.ownsRow w.heap.size 5 1 O (([Ab (d:Int),Ab (f:Int)].take (i+1)).flatten).length ((([Ab (d:Int),Ab (f:Int)].take (i+1)).flatten).map (Value.int .u8))):=by
    unfold Hid;rw[B.out,<- C.out];simpa using r
   clear r p b l g z;go_wp2
   go_roundw
   case rel=>exact⟨i+1,by omega,by go_num,j,y⟩
   case measure=>simp[intOf];omega
  .obtain rfl:i=2:=by omega
   have j:Hid (wr.ownsRow w.heap.size 5 1 u3 (Ab (d:Int)++Ab (f:Int)).length ((Ab (d:Int)++Ab (f:Int)).map (Value.int .u8))):=by
    unfold Hid;simpa using b
   clear b l;go_wp2
   go_ret;exact⟨_,rfl,j.out,g⟩
theorem bW(a0:Option Addr)(c0:Nat)(d:List Int)(k c q n v C A:Int)(w:World)(hS:Sl w (.slice a0 32 c0) d)(hl:d.length=32)(he:Bi k c q n v=0)(C0:0<=C)(C1:C<2147483648)(A0:0<=A)(A1:A<2147483648)(hT:AD w)(hN:NTab w) :
  Calls prog 38 #[.slice a0 32 c0,.agg #[.int .i64 k,.int .i64 c,.int .i64 q,.int .i64 n,.int .i64 v],.agg #[.int .i64 C,.int .i64 A]] w λe w'=>∃ g cap,e=.returned (.tuple #[.slice (some ⟨g,0,none⟩) 32 cap,.int .i64 0])/\w.heap.size<=g/\So w' g cap (lnk d ⟨k,c,q,n,v⟩ C A)/\Bw w w':=by
 have W:Hid (d.length=32):=hl;clear hl;have a8:=hT;have a7:=hN;obtain⟨K,J⟩:∃ K,(w.alloc (.cells #[.int .i64 k,.int .i64 c,.int .i64 q,.int .i64 n,.int .i64 v] 24)).alloc (.cells #[.int .i64 C,.int .i64 A] 50)=K:=⟨_,rfl⟩;have o:K.heap[w.heap.size]?=some (.cells #[.int .i64 k,.int .i64 c,.int .i64 q,.int .i64 n,.int .i64 v] 24):=by rw[<- J];exact ML _ _ _
 have s:K.heap[w.heap.size+1]?=some (.cells #[.int .i64 C,.int .i64 A] 50):=by rw[<- J];exact MM _ _ _
 have P:Bw w K:=by rw[<- J];exact OK _ _ _
 have r:w.heap.size<K.heap.size:=(U'.1 o).1;have p:(w.heap.size+1)<K.heap.size:=(U'.1 s).1;have M:=hT.af P;have E:=hN.af P;have z:=hS.af P;go_enter func38,ntmps38
 go_wp2_with ((with_reducible (refine Ed ?_));(refine wpList_load_row rfl 24 _ rfl w.heap.size rfl 24 _ (0,0) _ o underlying24 rfl Uw ?_))
 clear J;have key:=LE k c q n v K E;rw[he,Pj he]at key
 simp only[cmA]at key;refine(key).mono ?_;rintro e w1 ⟨v1,rfl,U,b⟩;have s1:=Sl.ov U (by rw[BE];omega) (Fj _ _ _ _ _);rw[BE]at U
 obtain⟨g1,c1,rfl⟩:=CA U;clear U key;have d1:=P.trans (b.mono P.size);have F:=M.af b;have G:=E.af b;have t:=(b.block _ r).trans o;have i:=X' r b.size;have m:=(b.block _ p).trans s;have f:=X' p b.size;have B:=z.af b;clear M E r o p s z;clear b;go_wp2_with ((with_reducible (refine Ed ?_));(refine wpList_load_row rfl 50 _ rfl (w.heap.size+1) rfl 50 _ (0,0) _ m underlying50 rfl gP ?_))
 refine(K8 C A w1 C0 C1 A0 A1).mono ?_;rintro e w2 ⟨v2,rfl,S,a⟩;have s2:=Sl.ov S (by simp[Ab]) (λx hx=>by rcases P'.1 hx with h|h;(· exact Aw _ x h);exact Aw _ x h);replace S:w2.ownsRow _ 5 1 v2 8 _:=S;obtain⟨g2,c2,rfl⟩:=CA S;clear S;have d2:=d1.trans (a.mono d1.size);have H:=F.af a;have I:=G.af a;have y:=(a.block _ i).trans t;have l:=X' i a.size;have u:=(a.block _ f).trans m;have j:=X' f a.size;have D:=B.af a;have N:=s1.af a;clear F G i t f m B s1;clear a;go_wp2_with fail
 refine(cV _ _ _ d (CO k c q n v) (Ab C++Ab A) w2 _ _ rfl D N s2 (by rw[W.out];omega) (by rw[BE];omega) (by simp[Ab]) (by rw[W.out];omega)).mono ?_;rintro e w3 ⟨v3,rfl,V,L⟩;have T:(d++(CO k c q n v++(Ab C++Ab A))).length=60:=by rw[G',W.out,G',BE];rfl
 have s3:=Sl.ov V (by rw[T];omega) (λx hx=>by rcases P'.1 hx with h|h;(· exact D.byte x h);rcases P'.1 h with h|h;(· exact Fj _ _ _ _ _ x h);rcases P'.1 h with h|h;(· exact Aw _ x h);exact Aw _ x h);rw[T]at V
 obtain⟨g3,c3,rfl⟩:=CA V;clear V;have Y:=d2.trans (L.mono d2.size);have O:=H.af L;have a6:=I.af L;have a5:=(L.block _ l).trans y;have a3:=X' l L.size;have a4:=(L.block _ j).trans u;have a2:=X' j L.size;clear H I l y j u;clear L;have R:(d++(CO k c q n v++(Ab C++Ab A))).length<=2000:=by rw[T];omega
 clear T;go_wp2_with fail
 refine(fp _ (d++(CO k c q n v++(Ab C++Ab A))) w3 s3 R O).mono ?_;rintro e w4 ⟨v4,rfl,o4,b4⟩;obtain⟨Z,c4,rfl,Q,s4⟩:=So.ov o4 (At _) (Dv _);have dd:=Y.trans (b4.mono Y.size);have a1:w.heap.size<=Z:=mS Y.size Q;have X:Hid (So w4 Z c4 (lnk d ⟨k,c,q,n,v⟩ C A)):=s4;clear s4 s3 b4 Q R o4;go_wp2
 go_ret2
 exact⟨Z,c4,rfl,a1,X.out,dd⟩
structure En where
 m:Cmd
 c:Int
 a:Int
 y:S3
 g:List Int
def enV(e:En):List Value:=[iv e.m.k,iv e.m.c,iv e.m.s,iv e.m.n,iv e.m.v,iv e.c,iv e.a,e.y.v]
def enL(E:List En):List Value:=E.flatMap enV
theorem Yz(E:List En)(e:En):enL (E++[e])=enL E++enV e:=by simp[enL]
def PW(g:Gh)(w:World)(E:List En):Prop:=∀ e∈E,FSl g w e.y e.g
variable{E:List En}
theorem PW.ch{B:Nat}{T:List Tg}{a:Gh}{b:World}(h:PW g w E)(c:Cg B T g w a b)(e:Tg.z∉T:=by simp):PW a b E:=λp d=>(h p d).ch c e
def Fa.oe(r:Nat)(x:S3)(E:List En):Fa:=⟨some r,λg w=>OwnS g w (.n 60 r) true 74 8 x (enL E)/\PW g w E,λhz hr c h=>⟨h.1.ch c (hr r rfl) (by simp),h.2.ch c hz⟩⟩
def Fa.sm(E:List En):Fa:=⟨none,λg w=>PW g w E,λhz _ c h=>h.ch c hz⟩
theorem PW.snoc(h:PW g w E){e:En}(k:FSl g w e.y e.g):PW g w (E++[e]):=λp a=>(P'.1 a).elim (h p) λq=>by rw[D'.1 q];exact k
def chQ(f:Nat->Cmd)(n:Nat)(E:List En):Prop:=E.map (λe=>(e.m,e.c,e.a,e.g))=(List.range n).map λi=>(f i,cAt f i,aAt f i,gAt f (i+1))
theorem chQ.len(h:chQ f n E):E.length=n:=by have:=congrArg List.length h;simpa using this
theorem chQ.snoc(h:chQ f n E)(y:S3):chQ f (n+1) (E++[⟨f n,cAt f n,aAt f n,y,gAt f (n+1)⟩]):=by
 unfold chQ;rw[nG,h,pg,nG];rfl
structure EnN(B:Nat)(w:World)(x:S3)(E:List En):Prop where
 o:OwN B w 74 8 x (enL E)
 d:∀ e∈E,Sl w e.y.v e.g/\Nb B e.y e.g
end
section
variable{P:Program}{fn:Func}{R:Ending->World->Prop}{w0:World}{Φ:List Fa}{g:Gh}{w:World}
theorem tMk{s:Xs}(i r c:Nat)(t e:TypeId)(j a:Nat)(z:Value)(Q:a*c<=281474976710656)(B:c<=maxLen)(K:Φ.all (λf=>f.ro != some r)=true)
  (J:∀ x' g' w',x'.n=0->GT P fn R w0 (Fa.ow r e j x' []::Φ) (nxt s i (S3.v x') s.L).s g' w')
  (M:P.underlying t=some (.slice e):=by kernel_rfl)(d:(P.info? e).map (λi=>(i.zero,i.size,i.bytes))=some (some z,j,a):=by kernel_rfl)
  (b:Ds s i=some (Instr.makeSlice t (.int .i64 0) (.int .i64 (c:Int))>>=λv=>pure (.value v)):=by kernel_rfl)(q:(nxt s i undef s.L).o.map Ob.l'=(nxt s i undef s.L).o.map Ob.r':=by kernel_rfl):GT P fn R w0 Φ s g w:=by
 refine⟨λF C=>KE i s.L q (BU b) λA O S o u=>?_⟩;obtain⟨y,I,N,x,p⟩:=info_parts d;have l:(c:Int)<=9223372036854775807:=by have h:=B;simp[maxLen]at h;omega
 have D:=run_make (P:=P) w t e y z M I N .i64 .i64 0 (c:Int) (mT _) (by omega) (by rw[p];have:((a*c:Nat):Int)<=281474976710656:=(by omega);rwa [ri]at this) l;simp only[Int.toNat_zero,nE,x]at D;have E:Bw w (w.alloc (.cells (madeCells z.cells (c*j)) e)):=(Below.refl _ _).alloc (A' _) _;have H:OwN w.heap.size (w.alloc (.cells (madeCells z.cells (c*j)) e)) e j ⟨some ⟨w.heap.size,0,none⟩,0,c⟩ []:=⟨by simp,.inr ⟨w.heap.size,_,A' _,rfl,heap_alloc_new _ _,nH _,B,size_madeCells _ _,by simp⟩⟩;obtain⟨g',k,G,m,_⟩:=H.take E A.new r;refine⟨_,_,g',.inl ?_,A.ch (k w.heap.size) G (by simp),(J ⟨some ⟨w.heap.size,0,none⟩,0,c⟩ g' _ rfl).ex ⟨m,F.sr (k w0.heap.size)⟩ (C.trans ((k _).nil TQ))⟩;rw[D1 b u,Sem.run_bind,D,Result.andThen_ok];rfl
theorem qE6{B:Nat}{T:List Tg}{s:Xs}(u p m:Tmp)(c:TypeId)(i b:Nat)(a:Array Value)(v q:Value)(h:Kn B g w s.L->R (.returned (.tuple #[v,.agg a,q])) w)(H:(s.L[i]?).map (λx=>(x.g,CN x.o,Ec x.o))=some (b,a,true):=by kernel_rfl)(A:fn.results=#[.tmp u,.cell p c,.tmp m]:=by kernel_rfl)(D:s.f.act.tmps.getD p undef=pt b 0:=by kernel_rfl)(G:s.f.act.tmps.getD u undef=v:=by kernel_rfl)(k:s.f.act.tmps.getD m undef=q:=by kernel_rfl)(F:Gg P c=true:=by kernel_rfl)(C:(P.info? c).map (·.size)=some a.size:=by kernel_rfl)(E:LF s.K=true:=by kernel_rfl):GG P fn R B T s g w :=
 SH _ E (λK=>by
  obtain⟨e,y⟩:=K.tM H;obtain⟨d,r,t⟩:=GF F;have j:s.f.act.tmps[p]?.getD undef=.pointer (some ⟨b,0,none⟩):=by simpa using D
  rw[<- G,<- k];simp[results,A,j,asAddr,run_loadVar_row w b e c a (0,0) d y r (by cases d<;>first|rfl|cases t) C]) h
end
section
variable{A C:Int}{a0:Option Addr}{c0:Nat}{m:Cmd}{s:Sto}{sum:List Int}{w:World}
theorem jE(f:NTab w)(i:Fg s)(h:m.e=0){S:Sto}{C A:Int}(g:dnS s m=S)(d:dnC s m=C)(b:dnA s m=A) :
  Calls prog 37 #[.agg (stA s),.agg #[iv m.k,iv m.c,iv m.s,iv m.n,iv m.v]] w λe w'=>e=.returned (.tuple #[.agg (stA S),.agg #[iv C,iv A],iv 0])/\Bw w w':=by
 subst g d b;have a:doE s m=0:=(U5 i).trans h;have:=gy s m w f
 rwa [a,Pi a,Yn a,Yl a]at this
theorem fP(l:Sl w (.slice a0 32 c0) sum)(r:sum.length=32)(q:m.e=0)(i:(C=0\/C=7\/C=11)/\VaB A)(o:AD w)(j:NTab w) :
  Calls prog 38 #[.slice a0 32 c0,.agg #[iv m.k,iv m.c,iv m.s,iv m.n,iv m.v],.agg #[iv C,iv A]] w λe w'=>∃ za zc,e=.returned (.tuple #[.slice za 32 zc,iv 0])/\Sl w' (.slice za 32 zc) (lnk sum m C A)/\(∀ a,za=some a->w.heap.size<=a.block)/\Bw w w':=by
 unfold VaB at i;refine(bW a0 c0 sum m.k m.c m.s m.n m.v C A w l r q (by omega) (by omega) (by omega) (by omega) o j).mono ?_;rintro e w' ⟨g,b,rfl,d,f,h⟩;exact⟨_,_,rfl,f.sl,λa p=>by cases p;exact d,h⟩
theorem aP{b:Nat}(h:w.heap[b]?=some (.cells (List.replicate 32 (Value.int .u8 0)).toArray 5)):Sl w (.slice (some ⟨b,0,none⟩) 32 32) (List.replicate 32 0):=by
 refine⟨⟨_,_,rfl,A' _,λe=>(by cases e),.inr ⟨b,0,rfl,rl h,λi a=>?_⟩⟩,by simp,λx c=>?_⟩
 .rw[cell_of_row _ _ _ _ _ _ h];have a:i<32:=by simpa using a
  simp only[nV,nM,List.getElem?_replicate,if_pos a,nF,qQ]
 .obtain rfl:=p8 c;omega
theorem XI(w:World) :
  Calls prog 21 #[] w λe w'=>∃ za zc,e=.returned (.agg (tlA AC za 32 zc))/\Sl w' (.slice za 32 zc) (List.replicate 32 0)/\(∀ a,za=some a->w.heap.size<=a.block)/\Bw w w':=by
 refine tIn [] func21 trivial (tR 10 [1,0,1,0,0,0] λb _ _=>tX λF C=>Af λK=>?_);obtain⟨c,_,d,_⟩:=K.row _ (np (show _[1]?=some ⟨(b 1),.cells (List.replicate 32 (Value.int .u8 0)).toArray 5,.l,true⟩from by kernel_rfl));exact qE1 0 71 0 (b 0) (tlA AC (some ⟨(b 1),0,none⟩) 32 32) λ_=>⟨_,_,rfl,aP c,λa f=>by cases f;exact d rfl,CgQ.af C⟩
theorem Wq(x:Sl w (.slice a0 32 c0) sum)(z:sum.length=32)(r:Fg s)(f:AnB s)(i:m.e=0)(y:AD w)(q:NTab w){S:Sto}{K A:Int}(d:dnS s m=S)(p:dnC s m=K)(l:dnA s m=A) :
  Calls prog 22 #[.agg (tlA s a0 32 c0),.agg #[iv m.k,iv m.c,iv m.s,iv m.n,iv m.v]] w λe w'=>∃ za zc,e=.returned (.tuple #[.agg #[iv m.k,iv m.c,iv m.s,iv m.n,iv m.v,iv K,iv A,.slice za 32 zc],.agg (tlA S za 32 zc),iv 0])/\Sl w' (.slice za 32 zc) (lnk sum m K A)/\(∀ a,za=some a->w.heap.size<=a.block)/\Bw w w':=by
 have o:=km r f i;rw[p,l]at o
 refine tIn [] func22 trivial (tR 13 [0,0,0,0,1,0,1,0,0,1] λb _ _=>tC1 3 (λF C=>jE (q.af (CgQ.af C)) r i d p l) λ_=>tR 24 [1,0,1,0,4,0,5,0,0,1,5] λD _ _=>tF λ_ j=>tC 4 (λF C=>fP (x.af (CgQ.af C)) z i o (y.af (CgQ.af C)) (q.af (CgQ.af C))) λt=>?_);rintro _ _ ⟨za,zc,rfl,B,g,u⟩;refine⟨_,Fa.sl ⟨za,32,zc⟩ (lnk sum m K A)::_,rfl,u,λF=>⟨⟨B,λ_ a f=>t _ (g a f)⟩,F⟩,?_⟩;refine tR 21 [7,0,1,2,5,4,6,10] λE _ _=>Hr 4 7 ?_ ?_
 .refine tR 6 [4,12,15,2,0,17,3,0,18] λG _ _=>tX λF C=>qE5 4 5 6 74 71 2 (b 2) 3 (b 3) #[iv m.k,iv m.c,iv m.s,iv m.n,iv m.v,iv K,iv A,.slice za 32 zc] (tlA S za 32 zc) (iv 0) λ_=>⟨za,zc,rfl,F.1.s,λa h=>mS j.size (g a h),CgQ.af C⟩
 .refine tR 6 [2,0,9,4,12,17,3,0,18] λH _ _=>tX λF C=>qE5 4 5 6 74 71 2 (b 2) 3 (b 3) #[iv m.k,iv m.c,iv m.s,iv m.n,iv m.v,iv K,iv A,.slice za 32 zc] (tlA S za 32 zc) (iv 0) λ_=>⟨za,zc,rfl,F.1.s,λa h=>mS j.size (g a h),CgQ.af C⟩
theorem XR{x:S3}{l:List Cmd}(h:RdV w x 5 (cmL l))(hl:l.length<=200)(he:∀ c∈l,c.e=0)(hT:AD w)(hN:NTab w){f:Nat->Cmd}(hf:∀ i c,l[i]?=some c->f i=c) :
  Calls prog 10 #[x.v] w λe w'=>∃ z E,e=.returned (.tuple #[S3.v z,.agg (stA (sAt f l.length)),iv 0])/\chQ f l.length E/\EnN w.heap.size w' z E/\Bw w w':=by
 have hx:=cR h;have W:∀ j,j<l.length->(f j).e=0:=λj X=>by rw[hf j _ (E' X)];exact he _ (nJ X)
 refine tIn [Fa.zv x 5 (cmL l)] func10 ⟨h.fz,trivial⟩ (tR 13 [1,0] λb _ _=>tI ((decide (200<(x.n:Int)))) false (H' (by omega)) (tR 3 [] λa7 _ _=>tF λ_ N=>?_));have Y:=N.size;refine tC 0 (λF C=>XI _) λO=>?_;rintro _ _ ⟨r,zc,rfl,hz,hb,b3⟩;refine⟨_,Fa.sl ⟨r,32,zc⟩ (gAt f 0)::_,rfl,b3,λF=>⟨⟨hz,λ_ a q=>O _ (hb a q)⟩,F⟩,?_⟩;refine tR 7 [1,0,1,0] λm _ _=>tMk 2 0 x.n 47 74 8 80 zEn (by omega) (by unfold maxLen;omega) rfl (λy5 _ _ n5=>?_);refine tR 10 [] λa8 _ _=>Ek 46 [(20,S3.v x),(21,iv (x.n:Int)),(22,iv 0),(3,pt (b 0) 0),(5,pt (m 0) 0),(6,S3.v y5)] [true,true] [⟨(b 0),.cells #[iv 0,iv 0,iv 0,iv 0,iv 0,iv 0,iv 0,iv 0,iv 0,iv 0,iv 0,iv 0,iv 0,iv 0,iv 0,iv 0,iv 0,iv 0,iv 0,iv 0,iv 0,iv 0,iv 0,iv 0,iv 0,iv 0,iv 0,iv 0,iv 0,iv 0,iv 0,iv 0,.bool false,.bool false,.bool false,.bool false,.bool false,.bool false,.bool false,.bool false] 54,.l,false⟩,⟨(m 0),.cells #[iv (AC.V 0),iv (AC.V 1),iv (AC.V 2),iv (AC.V 3),iv (AC.V 4),iv (AC.V 5),iv (AC.V 6),iv (AC.V 7),iv (AC.L 0),iv (AC.L 1),iv (AC.L 2),iv (AC.L 3),iv (AC.L 4),iv (AC.L 5),iv (AC.L 6),iv (AC.L 7),iv (AC.C 0),iv (AC.A 0),iv (AC.C 1),iv (AC.A 1),iv (AC.C 2),iv (AC.A 2),iv (AC.C 3),iv (AC.A 3),iv (AC.C 4),iv (AC.A 4),iv (AC.C 5),iv (AC.A 5),iv (AC.C 6),iv (AC.A 6),iv (AC.C 7),iv (AC.A 7),.bool (AC.R 0),.bool (AC.R 1),.bool (AC.R 2),.bool (AC.R 3),.bool (AC.R 4),.bool (AC.R 5),.bool (AC.R 6),.bool (AC.R 7),.slice r 32 zc] 71,.l,false⟩] [Fa.oe 0 y5 [],Fa.sl ⟨r,32,zc⟩ (gAt f 0),Fa.zv x 5 (cmL l)] (λkk ee LL M=>∃ (i:Nat) (y:S3) (E:List En) (r:Option Addr) (zc:Nat),kk=x.n-i/\ee=[(20,S3.v x),(21,iv (x.n:Int)),(22,iv (i:Int)),(3,pt (b 0) 0),(5,pt (m 0) 0),(6,S3.v y)]/\LL=[⟨(b 0),.cells (stA AC) 54,.l,false⟩,⟨(m 0),.cells (tlA (sAt f i) r 32 zc) 71,.l,false⟩]/\M=[Fa.oe 0 y E,Fa.sl ⟨r,32,zc⟩ (gAt f i),Fa.zv x 5 (cmL l)]/\i<=l.length/\y.n=i/\chQ f i E/\(∀ e∈E,Nb w.heap.size e.y e.g)/\∀ a,r=some a->w.heap.size<=a.block) (x.n) ⟨0,y5,[],r,zc,rfl,rfl,rfl,rfl,by omega,n5,rfl,λ_ h=>(by cases h),λa q=>mS Y (hb a q)⟩ (λF=>⟨⟨F.1,λ_ h=>(by cases h)⟩,F.2⟩) ?_;rintro k _ _ _ ⟨i,y,E,r,zc,rfl,rfl,rfl,rfl,hi,hy,Q,D,a5⟩ _ _ _ J hJ;refine tR 5 [] λa9 _ _=>?_;by_cases h1:i<l.length
 .refine tI ((decide ((i:Int)<(x.n:Int)))) true (O' (by omega)) ?_;obtain⟨c,T⟩:∃ c,l[i]?=some c:=⟨_,E' (by omega)⟩;have d:=hf i c T;have U:=he c (np T);have a4:=Q.len;obtain⟨sB,sA⟩:=eY (f:=f) (i:=i) λj X=>W j (by omega);refine tF λF _=>?_;obtain⟨bx,ox,H⟩:=F.2.2.1.rd.rc.addr (k:=i) (by omega);refine tR 5 [] λb0 _ _=>tV 0 (pt bx (ox+5*i)) (λF C=>(Ms H i (by omega))) (tV 1 (.agg #[iv c.k,iv c.c,iv c.s,iv c.n,iv c.v]) (λF C=>(TG c λq_ u Z=>F.2.2.1.rd.rc.cellAt H T Z)) (tR 7 [0,0,2,0,1,2] λa0 _ _=>tF λF N=>?_));have G:=N.size;refine tC 2 (λF C=>Wq F.2.1.s (SF f i) sB sA U (hT.af (CgQ.af C)) (hN.af (CgQ.af C)) (S:=sAt f (i+1)) (K:=cAt f i) (A:=aAt f i) (by rw[<- d];rfl) (by rw[<- d];rfl) (by rw[<- d];rfl)) λO=>?_;rintro _ _ ⟨o,p,rfl,Z,B,P⟩;refine⟨_,Fa.sl ⟨o,32,p⟩ (gAt f (i+1))::_,rfl,P,λF=>⟨⟨by rw[show gAt f (i+1)=lnk (gAt f i) c (cAt f i) (aAt f i)from by rw[<- d];rfl];exact Z,λ_ a q=>O _ (B a q)⟩,F⟩,?_⟩;refine tR 23 [0,0,0,0,3,0,4,0,6,0,2,3,8,4,5,0,0] λt _ _=>tCv [Fa.ow 0 74 8 y (enL E),Fa.sm E,Fa.sl ⟨o,32,p⟩ (gAt f (i+1)),Fa.zv x 5 (cmL l)] (λF=>⟨F.2.1.1,F.2.1.2,F.1,F.2.2.2.1,trivial⟩) (R7 3 0 (x:=y) 47 47 74 8 80 (zEn) ⟨(t 2),0,none⟩ 1 1 [iv c.k,iv c.c,iv c.s,iv c.n,iv c.v,iv (cAt f i),iv (aAt f i),.slice o 32 p] (λF=>F.1) [Fa.sm E,Fa.sl ⟨o,32,p⟩ (gAt f (i+1)),Fa.zv x 5 (cmL l)] (λF=>⟨F.2.1,F.2.2.1,F.2.2.2.1,trivial⟩) rfl (by simp[TQ]) rfl (by simp[Value.oneCell']) (λF K=>Dz K 5 (t 2) [iv c.k,iv c.c,iv c.s,iv c.n,iv c.v,iv (cAt f i),iv (aAt f i),.slice o 32 p] 74 .z true (by kernel_rfl)) (by unfold maxLen;omega) (by omega) λI _ _ a6=>tCv [Fa.oe 0 I (E++[⟨c,cAt f i,aAt f i,⟨o,32,p⟩,gAt f (i+1)⟩]),Fa.sl ⟨o,32,p⟩ (gAt f (i+1)),Fa.zv x 5 (cmL l)] (λF=>⟨⟨Yz E _▸F.1,F.2.1.snoc (e:=⟨c,cAt f i,aAt f i,⟨o,32,p⟩,gAt f (i+1)⟩) F.2.2.1⟩,F.2.2⟩) (tR 5 [10,13,1,0] λa1 _ _=>tV 0 (iv ((i:Int)+1)) (λF C=>(AX 22 (i:Int) underlying3 (by omega))) (tR 2 [] λa2 _ _=>tB hJ (x.n-(i+1)) (by omega) [true,true,false,false,false,false] (L':=[⟨(b 0),.cells (stA AC) 54,.l,false⟩,⟨(m 0),.cells #[iv ((sAt f (i+1)).V 0),iv ((sAt f (i+1)).V 1),iv ((sAt f (i+1)).V 2),iv ((sAt f (i+1)).V 3),iv ((sAt f (i+1)).V 4),iv ((sAt f (i+1)).V 5),iv ((sAt f (i+1)).V 6),iv ((sAt f (i+1)).V 7),iv ((sAt f (i+1)).L 0),iv ((sAt f (i+1)).L 1),iv ((sAt f (i+1)).L 2),iv ((sAt f (i+1)).L 3),iv ((sAt f (i+1)).L 4),iv ((sAt f (i+1)).L 5),iv ((sAt f (i+1)).L 6),iv ((sAt f (i+1)).L 7),iv ((sAt f (i+1)).C 0),iv ((sAt f (i+1)).A 0),iv ((sAt f (i+1)).C 1),iv ((sAt f (i+1)).A 1),iv ((sAt f (i+1)).C 2),iv ((sAt f (i+1)).A 2),iv ((sAt f (i+1)).C 3),iv ((sAt f (i+1)).A 3),iv ((sAt f (i+1)).C 4),iv ((sAt f (i+1)).A 4),iv ((sAt f (i+1)).C 5),iv ((sAt f (i+1)).A 5),iv ((sAt f (i+1)).C 6),iv ((sAt f (i+1)).A 6),iv ((sAt f (i+1)).C 7),iv ((sAt f (i+1)).A 7),.bool ((sAt f (i+1)).R 0),.bool ((sAt f (i+1)).R 1),.bool ((sAt f (i+1)).R 2),.bool ((sAt f (i+1)).R 3),.bool ((sAt f (i+1)).R 4),.bool ((sAt f (i+1)).R 5),.bool ((sAt f (i+1)).R 6),.bool ((sAt f (i+1)).R 7),.slice o 32 p] 71,.l,false⟩]) ⟨i+1,I,_,o,p,rfl,rfl,rfl,rfl,by omega,by omega,d▸Q.snoc _,λe h=>(P'.1 h).elim (D e) λg=>by rw[D'.1 g];exact λ_ a q=>mS G (B a q),λa q=>mS G (B a q)⟩ (λF=>F))))
 .refine tI ((decide ((i:Int)<(x.n:Int)))) false (H' (by omega)) ?_;obtain rfl:i=l.length:=by omega
  refine tR 10 [4,0,2,4,1,6,9,0,0,10] λa3 _ _=>tX λF C=>qE6 2 3 4 54 0 (b 0) (stA (sAt f l.length)) (S3.v y) (iv 0) λ_=>⟨y,E,rfl,Q,⟨F.1.1.own C,λe h=>⟨(F.1.2 e h).s,D e h⟩⟩,CgQ.af C⟩
end
end
section
theorem aG{A:List Cmd}{f:Nat->Cmd}(a:∀ i c,A[i]?=some c->f i=c){n:Nat}(b:n<=A.length):GL (A.take n)=sAt f n:=by
 induction n with
 | zero=>rfl
 | succ n ih =>
  have h:=E' (l:=A) (i:=n) (by omega);rw[oF,h];show GL (A.take n++[A[n]])=_;rw[OI,ih (by omega),sAt,a n _ h]
end
section
open Go.RowKit
section
variable{W w:World}{b:Nat}{c k m n s v:Int}
theorem Gk{many:Int}(h:I64 n)(b:pick n many=c)(d:0<many:=by decide)(a:many<=9223372036854775807:=by decide) :
  Calls prog 5 #[iv n,iv many] w λe w'=>e=.returned (iv c)/\Bw w w':=by subst b;exact V5 h many d a
theorem kX{i j l:Int}(h:paE n i j l k c s m v=0){g:Int}(p:EM i j l k c s m v g=0):opE (paL n i j l k c s m v) g=0/\Eb (paL n i j l k c s m v) g=⟨k,c,s,m,v⟩:=by
 have r:=ez h g;have t:=r.1.trans p;refine⟨t,?_⟩;have o:=r.2;rw[if_pos p,ZJ]at o
 simp only[cmC,cmA,Array.mk.injEq,py,Value.int.injEq,true_and,and_true]at o;obtain⟨a,b,d,e,f⟩:=o;generalize Eb (paL n i j l k c s m v) g=q at a b d e f;obtain⟨w,u,y,x,z⟩:=q;simp only at a b d e f;subst a b d e f;rfl
theorem aR{g:Gh}{l:List (Lac × S3)}{a:Lac}{d:S3}(h:Dat g w l)(k:FSl g w d a.d):Dat g w ((a,d)::l):=λp hp=>by
 rcases mZ.1 hp with rfl|hp
 .exact k
 .exact h p hp
theorem my(g:Gh)(w:World):Dat g w []:=λp a=>by cases a
theorem Zn{N:Meet}{A:List Cmd}(h:∀ j,j<5->N.log j=A):((lgN N 5).map N.log).getD []=A:=by
 cases hh:lgN N 5 with
 | some j=>exact h j (Zl hh)
 | none =>
  refine pU λa=>?_;have b:0<A.length:=rD λe=>a (Y' e).symm;have key:∀ n,n<5->lgN N (n+1)≠none:=by
   intro n;induction n with
   | zero=>intro _ e;rw[lgN,h 0 (by omega)]at e;simp[lgN,b]at e
   | succ n ih =>
    intro c e;rw[lgN]at e
    split at e
    .cases e
    .exact ih (by omega) e
  exact key 4 (by omega) hh
theorem ah(h:0<=c/\c<4)(j:0<=s/\s<6)(i:0<=m/\m<4)(k:0<=v/\v<=1000){now:Int}(d:0<=now/\now<=60):paE 1 c 7 60 1 c s m v=0/\opE (paL 1 c 7 60 1 c s m v) now=0/\Eb (paL 1 c 7 60 1 c s m v) now=⟨1,c,s,m,v⟩/\(⟨1,c,s,m,v⟩:Cmd).e=0:=by
 have b:Du c 7 60:=by unfold Du;omega
 have a:Bi 1 c s m v=0:=Uy ⟨by omega,by omega⟩ (by unfold InC;omega) (.inl rfl);have p1:paE 1 c 7 60 1 c s m v=0:=by rw[iV ⟨by omega,by omega⟩ (Jl b)];exact a
 obtain⟨f,g⟩:=kX p1 (Uq b a ⟨by unfold Np;decide,rfl⟩ d);exact⟨p1,f,g,a⟩
theorem jf{k n:Nat}(a:n<8):(Instr.indexAt 48 (pt b k) (iv (n:Int))).run prog W=.ok (pt b (k+n)) W:=by
 rcases lt8 a with rfl|rfl|rfl|rfl|rfl|rfl|rfl|rfl<;>kernel_rfl
theorem P7{k:Nat}(a:0<=v)(c:v<8):(Instr.indexAt 48 (pt b k) (iv v)).run prog W=.ok (pt b (k+v.toNat)) W:=by
 obtain⟨n,rfl⟩:∃ n:Nat,v=(n:Int):=⟨v.toNat,by omega⟩;rw[nE];exact jf (by omega)
theorem lW{s:Sto}(b:0<=v)(c:v<8):(stA s).toList[v.toNat]?=some (iv (s.V v.toNat)):=by
 obtain⟨n,rfl⟩:∃ n:Nat,v=(n:Int):=⟨v.toNat,by omega⟩;rw[nE];have a:n<8:=by omega
 rcases lt8 a with rfl|rfl|rfl|rfl|rfl|rfl|rfl|rfl<;>rfl
theorem lU{s:Sto}(b:0<=v)(c:v<8):(stA s).toList[8+v.toNat]?=some (iv (s.L v.toNat)):=by
 obtain⟨n,rfl⟩:∃ n:Nat,v=(n:Int):=⟨v.toNat,by omega⟩;rw[nE];have a:n<8:=by omega
 rcases lt8 a with rfl|rfl|rfl|rfl|rfl|rfl|rfl|rfl<;>rfl
theorem jL{K C S N V:Int}(i:I64 k)(h:I64 c)(l:I64 s)(j:I64 n)(m:I64 v)(a:wK k=K)(b:pick c 4=C)(d:pick s 6=S)(f:pick n 4=N)(g:wV k v=V) :
  Calls prog 4 #[.agg #[iv k,iv c,iv s,iv n,iv v]] w λe w'=>e=.returned (.agg #[iv K,iv C,iv S,iv N,iv V])/\Bw w w':=by subst a b d f g;exact RN i h l j m
theorem KT{ck cc cs cn cv ot a_ b_ ld:Int}(hk:I64 ck)(hc:I64 cc)(hs:I64 cs)(hn:I64 cn)(hv:I64 cv)(a9:I64 ot)(c8:I64 a_)(d0:I64 b_)(d7:I64 ld)(hT:V6 w) :
  Calls prog 3 #[.agg #[iv ck,iv cc,iv cs,iv cn,iv cv],iv ot,iv a_,iv b_,iv ld] w λe w'=>e=.returned (.bool true)/\Bw w w':=by
 have b0:=Cj cc 4 (by omega);have G:=Cj cs 6 (by omega);have b1:=Cj cn 4 (by omega);have g5:=Cj ot 3 (by omega);have S:=bY ck cv;have ra:=Cj a_ 5 (by omega);have rb:=Cj b_ 5 (by omega);have rl:=Cj ld 5 (by omega);obtain⟨a,c7,a4⟩:∃ n:Nat,pick a_ 5=(n:Int)/\n<5:=⟨(pick a_ 5).toNat,by omega,by omega⟩;obtain⟨b,c9,a5⟩:∃ n:Nat,pick b_ 5=(n:Int)/\n<5:=⟨(pick b_ 5).toNat,by omega,by omega⟩;obtain⟨i,d5,d6⟩:∃ i:Nat,pick ld 5=(i:Int)/\i<5:=⟨(pick ld 5).toNat,by omega,by omega⟩;obtain⟨q,Q⟩:∃ d,(pick cc 4+1+pick ot 3)%4=d:=⟨_,rfl⟩;obtain⟨D,a6⟩:∃ d,(pick cn 4+1)%4=d:=⟨_,rfl⟩;have U:(0<=q/\q<4)/\pick cc 4≠q:=by omega
 have b5:(0<=D/\D<4)/\pick cn 4≠D:=by omega
 obtain⟨o,Z⟩:∃ x,pick cc 4=x:=⟨_,rfl⟩;obtain⟨s,a0⟩:∃ x,pick cn 4=x:=⟨_,rfl⟩;obtain⟨p,a1⟩:∃ x,pick cs 6=x:=⟨_,rfl⟩;obtain⟨u,a3⟩:∃ x,wV ck cv=x:=⟨_,rfl⟩;rw[Z]at b0 Q U
 rw[a0]at b1 a6 b5
 rw[a1]at G
 rw[a3]at S
 obtain⟨p1,o1,q1,e1⟩:=ah (now:=0) b0 G b1 S ⟨by decide,by decide⟩;obtain⟨p2,o2,q2,e2⟩:=ah (now:=0) U.1 G b5.1 S ⟨by decide,by decide⟩;have d1:=Mj p1;have d2:=Mj p2;generalize d3:paL 1 o 7 60 1 o p s u=dx at o1 q1 d1;generalize d4:paL 1 q 7 60 1 q p D u=dy at o2 q2 d2;obtain⟨L,hL⟩:∃ L,[Fw a dx,Fw b dy]=L:=⟨_,rfl⟩;have g4:L.length=2:=by rw[<- hL];rfl
 have d8:∀ x∈L++DX L (i:Int),LacOk x:=λx H=>by
  rcases P'.1 H with e|e
  .rw[<- hL]at e
   rcases mZ.1 e with rfl|e
   .exact Lg a4 (by omega)
   .rw[D'.1 e];exact Lg a5 (by omega)
  .exact MC (λn hn=>D8 ⟨.inr (.inr rfl),by omega,by omega⟩) (λn hn=>D8 ⟨.inr (.inl rfl),by omega,by omega⟩) (by rw[<- DM];decide) (D8 ⟨.inl rfl,by omega,by omega⟩) _ _ e
 have g6:=Rw L (i:Int);obtain⟨N,hN⟩:∃ N,Ao.dc (L++DX L (i:Int))=N:=⟨_,rfl⟩;obtain⟨nt,A,hA,a8⟩:=cO a4 a5 d6 (by omega) (by omega) o1 q1 o2 q2 U.2 (hL▸hN);have c3:(⟨1,o,p,s,u⟩:Cmd)∈A/\(⟨1,q,p,D,u⟩:Cmd)∈A/\A.length=2/\(∀ c∈A,c.e=0)/\(GL A).V s.toNat=u/\(GL A).V D.toNat=u/\(GL A).L o.toNat=p+1/\(GL A).L q.toNat=p+1:=by
  have a7:∀ x,x=(⟨1,o,p,s,u⟩:Cmd)\/x=(⟨1,q,p,D,u⟩:Cmd)->x.e=0:=λx H=>H.elim (λg=>g▸e1) λg=>g▸e2;rcases hA with rfl|rfl
  .obtain⟨v1,v2,v3,v4⟩:=Vo (c:=⟨1,o,p,s,u⟩) (d:=⟨1,q,p,D,u⟩) rfl rfl G.1 G.1 (by show o.toNat≠q.toNat;omega) (by show s.toNat≠D.toNat;omega);exact⟨by simp,by simp,rfl,λx H=>a7 x (by simpa using H),v1,v2,v3,v4⟩
  .obtain⟨v1,v2,v3,v4⟩:=Vo (c:=⟨1,q,p,D,u⟩) (d:=⟨1,o,p,s,u⟩) rfl rfl G.1 G.1 (by show q.toNat≠o.toNat;omega) (by show D.toNat≠s.toNat;omega);exact⟨by simp,by simp,rfl,λx H=>a7 x (by simpa using Or.symm (by simpa using H)),v2,v1,v4,v3⟩
 obtain⟨m1,m2,g2,c5,s1,s2,s3,s4⟩:=c3;have c4:=Zn a8;obtain⟨f,hf⟩:∃ f:Nat->Cmd,∀ i c,A[i]?=some c->f i=c:=⟨λi=>A.getD i Sf,λi c e=>by simp[List.getD_eq_getElem?_getD,e]⟩;obtain⟨T,a2⟩:∃ T,sAt f A.length=T:=⟨_,rfl⟩;have b2:=aG hf (A' A.length);rw[ou,a2]at b2
 rw[b2]at s1 s2 s3 s4
 clear hA;refine tIn [] func3 trivial (tR 8 [1,0,0] λb7 _ _=>tC1 1 (λF C=>jL hk hc hs hn hv rfl Z a1 a0 a3) λ_=>tR 18 [1,0,1,0,1,0,1,1,0,2,0,4,0,6] λK _ _=>Je 153 (λee LL b6=>∃ (_:Unit),ee=[(5,pt (b7 0) 0),(10,.bool false),(11,pt (K 0) 0),(12,pt (K 1) 0),(1,iv ot),(2,iv a_),(3,iv b_),(4,iv ld)]/\LL=[⟨(b7 0),.cells #[iv ck,iv cc,iv cs,iv cn,iv cv] 23,.l,false⟩,⟨(K 0),.cells #[iv 1,iv o,iv p,iv s,iv u] 24,.l,false⟩,⟨(K 1),.cells #[iv 1,iv q,iv p,iv s,iv u] 24,.l,false⟩]/\b6=[]) (λJ hJ=>?_) ?_)
 .refine Hr 1 4 ?_ ?_
  .refine tR 1 [1] λg7 _ _=>tT 2 (iv (o+1)) (λ_=>(AX 29 o underlying3 (by omega))) (tC1 4 (λF C=>Gk (many:=3) a9 rfl) λ_=>tT 5 (iv (o+1+pick ot 3)) (λ_=>(JG (x:=(.tmp 30)) (y:=(.tmp 32)) (o+1) (pick ot 3) underlying3 (by omega))) (tT 6 (iv q) (λ_=>(by rw[<- Q];exact Rm (x:=(.tmp 33)) (y:=(.const (iv 4))) (o+1+pick ot 3) 4 underlying3 (by omega) (by omega) (by omega) (by omega))) (tR 3 [14,17,2,0] λg8 _ _=>tD hJ [true,true,true] ⟨(),rfl,rfl,rfl⟩ (λF=>trivial))))
  .refine tC1 4 (λF C=>Gk (many:=3) a9 rfl) λ_=>tR 1 [3,1] λe0 _ _=>tT 2 (iv (o+1)) (λ_=>(AX 29 o underlying3 (by omega))) (tT 5 (iv (o+1+pick ot 3)) (λ_=>(JG (x:=(.tmp 30)) (y:=(.tmp 32)) (o+1) (pick ot 3) underlying3 (by omega))) (tT 6 (iv q) (λ_=>(by rw[<- Q];exact Rm (x:=(.tmp 33)) (y:=(.const (iv 4))) (o+1+pick ot 3) 4 underlying3 (by omega) (by omega) (by omega) (by omega))) (tR 3 [14,17,2,0] λe3 _ _=>tD hJ [true,true,true] ⟨(),rfl,rfl,rfl⟩ (λF=>trivial))))
 rintro _ _ _ ⟨_,rfl,rfl,rfl⟩ _ _ _;refine tR 4 [1] λe4 _ _=>tV 2 (iv (s+1)) (λF C=>(AX 37 s underlying3 (by omega))) (tV 3 (iv D) (λF C=>(by rw[<- a6];exact Rm (x:=(.tmp 38)) (y:=(.const (iv 4))) (s+1) 4 underlying3 (by omega) (by omega) (by omega) (by omega))) (tR 9 [2,0,1,1] λe5 _ _=>tC 4 (λF C=>UY p1 (tbA hT.1 C)) λM=>?_));rintro _ _ ⟨X,rfl,H,b3,b8⟩;refine⟨_,Fa.sl X dx::_,rfl,b8,λF=>⟨by rw[d3]at H b3;exact Dy H b3 M,F⟩,?_⟩;refine tR 12 [2,2] λe6 _ _=>tC 4 (λF C=>UY p2 (tbA hT.1 C)) λM=>?_;rintro _ _ ⟨Y,rfl,hy,b4,b9⟩;refine⟨_,Fa.sl Y dy::_,rfl,b9,λF=>⟨by rw[d4]at hy b4;exact Dy hy b4 M,F⟩,?_⟩;refine tR 9 [] λe7 _ _=>tC1 1 (λF C=>Gk c8 c7) λ_=>tR 3 [] λe8 _ _=>tC1 5 (λF C=>Gk d0 c9) λ_=>tR 9 [1,0] λO _ _=>mK (v:=true) 3 0 (O 0) 5 2 [iv 1,iv (a:Int),iv 0,iv 0,S3.v X,iv 1,iv (b:Int),iv 0,iv 0,S3.v Y] 34 [Fa.sl X dx,Fa.sl Y dy] (λg' hz F=>⟨F.2.1.og hz,F.1.og hz,trivial⟩) (λg'=>?_) rfl (by unfold maxLen;omega);refine tCv [Fa.oa 0 (⟨some ⟨(O 0),0,none⟩,2,2⟩:S3) [(Fw a dx,X),(Fw b dy,Y)]] (λF=>⟨⟨F.1,aR (aR (my _ _) F.2.2.1) F.2.1⟩,trivial⟩) (tC1 2 (λF C=>Gk d7 d5) λ_=>tC 3 (λF C=>TT (n:=(i:Int)) (AcR.oo (L:=L) F.1 hL) (by omega)) λM=>?_);rintro _ _ ⟨z,rfl,hz,c0⟩;refine⟨_,[Fa.ac z ([(Fw a dx,X),(Fw b dy,Y)]++rnP (DX L (i:Int)))],rfl,c0,λF=>⟨⟨hz.fz M,Dat.app F.1.2 (PB _ _ (MC (P:=λa=>a.d=[]) (λ_ _=>rfl) (λ_ _=>rfl) rfl rfl _))⟩,trivial⟩,?_⟩;have c6:([(Fw a dx,X),(Fw b dy,Y)]++rnP (DX L (i:Int))).map (·.1)=L++DX L (i:Int):=by rw[nG,eO,<- hL];rfl
 refine tC 4 (λF C=>jm (AcR.of F.1 c6) d8 (by rw[G'];omega) (tb5 hT C) hN) λM=>?_;rintro _ _ ⟨ly,tv,ys,rfl,I,hO,c1⟩;refine⟨_,[Fa.ot ly tv ys N],rfl,c1,λF=>⟨UW I hO M,trivial⟩,?_⟩;refine tR 10 [0,0,3,0,3] λe9 _ _=>tC1 1 (λF C=>Te (UX F.1)) λ_=>tR 5 [] λf0 _ _=>?_;have R:∀ {g w},AllF g w [Fa.ot ly tv ys N]->RdV w (lgY ys (lgN N 5)) 5 (cmL A):=λF=>c4▸(Zm F.1 (n:=5) (A' 5)).rd;refine tC 1 (λF C=>by have:=XR (R F) (by omega) c5 (hT.1.t.af (CgQ.af C)) (hT.1.n.af (CgQ.af C)) hf;rw[a2]at this;exact this) λM=>?_;rintro _ _ ⟨z2,E,rfl,hE,g3,c2⟩;refine⟨_,_,rfl,c2,id,?_⟩;refine tF λF _=>?_;have d9:=mc F.1.ed.rd;refine tR 27 [0,0,4,0,72,0,2,4,6,8,10,12,14,16,18,20,22,24,26,28,30,1] λh _ _=>tC1 16 (λF C=>YL (c:=⟨1,o,p,s,u⟩) (R F) (by omega) (r:=true) (O' m1)) λ_=>tR 4 [34,36,38,40,2] λf1 _ _=>tC1 21 (λF C=>YL (c:=⟨1,q,p,D,u⟩) (R F) (by omega) (r:=true) (O' m2)) λ_=>tR 5 [44,46,48,50,1,52] λf2 _ _=>tT 27 (pt (h 0) (0+s.toNat)) (λ_=>(P7 (k:=0) (by omega) (by omega))) (tU 28 (iv (T.V s.toNat)) (λW I=>(Da underlying3 rfl (eU (I rfl) 4 (h 0) (stA T).toList 54 .z false (j:=0+s.toNat) (by kernel_rfl) (by rw[nM];exact lW (by omega) (by omega))))) (tR 2 [58,60,1] λf3 _ _=>tT 31 (.bool true) (λ_=>(GA (t:=3) (m:=T.V s.toNat) (n:=u) (x:=(.tmp 110)) (y:=(.tmp 112)) (by rw[s1];simp))) (tR 5 [64,66,68,70,2,72] λf4 _ _=>tT 37 (pt (h 0) (0+D.toNat)) (λ_=>(P7 (k:=0) (by omega) (by omega))) (tU 38 (iv (T.V D.toNat)) (λW I=>(Da underlying3 rfl (eU (I rfl) 4 (h 0) (stA T).toList 54 .z false (j:=0+D.toNat) (by kernel_rfl) (by rw[nM];exact lW (by omega) (by omega))))) (tR 2 [78,80,2] λf5 _ _=>tT 41 (.bool true) (λ_=>(GA (t:=3) (m:=T.V D.toNat) (n:=u) (x:=(.tmp 120)) (y:=(.tmp 122)) (by rw[s2];simp))) (tR 5 [84,86,88,90,1,92] λf6 _ _=>tT 47 (pt (h 0) (8+o.toNat)) (λ_=>(P7 (k:=8) (by omega) (by omega))) (tU 48 (iv (T.L o.toNat)) (λW I=>(Da underlying3 rfl (eU (I rfl) 4 (h 0) (stA T).toList 54 .z false (j:=8+o.toNat) (by kernel_rfl) (lU (by omega) (by omega))))) (tR 2 [98,100,1] λf7 _ _=>tT 51 (iv (p+1)) (λ_=>(AX 132 p underlying3 (by omega))) (tT 52 (.bool true) (λ_=>(GA (t:=3) (m:=T.L o.toNat) (n:=(p+1)) (x:=(.tmp 130)) (y:=(.tmp 133)) (by rw[s3];simp))) (tR 5 [106,108,110,112,2,114] λf8 _ _=>tT 58 (pt (h 0) (8+q.toNat)) (λ_=>(P7 (k:=8) (by omega) (by omega))) (tU 59 (iv (T.L q.toNat)) (λW I=>(Da underlying3 rfl (eU (I rfl) 4 (h 0) (stA T).toList 54 .z false (j:=8+q.toNat) (by kernel_rfl) (lU (by omega) (by omega))))) (tR 2 [120,122,2] λf9 _ _=>tT 62 (iv (p+1)) (λ_=>(AX 143 p underlying3 (by omega))) (tT 63 (.bool true) (λ_=>(GA (t:=3) (m:=T.L q.toNat) (n:=(p+1)) (x:=(.tmp 141)) (y:=(.tmp 144)) (by rw[s4];simp))) (tR 5 [128,130,132,134,3,136] λg0 _ _=>tT 69 (.bool true) (λ_=>(GA (t:=3) (m:=(tv.n:Int)) (n:=2) (x:=(.tmp 150)) (y:=(.const (iv 2))) (by rw[d9,nt];rfl))) (tR 3 [140,142] λg1 _ _=>tE (.bool true) λ_ B=>⟨rfl,B⟩)))))))))))))))
end
end
end Go.Proofs.YthkjeoamjgnpoaaGreatDoor
