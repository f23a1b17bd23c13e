/- Part 15 of the walk. -/
import Derived.Deep.Slices
import Derived.Test.YtcjcngceghfoeaaGreatDoorZ14
set_option maxRecDepth 100000
set_option maxHeartbeats 4000000
open Go.Proofs.Tryz
set_option linter.unusedVariables false
namespace Go.Proofs.YtcjcngceghfoeaaGreatDoor
section
theorem Pd(p:Nod)(b:Bal):(p.au b).1.done=p.done:=by
 unfold Nod.au;split
 .rfl
 .split
  .rfl
  .split<;>rfl
theorem Oy(p:Nod)(v:Vt):(p.cn v).1.done=p.done:=by
 unfold Nod.cn;split
 .rfl
 .split
  .rfl
  .split<;>rfl
theorem Lc(p:Nod)(j:Nat)(v:Vt):(p.count j v).done=p.done:=by
 unfold Nod.count;split
 .rfl
 .split<;>rfl
theorem JU(p:Nod)(to:Nat)(e:Int):(p.ew to e).done=p.done:=by unfold Nod.ew;split<;>rfl
theorem It(p:Nod)(l:List Cmd):(p.dT l).done=p.done:=by unfold Nod.dT;split<;>rfl
theorem WI(p:Nod)(l:Let):(p.take l).done=p.done:=by
 unfold Nod.take;split
 .split
  .exact JU _ _ _
  .exact Pd p l.hU
 .simp only;split<;>rfl
 .rfl
 .split
  .exact JU _ _ _
  .exact Oy p l.cn
 .exact Lc p _ _
 .split<;>rfl
 .simp only;split<;>exact It p l.gC
 .rfl
theorem Oi(p:Nod)(i:Nat)(q:Pend):(p.lr i q).done=p.done:=by
 cases q with
 | began b vs=>unfold Nod.lr;simp only;split<;>rfl
 | prop v=>exact Lc p i v
 | _=>rfl
theorem RT(i:Nat)(l:List Pend)(p:Nod)(a:List Let):(qW i l p a).1.done=p.done:=by
 induction l generalizing p a with
 | nil=>rfl
 | cons q l ih=>exact(ih _ _).trans (Oi p i q)
def Gc(l:List Cmd):Sto:=l.foldl dnS AN
theorem Oo(l:List Cmd)(c:Cmd):Gc (l++[c])=dnS (Gc l) c:=by unfold Gc;rw[oL];rfl
theorem QY(l:List Cmd)(h:∀ c∈l,c.e=0):EZ (Gc l):=by
 have key:∀ (l:List Cmd) (s:Sto),EZ s->(∀ c∈l,c.e=0)->EZ (l.foldl dnS s):=by
  intro l;induction l with
  | nil=>exact λs a _=>a
  | cons c l ih=>exact λs a h=>ih _ (OF a (h c O')) λd b=>h d (I' _ b)
 exact key l AN QX h
def StI(p:Nod):Prop:=p.ni=Gc (p.ab.take p.done)
theorem StI.qX{p q:Nod}(h:StI p)(d:q.ni=p.ni)(b:q.done=p.done)(a:p.ab <+: q.ab)(c:p.done<=p.ab.length):StI q:=by
 unfold StI;rw[d,b,Rl a c];exact h
theorem aN(p:Nod)(l:Let):(p.take l).ni=p.ni:=by
 unfold Nod.take;split
 .split
  .unfold Nod.ew;split<;>rfl
  .show(p.au l.hU).1.ni=_;unfold Nod.au;split
   .rfl
   .split
    .rfl
    .split<;>rfl
 .simp only;split<;>rfl
 .rfl
 .split
  .unfold Nod.ew;split<;>rfl
  .show(p.cn l.cn).1.ni=_;unfold Nod.cn;split
   .rfl
   .split
    .rfl
    .split<;>rfl
 .unfold Nod.count;split
  .rfl
  .split<;>rfl
 .split<;>rfl
 .simp only;unfold Nod.dT;split<;>split<;>rfl
 .rfl
theorem StI.bare(p:Nod)(u:Bool)(d:List Int)(s:Int)(a:Acc)(x:List Pend):StI (p.bare u d s a x):=rfl
theorem StI.step{D:Wh}{c:Nat}{M N:Meet}(s:Stp D c M N)(a:∀ j,j<5->(M.ae j).done<=(M.ae j).ab.length)(h:∀ j,j<5->StI (M.ae j)):∀ j,j<5->StI (N.ae j):=by
 intro j g;have put:∀ {k:Nat} {p:Nod} {f:List Let} {i:List Tol},(k<5->StI p)->StI ((M.set k p f i).ae j):=λ{k p f i} e=>by
  rw[Am];split
  .rename_i e2;exact e (by omega)
  .exact h j g
 cases s with
 | take _ l hl hd2 hu ht=>exact put λ_=>(h _ hd2.2).qX (aN _ l) (WI _ l) (Ev.take _ l).ag (a _ hd2.2)
 | br _ f hl a=>exact h j g
 | one _ k c hi hu hc he =>
  refine put λ_=>?_;have e:StI { M.ae k with ni:=doS (M.ae k).ni c,done:=(M.ae k).done+1 }:=by
   unfold StI;show doS (M.ae k).ni c=Gc ((M.ae k).ab.take ((M.ae k).done+1));rw[oq,hc,OI he,h k hi];exact(Oo _ c).symm
  unfold Nod.hZ;split<;>exact e
 | ask _ k hi hu =>
  refine put λ_=>?_;have:=h k hi;unfold Nod.kc;split
  .exact this
  .split
   .unfold Nod.dT;split<;>exact this
   .exact this
 | prop _ k hi hu =>
  refine put λ_=>?_;have:=h k hi;unfold Nod.cF;split
  .exact this
  .split
   .exact this
   .split
    .exact this
    .show StI ((M.ae k).cn _).1;unfold Nod.cn;split
     .exact this
     .split
      .exact this
      .split<;>exact this
 | ry _ k hi hu hs hT=>exact put λ_=>h k hi
 | run _ k hi hu q l hp hs =>
  refine put λ_=>(h k hi).qX ?_ ((Oi (M.ae k) k q)) ((Ev.lr (M.ae k) k q).bw l).ag (a k hi);show((M.ae k).lr k q).ni=_;cases q with
  | began b vs=>simp only[Nod.lr];split<;>rfl
  | prop v =>
   simp only[Nod.lr,Nod.count];split
   .rfl
   .split<;>rfl
  | _=>rfl
 | rk _ k hi hu hL=>exact put λ_=>h k hi
 | lead _ k hi hu hL =>
  refine put λ_=>?_;have:=h k hi;unfold Nod.lead;simp only;split
  .exact this
  .generalize (⟨max (M.ae k).dc (M.ae k).vo.p.r+1,(k:Int)⟩:Bal)=b;show StI ((M.ae k).au b).1;unfold Nod.au;split
   .exact this
   .split
    .exact this
    .split<;>exact this
 | sub _ k d hi hu hD =>
  refine put λ_=>?_;have:=h k hi;unfold Nod.rE Nod.rG;split
  .exact this
  .split
   .exact this
   .split
    .exact this
    .show StI (Nod.want _ _);unfold Nod.want;split<;>exact this
 | lp _ k x hi hu hk hC =>
  refine put λ_=>?_;unfold Nod.lp;split
  .exact h k hi
  .exact .bare _ _ _ _ _ _
 | start _ k hi hu hs =>
  refine put λ_=>?_;unfold Nod.start;split
  .exact h k hi
  .split<;>exact .bare _ _ _ _ _ _
theorem StI.zero:∀ j,j<5->StI (AI.ae j):=λj _=>rfl
theorem ce(i:Nat)(l:List Cmd)(p:Nod)(k:List Tol)(j:EZ p.ni)(h:∀ c∈l,c.e=0):(rz i l p k).1.done=p.done+l.length:=by
 induction l generalizing p k with
 | nil=>rfl
 | cons c l ih =>
  have a:=h c O';have b:doE p.ni c=0:=(OH j).trans a;rw[rz,if_neg (λg=>g b)];have f:(Nod.hZ { p with ni:=doS p.ni c,done:=p.done+1 } c).ni=dnS p.ni c/\(Nod.hZ { p with ni:=doS p.ni c,done:=p.done+1 } c).done=p.done+1:=by
   unfold Nod.hZ;split<;>exact⟨OI b,rfl⟩
  rw[ih _ _ (by rw[f.1];exact OF j a) λd m=>h d (I' _ m),f.2,mY];omega
theorem Tl(p:Nod)(i:Nat)(f:List Let)(e:List Tol):(p.piece i f e).1.done=(rz i (p.ab.drop p.done) p e).1.done:=by
 unfold Nod.piece;simp only;generalize (rz i (p.ab.drop p.done) p e).1=a;have g:(a.kc i).1.done=a.done:=by
  unfold Nod.kc;split
  .rfl
  .split
   .exact It _ _
   .rfl
 generalize a.kc i=b at g ⊢;have h:b.1.cF.done=b.1.done:=by
  unfold Nod.cF;split
  .rfl
  .split
   .rfl
   .split
    .rfl
    .exact Oy _ _
 generalize b.1.cF=c at h ⊢;generalize f++b.2=k;have j:(c.ov i k).1.done=c.done:=by
  unfold Nod.ov;split
  .rfl
  .rw[RT];unfold Nod.ry;split<;>rfl
 generalize c.ov i k=d at j ⊢;have l:(d.1.bN i d.2).1.done=d.1.done:=by unfold Nod.bN;split<;>rfl
 omega
theorem D4{I:Meet->Prop}(d:∀ c M N,Stp wh0 c M N->I M->I N)(j:∀ M,I M->I { M with br:=[] })(m:Nat){n:Nat}{M:Meet}(i:MOk n M)(o:n+6*m<=1000000)(h:I M):I (M.fa (Ak m))/\MOk (n+6*m) (M.fa (Ak m)):=by
 induction m with
 | zero=>exact⟨h,i⟩
 | succ m ih =>
  obtain⟨e,f⟩:=ih (by omega);show I (M.fa (Ak m++An))/\MOk (n+6*(m+1)) (M.fa (Ak m++An));rw[AK,EC];have a:=Bl (λc A N s g=>d c A N s.calm g) f (by omega) e;obtain⟨N,k,l,_⟩:=Cn (λA N s g=>d _ A N s.rJ g) a.1 a.2;have b:=a.1.act (x:=acN 7 0) (by omega) (by rw[<- DF];decide);rw[k]at b ⊢
  exact⟨j N l,b.mono (by omega)⟩
theorem Jy{M:Meet}(h:∀ j,j<5->(M.ae j).up=true):M.fa Ay=M:=by
 have key:∀ l:List Lac,(∀ x∈l,M.act x=M)->M.fa l=M:=by
  intro l;induction l with
  | nil=>exact λ_=>rfl
  | cons x l ih =>
   intro a;show(M.act x).fa l=M;rw[a x O'];exact ih λy e=>a y (I' _ e)
 refine key _ λx d=>?_;obtain⟨k,b,rfl⟩:=mQ.1 d;have c:=h k (om.1 b);unfold Meet.act;simp only[acN];rw[if_neg (by decide),if_neg (by decide),if_neg (by decide),if_neg (by decide),if_neg (by decide),if_neg (by decide),if_pos trivial];show M.set k (if(M.ae k).up=true then M.ae k else _) M.br M.ed=M;rw[if_pos c,EM]
theorem I2{M:Meet}{i:Nat}(a:(M.ae i).up=true):M.act (acN 2 (i:Int))=M.set i ((M.ae i).lead i) M.br M.ed:=by
 unfold Meet.act;simp only[acN];rw[if_neg (by decide),if_pos trivial];show M.set i (if(M.ae i).up=true then _ else _) M.br M.ed=_;rw[if_pos a];rfl
theorem Ei(a b:Nat):Ak (a+b)=Ak a++Ak b:=by
 induction b with
 | zero=>exact(mT _).symm
 | succ b ih=>show Ak (a+b)++An=Ak a++(Ak b++An);rw[ih,mA]
theorem lT(f:Nat->Int):∃ j,j<5/\∀ k,k<5->f k<=f j:=by
 have key:∀ n,∃ j,j<n+1/\∀ k,k<n+1->f k<=f j:=by
  intro n;induction n with
  | zero=>exact⟨0,by omega,λk c=>by rw[show k=0 by omega];exact mx _⟩
  | succ n ih =>
   obtain⟨j,d,b⟩:=ih;by_cases e:f j<=f (n+1)
   .refine⟨n+1,by omega,λk c=>?_⟩;by_cases a:k=n+1
    .rw[a];exact mx _
    .exact mR (b k (by omega)) e
   .refine⟨j,by omega,λk c=>?_⟩;by_cases a:k=n+1
    .rw[a];omega
    .exact b k (by omega)
 exact key 4
def F5(b:Bal):List (Bal × Nat):=(List.range 40).map λs=>(b,s)
theorem F6(b:Bal){s:Nat}(h:s<40):(b,s)∈F5 b:=mQ.2 ⟨s,om.2 h,rfl⟩
section
variable{S:Cmd->Prop}{K:Int}{B:Nat->Bal}{cov:List (Bal × Nat)}
theorem Cm.to{M:Meet}(h:Cm S K B cov M){K':Int}(c:∀ j,j<5->(M.ae j).vo.p.key<=K')(b:K'<=3600):Cm S K' B cov M :=
 ⟨h.ex,⟨b,λj a=>⟨by unfold Nod.pk;rw[if_pos (h.up j a)];exact c j a,(h.kb.2 j a).2⟩⟩,h.up,h.hU,h.s⟩
structure Led(i:Nat)(p q:Nod)(b:Bal):Prop where
 may:Ac b
 n:b.n=(i:Int)
 gt:5*p.dc+4<b.key/\p.vo.p.key<b.key
 le:b.key<=max (5*p.dc) p.vo.p.key+9
 up:q.up=p.up
 vo:q.vo.p=b
 hU:q.av.hU=b
 p1:P1 i q
 pe:∃ vs,Pend.began b vs∈q.bw
 ask:q.bn=p.bn/\q.cl=p.cl/\q.done=p.done
 ro:q.dc=p.dc
theorem Cm.lead{M:Meet}(h:Cm S K B cov M)(z:14*K+38*(cov.length:Int)<=99000){i:Nat}(d:i<5)(I:K<=3591)(J:0<=(M.ae i).dc/\5*(M.ae i).dc<=3591) :
  ∃ b,Led i (M.ae i) ((M.ae i).lead i) b/\Cm S 3600 (upN B i b) (cov++F5 b) (M.set i ((M.ae i).lead i) M.br M.ed):=by
 have m:=h.up i d;have O:=h.le d;have u:=(h.acc d).1;have N:=Y5 u;have F:0<=(M.ae i).vo.p.r/\0<=(M.ae i).vo.p.n/\(M.ae i).vo.p.n<=4:=by unfold Ao Ac at u;omega
 obtain⟨b,l⟩:∃ b:Bal,(⟨max (M.ae i).dc (M.ae i).vo.p.r+1,(i:Int)⟩:Bal)=b:=⟨_,rfl⟩;have L:b.key=5*(max (M.ae i).dc (M.ae i).vo.p.r+1)+(i:Int):=by rw[<- l];rfl
 have C:(M.ae i).vo.p.key=5*(M.ae i).vo.p.r+(M.ae i).vo.p.n:=rfl;have t:Ac b:=by rw[<- l];refine⟨⟨?_,?_⟩,?_,?_⟩<;>simp only<;>omega
 have f:=h.prom z d t (by rw[EV t.pr u];omega);have E:(M.ae i).lead i=Nod.wait { ((M.ae i).au b).1 with av:=⟨b,λ_=>false,λ_=>Ea,λ_=>(M.ae i).ab.length,0,[]⟩ } (.began b ((M.ae i).au b).2.1):=by
  unfold Nod.lead;simp only;rw[l,if_neg (λg=>g f.1)]
 have v:((M.ae i).au b).1.dc=(M.ae i).dc:=by
  unfold Nod.au;split
  .rfl
  .split
   .rfl
   .split<;>rfl
 have a:Led i (M.ae i) ((M.ae i).lead i) b:=by
  rw[E];exact⟨t,by rw[<- l],by omega,by omega,(Ev.au _ b).up,f.2,rfl,⟨rfl,λ_ _=>rfl⟩,⟨_,mB _ (D'.2 rfl)⟩,(Bh _ b).1,v⟩
 refine⟨b,a,?_⟩;obtain⟨σ,g,A⟩:=h.ex;obtain⟨τ,G,H,w,x,y⟩:=g.step (D:=whT) (.lead M i d m trivial);refine⟨⟨τ,w,λo s c k=>?_⟩,⟨mx _,?_⟩,λj q=>?_,λj q=>?_,h.s.step (D:=⟨λ_ _=>False,True,False,False,False,False⟩) (λ_ _ e=>False.elim e) (.lead M i d m trivial)⟩
 .rcases x o s c k with k|k
  .exact mD _ (A o s c k)
  .exact absurd (y o s k).1 (by decide)
 .refine(h.kb.2.mono h.kb.1 (mx _)).set ⟨?_,by rw[a.ro];omega⟩ _ _;unfold Nod.pk;rw[if_pos (a.up.trans m),a.vo];omega
 .rw[Am];split
  .exact a.up.trans m
  .exact h.up j q
 .rw[Am];unfold upN;split
  .exact a.hU
  .exact h.hU j q
theorem jU{a:Int}{n:Nat}{M:Meet}(O:MOk n M){m:Nat}(hm:2<=m)(hn:n+6*m+20<=1000000)(U:∀ j,j<5->∀ s,s<40->(B j,s)∈cov)(h:Cm S K B cov M)(z:KbI a a M)(W:K<=a)(T:a<=3500)(Z:14*a+38*(cov.length:Int)<=97000){i:Nat}(q:i<5) :
  ∃ K' B' cov',K'<=a+9/\Cm S K' B' cov' (((M.act (acN 2 (i:Int))).fa Ay).fa (Ak m))/\(∀ j,j<5->∀ s,s<40->(B' j,s)∈cov')/\cov'.length<=cov.length+40/\Gr8 K' ((((M.act (acN 2 (i:Int))).fa Ay).fa (Ak m)).ae i)/\KbI (a+9) (a+9) (((M.act (acN 2 (i:Int))).fa Ay).fa (Ak m))/\MOk (n+6*m+1) (((M.act (acN 2 (i:Int))).fa Ay).fa (Ak m)):=by
 have G:=h.up i q;have hr:=z i q;have F:=(O.ae i q).ro;have d:=O.act (x:=acN 2 (i:Int)) (by omega) (ER ⟨.inl rfl,by omega,by omega⟩);obtain⟨b,y,f⟩:=h.lead (by omega) q (by omega) ⟨F.1,by omega⟩;obtain⟨σ,g,_⟩:=h.ex;have o:=z.lead g q G M.br M.ed;have H:∀ j,j<5->((M.act (acN 2 (i:Int))).ae j).up=true:=by rw[I2 G];exact f.up
 rw[Jy H];rw[I2 G]at d ⊢
 have u:=Bv M i ((M.ae i).lead i) M.br M.ed;generalize M.set i ((M.ae i).lead i) M.br M.ed=N at f o d u ⊢;rw[<- u]at y
 obtain⟨j,v,C⟩:=lT λj=>(N.ae j).vo.p.key;have E:∀ j,j<5->(N.ae j).vo.p.key<=a+9:=λj v=>by
  have:=(o j v).1;unfold Nod.pk at this
  rwa [if_pos (f.up j v)]at this
 have t:=E j v;have f:=f.to C (by omega);have l:∀ k,k<5->∀ s,s<40->(upN B i b k,s)∈cov++F5 b:=λk z s P=>by
  unfold upN;split
  .exact mB _ (F6 b P)
  .exact mD _ (U k z s P)
 obtain⟨vs,V⟩:=y.pe;have A:=iF l d (by omega) f q v rfl y.vo y.may V;generalize (N.ae j).vo.p.key=K' at f A t;have L:∀ c X Y,Stp wh0 c X Y->(Cm S K' (upN B i b) (cov++F5 b) X/\KbI (a+9) (a+9) X)->(Cm S K' (upN B i b) (cov++F5 b) Y/\KbI (a+9) (a+9) Y):=λc X Y s g=>by
  obtain⟨σ,R,_⟩:=g.1.ex;exact⟨g.1.step l s,g.2.step (D:=wh0) (λe=>e) R s (mx _)⟩
 have J:=D4 L (λX g=>⟨g.1.drop,g.2⟩) 2 d (by omega) ⟨f,o⟩;obtain⟨r,rfl⟩:∃ r,m=2+r:=⟨m-2,by omega⟩;rw[Ei,AK];have Q:N.fa (Ak 2)=N.fa (An++An):=rfl;rw[<- Q]at A
 have w:=D4 (I:=λX=>(Cm S K' (upN B i b) (cov++F5 b) X/\KbI (a+9) (a+9) X)/\Gr8 K' (X.ae i)) (λc X Y s g=>⟨L c X Y s g.1,g.2.ev (s.ev i)⟩) (λX g=>⟨⟨g.1.1.drop,g.1.2⟩,g.2⟩) r J.2 (by omega) ⟨J.1,A⟩;refine⟨K',_,_,t,w.1.1.1,l,?_,w.1.2,w.1.1.2,w.2.mono (by omega)⟩;rw[H'];unfold F5;rw[mO,oH];exact A' _
end
section
variable{C:List Cmd}{K:Int}{B:Nat->Bal}{cov:List (Bal × Nat)}{i:Nat}{b:Bal}{A:List Cmd}
theorem Fin_.drop{N:Meet}(f:Fin_ i A N):Fin_ i A { N with br:=[] }:=⟨f.ag,f.nx,f.hd,f.qu⟩
theorem Fin_.sL(a:PhC C K B cov i b){M:Meet}(h:PhE C K B cov i b M)(f:Fin_ i A M){j:Nat}(c:j<5)(p:A.length<=(M.ae j).ab.length):(M.ae j).ab=A:=by
 have o:=f.le a h c;obtain⟨σ,g,_⟩:=h.pb.cm.ex;refine oS (by omega) λs k l=>?_;obtain⟨m,d⟩:=(g.nd j c).ag s _ (G' k);obtain⟨n,e⟩:=(g.nd i a.hi).ag s _ (by rw[f.ag];exact G' l);exact g.gs.sx.agree d e
structure Fz(C:List Cmd)(K:Int)(B:Nat->Bal)(cov:List (Bal × Nat))(i:Nat)(b:Bal)(A:List Cmd)(M:Meet):Prop where
 l:PhL C K B cov i b M
 f:Fin_ i A M
 a:∀ j,j<5->(M.ae j).ab=A
 s:∀ j,j<5->StI (M.ae j)
theorem Fz.step(d:PhC C K B cov i b){n:Nat}{M N:Meet}(s:Stp wh0 n M N)(h:Fz C K B cov i b A M):Fz C K B cov i b A N:=by
 have e:=h.l.step d s;have g:=Fin_.step d s h.l.pe h.f;exact⟨e,g,λj c=>g.sL d e.pe c (by have:=(s.ev j).ag.length_le;rw[h.a j c]at this;exact this),StI.step s (λj c=>(h.l.pe.pb.ak j c).dn) h.s⟩
theorem Fz.drop{N:Meet}(h:Fz C K B cov i b A N):Fz C K B cov i b A { N with br:=[] }:=⟨h.l.drop,h.f.drop,h.a,h.s⟩
structure Rst(C:List Cmd)(K:Int)(B:Nat->Bal)(cov:List (Bal × Nat))(i:Nat)(b:Bal)(A:List Cmd)(M:Meet):Prop where
 z:Fz C K B cov i b A M
 d:∀ j,j<5->(M.ae j).done=A.length
theorem OG(g:PhC C K B cov i b){n:Nat}{M N:Meet}(s:Stp wh0 n M N)(h:Fz C K B cov i b A M){j:Nat}(e:j<5)(d:(M.ae j).done=A.length):(N.ae j).done=A.length:=by
 have c:=h.step g s;have k:=(s.ev j).dn;have f:=(c.l.pe.pb.ak j e).dn;rw[c.a j e]at f
 omega
theorem Rst.step(a:PhC C K B cov i b){n:Nat}{M N:Meet}(s:Stp wh0 n M N)(h:Rst C K B cov i b A M):Rst C K B cov i b A N:=⟨h.z.step a s,λj c=>OG a s h.z c (h.d j c)⟩
theorem W7(o:PhC C K B cov i b)(g:∀ c∈C,c.e=0){M:Meet}(h:Fz C K B cov i b A M){j:Nat}(d:j<5):((M.act (acN 3 (j:Int))).ae j).done=A.length:=by
 have n:=h.l.pe.pb.cm.up j d;have m:=(h.l.pe.pb.ak j d).dn;have k:∀ c∈(M.ae j).ab,c.e=0:=λc f=>g c ((h.l.pe.pb.cm.s.nd j d).ag c f);rw[GX n,Am,if_pos rfl,Tl,ce]
 .rw[mF,h.a j d];rw[h.a j d]at m
  omega
 .rw[h.s j d];exact QY _ λc f=>k c (mL f)
 .exact λc f=>k c (ol f)
theorem Gr8.gt{p q:Nod}{K:Int}(h:Gr8 K p)(a:Ao p.vo.p){i:Nat}{b:Bal}(l:Led i p q b):K<b.key:=by
 have:=l.gt;unfold Gr8 at h;omega
theorem jV(R:∀ c∈C,c.e=0)(hC:C.length<40){K1:Int}{n:Nat}{M:Meet}(hM:MOk n M){m:Nat}(hm:85<=m)(hn:n+6*m+20<=990000)(hc:∀ j,j<5->∀ s,s<40->(B j,s)∈cov)(h:Cm (λc=>c∈C) K B cov M)(gr:Gr8 K (M.ae i))(hk:KbI K1 K1 M)(hK:K<=K1)(a4:K1<=3510)(hQ:14*K1+38*(cov.length:Int)<=97000)(t:i<5)(hA:∀ j,j<5->AskI (M.ae j))(hS:∀ j,j<5->StI (M.ae j)) :
  ∃ K' B' cov' b A,PhC C K' B' cov' i b/\Rst C K' B' cov' i b A (((M.act (acN 2 (i:Int))).fa Ay).fa (Ak m)):=by
 have hu:=h.up i t;have hr:=hk i t;have a2:=(hM.ae i t).ro;have u:=hM.act (x:=acN 2 (i:Int)) (by omega) (ER ⟨.inl rfl,by omega,by omega⟩);obtain⟨b,q,o⟩:=h.lead (by omega) t (by omega) ⟨a2.1,by omega⟩;obtain⟨σ,g,_⟩:=h.ex;have L:=AskI.step (Stp.lead (D:=whT) M i t hu trivial) g hA;have T:=StI.step (Stp.lead (D:=whT) M i t hu trivial) (λj f=>(hA j f).dn) hS;have a5:=gr.gt (h.acc t).1 q;have a6:b.key<=K1+9:=by
  have:=q.le;have:=h.le t;omega
 have a3:∀ j,j<5->((M.act (acN 2 (i:Int))).ae j).up=true:=by rw[I2 hu];exact o.up
 rw[Jy a3];rw[I2 hu]at u ⊢
 have G:=Bv M i ((M.ae i).lead i) M.br M.ed;have S:∀ j,j≠i->((M.set i ((M.ae i).lead i) M.br M.ed).ae j)=M.ae j:=λj f=>by rw[Am,if_neg f]
 have V:QA i b (M.set i ((M.ae i).lead i) M.br M.ed):=λj f c hx=>by
  refine absurd ?_ (show ¬ b.key<=max K (M.ae i).vo.p.key by have:=q.gt;omega);by_cases e:j=i
  .rw[e,G,q.ask.2.1]at hx
   have:=(hA i t).le c b hx;omega
  .rw[S j e]at hx
   have:=(hA j f).le c b hx;have:=h.le f;omega
 have F:∀ j,j<5->j≠i->((M.set i ((M.ae i).lead i) M.br M.ed).ae j).vo.p.key<b.key:=λj f e=>by
  rw[S j e];have:=h.le f;omega
 generalize M.set i ((M.ae i).lead i) M.br M.ed=N at o u G L T V F ⊢;rw[<- G]at q
 have o:=o.to (K':=b.key) (λj f=>by
  by_cases e:j=i
  .rw[e,q.vo];exact mx _
  .have:=F j f e;omega) (by omega)
 have E:∀ k,k<5->∀ s,s<40->(upN B i b k,s)∈cov++F5 b:=λk hk s hs=>by
  unfold upN;split
  .exact mB _ (F6 b hs)
  .exact mD _ (hc k hk s hs)
 have l:PhC C b.key (upN B i b) (cov++F5 b) i b:=⟨E,hC,t,q.may,q.n,CZ _ _ _,rfl⟩;have y:14*b.key+38*((cov++F5 b).length:Int)<=99000:=by
  have:(cov++F5 b).length=cov.length+40:=by rw[H'];unfold F5;rw[mO,oH]
  omega
 obtain⟨vs,hq⟩:=q.pe;generalize cov++F5 b=cov' at o E l y;generalize upN B i b=B' at o E l;generalize a0:b.key=K' at o l y F;have O:PhB C K' B' cov' i b N:=⟨o,L,q.vo⟩;obtain⟨p1,p2,p3,p4,p5,p6,p7⟩:=dN E y u (by omega) o t q.may a0 l.hB q.vo F hq q.p1;obtain⟨q1,q2,_,_⟩:=QJ l u (by omega) O V;have U:=D4 (I:=λX=>PhB C K' B' cov' i b X/\∀ j,j<5->StI (X.ae j)) (λc X Y s g=>⟨g.1.step l s,StI.step s (λj f=>(g.1.ak j f).dn) g.2⟩) (λX g=>⟨⟨g.1.cm.drop,g.1.ak,g.1.vi⟩,g.2⟩);have H:∀ a X k,MOk k X->k+6*a<=1000000->PhB C K' B' cov' i b X->(∀ j,j<5->StI (X.ae j))->∀ j,j<5->StI ((X.fa (Ak a)).ae j):=λa X k h1 h2 h3 h4=>(U a h1 h2 ⟨h3,h4⟩).1.2;clear U;have s1:=H 1 N _ u (by omega) O T;rw[show Ak 1=An from rfl]at s1
 obtain⟨r1,r2,r3,r4⟩:=dO l p7 (by omega) q1 (λj f c e=>.inl (q2 j f c e)) p2 p3 p4 p5 p6;have s2:=H 1 _ _ p7 (by omega) q1 s1;rw[show Ak 1=An from rfl]at s2
 obtain⟨W,t1,t2,t3,t4,t5⟩:=im l y R 81 r4 (by omega) r1 r2 r3 (by unfold mu;split<;>omega);have s3:=H W _ _ r4 (by omega) r1.pe.pb s2;obtain⟨r,rfl⟩:∃ r,m=1+(1+(W+(1+(1+r)))):=⟨m-W-4,by omega⟩;rw[Ei,AK,Ei,AK,Ei,AK,Ei,AK,Ei,AK];simp only[show Ak 1=An from rfl];generalize (((N.fa An).fa An).fa (Ak W))=X at t2 t3 t4 t5 s3 ⊢;generalize (X.ae i).ab=A at t2;obtain⟨u1,u2⟩:=Mu l t5 (by omega) t3 t4;rw[t2.ag]at u2
 have v:=D4 (I:=λY=>PhL C K' B' cov' i b Y/\Fin_ i A Y/\∀ j,j<5->StI (Y.ae j)) (λc Y Z s g=>⟨g.1.step l s,Fin_.step l s g.1.pe g.2.1,StI.step s (λj f=>(g.1.pe.pb.ak j f).dn) g.2.2⟩) (λY g=>⟨g.1.drop,g.2.1.drop,g.2.2⟩) 1 t5 (by omega) ⟨t3,t2,s3⟩;rw[show Ak 1=An from rfl]at v
 obtain⟨⟨v1,v2,v3⟩,v4⟩:=v;have w:Fz C K' B' cov' i b A (X.fa An):=⟨v1,v2,λj f=>v2.sL l v1.pe f (u2 j f),v3⟩;generalize X.fa An=Y at w v4 ⊢;have x:Rst C K' B' cov' i b A (Y.fa An):=by
  have hz:=D4 (λc Y Z s g=>Fz.step l s g) (λY g=>Fz.drop g) 1 v4 (by omega) w;rw[show Ak 1=An from rfl]at hz
  refine⟨hz.1,λj f=>?_⟩;have a:=Bl (λc A N s g=>Fz.step l s.calm g) v4 (by omega) w;have d:=Mg (J:=λZ=>(Z.ae j).done=A.length) (λc A N s g=>Fz.step l s.calm g) (λc A N s g d=>OG l s.calm g f d) v4 (by omega) w f λZ _ _ _ g _=>W7 l R g f;rw[EC];obtain⟨Z,k1,k2,_⟩:=Cn (I:=λZ=>Fz C K' B' cov' i b A Z/\(Z.ae j).done=A.length) (λP Q s g=>⟨g.1.step l s.rJ,OG l s.rJ g.1 f g.2⟩) a.1 ⟨a.2,d⟩;rw[k1];exact k2.2
 have a1:MOk (n+1+6+6+6*W+6*1+6*1) (Y.fa An):=(D4 (λc Y Z s g=>Fz.step l s g) (λY g=>Fz.drop g) 1 v4 (by omega) w).2;exact⟨K',B',cov',b,A,l,(D4 (λc Y Z s g=>Rst.step l s g) (λY g=>⟨g.z.drop,g.d⟩) r a1 (by omega) x).1⟩
end
section
def ec(l:List Int):Cmd:=⟨Ad (unQ l) 0,Ad (unQ l) 4,Ad (unQ l) 8,Ad (unQ l) 12,Ad (unQ l) 16⟩
variable{l:List Int}{now:Int}
theorem fK(h:opE l now=0):unE l=0:=by
 unfold opE at h;split at h
 .rename_i g;exact absurd h g
 .rename_i g;exact mz.1 g
theorem fW(h:unE l=0):(ec l).e=0:=by
 have:=(Rq h).2;unfold Cq at this;split at this
 .cases this
 .exact this
theorem Zd(h:opE l now=0):FH l now=ec l:=by unfold FH;rw[if_pos h];rfl
def Kz(L:List Lac):List Cmd:=(L.filter λx=>decide (x.k=1/\unE x.d=0)).map λx=>ec x.d
theorem eJ{L:List Lac}{x:Lac}(c:x∈L)(b:x.k=1){a:Int}(h:opE x.d a=0):FH x.d a∈Kz L:=by
 refine mQ.2 ⟨x,pC.2 ⟨c,M' ⟨b,fK h⟩⟩,?_⟩;unfold FH;rw[if_pos h];rfl
theorem ji(L:List Lac):∀ c∈Kz L,c.e=0:=λc a=>by
 obtain⟨x,b,rfl⟩:=mQ.1 a;exact fW (m5 (pC.1 b).2).2
theorem P8(L:List Lac)(e:∀ x∈L,LacOk x)(k:L.length<=100000):(∀ j,j<5->AskI ((AI.fa L).ae j))/\∀ j,j<5->StI ((AI.fa L).ae j):=by
 have s:Sts whT L.length AI (AI.fa L):=KN L MOk.zero (by omega) λx i=>⟨e x i,UV x⟩;exact(s.inv (I:=λM=>(∃ σ,AgI σ M)/\(∀ j,j<5->AskI (M.ae j))/\∀ j,j<5->StI (M.ae j)) (λc M N h ⟨⟨σ,g⟩,a,b⟩=>by
  obtain⟨τ,_,_,d,_⟩:=g.step h;exact⟨⟨τ,d⟩,AskI.step h g a,StI.step h (λj f=>(a j f).dn) b⟩) ⟨⟨_,AgI.zero⟩,AskI.zero,StI.zero⟩).2
theorem dq(L M:List Lac):lds (L++M)=lds L+lds M:=by unfold lds;rw[pD]
theorem settled(L:List Lac)(v:∀ x∈L,LacOk x)(a2:9*lds L<=3480)(n:(Kz L).length<40)(hq:126*lds L+38*L.length<=85000)(m:Nat)(hm:85<=m)(hl:L.length+12*m<=99000){i:Nat}(O:i<5) :
  ∃ K B cov b A,PhC (Kz L) K B cov i b/\Rst (Kz L) K B cov i b A (AI.fa (L++(Cr m (i:Int)++Cr m (i:Int)))):=by
 have C:∀ x∈Cr m (i:Int),LacOk x:=λx hx=>by
  rcases P'.1 hx with hx|hx
  .rcases P'.1 hx with hx|hx
   .exact Pj 0 x hx
   .rw[D'.1 hx];exact ER ⟨.inl rfl,by omega,by omega⟩
  .exact Pj m x hx
 have a0:(Cr m (i:Int)).length=6*m+11:=by
  have V:∀ m,(Dk m).length=5+6*m:=λm=>by unfold Dk;rw[H',Hz];rfl
  unfold Cr;simp only[H',V,ny];omega
 have l:∀ x∈L++Ay,LacOk x:=λx hx=>(P'.1 hx).elim (v x) λe=>Pj 0 x (mD _ e);have a1:(L++Ay).length=L.length+5:=by rw[H'];rfl
 have t:∀ j,j<5->((AI.fa (L++Ay)).ae j).up=true:=λj z=>by
  have:=iX L v 0 (by omega) z
  rwa [show Dk 0=Ay from mT _]at this
 have Y:∀ x∈L++Ay,x.k=1->∀ o:Nat,opE x.d (o:Int)=0->FH x.d (o:Int)∈Kz L:=λx hx H o h=>by
  rcases P'.1 hx with e|e
  .exact eJ e H h
  .obtain⟨k,_,rfl⟩:=mQ.1 e;exact absurd H (by show(9:Int)≠1;decide)
 have g:=Xg (S:=λc=>c∈Kz L) (L++Ay) l (by omega) Y;obtain⟨τ,cov,_,J,u,w,y⟩:=Wr (L++Ay) MOk.zero (by omega) l AgI.zero KbI.zero (cov:=[]) (λb s c h=>h.elim);rw[show lds (L++Ay)=lds L by rw[dq];rfl,Int.zero_add]at u
 have r:=KM (L++Ay) l (by omega);have F:AI.fa (L++(Cr m (i:Int)++Cr m (i:Int)))=(((((((AI.fa (L++Ay)).act (acN 2 (i:Int))).fa Ay).fa (Ak m)).fa Ay).act (acN 2 (i:Int))).fa Ay).fa (Ak m):=by
  have e:∀ X:Meet,X.fa (Cr m (i:Int))=(((X.fa Ay).act (acN 2 (i:Int))).fa Ay).fa (Ak m):=λX=>by
   unfold Cr;rw[AK,show Dk 0=Ay from mT _,AJ];unfold Dk;rw[AK]
  rw[AK,AK,e,e,AK]
 rw[F];have G:((((AI.fa (L++Ay)).act (acN 2 (i:Int))).fa Ay).fa (Ak m))=AI.fa (L++Cr m (i:Int)):=by
  rw[AK _ L (Cr m (i:Int)),AK _ L Ay];unfold Cr;rw[AK,show Dk 0=Ay from mT _,AJ];unfold Dk;rw[AK]
 have a:=P8 (L++Cr m (i:Int)) (λx hx=>(P'.1 hx).elim (v x) (C x)) (by rw[H'];omega);rw[<- G]at a
 clear F G;generalize AI.fa (L++Ay)=M at t g J u r a ⊢;obtain⟨q,f⟩:∃ q,cov++(F5 (M.ae 0).av.hU++(F5 (M.ae 1).av.hU++(F5 (M.ae 2).av.hU++(F5 (M.ae 3).av.hU++F5 (M.ae 4).av.hU))))=q:=⟨_,rfl⟩;have I:q.length<=L.length+205:=by
  rw[<- f];simp only[H',F5,mO,oH];simp only[List.length_nil]at w;omega
 have Z:∀ j,j<5->∀ s,s<40->((M.ae j).av.hU,s)∈q:=λj z s n=>by
  rw[<- f];refine mB _ ?_;simp only[P'];rcases ri z with rfl|rfl|rfl|rfl|rfl
  .exact .inl (F6 _ n)
  .exact .inr (.inl (F6 _ n))
  .exact .inr (.inr (.inl (F6 _ n)))
  .exact .inr (.inr (.inr (.inl (F6 _ n))))
  .exact .inr (.inr (.inr (.inr (F6 _ n))))
 have W:Cm (λc=>c∈Kz L) (9*(lds L:Int)) (λj=>(M.ae j).av.hU) q M:=⟨⟨τ,J,λb s c h=>by rw[<- f];exact mD _ (y b s c h)⟩,⟨by omega,u.mono (mx _) (by omega)⟩,t,λ_ _=>rfl,g⟩;obtain⟨K',B',E,k1,D,k3,k4,P,Q,R⟩:=jU r (m:=m) (by omega) (by omega) Z W u (mx _) (by omega) (by omega) O;generalize (((M.act (acN 2 (i:Int))).fa Ay).fa (Ak m))=N at D P Q R a ⊢;rw[Jy D.up];obtain⟨U,T,p,b,A,z1,z2⟩:=jV (ji L) n R hm (by omega) k3 D P Q (by omega) (by omega) (by omega) O a.1 a.2;exact⟨U,T,p,b,A,z1,z2⟩
theorem iH{l A:List Cmd}(e:l.length<=A.length)(h:∀ (s:Nat) (c d:Cmd),l[s]?=some c->A[s]?=some d->c=d):l <+: A:=by
 refine List.prefix_iff_eq_take.2 (oS (by rw[X'];omega) λs a b=>?_);rw[List.getElem_take];exact h s _ _ (G' a) (G' (by omega))
end
section
variable{C:List Cmd}{K:Int}{B:Nat->Bal}{cov:List (Bal × Nat)}{i:Nat}{b:Bal}{A:List Cmd}
theorem Rst.log{N:Meet}(r:Rst C K B cov i b A N){j:Nat}(c:j<5):N.log j=A:=by unfold Meet.log;rw[r.z.a j c,r.d j c,oh]
end
section
theorem aA(L:List Lac):(Kz L).length<=L.countP λx=>decide (x.k=1):=by
 unfold Kz;rw[mO,<- List.countP_eq_length_filter];exact List.countP_mono_left λx _ h=>M' (m5 h).1
theorem ZQ(G:List Gr)(m:Nat)(a:Bool):(scr G m a).countP (λx=>decide (x.k=1))<=6:=by
 have key:∀ (l:List Gr) (s:Nat),(LZ a s l).countP (λx=>decide (x.k=1))<=6-s:=by
  intro l;induction l with
  | nil=>exact λs=>mV _
  | cons g l ih =>
   intro s;rw[LZ,ph];unfold Wv eA;generalize ON g a=x;by_cases h:x.k=1
   .have:=ih (s+1);by_cases b:6<s+1
    .rw[if_pos h,if_pos (⟨h,b⟩:x.k=1/\6<s+1),if_neg (by decide)];omega
    .rw[if_pos h,if_neg (λe:x.k=1/\6<s+1=>b e.2),if_pos (M' h)];omega
   .have:=ih s;rw[if_neg h,if_neg (λe:x.k=1/\6<s+1=>h e.1),if_neg (λe=>h (m5 e))];omega
 exact key _ 0
theorem io(L:List Lac):lds L<=L.length:=List.countP_le_length
variable{A l:List Cmd}{N:Meet}{b:Bool}{c:Cmd}{f:Nat->Cmd}{i k:Nat}{s:Sto}{t:Tol}{σ:Gs}
theorem eE(L:List Lac)(a:∀ x∈L,LacOk x)(g:L.length<=380)(h:L.countP (λx=>decide (x.k=1))<40){i:Nat}(c:i<5) :
  ∃ K B cov b A,PhC (Kz L) K B cov i b/\Rst (Kz L) K B cov i b A (AI.fa (L++FN L (i:Int))):=by
 have d:=io L;have e:(L.filter hvy).length<=L.length:=o8 _ _;have f:=aA L;exact settled L a (by omega) (by omega) (by omega) (Fh L) (by unfold Fh;omega) (by unfold Fh;omega) c
def R0(σ:Gs)(t:Tol):Prop:=∃ (l:List Cmd) (c:Cmd),AgL σ l 0/\(AgL σ (l++[c]) 0\/c∈l)/\t.c=c.c/\t.s=c.s/\t.e=doC (Gc l) c/\t.a=doA (Gc l) c
theorem R0.mono{τ:Gs}(h:σ.le τ){t:Tol}(g:R0 σ t):R0 τ t:=by
 obtain⟨l,c,a,b,d⟩:=g;exact⟨l,c,a.mono h,b.imp (λq=>q.mono h) id,d⟩
theorem AgL.take(h:AgL σ l 0)(k:Nat):AgL σ (l.take k) 0:=λs c e=>by
 rw[nz]at e
 split at e
 .exact h s c e
 .cases e
theorem aT{f:Nat}{M:Meet}(s:Stp whT f M N)(h:AgI σ M)(b:∀ j,j<5->StI (M.ae j)):∀ t∈N.ed,t∈M.ed\/R0 σ t:=by
 cases s with
 | one _ i d hi hu hc he =>
  intro t a;have a:t∈(if((M.ae i).cl d).isSome=true then M.ed++[⟨i,d.c,d.s,doC (M.ae i).ni d,doA (M.ae i).ni d⟩]else M.ed):=a;split at a
  .rcases P'.1 a with g|g
   .exact .inl g
   .rw[D'.1 g];have e:(M.ae i).ab.take ((M.ae i).done+1)=(M.ae i).ab.take (M.ae i).done++[d]:=by rw[oq,hc];rfl
    refine .inr ⟨(M.ae i).ab.take (M.ae i).done,d,(h.nd i hi).ag.take _,.inl (by rw[<- e];exact(h.nd i hi).ag.take _),rfl,rfl,?_,?_⟩
    .show doC (M.ae i).ni d=_;rw[b i hi]
    .show doA (M.ae i).ni d=_;rw[b i hi]
  .exact .inl a
 | sub _ i d hi hu hD =>
  intro t a;have a:t∈((M.ae i).rE i d M.ed).2:=a;unfold Nod.rE Nod.rG at a;split at a
  .exact .inl a
  .split at a
   .exact .inl a
   .split at a
    .rename_i hm
     rcases P'.1 a with g|g
     .exact .inl g
     .rw[D'.1 g];refine .inr ⟨(M.ae i).ab.take (M.ae i).done,FH d ((M.ae i).done:Int),(h.nd i hi).ag.take _,.inr hm,rfl,rfl,?_,?_⟩
      .show doC (M.ae i).ni _=_;rw[b i hi]
      .show doA (M.ae i).ni _=_;rw[b i hi]
    .exact .inl a
 | _=>exact λt a=>.inl a
theorem aS(L:List Lac)(i:∀ x∈L,LacOk x)(m:L.length<=100000):∃ σ,AgI σ (AI.fa L)/\∀ t∈(AI.fa L).ed,R0 σ t:=by
 have s:Sts whT L.length AI (AI.fa L):=KN L MOk.zero (by omega) λx b=>⟨i x b,UV x⟩;exact(s.inv (I:=λM=>(∃ σ,AgI σ M/\∀ t∈M.ed,R0 σ t)/\(∀ j,j<5->AskI (M.ae j))/\∀ j,j<5->StI (M.ae j)) (λ_ A B g ⟨⟨σ,c,l⟩,e,f⟩=>by
  obtain⟨τ,_,d,h,_⟩:=c.step g;exact⟨⟨τ,h,λt a=>(aT g c f t a).elim (λq=>(l t q).mono d) λq=>q.mono d⟩,AskI.step g c e,StI.step g (λj k=>(e j k).dn) f⟩) ⟨⟨_,AgI.zero,λt a=>by cases a⟩,AskI.zero,(P8 [] (λx b=>by cases b) (mV _)).2⟩).1
theorem AgL.pre(g:GsI σ){l A:List Cmd}(h:AgL σ l 0)(k:AgL σ A 0)(i:l.length<=A.length):l <+: A:=iH i λs c d e f=>by
 obtain⟨j,a⟩:=h s c e;obtain⟨m,b⟩:=k s d f;exact g.sx.agree a b
def Bhd(s:Sto)(c:Cmd):Prop:=c.s+1<=s.L c.c.toNat\/s.R c.c.toNat=true
theorem fE(s:Sto)(m:Cmd)(c:Nat)(h:s.R c=true):(dnS s m).R c=true:=by
 unfold dnS;split
 .unfold MW;simp only;split
  .by_cases e:c=m.n.toNat
   .subst e;exact Ds _ _ _
   .rw[Dt _ _ e];exact h
  .exact h
 .exact h
theorem gQ(s:Sto)(m:Cmd)(c:Nat):s.L c<=(dnS s m).L c\/∃ h:m.k≠0/\¬ m.s<s.L m.c.toNat/\s.R m.c.toNat=false,c=m.c.toNat:=by
 unfold dnS;split
 .rename_i h
  by_cases e:c=m.c.toNat
  .exact .inr ⟨h,e⟩
  .left;show s.L c<=Na s.L m.c.toNat (m.s+1) c;rw[Dt _ _ e];exact mx _
 .exact .inl (mx _)
theorem Bhd.step(h:Bhd s c)(m:Cmd):Bhd (dnS s m) c:=by
 rcases h with h|h
 .rcases gQ s m c.c.toNat with g|⟨g,e⟩
  .exact .inl (by omega)
  .left;have:(dnS s m).L c.c.toNat=m.s+1:=by
    unfold dnS;rw[if_pos g,e];exact Ds _ _ _
   rw[e]at h
   have:=g.2.1;omega
 .exact .inr (fE _ _ _ h)
theorem Bhd.one(s:Sto){c:Cmd}(a:c.k≠0):Bhd (dnS s c) c:=by
 by_cases h:c.s<s.L c.c.toNat
 .exact Bhd.step (.inl (by omega)) c
 .by_cases hr:s.R c.c.toNat=true
  .exact .inr (fE _ _ _ hr)
  .left;unfold dnS;rw[if_pos ⟨a,h,by simpa using hr⟩];show c.s+1<=Na s.L c.c.toNat (c.s+1) c.c.toNat;rw[Ds];exact mx _
theorem Bhd.fold(h:Bhd s c)(l:List Cmd):Bhd (l.foldl dnS s) c:=by
 induction l generalizing s with
 | nil=>exact h
 | cons m l ih=>exact ih (h.step m)
theorem Bhd.of(h:c∈l)(d:c.k≠0):Bhd (Gc l) c:=by
 obtain⟨a,b,rfl⟩:=List.append_of_mem h;unfold Gc;rw[oL];exact Bhd.fold (s:=dnS (a.foldl dnS AN) c) (Bhd.one _ d) b
theorem Xh(h:Bhd s c)(b:c.k≠0):s.L c.c.toNat=c.s+1/\dnC s c=s.C c.c.toNat/\dnA s c=s.A c.c.toNat\/dnC s c=7\/dnC s c=11:=by
 unfold dnC dnA;rw[if_neg b,if_neg b];by_cases a:s.L c.c.toNat=c.s+1
 .rw[if_pos a,if_pos a];exact .inl ⟨a,rfl,rfl⟩
 .rw[if_neg a];by_cases d:c.s<s.L c.c.toNat
  .rw[if_pos d];exact .inr (.inl rfl)
  .rw[if_neg d];rcases h with g|g
   .omega
   .rw[if_pos g];exact .inr (.inr rfl)
theorem ZM(a:∀ i c,A[i]?=some c->f i=c){n:Nat}(b:n<=A.length):Gc (A.take n)=sAt f n:=by
 induction n with
 | zero=>rfl
 | succ n ih =>
  have h:=G' (l:=A) (i:=n) (by omega);rw[oq,h];show Gc (A.take n++[A[n]])=_;rw[Oo,ih (by omega),sAt,a n _ h]
theorem TC{e a:Int}(o:∀ x∈A,x.e=0)(q:∀ x∈A,x.k≠0){f:Nat->Cmd}(p:∀ i x,A[i]?=some x->f i=x)(v:l <+: A)(B:l++[c] <+: A\/c∈l)(u:e=doC (Gc l) c)(z:a=doA (Gc l) c) :
  ∃ k,k<A.length/\(f k).c=c.c/\(f k).s=c.s/\(f k).k≠0/\(cAt f k=e/\aAt f k=a\/e=7\/e=11):=by
 have w:=v.length_le;have m:Gc l=sAt f l.length:=by rw[<- ZM p w,<- List.prefix_iff_eq_take.1 v]
 have b:c∈A:=B.elim (λg=>g.subset (mB _ (D'.2 rfl))) λg=>v.subset g;have C:doE (Gc l) c=0:=(OH (QY l λx D=>o x (v.subset D))).trans (o c b);rw[RS C,m]at u
 rw[RR C,m]at z
 rcases B with g|g
 .obtain⟨r,hr⟩:=g;have h1:A[l.length]?=some c:=by rw[<- hr];simp
  have h:=p _ _ h1;refine⟨l.length,(V'.1 h1).1,by rw[h],by rw[h],by rw[h];exact q c b,.inl ⟨?_,?_⟩⟩
  .rw[u];unfold cAt;rw[h]
  .rw[z];unfold aAt;rw[h]
 .have hb:=Bhd.of g (q c b);rw[m]at hb
  rcases Xh hb (q c b)with⟨h1,h3,h4⟩|h1|h1
  .have hs:0<=c.s:=by
    have:=(Fy (o c b)).2;unfold InC at this;omega
   obtain⟨k,I,E,J,K,F,G,H⟩:=dp (f:=f) (n:=l.length) (c:=c.c.toNat) (by rw[h1];omega);have j:k<A.length:=by omega
   have d:=p k _ (G' j);have t:=(Fy (o _ (m7 j))).2;have y:=(Fy (o c b)).2;unfold InC at t y;rw[<- d]at t
   exact⟨k,j,by omega,by omega,E,.inl ⟨by rw[u,h3,F,G],by rw[z,h4,H]⟩⟩
  .obtain⟨k,hk1⟩:=nA.1 b;have d:=p k _ hk1;exact⟨k,(V'.1 hk1).1,by rw[d],by rw[d],by rw[d];exact q c b,.inr (.inl (u.trans h1))⟩
  .obtain⟨k,hk1⟩:=nA.1 b;have d:=p k _ hk1;exact⟨k,(V'.1 hk1).1,by rw[d],by rw[d],by rw[d];exact q c b,.inr (.inr (u.trans h1))⟩
theorem Rst.tK{C:List Cmd}{K:Int}{B:Nat->Bal}{d:List (Bal × Nat)}{b:Bal}(o:PhC C K B d i b){N:Meet}(r:Rst C K B d i b A N){σ:Gs}(h:AgI σ N){t:Tol}(g:R0 σ t) :
  ∃ (l:List Cmd) (c:Cmd),l <+: A/\(l++[c] <+: A\/c∈l)/\t.c=c.c/\t.s=c.s/\t.e=doC (Gc l) c/\t.a=doA (Gc l) c:=by
 have n:AgL σ A 0:=by have:=(h.nd 0 (by omega)).ag;rwa [r.z.a 0 (by omega)]at this
 have pre:∀ {l:List Cmd},AgL σ l 0->l <+: A:=λ{l} q=>q.pre h.gs n (by
  have:=q.le (r.z.f.none o r.z.l.pe h) (mV _);omega)
 obtain⟨l,c,j,k,m⟩:=g;exact⟨l,c,pre j,k.imp (λq=>pre q) id,m⟩
theorem lV{l:List Int}{a:Int}(h:opE l a=0):(ec l).k≠0:=by
 intro e;unfold opE at h;split at h
 .rename_i g;exact g h
 .split at h
  .cases h
  .unfold Fw at h;split at h
   .cases h
   .split at h
    .rename_i g;exact g h
    .split at h
     .cases h
     .rename_i g
      have g:=(mz.1 g).1;unfold MK at g;have e:Ad (unQ l) 0=0:=e;omega
def Fnd(f:Nat->Cmd)(t:Tol)(q:Nat):Prop:=(f q).c=t.c/\(f q).s=t.s/\(f q).k≠0/\((cAt f q=t.e/\aAt f q=t.a)\/t.e=7\/t.e=11)
instance (f:Nat->Cmd) (t:Tol) (q:Nat):Decidable (Fnd f t q):=by unfold Fnd;exact inferInstance
def Qc(f:Nat->Cmd)(t:Tol)(k:Nat):Bool:=(List.range k).any λq=>decide (Fnd f t q)
theorem Lt{r:Bool}(h:b=Qc f t k)(a:r=(b||decide (Fnd f t k))):r=Qc f t (k+1):=by
 rw[a,h];unfold Qc;rw[n7,List.any_append];simp
theorem OM(h:b=Qc f t k)(a:¬ Fnd f t k):b=Qc f t (k+1):=Lt h (by rw[E' a,Bool.or_false])
theorem cM(h:∃ q,q<k/\Fnd f t q):Qc f t k=true:=by
 obtain⟨q,a,b⟩:=h;exact List.any_eq_true.2 ⟨q,om.2 a,M' b⟩
theorem aU(G:List Gr){L:List Lac}(O:scr G 100 true=L){n:Nat}(v:n<5){N:Meet}(P:AI.fa (L++FN L (n:Int))=N)(d:∀ x∈L++FN L (n:Int),LacOk x)(g:(L++FN L (n:Int)).length<=100000) :
  ∃ A,(∀ j,j<5->N.log j=A)/\A.length<=40/\(∀ c∈A,c.e=0)/\∀ f:Nat->Cmd,(∀ i x,A[i]?=some x->f i=x)->∀ t∈N.ed,∃ q,q<A.length/\Fnd f t q:=by
 have h:=ZP G 100 true;have u:=UD G 100 true;have s:=ZQ G 100 true;rw[O]at h u s
 subst P;obtain⟨K,B,D,b,A,T,m⟩:=eE L h (by omega) (by omega) v;have Q:=Xg (S:=λc=>c.e=0/\c.k≠0) (L++FN L (n:Int)) d g λx _ _ a0 e=>by rw[Zd e];exact⟨fW (fK e),lV e⟩
 have o:∀ c∈A,c.e=0/\c.k≠0:=λc r=>(Q.nd 0 (by omega)).ag c (by rw[m.z.a 0 (by omega)];exact r);have p:A.length<=40:=by
  have:=((KM _ d g).ae 0 (by omega)).ag
  rwa [m.z.a 0 (by omega)]at this
 obtain⟨σ,C,V⟩:=aS (L++FN L (n:Int)) d g;refine⟨A,λj U=>m.log U,p,λc r=>(o c r).1,λf R t w=>?_⟩;obtain⟨l,c,E,F,H,I,J,M⟩:=m.tK T C (V t w);obtain⟨k,W,X,Y,Z,k5⟩:=TC (λx y=>(o x y).1) (λx y=>(o x y).2) R E F J M;exact⟨k,W,X.trans H.symm,Y.trans I.symm,Z,k5⟩
end
end
section
open Go.RowKit
section
variable{W w:World}{a c:Int}
theorem Xa{n a:Int}(h:I64 n)(d:pick n a=c)(f:0<a:=by decide)(b:a<=9223372036854775807:=by decide) :
  Calls prog 7 #[iv n,iv a] w λe w'=>e=.returned (iv c)/\Bw w w':=by subst d;exact Ci h a f b
theorem YL{N:Meet}{A:List Cmd}(h:∀ j,j<5->N.log j=A):((lgN N 5).map N.log).getD []=A:=by
 cases hh:lgN N 5 with
 | some j=>exact h j (YJ hh)
 | none =>
  refine pc λa=>?_;have b:0<A.length:=qk λe=>a (j' e).symm;have key:∀ n,n<5->lgN N (n+1)≠none:=by
   intro n;induction n with
   | zero=>intro _ e;rw[lgN,h 0 (by omega)]at e;simp[lgN,b]at e
   | succ n ih =>
    intro c e;rw[lgN]at e
    split at e
    .cases e
    .exact ih (by omega) e
  exact key 4 (by omega) hh
theorem fP{x y:Operand}{b d:Int}{r:Bool}(j:decide (a=c/\b=d)=r):(do Go.eqGuard .eql 41 x y (.agg #[iv a,iv b]) (.agg #[iv c,iv d]);Go.binOp .eql 41 (.agg #[iv a,iv b]) (.agg #[iv c,iv d]):Sem Value).run prog W=.ok (.bool r) W:=by
 subst j;have i:(Go.eqGuard .eql 41 x y (.agg #[iv a,iv b]) (.agg #[iv c,iv d])).run prog W=.ok () W:=by kernel_rfl
 rw[Sem.run_bind,i,Result.andThen_ok];rw[run_eql_struct,run_equalIn_agg W 9999 _ _ _ (by kernel_rfl) (by kernel_rfl)];unfold Program.fieldsOf;rw[underlying41];have g:=underlying3;have h:=underlying39;simp[Op.eqFields,go_sem,g,h];by_cases e:a=c
 .rw[if_pos e,M' e];by_cases f:b=d
  .rw[if_pos f,M' f];rfl
  .rw[if_neg f,E' f];rfl
 .rw[if_neg e,E' e];rfl
theorem kA{b k:Nat}(h:∀ j u,[iv a,iv c][j]?=some u->W.cell? ⟨b,k+j,none⟩=some u):(Instr.loadAt 41 (pt b k)).run prog W=.ok (.agg #[iv a,iv c]) W:=by
 have d:=run_loadVar_mid (P:=prog) W b k 41 [iv a,iv c] _ h underlying41 rfl (by kernel_rfl);simp only[Instr.loadAt,Instr.sureAddr,Sem.run_bind,Sem.run_pure,Result.andThen_ok];exact d
theorem Py{l:S3}{G:List Gr}{ld:Int}(h:RdV w l 5 (grL G))(hG:∀ g∈G,GrOk g)(b4:I64 ld)(hT:UZ w) :
  Calls prog 3 #[l.v,iv ld] w λe w'=>e=.returned (.bool true)/\Bw w w':=by
 obtain⟨L,hL⟩:∃ L,scr G 100 true=L:=⟨_,rfl⟩;have a1:=ZP G 100 true;have b5:=UD G 100 true;rw[hL]at a1 b5
 have hr:=Bp ld 5 (by omega);obtain⟨n,hn,b7⟩:∃ n:Nat,pick ld 5=(n:Int)/\n<5:=⟨(pick ld 5).toNat,by omega,by omega⟩;have g0:=ZW L (n:Int);have b9:∀ x∈FN L (n:Int),LacOk x:=QT (λn hn=>ER ⟨.inr (.inr rfl),by omega,by omega⟩) (λn hn=>ER ⟨.inr (.inl rfl),by omega,by omega⟩) (by rw[<- DF];decide) (ER ⟨.inl rfl,by omega,by omega⟩) L;have I:∀ x∈L++FN L (n:Int),LacOk x:=λx hx=>(P'.1 hx).elim (a1 x) λe=>b9 x e;have U:(L++FN L (n:Int)).length<=100000:=by rw[H'];omega
 obtain⟨N,R⟩:∃ N,AI.fa (L++FN L (n:Int))=N:=⟨_,rfl⟩;obtain⟨A,a5,f8,a4,S⟩:=aU G hL b7 R I U;obtain⟨f,hf⟩:∃ f:Nat->Cmd,∀ i c,A[i]?=some c->f i=c:=⟨λi=>A.getD i RG,λi c e=>by simp[List.getD_eq_getElem?_getD,e]⟩;have S:=S f hf;have hA:=YL a5;have c1:=(KM _ I U).ed;rw[R]at c1
 refine tIn [] func3 trivial (tR 7 [] λg3 _ _=>tC 1 (λF C=>Ww (most:=100) (cr:=true) (h.af (CgQ.af C)) hG (by decide) (tbA hT.1 C)) λQ=>?_);rintro _ _ ⟨s,P,rfl,hP,hN,V⟩;refine⟨_,Fa.ac s P::_,rfl,V,λF=>⟨hN.ac Q,F⟩,?_⟩;rw[hL]at hP
 have f9:P.length=L.length:=by rw[<- hP,mO]
 refine tR 6 [] λg4 _ _=>tC1 2 (λF C=>Xa b4 hn) λ_=>tC 3 (λF C=>Ty (n:=(n:Int)) (AcR.of F.1 hP) (by omega)) λQ=>?_;rintro _ _ ⟨z,rfl,hz,b6⟩;refine⟨_,Fa.ac z (P++rnP (FN L (n:Int)))::_,rfl,b6,λF=>⟨⟨hz.fz Q,Dat.app F.1.2 (Pi _ _ (QT (P:=λa=>a.d=[]) (λ_ _=>rfl) (λ_ _=>rfl) rfl rfl L))⟩,F⟩,?_⟩;have a8:(P++rnP (FN L (n:Int))).map (·.1)=L++FN L (n:Int):=by rw[mS,hP,ei]
 refine tC 4 (λF C=>iU (AcR.of F.1 a8) I U (tb5 hT C) R) λQ=>?_;rintro _ _ ⟨D,tv,O,rfl,hW,hO,b8⟩;refine⟨_,[Fa.ot D tv O N],rfl,b8,λF=>⟨Uz hW hO Q,trivial⟩,?_⟩;refine tR 10 [0,0,0,0,0] λo _ _=>tC1 1 (λF C=>SG (U0 F.1)) λ_=>tR 5 [] λc2 _ _=>?_;have b3:∀ {g w},AllF g w [Fa.ot D tv O N]->RdV w (lgY O (lgN N 5)) 5 (cmL A):=λF=>hA▸(YK F.1 (n:=5) (A' 5)).rd;refine tC 1 (λF C=>X1 (b3 F) (by omega) a4 (hT.1.t.af (CgQ.af C)) (hT.1.n.af (CgQ.af C)) hf) λQ=>?_;rintro _ _ ⟨z,E,rfl,hE,a6,a3⟩;refine⟨_,Fa.en z E::_,rfl,a3,λF=>⟨a6.en Q,F⟩,?_⟩;refine tF λF _=>?_;have g2:z.n=A.length:=(jJ F.1).trans hE.len;have g1:=ga F.2.1.ed.rd;obtain⟨bt,ft,a2⟩:∃ bt ft,0<N.ed.length->tv.a=some ⟨bt,ft,none⟩:=by
  by_cases g:0<N.ed.length
  .obtain⟨bt,ft,h,_⟩:=F.2.1.ed.rd.spot (i:=0) (by omega);exact⟨bt,ft,λ_=>h⟩
  .exact⟨0,0,λe=>absurd e g⟩
 obtain⟨tf,c0⟩:∃ tf:Nat->Tol,∀ k,k<N.ed.length->N.ed[k]?=some (tf k):=⟨λk=>N.ed.getD k ⟨0,0,0,0,0⟩,λk hk=>by simp[List.getD_eq_getElem?_getD,List.getElem?_eq_getElem hk]⟩;refine tR 27 [0,0,1,0] λc3 _ _=>D1 112 [(6,pt (o 0) 0),(9,S3.v z),(12,iv 0)] [true,false] [⟨(o 0),.cells #[iv (N.br.length:Int),.bool (N.ae 0).up,.bool (N.ae 1).up,.bool (N.ae 2).up,.bool (N.ae 3).up,.bool (N.ae 4).up,S3.v D,iv ((N.ae 0).bad:Int),iv ((N.ae 1).bad:Int),iv ((N.ae 2).bad:Int),iv ((N.ae 3).bad:Int),iv ((N.ae 4).bad:Int),S3.v tv] 30,.z,false⟩] [Fa.en z E,Fa.ot D tv O N] (λkk ee Z r=>∃ (i:Nat),kk=N.ed.length-i/\ee=[(6,pt (o 0) 0),(9,S3.v z),(12,iv (i:Int))]/\Z=[⟨(o 0),.cells (Hd N D tv) 30,.z,false⟩]/\r=[Fa.en z E,Fa.ot D tv O N]/\i<=N.ed.length) (N.ed.length) ⟨0,rfl,rfl,rfl,rfl,mV _⟩ (λF=>⟨F.1,F.2.1,trivial⟩) ?_;rintro k _ _ _ ⟨i,rfl,rfl,rfl,rfl,hi⟩ _ _ _ J K;refine tR 9 [0] λc4 _ _=>?_;by_cases h1:i<N.ed.length
 .refine tI ((decide ((i:Int)<(tv.n:Int)))) true (M' (by omega)) ?_;have ht:=c0 i (by omega);have a0:=a2 (by omega);obtain⟨T,b0⟩:∃ T,tf i=T:=⟨_,rfl⟩;rw[b0]at ht
  have a9:=S T (mP ht);refine tR 8 [0] λc5 _ _=>tV 3 (pt bt (ft+5*i)) (λF C=>(kz a0 i (by omega))) (tF λF _=>tV 4 (.agg #[iv (T.n:Int),iv T.c,iv T.s,iv T.e,iv T.a]) (λF C=>(ma T λj u hu=>jo F.2.1.ed.rd a0 ht hu)) (tR 13 [0,0,1,0] λp _ _=>D1 112 [(6,pt (o 0) 0),(9,S3.v z),(12,iv (i:Int)),(13,pt (p 0) 0),(14,.bool false),(15,iv 0)] [true,true] [⟨(o 0),.cells (Hd N D tv) 30,.z,false⟩,⟨(p 0),.cells #[iv (T.n:Int),iv T.c,iv T.s,iv T.e,iv T.a] 49,.z,false⟩] [Fa.en z E,Fa.ot D tv O N] (λkk ee Z r=>∃ (k:Nat) (b:Bool),kk=A.length-k/\ee=[(6,pt (o 0) 0),(9,S3.v z),(12,iv (i:Int)),(13,pt (p 0) 0),(14,.bool b),(15,iv (k:Int))]/\Z=[⟨(o 0),.cells (Hd N D tv) 30,.z,false⟩,⟨(p 0),.cells #[iv (T.n:Int),iv T.c,iv T.s,iv T.e,iv T.a] 49,.z,false⟩]/\r=[Fa.en z E,Fa.ot D tv O N]/\k<=A.length/\b=Qc f T k) (A.length) ⟨0,false,rfl,rfl,rfl,rfl,mV _,rfl⟩ (λF=>⟨F.1,F.2.1,trivial⟩) ?_));rintro k _ _ _ ⟨k,b,rfl,rfl,rfl,rfl,hk,M⟩ _ _ _ JK a7;refine tR 8 [] λc6 _ _=>?_;by_cases h5:k<A.length
  .refine tI ((decide ((k:Int)<(z.n:Int)))) true (M' (by omega)) ?_;obtain⟨yk,H⟩:=hE.at (i:=k) (by omega);refine tF λF _=>?_;obtain⟨zb,zo,q,_⟩:=F.1.1.rd.spot (i:=k) (by omega);refine tR 2 [] λc7 _ _=>Ig 112 (λee Z r=>∃ (V:Bool),ee=[(6,pt (o 0) 0),(9,S3.v z),(12,iv (i:Int)),(13,pt (p 0) 0),(14,.bool V),(15,iv (k:Int))]/\Z=[⟨(o 0),.cells (Hd N D tv) 30,.z,false⟩,⟨(p 0),.cells #[iv (T.n:Int),iv T.c,iv T.s,iv T.e,iv T.a] 49,.z,false⟩]/\r=[Fa.en z E,Fa.ot D tv O N]/\V=Qc f T (k+1)) (λJ K=>?_) ?_
   .refine tR 5 [29,0,2] λc8 _ _=>tT 2 (pt zb (zo+8*k)) (λ_=>(U7 q k (by omega))) (tR 4 [6,8,12,14,1] λc9 _ _=>tF λF _=>tV 5 (iv ((f k).c)) (λF C=>(Dj underlying3 rfl (PU F.1 q H (j:=1) rfl))) ?_);by_cases W:(f k).c=T.c
    .refine tT 8 (.bool true) (λ_=>(D0 (t:=3) (m:=(f k).c) (n:=T.c) (x:=(.tmp 63)) (y:=(.tmp 65)) (by simpa using W))) (tR 3 [18,20,22] λd0 _ _=>tT 12 (pt zb (zo+8*k)) (λ_=>(U7 q k (by omega))) (tR 4 [26,28,32,34,1] λd1 _ _=>tF λF _=>tV 15 (iv ((f k).s)) (λF C=>(Dj underlying3 rfl (PU F.1 q H (j:=2) rfl))) ?_));by_cases X:(f k).s=T.s
     .refine tT 18 (.bool true) (λ_=>(D0 (t:=3) (m:=(f k).s) (n:=T.s) (x:=(.tmp 73)) (y:=(.tmp 75)) (by simpa using X))) (tR 4 [38,40,42,44] λd2 _ _=>tT 23 (pt zb (zo+8*k)) (λ_=>(U7 q k (by omega))) (tR 2 [48,50] λd3 _ _=>tF λF _=>tV 26 (iv ((f k).k)) (λF C=>(Dj underlying3 rfl (PU F.1 q H (j:=0) rfl))) ?_));by_cases Y:(f k).k≠0
      .refine tT 27 (.bool true) (λ_=>(He (t:=3) (m:=(f k).k) (n:=0) (x:=(.tmp 84)) (y:=(.const (iv 0))) (by simpa using Y))) (tR 3 [56] λd4 _ _=>?_);cases b
       .refine tR 5 [24,0,2,4,6] λd5 _ _=>tT 4 (pt zb (zo+8*k)) (λ_=>(U7 q k (by omega))) (tR 3 [10,14,16,1] λd6 _ _=>tF λF _=>?_);refine tV 6 (.agg #[iv (cAt f k),iv (aAt f k)]) (λF C=>(kA λj u hu=>by rcases j with _|_|j<;>first|exact PU F.1 q H (j:=5) hu|exact PU F.1 q H (j:=6) hu|(simp at hu))) ?_;by_cases e4:cAt f k=T.e/\aAt f k=T.a
        .refine tT 9 (.bool true) (λ_=>(fP (x:=(.tmp 93)) (y:=(.tmp 95)) (M' e4))) (tR 16 [20,22,24,26,28,30,32,34,36,38,40,42,44,46] λd7 _ _=>tD K [true,true] ⟨true,rfl,rfl,rfl,Lt M (M' ⟨W,X,Y,.inl e4⟩).symm⟩ (λF=>F))
        .refine tT 9 (.bool false) (λ_=>(fP (x:=(.tmp 93)) (y:=(.tmp 95)) (E' e4))) (tR 5 [20,22,24,26,28,1] λd8 _ _=>?_);by_cases e5:T.e=7
         .refine tT 15 (.bool true) (λ_=>(D0 (t:=39) (m:=T.e) (n:=7) (x:=(.tmp 101)) (y:=(.const (iv 7))) (by simpa using e5))) (tR 10 [32,34,36,38,40,42,44,46] λd9 _ _=>tD K [true,true] ⟨true,rfl,rfl,rfl,Lt M (M' ⟨W,X,Y,.inr (.inl e5)⟩).symm⟩ (λF=>F))
         .refine tT 15 (.bool false) (λ_=>(D0 (t:=39) (m:=T.e) (n:=7) (x:=(.tmp 101)) (y:=(.const (iv 7))) (by simpa using e5))) (tR 5 [32,34,36,38,40,1] λe0 _ _=>?_);by_cases e6:T.e=11
          .refine tT 21 (.bool true) (λ_=>(D0 (t:=39) (m:=T.e) (n:=11) (x:=(.tmp 107)) (y:=(.const (iv 11))) (by simpa using e6))) (tR 4 [44,46] λe7 _ _=>tD K [true,true] ⟨true,rfl,rfl,rfl,Lt M (M' ⟨W,X,Y,.inr (.inr e6)⟩).symm⟩ (λF=>F))
          .refine tT 21 (.bool false) (λ_=>(D0 (t:=39) (m:=T.e) (n:=11) (x:=(.tmp 107)) (y:=(.const (iv 11))) (by simpa using e6))) (tR 4 [44,46] λe8 _ _=>tD K [true,true] ⟨false,rfl,rfl,rfl,OM M λg=>g.2.2.2.elim e4 λg=>g.elim e5 e6⟩ (λF=>F))
       .refine tR 27 [24,0,2,4,6,8,10,12,14,16,18,20,22,24,26,28,30,32,34,36,38,40,42,44,46] λe9 _ _=>tD K [true,true] ⟨true,rfl,rfl,rfl,Lt M rfl⟩ (λF=>F)
      .refine tT 27 (.bool false) (λ_=>(He (t:=3) (m:=(f k).k) (n:=0) (x:=(.tmp 84)) (y:=(.const (iv 0))) (by simpa using Y))) (tR 5 [56] λf0 _ _=>tD K [true,true] ⟨b,rfl,rfl,rfl,OM M λg=>Y g.2.2.1⟩ (λF=>F))
     .refine tT 18 (.bool false) (λ_=>(D0 (t:=3) (m:=(f k).s) (n:=T.s) (x:=(.tmp 73)) (y:=(.tmp 75)) (by simpa using X))) (tR 14 [38,40,42,44,46,48,50,52,54,56] λf1 _ _=>tD K [true,true] ⟨b,rfl,rfl,rfl,OM M λg=>X g.2.1⟩ (λF=>F))
    .refine tT 8 (.bool false) (λ_=>(D0 (t:=3) (m:=(f k).c) (n:=T.c) (x:=(.tmp 63)) (y:=(.tmp 65)) (by simpa using W))) (tR 24 [18,20,22,24,26,28,30,32,34,36,38,40,42,44,46,48,50,52,54,56] λf2 _ _=>tD K [true,true] ⟨b,rfl,rfl,rfl,OM M λg=>W g.1⟩ (λF=>F))
   rintro _ _ _ ⟨V,rfl,rfl,rfl,b1⟩ _ _ _;refine tR 2 [] λf3 _ _=>tV 1 (iv ((k:Int)+1)) (λF C=>(AO 56 (k:Int) underlying3 (by omega))) (tR 2 [] λf4 _ _=>tB a7 (A.length-(k+1)) (by omega) [true,true] ⟨k+1,V,rfl,rfl,rfl,rfl,by omega,b1⟩ (λF=>F))
  .refine tI ((decide ((k:Int)<(z.n:Int)))) false (E' (by omega)) ?_;obtain rfl:k=A.length:=by omega
   rw[cM a9]at M
   subst M;refine tR 11 [] λf5 _ _=>tV 1 (iv ((i:Int)+1)) (λF C=>(AO 45 (i:Int) underlying3 (by omega))) (tR 2 [] λf6 _ _=>tB K (N.ed.length-(i+1)) (by omega) [true,false] ⟨i+1,rfl,rfl,rfl,rfl,by omega⟩ (λF=>F))
 .refine tI ((decide ((i:Int)<(tv.n:Int)))) false (E' (by omega)) (tR 5 [] λf7 _ _=>tE (.bool true) λ_ B=>⟨rfl,B⟩)
end
end
section
open Go.RowKit Go.ChangeShapes Go.WideShapes Go.ChangeAt
section
variable{H:Type}{W:World}{base fuel n:Nat}{cs:List Value}{held:Bool}
theorem Pz{P:Program}{b:TypeId × Value->H}{w:World}{a:Nat->Bool}{t:TypeId}{c d e f g:Field}{x:DataW H × List MemPlace}(l:P.underlying t=some (.struct #[c,d,e,f,g]))(h:DataW.trod b P w base a held fuel t cs=some x) :
  ∃ y0 y1 y2 y3 y4 n,x=(.agg [y0.1,y1.1,y2.1,y3.1,y4.1],y0.2++(y1.2++(y2.2++(y3.2++y4.2))))/\cs.length=P.cellsOf t/\DataW.trod b P w base a held n c.type ((cs.drop c.offset).take (P.cellsOf c.type))=some y0 /\
   DataW.trod b P w base a held n d.type ((cs.drop d.offset).take (P.cellsOf d.type))=some y1/\DataW.trod b P w base a held n e.type ((cs.drop e.offset).take (P.cellsOf e.type))=some y2 /\
   DataW.trod b P w base a held n f.type ((cs.drop f.offset).take (P.cellsOf f.type))=some y3/\DataW.trod b P w base a held n g.type ((cs.drop g.offset).take (P.cellsOf g.type))=some y4:=by
 obtain⟨m,n,_,rfl,k,j,i⟩:=DataW.trod_struct l h
 match m,j with
 | [y0,y1,y2,y3,y4],_=>exact⟨y0,y1,y2,y3,y4,n,by simp,k,by simpa using i 0 c rfl,by simpa using i 1 d rfl,by simpa using i 2 e rfl,by simpa using i 3 f rfl,by simpa using i 4 g rfl⟩
theorem gB:prog.cellsOf 3=1:=by kernel_rfl
theorem Lz{n:Int}(h:(Lit.int .i64 n).wf=true):I64 n:=by have:=bounds_i64 h;unfold I64;omega
instance:Inhabited Gr:=⟨⟨0,0,0,0,0⟩⟩
theorem ic{a:TypeId × Value->H}{t:Nat->Bool}{x:DataW H × List MemPlace}(h:DataW.trod a prog W base t held fuel 60 cs=some x):∃ g,cs=grV g/\GrOk g:=by
 obtain⟨A,B,C,D,E,m,_,o,i,j,k,l,n⟩:=Pz underlying60 h;rw[show prog.cellsOf 60=5 by kernel_rfl]at o
 simp only[gB]at i j k l n
 match cs,o with
 | [c0,c1,c2,c3,c4],_ =>
  obtain⟨a0,b,_,u⟩:=DataW.trod_int underlying3 i;obtain⟨p,c,_,v⟩:=DataW.trod_int underlying3 j;obtain⟨q,d,_,w⟩:=DataW.trod_int underlying3 k;obtain⟨r,e,_,y⟩:=DataW.trod_int underlying3 l;obtain⟨s,f,_,z⟩:=DataW.trod_int underlying3 n;simp at b c d e f;subst b c d e f;exact⟨⟨a0,p,q,r,s⟩,rfl,Lz u,Lz v,Lz w,Lz y,Lz z⟩
theorem ib{f:Nat->Gr}{i j:Nat}{u:Value}(h:(((List.range n).map f).flatMap grV)[j]?=some u)(d:i=j/5):∃ q,j=5*i+q/\i<n/\(grV (f i))[q]?=some u:=by
 subst d;have b:j<(((List.range n).map f).flatMap grV).length:=(V'.1 h).1;rw[Eu (f:=grV) (sz:=5) (λ_=>rfl),mO,oH]at b
 have hin:j/5<n:=by omega
 refine⟨j%5,by omega,hin,?_⟩;obtain⟨v,c⟩:∃ v,(grV (f (j/5)))[j%5]?=some v:=⟨_,G' (by show j%5<5;omega)⟩;have:=GR (f:=grV) (sz:=5) (λ_=>rfl) ((List.range n).map f) (i:=j/5) (j:=j%5) (a:=f (j/5)) (by simp[hin]) c;rw[show 5*(j/5)+j%5=j by omega,h]at this
 rw[c];exact this.symm
theorem Yp{z:TypeId × Value->H}{a:Option Addr}{c:Nat}{d:DataW H}{p:List MemPlace}(F:DataW.trod z prog W 0 (λ_=>true) true fuel 22 [.slice a n c]=some (d,p)):∃ G,RdV W ⟨a,n,c⟩ 5 (grL G)/\∀ g∈G,GrOk g:=by
 rcases Deep.open_slice underlying22 F with⟨l,_⟩|⟨a',len,cap,m,k,D,Pl,l,hb,hl,hm,hmm,hx,hel⟩
 .simp at l;obtain⟨rfl,rfl,rfl⟩:=l;exact⟨[],⟨rfl,A' _,λ_=>rfl,.inl rfl⟩,λg w=>by cases w⟩
 .simp at l;obtain⟨rfl,rfl,rfl⟩:=l;simp only[if_true]at hmm;rw[show prog.cellsOf 60=5 by kernel_rfl]at hel
  have hin:∀ i,i<n->∃ g,(∀ j u,(grV g)[j]?=some u->W.cell? ((a'.add (i*5)).add j)=some u)/\GrOk g:=by
   intro i x;obtain⟨B,l,C⟩:=hel i (by omega);obtain⟨g,rfl,w⟩:=ic C;obtain⟨_,_,E⟩:=World.cells?_some l;refine⟨g,λj u y=>?_,w⟩;have A:j<5:=(V'.1 y).1;rw[E j A,y]
  obtain⟨f,s⟩:=Deep.choose_lt hin;refine⟨(List.range n).map f,⟨by rw[show(grL ((List.range n).map f)).length=_ from Eu (f:=grV) (sz:=5) (λ_=>rfl) _,mO,oH],hl,(λh=>by cases h),?_⟩,λg w=>?_⟩
  .by_cases h0:n=0
   .exact .inl h0
   .right;obtain⟨b,v,spot⟩:=a';have r:=(s 0 (by omega)).1 0 _ rfl;have t:spot=none:=by simpa[Addr.add]using World.cell?_spot r
    subst t;have e:∀ o k,(⟨b,o,none⟩:Addr).add k=⟨b,o+k,none⟩:=λo k=>by unfold Addr.add;split<;>simp_all
    refine⟨b,v,rfl,?_,λj u y=>?_⟩
    .rw[e,e]at r
     exact World.block_lt_of_cell? W _ r
    .obtain⟨q,hq,x,hu⟩:=ib y rfl;have:=(s (j/5) x).1 q u hu;rw[e,e]at this
     rw[show v+j=v+j/5*5+q by omega];exact this
  .obtain⟨i,x,rfl⟩:=mQ.1 w;exact(s i (om.1 x)).2
end
end
section
open Go.ChangeShapes Go.WideShapes Go.ChangeAt Go.RowKit
section
theorem J7(H:Type)(k:TypeId × Value->H)(W:World)(n:Nat)(a:Array Value)(s B:List (DataW H))(c:List MemPlace)(b:∀ (j:Nat) t v,f3.params[j]?=some t->a[j]?=some v->Value.okWide prog W .any n t v)(E:DataW.Whole k prog f3.params.toList Rows.topToldSpec.vars false W a.toList s B c)(y:(DataW.weightsEach prog (f3.params.toList++Rows.topToldSpec.plain.varTypes prog) (s++B)).all (·<=reachBytes)=true)(P:laidMetH prog Rows.topToldRow.laid W) :
  Calls prog 3 a W λe W'=>∃ v,e=.returned v/\Rows.topToldSpec.post k prog f3 false true false false W a v W':=by
 have u:=E;obtain⟨p,q,r,Q,rfl,T,V⟩:=E;have D:DataW.TrodAll k prog W 0 (λ_=>true) true f3.params.toList a.toList s p:=r;rw[params3]at D b y
 obtain⟨I,a2,d0,M,Y,q0,w,rfl,rfl,C,Z⟩:=trodAll_cons D;obtain⟨J,a3,d1,N,p1,q1,rfl,rfl,rfl,O,r1⟩:=trodAll_cons Z;obtain⟨rfl,rfl,rfl⟩:=trodAll_nil r1;obtain rfl:a=#[I,J]:=by cases a;simp_all
 obtain⟨rfl,rfl⟩:=trodVars_none Q;obtain⟨a0,i,d,rfl⟩:=okWide_slice underlying22 (b 0 22 I rfl rfl);have F:=C;have z:∀ x∈Y,x.block<W.heap.size:=by obtain⟨m,U⟩:=F;exact DataW.trod_lt m _ _ _ U
 obtain⟨l0,w0,X⟩:∃ G,RdV W ⟨a0,i,d⟩ 5 (grL G)/\∀ g∈G,GrOk g:=by obtain⟨A,S⟩:=C;exact Yp S
 obtain⟨L,rfl,rfl,rfl,K⟩:=open_int underlying3 (b 1 3 J rfl rfl) O;have b1:=bounds_i64 K;clear r;refine(Py (l:=⟨a0,i,d⟩) (ld:=L) w0 X ⟨by omega,by omega⟩ (mn P)).mono λe W' ⟨R,o⟩=>?_;subst R;exact⟨_,rfl,_,_,_,[],_,[],u,trodAll_mk1 (shut_bool underlying4 _),(trodAll_cons_mk (Below.trod dm (by kernel_rfl) (m5 (by kernel_rfl)) F o z) (trodAll_cons_mk (shut_int underlying3 K) trodAll_mk0)),rfl,o.frame _,λh=>by cases h⟩
variable{W:World}{os:Os}
theorem Rp(h:IV os W):laidMet prog Rows.topToldRow.laid (W.forCall (λ_ _=>0) ⟨#[],#[.slice none 0 0,.int .i64 0],[]⟩).memory:=by
 unfold IV at h;subst h;exact laidMet_of_run' 8 (by kernel_rfl) (by kernel_rfl)
theorem Nn(h:IV os W){H:Type}(a:TypeId × Value->H):∃ places,DataW.whole a prog (W.forCall (λ_ _=>0) ⟨#[],#[.slice none 0 0,.int .i64 0],[]⟩).memory f3.params.toList Rows.topToldSpec.vars false (#[.slice none 0 0,.int .i64 0]:Array Value).toList 8=some ([.nil,.lit (.int .i64 0)],[],places):=by
 unfold IV at h;subst h;exact⟨[],by kernel_rfl⟩
theorem Ms(d:Os)(a:d.Started)(H:Type)(enc:TypeId × Value->H)(F:Stop.Interp) :
  ReturnsInHanded {} Tryz.checked d 3 .any ((OpenSpec.ofChange Rows.topToldSpec).preRow enc prog f3 Rows.topToldRow.domain false Rows.topToldRow.laid) (((OpenSpec.ofChange Rows.topToldSpec).at F).post enc prog f3 false true false false):=by
 obtain⟨i,b⟩:=cE d;obtain⟨c,h⟩:=Nn b enc;have g:=Rp b;refine returnsInHanded_of_row (C:=Tryz.checked) (s:=OpenSpec.ofChange Rows.topToldSpec) own a (by kernel_rfl) func3 ?_ ?_
 .unfold IV at b;subst b;exact witness_row_at (enc:=enc) (C:=Tryz.checked) false _ #[.slice none 0 0,.int .i64 0] rfl (by kernel_rfl) (by kernel_rfl) (by kernel_rfl)
   (OpenSpec.preRow_of_cond 8 h (by kernel_rfl) (λk e=>by cases e) (by kernel_rfl) g)
 .intro W base args ds gs before hval hW _ _ hsz hL _ _;exact J7 H enc W base args ds gs before hval hW hsz hL
theorem Px:Rows.TopToldSaid :=
 OpenClaim.holds_of_cond 3 f3 rfl rfl rfl rfl rfl rfl rfl ⟨rfl,rfl,rfl,rfl,rfl⟩ rfl rfl rfl rfl rfl (by kernel_rfl) func3 (by kernel_rfl)
  (m5 (by kernel_rfl)) (by unfold Func.isWrapper;first|(rw[if_pos (by decide +kernel)];kernel_rfl)|(rw[if_neg (by decide +kernel)];exact⟨rfl,rfl⟩))
  (λc a H b _ F=>by rw[OpenClaim.pre_eq_preRow];exact Ms c a H b F)
theorem Nm(f : FuncId)(b : Func)(e : Tryz.pinned.checked.prog.funcNamed "conclave/conclavetop.TopTold" = some f)(c : Tryz.pinned.checked.prog.funcs[f]? = some b) :
  false=Tryz.pinned.checked.prog.looks []/\∀ (j:Nat) t,b.params[j]?=some t->Tryz.pinned.checked.prog.wantsStandIn t=false:=by
 obtain rfl : f = 3 := Option.some.inj ((show prog.funcNamed "conclave/conclavetop.TopTold" = some 3 by kernel_rfl).symm.trans e) |>.symm
 obtain rfl:b=f3:=(nf (func3.symm.trans c)).symm;refine⟨by kernel_rfl,λj t d=>?_⟩;rw[params3]at d
 have a:=Array.mem_of_getElem? d;simp only[List.mem_toArray,mG,Q',or_false]at a;rcases a with rfl|rfl
 .exact(show prog.wantsStandIn 22=false by kernel_rfl)
 .exact(show prog.wantsStandIn 3=false by kernel_rfl)
theorem topTold_card:Rows.TopToldCardSaid :=
 Claim7.holds_tied_plain_at .later [] _ _ _ _ Px (λ_ h=>by cases h) (by kernel_rfl) (λ_ h=>by cases h) topTold_row_tie rfl ⟨rfl,rfl⟩ (by kernel_rfl) rfl Nm (by kernel_rfl)
#print axioms topTold_card
end
end
end Go.Proofs.YtcjcngceghfoeaaGreatDoor
