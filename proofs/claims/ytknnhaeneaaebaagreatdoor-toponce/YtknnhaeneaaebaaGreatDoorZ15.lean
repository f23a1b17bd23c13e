/- Part 15 of the walk. -/
import Derived.ChangeKeysEq
import Derived.Test.YtknnhaeneaaebaaGreatDoorZ14
set_option maxRecDepth 100000
set_option maxHeartbeats 4000000
open Go.Proofs.Tryz
set_option linter.unusedVariables false
namespace Go.Proofs.YtknnhaeneaaebaaGreatDoor
section
theorem Ps(p:Nod)(b:Bal):(p.au b).1.done=p.done:=by
 unfold Nod.au;split
 .rfl
 .split
  .rfl
  .split<;>rfl
theorem OH(p:Nod)(v:Vt):(p.cl v).1.done=p.done:=by
 unfold Nod.cl;split
 .rfl
 .split
  .rfl
  .split<;>rfl
theorem Lt(p:Nod)(j:Nat)(v:Vt):(p.count j v).done=p.done:=by
 unfold Nod.count;split
 .rfl
 .split<;>rfl
theorem Ko(p:Nod)(to:Nat)(e:Int):(p.ed to e).done=p.done:=by unfold Nod.ed;split<;>rfl
theorem Iz(p:Nod)(l:List Cmd):(p.dT l).done=p.done:=by unfold Nod.dT;split<;>rfl
theorem Xg(p:Nod)(l:Let):(p.take l).done=p.done:=by
 unfold Nod.take;split
 .split
  .exact Ko _ _ _
  .exact Ps p l.hU
 .simp only;split<;>rfl
 .rfl
 .split
  .exact Ko _ _ _
  .exact OH p l.cl
 .exact Lt p _ _
 .split<;>rfl
 .simp only;split<;>exact Iz p l.gC
 .rfl
theorem O5(p:Nod)(i:Nat)(q:Pend):(p.ln i q).done=p.done:=by
 cases q with
 | began b vs=>unfold Nod.ln;simp only;split<;>rfl
 | prop v=>exact Lt p i v
 | _=>rfl
theorem Sm(i:Nat)(l:List Pend)(p:Nod)(a:List Let):(qk i l p a).1.done=p.done:=by
 induction l generalizing p a with
 | nil=>rfl
 | cons q l ih=>exact(ih _ _).trans (O5 p i q)
def WW(l:List Cmd):Sto:=l.foldl dnS AP
theorem WX(l:List Cmd)(c:Cmd):WW (l++[c])=dnS (WW l) c:=by unfold WW;rw[pR];rfl
theorem aS(l:List Cmd)(h:∀ c∈l,c.e=0):Fg (WW l):=by
 have key:∀ (l:List Cmd) (s:Sto),Fg s->(∀ c∈l,c.e=0)->Fg (l.foldl dnS s):=by
  intro l;induction l with
  | nil=>exact λs a _=>a
  | cons c l ih=>exact λs a h=>ih _ (OW a (h c M')) λd b=>h d (I' _ b)
 exact key l AP Rr h
def StI(p:Nod):Prop:=p.ni=WW (p.ae.take p.done)
theorem StI.qv{p q:Nod}(h:StI p)(d:q.ni=p.ni)(b:q.done=p.done)(a:p.ae <+: q.ae)(c:p.done<=p.ae.length):StI q:=by
 unfold StI;rw[d,b,R4 a c];exact h
theorem bq(p:Nod)(l:Let):(p.take l).ni=p.ni:=by
 unfold Nod.take;split
 .split
  .unfold Nod.ed;split<;>rfl
  .show(p.au l.hU).1.ni=_;unfold Nod.au;split
   .rfl
   .split
    .rfl
    .split<;>rfl
 .simp only;split<;>rfl
 .rfl
 .split
  .unfold Nod.ed;split<;>rfl
  .show(p.cl l.cl).1.ni=_;unfold Nod.cl;split
   .rfl
   .split
    .rfl
    .split<;>rfl
 .unfold Nod.count;split
  .rfl
  .split<;>rfl
 .split<;>rfl
 .simp only;unfold Nod.dT;split<;>split<;>rfl
 .rfl
theorem StI.bare(p:Nod)(u:Bool)(d:List Int)(s:Int)(a:Acc)(x:List Pend):StI (p.bare u d s a x):=rfl
theorem StI.step{D:Wh}{c:Nat}{M N:Meet}(s:Stp D c M N)(a:∀ j,j<5->(M.ab j).done<=(M.ab j).ae.length)(h:∀ j,j<5->StI (M.ab j)):∀ j,j<5->StI (N.ab j):=by
 intro j g;have put:∀ {k:Nat} {p:Nod} {f:List Let} {i:List Tol},(k<5->StI p)->StI ((M.set k p f i).ab j):=λ{k p f i} e=>by
  rw[Am];split
  .rename_i e2;exact e (by omega)
  .exact h j g
 cases s with
 | take _ l hl hd2 hu ht=>exact put λ_=>(h _ hd2.2).qv (bq _ l) (Xg _ l) (Ev.take _ l).ag (a _ hd2.2)
 | br _ f hl a=>exact h j g
 | one _ k c hi hu hc he =>
  refine put λ_=>?_;have e:StI { M.ab k with ni:=doS (M.ab k).ni c,done:=(M.ab k).done+1 }:=by
   unfold StI;show doS (M.ab k).ni c=WW ((M.ab k).ae.take ((M.ab k).done+1));rw[oS,hc,OY he,h k hi];exact(WX _ c).symm
  unfold Nod.fv;split<;>exact e
 | ask _ k hi hu =>
  refine put λ_=>?_;have:=h k hi;unfold Nod.jv;split
  .exact this
  .split
   .unfold Nod.dT;split<;>exact this
   .exact this
 | prop _ k hi hu =>
  refine put λ_=>?_;have:=h k hi;unfold Nod.cF;split
  .exact this
  .split
   .exact this
   .split
    .exact this
    .show StI ((M.ab k).cl _).1;unfold Nod.cl;split
     .exact this
     .split
      .exact this
      .split<;>exact this
 | sj _ k hi hu hs hT=>exact put λ_=>h k hi
 | run _ k hi hu q l hp hs =>
  refine put λ_=>(h k hi).qv ?_ ((O5 (M.ab k) k q)) ((Ev.ln (M.ab k) k q).bu l).ag (a k hi);show((M.ab k).ln k q).ni=_;cases q with
  | began b vs=>simp only[Nod.ln];split<;>rfl
  | prop v =>
   simp only[Nod.ln,Nod.count];split
   .rfl
   .split<;>rfl
  | _=>rfl
 | sg _ k hi hu hL=>exact put λ_=>h k hi
 | lead _ k hi hu hL =>
  refine put λ_=>?_;have:=h k hi;unfold Nod.lead;simp only;split
  .exact this
  .generalize (⟨max (M.ab k).dc (M.ab k).vo.p.r+1,(k:Int)⟩:Bal)=b;show StI ((M.ab k).au b).1;unfold Nod.au;split
   .exact this
   .split
    .exact this
    .split<;>exact this
 | sub _ k d hi hu hD =>
  refine put λ_=>?_;have:=h k hi;unfold Nod.sw Nod.sC;split
  .exact this
  .split
   .exact this
   .split
    .exact this
    .show StI (Nod.want _ _);unfold Nod.want;split<;>exact this
 | lr _ k x hi hu hk hC =>
  refine put λ_=>?_;unfold Nod.lr;split
  .exact h k hi
  .exact .bare _ _ _ _ _ _
 | start _ k hi hu hs =>
  refine put λ_=>?_;unfold Nod.start;split
  .exact h k hi
  .split<;>exact .bare _ _ _ _ _ _
theorem StI.zero:∀ j,j<5->StI (As.ab j):=λj _=>rfl
theorem cV(i:Nat)(l:List Cmd)(p:Nod)(k:List Tol)(j:Fg p.ni)(h:∀ c∈l,c.e=0):(so i l p k).1.done=p.done+l.length:=by
 induction l generalizing p k with
 | nil=>rfl
 | cons c l ih =>
  have a:=h c M';have b:doE p.ni c=0:=(Uv j).trans a;rw[so,if_neg (λg=>g b)];have f:(Nod.fv { p with ni:=doS p.ni c,done:=p.done+1 } c).ni=dnS p.ni c/\(Nod.fv { p with ni:=doS p.ni c,done:=p.done+1 } c).done=p.done+1:=by
   unfold Nod.fv;split<;>exact⟨OY b,rfl⟩
  rw[ih _ _ (by rw[f.1];exact OW j a) λd m=>h d (I' _ m),f.2,nL];omega
theorem T2(p:Nod)(i:Nat)(f:List Let)(e:List Tol):(p.piece i f e).1.done=(so i (p.ae.drop p.done) p e).1.done:=by
 unfold Nod.piece;simp only;generalize (so i (p.ae.drop p.done) p e).1=a;have g:(a.jv i).1.done=a.done:=by
  unfold Nod.jv;split
  .rfl
  .split
   .exact Iz _ _
   .rfl
 generalize a.jv i=b at g ⊢;have h:b.1.cF.done=b.1.done:=by
  unfold Nod.cF;split
  .rfl
  .split
   .rfl
   .split
    .rfl
    .exact OH _ _
 generalize b.1.cF=c at h ⊢;generalize f++b.2=k;have j:(c.ov i k).1.done=c.done:=by
  unfold Nod.ov;split
  .rfl
  .rw[Sm];unfold Nod.sj;split<;>rfl
 generalize c.ov i k=d at j ⊢;have l:(d.1.bw i d.2).1.done=d.1.done:=by unfold Nod.bw;split<;>rfl
 omega
theorem DC{I:Meet->Prop}(d:∀ c M N,Stp wh0 c M N->I M->I N)(j:∀ M,I M->I { M with br:=[] })(m:Nat){n:Nat}{M:Meet}(i:MOk n M)(o:n+6*m<=1000000)(h:I M):I (M.dx (Al m))/\MOk (n+6*m) (M.dx (Al m)):=by
 induction m with
 | zero=>exact⟨h,i⟩
 | succ m ih =>
  obtain⟨e,f⟩:=ih (by omega);show I (M.dx (Al m++An))/\MOk (n+6*(m+1)) (M.dx (Al m++An));rw[AI,EP];have a:=Bl (λc A N s g=>d c A N s.calm g) f (by omega) e;obtain⟨N,k,l,_⟩:=Ct (λA N s g=>d _ A N s.sF g) a.1 a.2;have b:=a.1.act (x:=acN 7 0) (by omega) (by rw[<- Dy];decide);rw[k]at b ⊢
  exact⟨j N l,b.mono (by omega)⟩
theorem JL{M:Meet}(h:∀ j,j<5->(M.ab j).up=true):M.dx Az=M:=by
 have key:∀ l:List Lac,(∀ x∈l,M.act x=M)->M.dx l=M:=by
  intro l;induction l with
  | nil=>exact λ_=>rfl
  | cons x l ih =>
   intro a;show(M.act x).dx l=M;rw[a x M'];exact ih λy e=>a y (I' _ e)
 refine key _ λx d=>?_;obtain⟨k,b,rfl⟩:=ny.1 d;have c:=h k (pL.1 b);unfold Meet.act;simp only[acN];rw[if_neg (by decide),if_neg (by decide),if_neg (by decide),if_neg (by decide),if_neg (by decide),if_neg (by decide),if_pos trivial];show M.set k (if(M.ab k).up=true then M.ab k else _) M.br M.ew=M;rw[if_pos c,EW]
theorem I9{M:Meet}{i:Nat}(a:(M.ab i).up=true):M.act (acN 2 (i:Int))=M.set i ((M.ab i).lead i) M.br M.ew:=by
 unfold Meet.act;simp only[acN];rw[if_neg (by decide),if_pos trivial];show M.set i (if(M.ab i).up=true then _ else _) M.br M.ew=_;rw[if_pos a];rfl
theorem Ex(a b:Nat):Al (a+b)=Al a++Al b:=by
 induction b with
 | zero=>exact(nC _).symm
 | succ b ih=>show Al (a+b)++An=Al a++(Al b++An);rw[ih,mZ]
theorem m9(f:Nat->Int):∃ j,j<5/\∀ k,k<5->f k<=f j:=by
 have key:∀ n,∃ j,j<n+1/\∀ k,k<n+1->f k<=f j:=by
  intro n;induction n with
  | zero=>exact⟨0,by omega,λk c=>by rw[show k=0 by omega];exact mU _⟩
  | succ n ih =>
   obtain⟨j,d,b⟩:=ih;by_cases e:f j<=f (n+1)
   .refine⟨n+1,by omega,λk c=>?_⟩;by_cases a:k=n+1
    .rw[a];exact mU _
    .exact nA (b k (by omega)) e
   .refine⟨j,by omega,λk c=>?_⟩;by_cases a:k=n+1
    .rw[a];omega
    .exact b k (by omega)
 exact key 4
def F8(b:Bal):List (Bal × Nat):=(List.range 40).map λs=>(b,s)
theorem F9(b:Bal){s:Nat}(h:s<40):(b,s)∈F8 b:=ny.2 ⟨s,pL.2 h,rfl⟩
section
variable{S:Cmd->Prop}{K:Int}{B:Nat->Bal}{cov:List (Bal × Nat)}
theorem Cm.to{M:Meet}(h:Cm S K B cov M){K':Int}(c:∀ j,j<5->(M.ab j).vo.p.key<=K')(b:K'<=3600):Cm S K' B cov M :=
 ⟨h.ex,⟨b,λj a=>⟨by unfold Nod.pk;rw[if_pos (h.up j a)];exact c j a,(h.kb.2 j a).2⟩⟩,h.up,h.hU,h.s⟩
structure Led(i:Nat)(p q:Nod)(b:Bal):Prop where
 may:Ac b
 n:b.n=(i:Int)
 gt:5*p.dc+4<b.key/\p.vo.p.key<b.key
 le:b.key<=max (5*p.dc) p.vo.p.key+9
 up:q.up=p.up
 vo:q.vo.p=b
 hU:q.av.hU=b
 p1:P1 i q
 pe:∃ vs,Pend.began b vs∈q.bu
 ask:q.bn=p.bn/\q.bN=p.bN/\q.done=p.done
 ro:q.dc=p.dc
theorem Cm.lead{M:Meet}(h:Cm S K B cov M)(z:14*K+38*(cov.length:Int)<=99000){i:Nat}(d:i<5)(I:K<=3591)(J:0<=(M.ab i).dc/\5*(M.ab i).dc<=3591) :
  ∃ b,Led i (M.ab i) ((M.ab i).lead i) b/\Cm S 3600 (upN B i b) (cov++F8 b) (M.set i ((M.ab i).lead i) M.br M.ew):=by
 have m:=h.up i d;have O:=h.le d;have u:=(h.acc d).1;have N:=YR u;have F:0<=(M.ab i).vo.p.r/\0<=(M.ab i).vo.p.n/\(M.ab i).vo.p.n<=4:=by unfold Ao Ac at u;omega
 obtain⟨b,l⟩:∃ b:Bal,(⟨max (M.ab i).dc (M.ab i).vo.p.r+1,(i:Int)⟩:Bal)=b:=⟨_,rfl⟩;have L:b.key=5*(max (M.ab i).dc (M.ab i).vo.p.r+1)+(i:Int):=by rw[<- l];rfl
 have C:(M.ab i).vo.p.key=5*(M.ab i).vo.p.r+(M.ab i).vo.p.n:=rfl;have t:Ac b:=by rw[<- l];refine⟨⟨?_,?_⟩,?_,?_⟩<;>simp only<;>omega
 have f:=h.prom z d t (by rw[Fc t.pr u];omega);have E:(M.ab i).lead i=Nod.wait { ((M.ab i).au b).1 with av:=⟨b,λ_=>false,λ_=>Eo,λ_=>(M.ab i).ae.length,0,[]⟩ } (.began b ((M.ab i).au b).2.1):=by
  unfold Nod.lead;simp only;rw[l,if_neg (λg=>g f.1)]
 have v:((M.ab i).au b).1.dc=(M.ab i).dc:=by
  unfold Nod.au;split
  .rfl
  .split
   .rfl
   .split<;>rfl
 have a:Led i (M.ab i) ((M.ab i).lead i) b:=by
  rw[E];exact⟨t,by rw[<- l],by omega,by omega,(Ev.au _ b).up,f.2,rfl,⟨rfl,λ_ _=>rfl⟩,⟨_,mV _ (D'.2 rfl)⟩,(AY _ b).1,v⟩
 refine⟨b,a,?_⟩;obtain⟨σ,g,A⟩:=h.ex;obtain⟨τ,G,H,w,x,y⟩:=g.step (D:=whT) (.lead M i d m trivial);refine⟨⟨τ,w,λo s c k=>?_⟩,⟨mU _,?_⟩,λj q=>?_,λj q=>?_,h.s.step (D:=⟨λ_ _=>False,True,False,False,False,False⟩) (λ_ _ e=>False.elim e) (.lead M i d m trivial)⟩
 .rcases x o s c k with k|k
  .exact mW _ (A o s c k)
  .exact absurd (y o s k).1 (by decide)
 .refine(h.kb.2.mono h.kb.1 (mU _)).set ⟨?_,by rw[a.ro];omega⟩ _ _;unfold Nod.pk;rw[if_pos (a.up.trans m),a.vo];omega
 .rw[Am];split
  .exact a.up.trans m
  .exact h.up j q
 .rw[Am];unfold upN;split
  .exact a.hU
  .exact h.hU j q
theorem kz{a:Int}{n:Nat}{M:Meet}(O:MOk n M){m:Nat}(hm:2<=m)(hn:n+6*m+20<=1000000)(U:∀ j,j<5->∀ s,s<40->(B j,s)∈cov)(h:Cm S K B cov M)(z:KbI a a M)(W:K<=a)(T:a<=3500)(Z:14*a+38*(cov.length:Int)<=97000){i:Nat}(q:i<5) :
  ∃ K' B' cov',K'<=a+9/\Cm S K' B' cov' (((M.act (acN 2 (i:Int))).dx Az).dx (Al m))/\(∀ j,j<5->∀ s,s<40->(B' j,s)∈cov')/\cov'.length<=cov.length+40/\Gr8 K' ((((M.act (acN 2 (i:Int))).dx Az).dx (Al m)).ab i)/\KbI (a+9) (a+9) (((M.act (acN 2 (i:Int))).dx Az).dx (Al m))/\MOk (n+6*m+1) (((M.act (acN 2 (i:Int))).dx Az).dx (Al m)):=by
 have G:=h.up i q;have hr:=z i q;have F:=(O.ab i q).ro;have d:=O.act (x:=acN 2 (i:Int)) (by omega) (CN ⟨.inl rfl,by omega,by omega⟩);obtain⟨b,y,f⟩:=h.lead (by omega) q (by omega) ⟨F.1,by omega⟩;obtain⟨σ,g,_⟩:=h.ex;have o:=z.lead g q G M.br M.ew;have H:∀ j,j<5->((M.act (acN 2 (i:Int))).ab j).up=true:=by rw[I9 G];exact f.up
 rw[JL H];rw[I9 G]at d ⊢
 have u:=Bp M i ((M.ab i).lead i) M.br M.ew;generalize M.set i ((M.ab i).lead i) M.br M.ew=N at f o d u ⊢;rw[<- u]at y
 obtain⟨j,v,C⟩:=m9 λj=>(N.ab j).vo.p.key;have E:∀ j,j<5->(N.ab j).vo.p.key<=a+9:=λj v=>by
  have:=(o j v).1;unfold Nod.pk at this
  rwa [if_pos (f.up j v)]at this
 have t:=E j v;have f:=f.to C (by omega);have l:∀ k,k<5->∀ s,s<40->(upN B i b k,s)∈cov++F8 b:=λk z s P=>by
  unfold upN;split
  .exact mV _ (F9 b P)
  .exact mW _ (U k z s P)
 obtain⟨vs,V⟩:=y.pe;have A:=jb l d (by omega) f q v rfl y.vo y.may V;generalize (N.ab j).vo.p.key=K' at f A t;have L:∀ c X Y,Stp wh0 c X Y->(Cm S K' (upN B i b) (cov++F8 b) X/\KbI (a+9) (a+9) X)->(Cm S K' (upN B i b) (cov++F8 b) Y/\KbI (a+9) (a+9) Y):=λc X Y s g=>by
  obtain⟨σ,R,_⟩:=g.1.ex;exact⟨g.1.step l s,g.2.step (D:=wh0) (λe=>e) R s (mU _)⟩
 have J:=DC L (λX g=>⟨g.1.drop,g.2⟩) 2 d (by omega) ⟨f,o⟩;obtain⟨r,rfl⟩:∃ r,m=2+r:=⟨m-2,by omega⟩;rw[Ex,AI];have Q:N.dx (Al 2)=N.dx (An++An):=rfl;rw[<- Q]at A
 have w:=DC (I:=λX=>(Cm S K' (upN B i b) (cov++F8 b) X/\KbI (a+9) (a+9) X)/\Gr8 K' (X.ab i)) (λc X Y s g=>⟨L c X Y s g.1,g.2.ev (s.ev i)⟩) (λX g=>⟨⟨g.1.1.drop,g.1.2⟩,g.2⟩) r J.2 (by omega) ⟨J.1,A⟩;refine⟨K',_,_,t,w.1.1.1,l,?_,w.1.2,w.1.1.2,w.2.mono (by omega)⟩;rw[H'];unfold F8;rw[nr,qp];exact A' _
end
section
variable{C:List Cmd}{K:Int}{B:Nat->Bal}{cov:List (Bal × Nat)}{i:Nat}{b:Bal}{A:List Cmd}
theorem Fin_.drop{N:Meet}(f:Fin_ i A N):Fin_ i A { N with br:=[] }:=⟨f.ag,f.nx,f.hd,f.qu⟩
theorem Fin_.tS(a:PhC C K B cov i b){M:Meet}(h:PhE C K B cov i b M)(f:Fin_ i A M){j:Nat}(c:j<5)(p:A.length<=(M.ab j).ae.length):(M.ab j).ae=A:=by
 have o:=f.le a h c;obtain⟨σ,g,_⟩:=h.pb.cm.ex;refine pH (by omega) λs k l=>?_;obtain⟨m,d⟩:=(g.nd j c).ag s _ (E' k);obtain⟨n,e⟩:=(g.nd i a.hi).ag s _ (by rw[f.ag];exact E' l);exact g.gs.tA.agree d e
structure Fz(C:List Cmd)(K:Int)(B:Nat->Bal)(cov:List (Bal × Nat))(i:Nat)(b:Bal)(A:List Cmd)(M:Meet):Prop where
 l:PhL C K B cov i b M
 f:Fin_ i A M
 a:∀ j,j<5->(M.ab j).ae=A
 s:∀ j,j<5->StI (M.ab j)
theorem Fz.step(d:PhC C K B cov i b){n:Nat}{M N:Meet}(s:Stp wh0 n M N)(h:Fz C K B cov i b A M):Fz C K B cov i b A N:=by
 have e:=h.l.step d s;have g:=Fin_.step d s h.l.pe h.f;exact⟨e,g,λj c=>g.tS d e.pe c (by have:=(s.ev j).ag.length_le;rw[h.a j c]at this;exact this),StI.step s (λj c=>(h.l.pe.pb.ak j c).dn) h.s⟩
theorem Fz.drop{N:Meet}(h:Fz C K B cov i b A N):Fz C K B cov i b A { N with br:=[] }:=⟨h.l.drop,h.f.drop,h.a,h.s⟩
structure Rst(C:List Cmd)(K:Int)(B:Nat->Bal)(cov:List (Bal × Nat))(i:Nat)(b:Bal)(A:List Cmd)(M:Meet):Prop where
 z:Fz C K B cov i b A M
 d:∀ j,j<5->(M.ab j).done=A.length
theorem OX(g:PhC C K B cov i b){n:Nat}{M N:Meet}(s:Stp wh0 n M N)(h:Fz C K B cov i b A M){j:Nat}(e:j<5)(d:(M.ab j).done=A.length):(N.ab j).done=A.length:=by
 have c:=h.step g s;have k:=(s.ev j).dn;have f:=(c.l.pe.pb.ak j e).dn;rw[c.a j e]at f
 omega
theorem Rst.step(a:PhC C K B cov i b){n:Nat}{M N:Meet}(s:Stp wh0 n M N)(h:Rst C K B cov i b A M):Rst C K B cov i b A N:=⟨h.z.step a s,λj c=>OX a s h.z c (h.d j c)⟩
theorem WU(o:PhC C K B cov i b)(g:∀ c∈C,c.e=0){M:Meet}(h:Fz C K B cov i b A M){j:Nat}(d:j<5):((M.act (acN 3 (j:Int))).ab j).done=A.length:=by
 have n:=h.l.pe.pb.cm.up j d;have m:=(h.l.pe.pb.ak j d).dn;have k:∀ c∈(M.ab j).ae,c.e=0:=λc f=>g c ((h.l.pe.pb.cm.s.nd j d).ag c f);rw[Hg n,Am,if_pos rfl,T2,cV]
 .rw[nc,h.a j d];rw[h.a j d]at m
  omega
 .rw[h.s j d];exact aS _ λc f=>k c (np f)
 .exact λc f=>k c (oM f)
theorem Gr8.gt{p q:Nod}{K:Int}(h:Gr8 K p)(a:Ao p.vo.p){i:Nat}{b:Bal}(l:Led i p q b):K<b.key:=by
 have:=l.gt;unfold Gr8 at h;omega
theorem kA(R:∀ c∈C,c.e=0)(hC:C.length<40){K1:Int}{n:Nat}{M:Meet}(hM:MOk n M){m:Nat}(hm:85<=m)(hn:n+6*m+20<=990000)(hc:∀ j,j<5->∀ s,s<40->(B j,s)∈cov)(h:Cm (λc=>c∈C) K B cov M)(gr:Gr8 K (M.ab i))(hk:KbI K1 K1 M)(hK:K<=K1)(a4:K1<=3510)(hQ:14*K1+38*(cov.length:Int)<=97000)(t:i<5)(hA:∀ j,j<5->AskI (M.ab j))(hS:∀ j,j<5->StI (M.ab j)) :
  ∃ K' B' cov' b A,PhC C K' B' cov' i b/\Rst C K' B' cov' i b A (((M.act (acN 2 (i:Int))).dx Az).dx (Al m)):=by
 have hu:=h.up i t;have hr:=hk i t;have a2:=(hM.ab i t).ro;have u:=hM.act (x:=acN 2 (i:Int)) (by omega) (CN ⟨.inl rfl,by omega,by omega⟩);obtain⟨b,q,o⟩:=h.lead (by omega) t (by omega) ⟨a2.1,by omega⟩;obtain⟨σ,g,_⟩:=h.ex;have L:=AskI.step (Stp.lead (D:=whT) M i t hu trivial) g hA;have T:=StI.step (Stp.lead (D:=whT) M i t hu trivial) (λj f=>(hA j f).dn) hS;have a5:=gr.gt (h.acc t).1 q;have a6:b.key<=K1+9:=by
  have:=q.le;have:=h.le t;omega
 have a3:∀ j,j<5->((M.act (acN 2 (i:Int))).ab j).up=true:=by rw[I9 hu];exact o.up
 rw[JL a3];rw[I9 hu]at u ⊢
 have G:=Bp M i ((M.ab i).lead i) M.br M.ew;have S:∀ j,j≠i->((M.set i ((M.ab i).lead i) M.br M.ew).ab j)=M.ab j:=λj f=>by rw[Am,if_neg f]
 have V:QA i b (M.set i ((M.ab i).lead i) M.br M.ew):=λj f c hx=>by
  refine absurd ?_ (show ¬ b.key<=max K (M.ab i).vo.p.key by have:=q.gt;omega);by_cases e:j=i
  .rw[e,G,q.ask.2.1]at hx
   have:=(hA i t).le c b hx;omega
  .rw[S j e]at hx
   have:=(hA j f).le c b hx;have:=h.le f;omega
 have F:∀ j,j<5->j≠i->((M.set i ((M.ab i).lead i) M.br M.ew).ab j).vo.p.key<b.key:=λj f e=>by
  rw[S j e];have:=h.le f;omega
 generalize M.set i ((M.ab i).lead i) M.br M.ew=N at o u G L T V F ⊢;rw[<- G]at q
 have o:=o.to (K':=b.key) (λj f=>by
  by_cases e:j=i
  .rw[e,q.vo];exact mU _
  .have:=F j f e;omega) (by omega)
 have E:∀ k,k<5->∀ s,s<40->(upN B i b k,s)∈cov++F8 b:=λk hk s hs=>by
  unfold upN;split
  .exact mV _ (F9 b hs)
  .exact mW _ (hc k hk s hs)
 have l:PhC C b.key (upN B i b) (cov++F8 b) i b:=⟨E,hC,t,q.may,q.n,Dg _ _ _,rfl⟩;have y:14*b.key+38*((cov++F8 b).length:Int)<=99000:=by
  have:(cov++F8 b).length=cov.length+40:=by rw[H'];unfold F8;rw[nr,qp]
  omega
 obtain⟨vs,hq⟩:=q.pe;generalize cov++F8 b=cov' at o E l y;generalize upN B i b=B' at o E l;generalize a0:b.key=K' at o l y F;have O:PhB C K' B' cov' i b N:=⟨o,L,q.vo⟩;obtain⟨p1,p2,p3,p4,p5,p6,p7⟩:=er E y u (by omega) o t q.may a0 l.hB q.vo F hq q.p1;obtain⟨q1,q2,_,_⟩:=Rd l u (by omega) O V;have U:=DC (I:=λX=>PhB C K' B' cov' i b X/\∀ j,j<5->StI (X.ab j)) (λc X Y s g=>⟨g.1.step l s,StI.step s (λj f=>(g.1.ak j f).dn) g.2⟩) (λX g=>⟨⟨g.1.cm.drop,g.1.ak,g.1.vi⟩,g.2⟩);have H:∀ a X k,MOk k X->k+6*a<=1000000->PhB C K' B' cov' i b X->(∀ j,j<5->StI (X.ab j))->∀ j,j<5->StI ((X.dx (Al a)).ab j):=λa X k h1 h2 h3 h4=>(U a h1 h2 ⟨h3,h4⟩).1.2;clear U;have s1:=H 1 N _ u (by omega) O T;rw[show Al 1=An from rfl]at s1
 obtain⟨r1,r2,r3,r4⟩:=ey l p7 (by omega) q1 (λj f c e=>.inl (q2 j f c e)) p2 p3 p4 p5 p6;have s2:=H 1 _ _ p7 (by omega) q1 s1;rw[show Al 1=An from rfl]at s2
 obtain⟨W,t1,t2,t3,t4,t5⟩:=iG l y R 81 r4 (by omega) r1 r2 r3 (by unfold mu;split<;>omega);have s3:=H W _ _ r4 (by omega) r1.pe.pb s2;obtain⟨r,rfl⟩:∃ r,m=1+(1+(W+(1+(1+r)))):=⟨m-W-4,by omega⟩;rw[Ex,AI,Ex,AI,Ex,AI,Ex,AI,Ex,AI];simp only[show Al 1=An from rfl];generalize (((N.dx An).dx An).dx (Al W))=X at t2 t3 t4 t5 s3 ⊢;generalize (X.ab i).ae=A at t2;obtain⟨u1,u2⟩:=MK l t5 (by omega) t3 t4;rw[t2.ag]at u2
 have v:=DC (I:=λY=>PhL C K' B' cov' i b Y/\Fin_ i A Y/\∀ j,j<5->StI (Y.ab j)) (λc Y Z s g=>⟨g.1.step l s,Fin_.step l s g.1.pe g.2.1,StI.step s (λj f=>(g.1.pe.pb.ak j f).dn) g.2.2⟩) (λY g=>⟨g.1.drop,g.2.1.drop,g.2.2⟩) 1 t5 (by omega) ⟨t3,t2,s3⟩;rw[show Al 1=An from rfl]at v
 obtain⟨⟨v1,v2,v3⟩,v4⟩:=v;have w:Fz C K' B' cov' i b A (X.dx An):=⟨v1,v2,λj f=>v2.tS l v1.pe f (u2 j f),v3⟩;generalize X.dx An=Y at w v4 ⊢;have x:Rst C K' B' cov' i b A (Y.dx An):=by
  have hz:=DC (λc Y Z s g=>Fz.step l s g) (λY g=>Fz.drop g) 1 v4 (by omega) w;rw[show Al 1=An from rfl]at hz
  refine⟨hz.1,λj f=>?_⟩;have a:=Bl (λc A N s g=>Fz.step l s.calm g) v4 (by omega) w;have d:=Mx (J:=λZ=>(Z.ab j).done=A.length) (λc A N s g=>Fz.step l s.calm g) (λc A N s g d=>OX l s.calm g f d) v4 (by omega) w f λZ _ _ _ g _=>WU l R g f;rw[EP];obtain⟨Z,k1,k2,_⟩:=Ct (I:=λZ=>Fz C K' B' cov' i b A Z/\(Z.ab j).done=A.length) (λP Q s g=>⟨g.1.step l s.sF,OX l s.sF g.1 f g.2⟩) a.1 ⟨a.2,d⟩;rw[k1];exact k2.2
 have a1:MOk (n+1+6+6+6*W+6*1+6*1) (Y.dx An):=(DC (λc Y Z s g=>Fz.step l s g) (λY g=>Fz.drop g) 1 v4 (by omega) w).2;exact⟨K',B',cov',b,A,l,(DC (λc Y Z s g=>Rst.step l s g) (λY g=>⟨g.z.drop,g.d⟩) r a1 (by omega) x).1⟩
end
section
def jr(l:List Int):Cmd:=⟨Ad (unQ l) 0,Ad (unQ l) 4,Ad (unQ l) 8,Ad (unQ l) 12,Ad (unQ l) 16⟩
variable{l:List Int}{now:Int}
theorem kW(h:opE l now=0):unE l=0:=by
 unfold opE at h;split at h
 .rename_i g;exact absurd h g
 .rename_i g;exact mY.1 g
theorem lS(h:unE l=0):(jr l).e=0:=by
 have:=(R9 h).2;unfold Ck at this;split at this
 .cases this
 .exact this
theorem ZF(h:opE l now=0):DX l now=jr l:=by unfold DX;rw[if_pos h];rfl
def JM(L:List Lac):List Cmd:=(L.filter λx=>decide (x.k=1/\unE x.d=0)).map λx=>jr x.d
theorem fh{L:List Lac}{x:Lac}(c:x∈L)(b:x.k=1){a:Int}(h:opE x.d a=0):DX x.d a∈JM L:=by
 refine ny.2 ⟨x,pz.2 ⟨c,O' ⟨b,kW h⟩⟩,?_⟩;unfold DX;rw[if_pos h];rfl
theorem j6(L:List Lac):∀ c∈JM L,c.e=0:=λc a=>by
 obtain⟨x,b,rfl⟩:=ny.1 a;exact lS (nJ (pz.1 b).2).2
theorem Lc(L:List Lac)(e:∀ x∈L,LacOk x)(k:L.length<=100000):(∀ j,j<5->AskI ((As.dx L).ab j))/\∀ j,j<5->StI ((As.dx L).ab j):=by
 have s:Sts whT L.length As (As.dx L):=Ip L MOk.zero (by omega) λx i=>⟨e x i,Vs x⟩;exact(s.inv (I:=λM=>(∃ σ,AgI σ M)/\(∀ j,j<5->AskI (M.ab j))/\∀ j,j<5->StI (M.ab j)) (λc M N h ⟨⟨σ,g⟩,a,b⟩=>by
  obtain⟨τ,_,_,d,_⟩:=g.step h;exact⟨⟨τ,d⟩,AskI.step h g a,StI.step h (λj f=>(a j f).dn) b⟩) ⟨⟨_,AgI.zero⟩,AskI.zero,StI.zero⟩).2
theorem dN(L M:List Lac):lds (L++M)=lds L+lds M:=by unfold lds;rw[qi]
theorem settled(L:List Lac)(v:∀ x∈L,LacOk x)(a2:9*lds L<=3480)(n:(JM L).length<40)(hq:126*lds L+38*L.length<=85000)(m:Nat)(hm:85<=m)(hl:L.length+12*m<=99000){i:Nat}(O:i<5) :
  ∃ K B cov b A,PhC (JM L) K B cov i b/\Rst (JM L) K B cov i b A (As.dx (L++(BY m (i:Int)++BY m (i:Int)))):=by
 have C:∀ x∈BY m (i:Int),LacOk x:=λx hx=>by
  rcases P'.1 hx with hx|hx
  .rcases P'.1 hx with hx|hx
   .exact Pz 0 x hx
   .rw[D'.1 hx];exact CN ⟨.inl rfl,by omega,by omega⟩
  .exact Pz m x hx
 have a0:(BY m (i:Int)).length=6*m+11:=by
  have V:∀ m,(Cr m).length=5+6*m:=λm=>by unfold Cr;rw[H',FC];rfl
  unfold BY;simp only[H',V,nS];omega
 have l:∀ x∈L++Az,LacOk x:=λx hx=>(P'.1 hx).elim (v x) λe=>Pz 0 x (mW _ e);have a1:(L++Az).length=L.length+5:=by rw[H'];rfl
 have t:∀ j,j<5->((As.dx (L++Az)).ab j).up=true:=λj z=>by
  have:=aq L v 0 (by omega) z
  rwa [show Cr 0=Az from nC _]at this
 have Y:∀ x∈L++Az,x.k=1->∀ o:Nat,opE x.d (o:Int)=0->DX x.d (o:Int)∈JM L:=λx hx H o h=>by
  rcases P'.1 hx with e|e
  .exact fh e H h
  .obtain⟨k,_,rfl⟩:=ny.1 e;exact absurd H (by show(9:Int)≠1;decide)
 have g:=gL (S:=λc=>c∈JM L) (L++Az) l (by omega) Y;obtain⟨τ,cov,_,J,u,w,y⟩:=WM (L++Az) MOk.zero (by omega) l AgI.zero KbI.zero (cov:=[]) (λb s c h=>h.elim);rw[show lds (L++Az)=lds L by rw[dN];rfl,Int.zero_add]at u
 have r:=PP (L++Az) l (by omega);have F:As.dx (L++(BY m (i:Int)++BY m (i:Int)))=(((((((As.dx (L++Az)).act (acN 2 (i:Int))).dx Az).dx (Al m)).dx Az).act (acN 2 (i:Int))).dx Az).dx (Al m):=by
  have e:∀ X:Meet,X.dx (BY m (i:Int))=(((X.dx Az).act (acN 2 (i:Int))).dx Az).dx (Al m):=λX=>by
   unfold BY;rw[AI,show Cr 0=Az from nC _,AK];unfold Cr;rw[AI]
  rw[AI,AI,e,e,AI]
 rw[F];have G:((((As.dx (L++Az)).act (acN 2 (i:Int))).dx Az).dx (Al m))=As.dx (L++BY m (i:Int)):=by
  rw[AI _ L (BY m (i:Int)),AI _ L Az];unfold BY;rw[AI,show Cr 0=Az from nC _,AK];unfold Cr;rw[AI]
 have a:=Lc (L++BY m (i:Int)) (λx hx=>(P'.1 hx).elim (v x) (C x)) (by rw[H'];omega);rw[<- G]at a
 clear F G;generalize As.dx (L++Az)=M at t g J u r a ⊢;obtain⟨q,f⟩:∃ q,cov++(F8 (M.ab 0).av.hU++(F8 (M.ab 1).av.hU++(F8 (M.ab 2).av.hU++(F8 (M.ab 3).av.hU++F8 (M.ab 4).av.hU))))=q:=⟨_,rfl⟩;have I:q.length<=L.length+205:=by
  rw[<- f];simp only[H',F8,nr,qp];simp only[List.length_nil]at w;omega
 have Z:∀ j,j<5->∀ s,s<40->((M.ab j).av.hU,s)∈q:=λj z s n=>by
  rw[<- f];refine mV _ ?_;simp only[P'];rcases se z with rfl|rfl|rfl|rfl|rfl
  .exact .inl (F9 _ n)
  .exact .inr (.inl (F9 _ n))
  .exact .inr (.inr (.inl (F9 _ n)))
  .exact .inr (.inr (.inr (.inl (F9 _ n))))
  .exact .inr (.inr (.inr (.inr (F9 _ n))))
 have W:Cm (λc=>c∈JM L) (9*(lds L:Int)) (λj=>(M.ab j).av.hU) q M:=⟨⟨τ,J,λb s c h=>by rw[<- f];exact mW _ (y b s c h)⟩,⟨by omega,u.mono (mU _) (by omega)⟩,t,λ_ _=>rfl,g⟩;obtain⟨K',B',E,k1,D,k3,k4,P,Q,R⟩:=kz r (m:=m) (by omega) (by omega) Z W u (mU _) (by omega) (by omega) O;generalize (((M.act (acN 2 (i:Int))).dx Az).dx (Al m))=N at D P Q R a ⊢;rw[JL D.up];obtain⟨U,T,p,b,A,z1,z2⟩:=kA (j6 L) n R hm (by omega) k3 D P Q (by omega) (by omega) (by omega) O a.1 a.2;exact⟨U,T,p,b,A,z1,z2⟩
end
section
variable{C:List Cmd}{K:Int}{B:Nat->Bal}{cov:List (Bal × Nat)}{i:Nat}{b:Bal}{A:List Cmd}
theorem Rst.log{N:Meet}(r:Rst C K B cov i b A N){j:Nat}(c:j<5):N.log j=A:=by unfold Meet.log;rw[r.z.a j c,r.d j c,oH]
theorem Rst.bn{N:Meet}(r:Rst C K B cov i b A N)(k:A.length<40){j:Nat}(e:j<5):(N.ab j).bn=[]:=oV.2 λc h=>by
 have g:=(r.z.l.pe.pb.ak j e).un c h;rw[r.z.a j e,r.d j e,oH]at g
 exact g (r.z.f.qu k c (r.z.l.pe.qw j e c h))
end
section
theorem Rw(L:List Lac):(JM L).length<=L.countP λx=>decide (x.k=1):=by
 unfold JM;rw[nr,<- List.countP_eq_length_filter];exact List.countP_mono_left λx _ h=>O' (nJ h).1
theorem iH(L:List Lac):lds L<=L.length:=List.countP_le_length
theorem UZ(L:List Lac)(a:∀ x∈L,LacOk x)(g:L.length<=380)(h:L.countP (λx=>decide (x.k=1))<40){i:Nat}(c:i<5) :
  ∃ K B cov b A,PhC (JM L) K B cov i b/\Rst (JM L) K B cov i b A (As.dx (L++D4 L (i:Int))):=by
 have d:=iH L;have e:(L.filter hvy).length<=L.length:=pO _ _;have f:=Rw L;exact settled L a (by omega) (by omega) (by omega) (CL L) (by unfold CL;omega) (by unfold CL;omega) c
variable{L:List Lac}{M N:Meet}{c:Cmd}{n:Nat}{x:Lac}{σ:Gs}
theorem Zv{p:Nod}{s:Nat}(h:p.rk s=some c):(∃ j,j<5/\∃ v∈(p.av.an j).vs,v.bt=(s:Int)/\v.w=c)\/c∉p.ae:=by
 unfold Nod.rk at h;split at h
 .cases h
 .rename_i d
  have d:=mY.1 d;split at h
  .rename_i hF
   left;have f:DY (p.av.hZ.map (·.vs)) (s:Int)=(Ej (p.av.hZ.map (·.vs)) (s:Int)).isSome:=if_pos d;have o:G3 (p.av.hZ.map (·.vs)) (s:Int)=((Ej (p.av.hZ.map (·.vs)) (s:Int)).map (·.w)).getD ⟨0,0,0,0,0⟩:=if_pos d;have g:∀ l∈p.av.hZ.map (·.vs),∀ v∈l,Ah v:=by
    unfold BZ at d;split at d
    .cases d
    .split at d
     .assumption
     .cases d
   have n:∀ v∈Ae (p.av.hZ.map (·.vs)).flatten (s:Int),Ao v.b:=λv e=>by
    obtain⟨l,q,r⟩:=o8.1 (AL.1 e).1;exact(g l q v r).2.1.pr
   rcases Li _ n with⟨h0,hO⟩|⟨x,hO,hx,_⟩
   .have hO:Ej (p.av.hZ.map (·.vs)) (s:Int)=none:=hO;rw[hO]at f;rw[f]at hF;cases hF
   .have hO:Ej (p.av.hZ.map (·.vs)) (s:Int)=some x:=hO;rw[hO]at o
    obtain⟨u,i⟩:=AL.1 hx;obtain⟨l,t,e⟩:=o8.1 u;obtain⟨a,m,rfl⟩:=ny.1 t;have k:x.w=c:=o.symm.trans (nO h);unfold Rnd.hZ at m;simp only[nf,Q',or_false]at m;rcases m with rfl|rfl|rfl|rfl|rfl
    .exact⟨0,by decide,x,e,i,k⟩
    .exact⟨1,by decide,x,e,i,k⟩
    .exact⟨2,by decide,x,e,i,k⟩
    .exact⟨3,by decide,x,e,i,k⟩
    .exact⟨4,by decide,x,e,i,k⟩
  .exact .inr (by have:=rV h;simpa using this)
def NdW(σ:Gs):Prop:=∀ b s c,σ.W b s c->∃ l:List Cmd,l.length=s/\AgL σ l 0/\c∉l
theorem NdW.step{D:Wh}(h:AgI σ M)(k:NdW σ)(s:Stp D n M N):∃ τ,AgI τ N/\NdW τ:=by
 obtain⟨τ,w,d,r,t,u⟩:=h.tU s;refine⟨τ,r,λb s c g=>?_⟩;have a:∀ {b s c},σ.W b s c->∃ l:List Cmd,l.length=s/\AgL τ l 0/\c∉l:=λ{b s c} g=>by
  obtain⟨l,m,o,p⟩:=k b s c g;exact⟨l,m,o.mono d,p⟩
 rcases t b s c g with g2|e
 .exact a g2
 .obtain⟨_,_,i,hi,_,hu,rfl,hx⟩:=u b s e;rcases Zv (hx c g)with⟨j,hj,v,hv,hs,rfl⟩|hc
  .obtain⟨rs,q⟩:=(h.nd i hi).up hu;have f:=(h.gs.hv j v (q.rd.an j hj v hv).1).2;rw[hs,nI]at f
   exact a f
  .exact⟨_,rfl,(h.nd i hi).ag.mono d,hc⟩
theorem NdW.dx(L:List Lac)(a:∀ x∈L,LacOk x)(c:L.length<=100000):∃ σ,AgI σ (As.dx L)/\NdW σ:=by
 have s:Sts whT L.length As (As.dx L):=Ip L MOk.zero (by omega) λx b=>⟨a x b,Vs x⟩;exact s.inv (I:=λM=>∃ σ,AgI σ M/\NdW σ) (λ_ M N g ⟨σ,h,k⟩=>NdW.step h k g) ⟨_,AgI.zero,λ_ _ _ g=>g.elim⟩
theorem AgI.nodup(h:AgI σ M)(k:NdW σ){j:Nat}(r:j<5):(M.ab j).ae.Nodup:=by
 refine oF.2 λs t w y x e=>?_;have c:=(h.nd j r).ag;obtain⟨b,Q,E,d⟩:=c t _ (E' y);rw[nM]at d
 obtain⟨q,u,p,_⟩:=Gz Q Q (by omega) (by omega);obtain⟨v,g,z,F,A⟩:=d q u p;have f:=(h.gs.hv q v g).2;rw[z,nI]at f
 obtain⟨l,D,n,o⟩:=k _ _ _ f;have a:s<l.length:=by omega
 obtain⟨B,i⟩:=n s _ (E' a);obtain⟨C,m⟩:=c s _ (E' w);have:=h.gs.tA.agree i m;exact o (by rw[A,<- e,<- this];exact nK a)
theorem Iq(a:∀ x∈L,LacOk x)(c:L.length<=100000){j:Nat}(b:j<5):((As.dx L).ab j).ae.Nodup:=by
 obtain⟨σ,h,k⟩:=NdW.dx L a c;exact h.nodup k b
theorem IW{P:Lac->Prop}(c:∀ n:Nat,n<5->P (acN 9 (n:Int)))(a:∀ n:Nat,n<5->P (acN 3 (n:Int)))(b:P (acN 7 0)){i:Int}(e:P (acN 2 i))(l:List Lac):∀ x∈D4 l i,P x:=by
 have d:∀ m,∀ x∈BY m i,P x:=λm x hx=>by
  rcases P'.1 hx with hx|hx
  .rcases P'.1 hx with hx|hx
   .exact Mo c a b 0 x hx
   .rw[D'.1 hx];exact e
  .exact Mo c a b m x hx
 intro x hx;exact(P'.1 hx).elim (d _ x) (d _ x)
theorem Ms(l:List Lac)(i:Int):(D4 l i).length<=1222+240*l.length:=by
 have b:(l.filter hvy).length<=l.length:=pO _ _;have a:∀ m,(Cr m).length=5+6*m:=λm=>by unfold Cr;rw[H',FC];rfl
 unfold D4 BY CL;simp only[H',a,nS];omega
theorem jy(L:List Lac)(h:∀ x∈L,LacOk x)(j:L.length<=200){i:Nat}(g:i<5):((As.dx (L++D4 L (i:Int))).ab 0).up=true:=by
 have f:=Ms L (i:Int);have a:∀ x∈D4 L (i:Int),LacOk x:=IW (λn c=>CN ⟨.inr (.inr rfl),by omega,by omega⟩) (λn c=>CN ⟨.inr (.inl rfl),by omega,by omega⟩) (by rw[<- Dy];decide) (CN ⟨.inl rfl,by omega,by omega⟩) L;have e:L++D4 L (i:Int)=(L++(BY (CL L) (i:Int)++(Cr 0++[acN 2 (i:Int)])))++Cr (CL L):=by unfold D4;rw[show BY (CL L) (i:Int)=Cr 0++[acN 2 (i:Int)]++Cr (CL L)from rfl];simp only[mZ]
 have b:(L++(BY (CL L) (i:Int)++(Cr 0++[acN 2 (i:Int)]))).length+(5+6*CL L)=L.length+(D4 L (i:Int)).length:=by
  have:=congrArg List.length e;rw[H',H',show(Cr (CL L)).length=5+6*CL L by unfold Cr;rw[H',FC];rfl]at this
  exact this.symm
 rw[e];refine aq _ (λx d=>?_) (CL L) (by omega) (by decide);have:x∈L++D4 L (i:Int):=by rw[e];exact mW _ d
 exact(P'.1 this).elim (h x) (a x)
def P8(n:Nat)(d:List Int):Lac:=⟨1,(n:Int),0,0,d⟩
theorem fg(b:n<5){d:List Int}(a:d.length<=2000):LacOk (P8 n d):=by
 rw[<- Dy];simp[P8,dM,Gg,Im,In];omega
def whS:Wh:=⟨λ_ _=>True,True,False,True,True,False⟩
def RI(n:Nat)(c:Cmd)(ts:List Tol):Prop:=∃ t∈ts,t.n=n/\t.c=c.c/\t.s=c.s
def SvI(n:Nat)(c:Cmd)(M:Meet):Prop:=(M.ab n).up=true/\(c∈(M.ab n).bn\/c∈(M.ab n).ae.take (M.ab n).done/\RI n c M.ew)
theorem iN{α:Type}{l m:List α}{k a:Nat}(h:l <+: m)(d:k<=a){c:α}(b:c∈l.take k):c∈m.take a :=
 (List.prefix_take_iff.2 ⟨(pI _ _).trans h,by rw[j'];omega⟩).subset b
theorem SvI.step{E:Nat}(s:Stp whS E M N)(y:∀ j,j<5->AskI (M.ab j))(h:SvI n c M):SvI n c N:=by
 obtain⟨a,h⟩:=h;have put:∀ {i:Nat} {p:Nod} (b:List Let) {m:List Tol},(∀ t∈M.ew,t∈m)->(p.up=(M.ab i).up)->(M.ab i).done<=p.done->(M.ab i).ae <+: p.ae->(i=n->c∈(M.ab i).bn->c∈p.bn\/c∈p.ae.take p.done/\RI n c m)->SvI n c (M.set i p b m):=λ{i p} b {m} u A B C D=>by
  unfold SvI;rw[Am];split
  .rename_i e
   subst e;refine⟨A.trans a,?_⟩;rcases h with h|⟨g1,t,g2,g3⟩
   .exact D rfl h
   .exact .inr ⟨iN C B g1,t,u t g2,g3⟩
  .refine⟨a,?_⟩;rcases h with h|⟨g1,t,g2,g3⟩
   .exact .inl h
   .exact .inr ⟨g1,t,u t g2,g3⟩
 have k:∀ {i:Nat} {p:Nod} (b:List Let),Ev (M.ab i) p->p.bn=(M.ab i).bn/\p.done=(M.ab i).done->SvI n c (M.set i p b M.ew):=λ{i p} b e w=>put b (λ_ h=>h) e.up (Nat.le_of_eq w.2.symm) e.ag λ_ g=>.inl (by rw[w.1];exact g);cases s with
 | take _ l hl hd hu z =>
  have:=(ME (M.ab l.dst) l (y _ hd.2).qn).1;exact k _ (Ev.take _ l) ⟨this.1,this.2.2⟩
 | br _ b hl hd=>exact⟨a,h⟩
 | one _ i d hi hu hc he =>
  have z:(M.ab i).ae.take ((M.ab i).done+1)=(M.ab i).ae.take (M.ab i).done++[d]:=by rw[oS,hc];rfl
  have o:=congrArg Prod.fst (OE { M.ab i with ni:=doS (M.ab i).ni d,done:=(M.ab i).done+1 } d);refine put M.br (λt h=>?_) o ?_ ?_ λe g=>?_
  .split
   .exact mW _ h
   .exact h
  .unfold Nod.fv;split<;>exact oc _
  .unfold Nod.fv;split<;>exact mX _
  .by_cases e2:c=d
   .subst e2;have f:=((y i hi).wa c).1 g;right;rw[if_pos f];unfold Nod.fv;rw[if_pos f];exact⟨by show c∈(M.ab i).ae.take ((M.ab i).done+1);rw[z];exact mV _ (D'.2 rfl),_,mV _ (D'.2 rfl),e,rfl,rfl⟩
   .left;unfold Nod.fv;split
    .exact(qX e2).2 g
    .exact g
 | ask _ i hi hu =>
  refine k _ (Ev.jv _ i) ?_;unfold Nod.jv;split
  .exact⟨rfl,rfl⟩
  .split
   .unfold Nod.dT;split<;>exact⟨rfl,rfl⟩
   .exact⟨rfl,rfl⟩
 | prop _ i hi hu =>
  refine k _ (Ev.cF _) ?_;unfold Nod.cF;split
  .exact⟨rfl,rfl⟩
  .split
   .exact⟨rfl,rfl⟩
   .split
    .exact⟨rfl,rfl⟩
    .exact(Cn (M.ab i) _).1.imp_right And.right
 | sj _ i hi hu f hT=>exact put _ (λ_ h=>h) rfl (A' _) (mX _) λ_ g=>.inl g
 | run _ i hi hu q l hp f =>
  refine k _ ((Ev.ln _ i q).bu l) ?_;show((M.ab i).ln i q).bn=_/\((M.ab i).ln i q).done=_;cases q<;>first|exact⟨rfl,rfl⟩|(simp only[Nod.ln];split<;>exact⟨rfl,rfl⟩)|(simp only[Nod.ln,Nod.count];split<;>first|exact⟨rfl,rfl⟩|(split<;>exact⟨rfl,rfl⟩))
 | sg _ i hi hu hL=>exact put _ (λ_ h=>h) rfl (A' _) (mX _) λ_ g=>.inl g
 | lead _ i hi hu hL =>
  have e:=AY (M.ab i) ⟨max (M.ab i).dc (M.ab i).vo.p.r+1,(i:Int)⟩;have v:=Ev.au (M.ab i) ⟨max (M.ab i).dc (M.ab i).vo.p.r+1,(i:Int)⟩;refine put _ (λ_ h=>h) (congrArg Prod.fst (Ph (M.ab i) i)) ?_ ?_ λ_ g=>.inl ?_
  .unfold Nod.lead;simp only;split
   .exact A' _
   .exact Nat.le_of_eq e.1.2.2.symm
  .unfold Nod.lead;simp only;split
   .exact mX _
   .exact v.ag
  .unfold Nod.lead;simp only;split
   .exact g
   .show c∈(Nod.au _ _).1.bn;rw[e.1.1];exact g
 | sub _ i d hi hu hD =>
  unfold Nod.sw Nod.sC;split
  .exact put _ (λ_ h=>h) rfl (A' _) (mX _) λ_ g=>.inl g
  .split
   .exact put _ (λ_ h=>h) rfl (A' _) (mX _) λ_ g=>.inl g
   .split
    .exact put _ (λ_ h=>mW _ h) rfl (A' _) (mX _) λ_ g=>.inl g
    .refine put _ (λ_ h=>h) ?_ ?_ ?_ λ_ g=>.inl ?_
     .unfold Nod.want;split<;>rfl
     .unfold Nod.want;split<;>exact A' _
     .unfold Nod.want;split<;>exact mX _
     .unfold Nod.want;split
      .exact g
      .exact mW _ g
 | lr _ i x hi hu hk hC=>exact False.elim hC
 | start _ i hi hu f=>exact False.elim f
theorem SvI.act(D:n<5){c:Cmd}{P:List Lac}(b:∀ x∈P,LacOk x)(C:P.length<100000){x:Lac}(l:LacOk x)(u:¬ (x.k=8/\x.n=(n:Int)))(h:SvI n c (As.dx P)):SvI n c (As.dx (P++[x])):=by
 rw[AI];have same:∀ {N:Meet},N.ab n=(As.dx P).ab n->N.ew=(As.dx P).ew->SvI n c N:=λr t=>by unfold SvI at h ⊢;rw[r,t];exact h
 have f:=(Lc P b (by omega)).1;have d:=PP P b (by omega);obtain⟨σ,i,_⟩:=NdW.dx P b (by omega);generalize As.dx P=M at h f d i same ⊢;by_cases a:x.k=8
 .have hne:x.n≠(n:Int):=λe=>u ⟨a,e⟩;have v:=l.n (by rw[a];rfl);have e:M.dx [x]=M.set x.n.toNat (if(M.ab x.n.toNat).up then(M.ab x.n.toNat).lr x.p else M.ab x.n.toNat) M.br M.ew:=by
   show M.act x=_;unfold Meet.act;simp only;rw[if_neg (by omega),if_neg (by omega),if_neg (by omega),if_neg (by omega),if_neg (by omega),if_pos a]
  rw[e];exact same (by rw[Am,if_neg (by omega)]) rfl
 .by_cases k9:x.k=9
  .have e:M.dx [x]=M.set x.n.toNat (if(M.ab x.n.toNat).up then M.ab x.n.toNat else(M.ab x.n.toNat).start) M.br M.ew:=by
    show M.act x=_;unfold Meet.act;simp only;rw[if_neg (by omega),if_neg (by omega),if_neg (by omega),if_neg (by omega),if_neg (by omega),if_neg (by omega),if_pos k9]
   rw[e];refine same ?_ rfl;rw[Am];split
   .rename_i g;rw[<- g,if_pos h.1]
   .rfl
  .have s:Sts whS [x].length M (M.dx [x]):=Ip [x] d (by simp;omega) λy w=>by
    rw[D'.1 w];exact⟨l,λ_=>trivial,λ_=>trivial,λe=>absurd e a,λ_=>⟨trivial,trivial⟩,λe=>absurd e k9⟩
   exact(s.inv (I:=λN=>SvI n c N/\(∃ σ,AgI σ N)/\∀ j,j<5->AskI (N.ab j)) (λ_ A B g ⟨z,⟨σ,m⟩,o⟩=>⟨z.step g o,(by obtain⟨τ,_,_,q,_⟩:=m.step g;exact⟨τ,q⟩),AskI.step g m o⟩) ⟨h,⟨σ,i⟩,f⟩).1
theorem SvI.dx(f:n<5){c:Cmd}{P:List Lac}(R:List Lac)(a:∀ x∈P++R,LacOk x)(b:(P++R).length<=100000)(e:∀ x∈R,¬ (x.k=8/\x.n=(n:Int)))(h:SvI n c (As.dx P)):SvI n c (As.dx (P++R)):=by
 induction R generalizing P with
 | nil=>rwa [nC]
 | cons x R ih =>
  rw[show P++x::R=P++[x]++R by simp]at a b ⊢
  rw[H',H']at b
  simp only[nS]at b;refine ih (P:=P++[x]) a (by rw[H',H'];simp only[nS];omega) (λy d=>e y (I' _ d)) ?_;exact h.act f (λy d=>a y (mW _ (mW _ d))) (by omega) (a x (mW _ (mV _ (D'.2 rfl)))) (e x M')
theorem SvI.sub(b:x.k=1)(i:x.n=(n:Int))(a:(M.ab n).up=true)(e:AskI (M.ab n))(h:opE x.d ((M.ab n).done:Int)=0){c:Cmd}(f:DX x.d ((M.ab n).done:Int)=c):SvI n c (M.act x):=by
 unfold Meet.act;simp only;rw[if_pos b,i,nI];unfold SvI;rw[Bp];unfold Nod.sw Nod.sC;rw[if_neg (by rw[a];decide),if_neg (λg=>g h),f];split
 .rename_i g
  exact⟨a,.inr ⟨g,_,mV _ (D'.2 rfl),rfl,rfl,rfl⟩⟩
 .refine⟨by unfold Nod.want;split<;>exact a,.inl ?_⟩;unfold Nod.want;split
  .rename_i g;exact(e.wa c).2 g
  .exact mV _ (D'.2 rfl)
theorem jx(v:∀ x∈L,LacOk x)(Q:L.length<=380)(T:L.countP (λx=>decide (x.k=1))<40){j:Nat}(P:j<5){N:Meet}(J:As.dx (L++D4 L (j:Int))=N)(F:∀ x∈D4 L (j:Int),LacOk x/\x.k≠8)(p:(L++D4 L (j:Int)).length<=100000) :
  (N.log 0).length<40/\∀ {i:Nat} {x:Lac} {n:Nat} {c:Cmd},L[i]?=some x->x.k=1->x.n=(n:Int)->n<5->((As.dx (L.take i)).ab n).up=true->opE x.d (((As.dx (L.take i)).ab n).done:Int)=0->DX x.d (((As.dx (L.take i)).ab n).done:Int)=c->(∀ y∈L.drop (i+1),¬ (y.k=8/\y.n=(n:Int)))->c∈N.log 0/\RI n c N.ew:=by
 subst J;have t:∀ x∈L++D4 L (j:Int),LacOk x:=λx o=>(P'.1 o).elim (v x) λe=>(F x e).1;obtain⟨K,B,H,b,A,W,h⟩:=UZ L v Q T P;have r:=Iq t p (j:=0) (by omega);rw[h.z.a 0 (by omega)]at r
 have E:A.length<40:=by
  have C:=IA r (m:=JM L) λx o=>(h.z.l.pe.pb.cm.s.nd 0 (by omega)).ag x (by rw[h.z.a 0 (by omega)];exact o);have:=Rw L;omega
 refine⟨by rw[h.log (by omega)];exact E,λ{i x n c} o C R f U S O I=>?_⟩;have X:=(V'.1 o).1;have e:L=L.take i++[x]++L.drop (i+1):=by
  have D:=ol (i+1) L;rw[oS,o]at D
  exact D.symm
 have M:∀ y∈L.take i,LacOk y:=λy w=>v y (np w);have V:SvI n c (As.dx (L.take i++[x])):=by
  rw[AI];exact SvI.sub C R U ((Lc (L.take i) M (by rw[j'];omega)).1 n f) S O
 have u:L++D4 L (j:Int)=L.take i++[x]++(L.drop (i+1)++D4 L (j:Int)):=by rw[<- mZ,<- e]
 have G:=V.dx f (L.drop (i+1)++D4 L (j:Int)) (by rw[<- u];exact t) (by rw[<- u];exact p) λy w=>(P'.1 w).elim (I y) λg q=>(F y g).2 q.1;rw[<- u]at G
 rcases G.2 with g|⟨g1,g2⟩
 .rw[h.bn E f]at g;cases g
 .rw[h.z.a n f,h.d n f,oH]at g1
  exact⟨by rw[h.log (by omega)];exact g1,g2⟩
theorem ZD(E:∀ x∈L,LacOk x/\x.k=1/\opE x.d 0=0/\DX x.d 0=c)(Y:L.length<=30){q:Nat}(v:q<5){N:Meet}(O:As.dx (L++D4 L (q:Int))=N) :
  ∀ j,j<5->N.log j=if L=[]then[]else[c]:=by
 have o:∀ x∈L,LacOk x:=λx f=>(E x f).1;have V:=Ms L (q:Int);have w:∀ x∈D4 L (q:Int),LacOk x/\x.k≠8:=IW (P:=λx=>LacOk x/\x.k≠8) (λn U=>⟨CN ⟨.inr (.inr rfl),by omega,by omega⟩,by show(9:Int)≠8;decide⟩) (λn U=>⟨CN ⟨.inr (.inl rfl),by omega,by omega⟩,by show(3:Int)≠8;decide⟩) ⟨by rw[<- Dy];decide,by decide⟩ ⟨CN ⟨.inl rfl,by omega,by omega⟩,by show(2:Int)≠8;decide⟩ L;have r:(L++D4 L (q:Int)).length<=100000:=by rw[H'];omega
 have u:∀ x∈L++D4 L (q:Int),LacOk x:=λx f=>(P'.1 f).elim (o x) λe=>(w x e).1;have p:L.countP (λx=>decide (x.k=1))<40:=qh List.countP_le_length (by omega);obtain⟨_,M⟩:=jx o (by omega) p v O w r;obtain⟨K,B,Q,b,A,X,i⟩:=UZ L o (by omega) p v;have t:=Iq u r (j:=0) (by omega);rw[i.z.a 0 (by omega)]at t
 rw[O]at i
 have H:∀ x∈A,x=c:=λx f=>by
  have:=(i.z.l.pe.pb.cm.s.nd 0 (by omega)).ag x (by rw[i.z.a 0 (by omega)];exact f);obtain⟨y,C,rfl⟩:=ny.1 this;obtain⟨_,_,F,D⟩:=E y (pz.1 C).1;rw[<- D,ZF F]
 have G:L=[]->A=[]:=λe=>oV.2 λx f=>by
  have:=(i.z.l.pe.pb.cm.s.nd 0 (by omega)).ag x (by rw[i.z.a 0 (by omega)];exact f);obtain⟨y,C,_⟩:=ny.1 this;have:=(pz.1 C).1;rw[e]at this;cases this
 intro j T;rw[i.log T];split
 .rename_i e;exact G e
 .rename_i e
  obtain⟨x,f⟩:∃ x,L[0]?=some x:=⟨_,E' (pX.2 e)⟩;obtain⟨F,D,R,S⟩:=E x (nw f);have W:=F.n (by rw[D];rfl);have J:c∈A:=by
   have:=(M f D (n:=x.n.toNat) (c:=c) (by omega) (by omega) rfl R S λy C g=>by
    have:=(E y (oM C)).2.1;omega).1
   rwa [i.log (by omega)]at this
  have I:A.length<=1:=IA t (m:=[c]) λx f=>by rw[H x f];exact D'.2 rfl
  match A,I,J with
  | [y],_,h=>rw[D'.1 h]
end
end
section
open Go.RowKit
variable{f:Nat->Cmd}{n:Nat}
end
section
open Go.RowKit
section
variable{f:Nat->Cmd}{g:Gh}{n:Nat}{w:World}
theorem Sl.tY(w:World)(l:List Int)(e:TypeId){g:Nat}(b:g=w.heap.size){n:Nat}(f:n=l.length)(d:l.length<=140737488351232)(a:∀ x∈l,0<=x/\x<256) :
  Sl (w.alloc (.cells (l.map (Value.int .u8)).toArray e)) (.slice (some ⟨g,0,none⟩) n n) l:=by
 subst b f;refine⟨⟨_,_,rfl,A' _,by simp,?_⟩,d,a⟩;refine .inr ⟨w.heap.size,0,rfl,by simp,λi c=>?_⟩;rw[cell_of_row _ _ (0+i) _ _ _ (heap_alloc_new w (.cells (l.map (Value.int .u8)).toArray e))];simp[List.getElem?_eq_getElem c,List.getD]
def zEn:Value:=.agg #[.int .i64 0,.int .i64 0,.int .i64 0,.int .i64 0,.int .i64 0,.int .i64 0,.int .i64 0,.slice none 0 0]
def tlA(s:Sto)(a:Option Addr)(n c:Nat):Array Value:=(stA s).push (.slice a n c)
theorem K4(c a:Int)(w:World)(G:0<=c)(H:c<2147483648)(a0:0<=a)(F:a<2147483648) :
  Calls prog 68 #[.agg #[.int .i64 c,.int .i64 a]] w λe w'=>∃ v',e=.returned v'/\w'.ownsRow w.heap.size 5 1 v' (Ab c++Ab a).length ((Ab c++Ab a).map (Value.int .u8))/\Bw w w':=by
 obtain⟨d,rfl⟩:=nH G;obtain⟨f,rfl⟩:=nH a0;have u:Bw w (w.alloc (.cells #[.int .i64 (d:Int),.int .i64 (f:Int)] 51)):=(Below.refl _ _).alloc (A' _) _;have s:=heap_alloc_new w (.cells #[.int .i64 (d:Int),.int .i64 (f:Int)] 51);generalize J:w.alloc (.cells #[.int .i64 (d:Int),.int .i64 (f:Int)] 51)=W at u s;have M:W.cell? ⟨w.heap.size,0,none⟩=some (.int .i64 (d:Int)):=cell_of_row _ _ 0 _ _ _ s;have N:W.cell? ⟨w.heap.size,1,none⟩=some (.int .i64 (f:Int)):=cell_of_row _ _ 1 _ _ _ s;have R:w.heap.size<=W.heap.size:=u.size;go_enter func68,ntmps68
 go_wp2_with fail
 clear J M N s
 go_loopw [3,11] (λv iv wr=>∃ i:Nat,i<=2/\iv=.int .i64 (i:Int)/\Hid (wr.ownsRow w.heap.size 5 1 v (([Ab (d:Int),Ab (f:Int)].take i).flatten).length ((([Ab (d:Int),Ab (f:Int)].take i).flatten).map (Value.int .u8)))/\Bw w wr) (λ_ iv _=>(2-intOf iv).toNat)
 case atStart=>exact⟨0,by omega,rfl,World.ownsRow_nil _ _ _ _,u⟩
 case round =>
  obtain⟨i,Q,rfl,h,g⟩:=hrel;have b:=h.out;clear h;have l:=b.lt;have A:=g.size;by_cases P:i<2
  .have hm:∃ m:Nat,(m:Int)<2147483648/\(∀ W,(Instr.index 192 (.agg #[.int .i64 (d:Int),.int .i64 (f:Int)]) (.int .i64 (i:Int))).run prog W=.ok (.int .i64 (m:Int)) W)/\([Ab (d:Int),Ab (f:Int)].take (i+1)).flatten=([Ab (d:Int),Ab (f:Int)].take i).flatten++Ab (m:Int):=by
    rcases(by omega:i=0\/i=1)with rfl|rfl
    .exact⟨d,H,λW=>by kernel_rfl,by simp⟩
    .exact⟨f,F,λW=>by kernel_rfl,by simp⟩
   obtain⟨m,L,z,o⟩:=hm;have B:Hid _:=o;have q:(([Ab (d:Int),Ab (f:Int)].take i).flatten).length<=8:=by
    rcases(by omega:i=0\/i=1)with rfl|rfl<;>simp[Ab]
   clear o;have I:(i:Int)<2:=by omega
   generalize ([Ab (d:Int),Ab (f:Int)].take i).flatten=pre at b B q;have D:(m:Int)/16777216%256=(m:Int)/16777216:=by omega
   have C:Hid ([(m:Int)/16777216,(m:Int)/65536%256,(m:Int)/256%256,(m:Int)%256]=Ab (m:Int)):=by
    show _=[_,_,_,_];rw[D]
   have n:∀ x∈[(m:Int)/16777216,(m:Int)/65536%256,(m:Int)/256%256,(m:Int)%256],0<=x/\x<256:=by rw[C.out];exact Aw _
   have t:Hid _:=n
   clear n D;go_wp2_with (at_builtin;refine Aa _ rfl _ _ 28 rfl w.heap.size 5 underlying28 Ax _ _ rfl rfl pre [(m:Int)/16777216,(m:Int)/65536%256,(m:Int)/256%256,(m:Int)%256] (b.alloc _) (Sl.tY _ _ _ rfl rfl (by simp) t.out) (by simp;omega) (by simp;omega) ?_)
   intro O E r p;have y:Bw w E:=(g.alloc A _).grown p (by simp;omega) (λk K=>(l k K).1);have j:Hid (E.ownsRow w.heap.size 5 1 O (([Ab (d:Int),Ab (f:Int)].take (i+1)).flatten).length ((([Ab (d:Int),Ab (f:Int)].take (i+1)).flatten).map (Value.int .u8))):=by
    unfold Hid;rw[B.out,<- C.out];simpa using r
   clear r p b l g z;go_wp2
   go_roundw
   case rel=>exact⟨i+1,by omega,by go_num,j,y⟩
   case measure=>simp[intOf];omega
  .obtain rfl:i=2:=by omega
   have j:Hid (wr.ownsRow w.heap.size 5 1 u3 (Ab (d:Int)++Ab (f:Int)).length ((Ab (d:Int)++Ab (f:Int)).map (Value.int .u8))):=by
    unfold Hid;simpa using b
   clear b l;go_wp2
   go_ret;exact⟨_,rfl,j.out,g⟩
theorem bP(a0:Option Addr)(c0:Nat)(d:List Int)(k c q n v C A:Int)(w:World)(hS:Sl w (.slice a0 32 c0) d)(hl:d.length=32)(he:Bg k c q n v=0)(C0:0<=C)(C1:C<2147483648)(A0:0<=A)(A1:A<2147483648)(hT:AC w)(hN:NTab w) :
  Calls prog 38 #[.slice a0 32 c0,.agg #[.int .i64 k,.int .i64 c,.int .i64 q,.int .i64 n,.int .i64 v],.agg #[.int .i64 C,.int .i64 A]] w λe w'=>∃ g cap,e=.returned (.tuple #[.slice (some ⟨g,0,none⟩) 32 cap,.int .i64 0])/\w.heap.size<=g/\So w' g cap (lnk d ⟨k,c,q,n,v⟩ C A)/\Bw w w':=by
 have W:Hid (d.length=32):=hl;clear hl;have a8:=hT;have a7:=hN;obtain⟨K,J⟩:∃ K,(w.alloc (.cells #[.int .i64 k,.int .i64 c,.int .i64 q,.int .i64 n,.int .i64 v] 25)).alloc (.cells #[.int .i64 C,.int .i64 A] 51)=K:=⟨_,rfl⟩;have o:K.heap[w.heap.size]?=some (.cells #[.int .i64 k,.int .i64 c,.int .i64 q,.int .i64 n,.int .i64 v] 25):=by rw[<- J];exact MA _ _ _
 have s:K.heap[w.heap.size+1]?=some (.cells #[.int .i64 C,.int .i64 A] 51):=by rw[<- J];exact MB _ _ _
 have P:Bw w K:=by rw[<- J];exact OB _ _ _
 have r:w.heap.size<K.heap.size:=(U'.1 o).1;have p:(w.heap.size+1)<K.heap.size:=(U'.1 s).1;have M:=hT.af P;have E:=hN.af P;have z:=hS.af P;go_enter func38,ntmps38
 go_wp2_with ((with_reducible (refine Ef ?_));(refine wpList_load_row rfl 25 _ rfl w.heap.size rfl 25 _ (0,0) _ o underlying25 rfl Uq ?_))
 clear J;have key:=Ly k c q n v K E;rw[he,OZ he]at key
 simp only[cmA]at key;refine(key).mono ?_;rintro e w1 ⟨v1,rfl,U,b⟩;have s1:=Sl.nn U (by rw[BE];omega) (Fj _ _ _ _ _);rw[BE]at U
 obtain⟨g1,c1,rfl⟩:=CD U;clear U key;have d1:=P.trans (b.mono P.size);have F:=M.af b;have G:=E.af b;have t:=(b.block _ r).trans o;have i:=Y' r b.size;have m:=(b.block _ p).trans s;have f:=Y' p b.size;have B:=z.af b;clear M E r o p s z;clear b;go_wp2_with ((with_reducible (refine Ef ?_));(refine wpList_load_row rfl 51 _ rfl (w.heap.size+1) rfl 51 _ (0,0) _ m underlying51 rfl gP ?_))
 refine(K4 C A w1 C0 C1 A0 A1).mono ?_;rintro e w2 ⟨v2,rfl,S,a⟩;have s2:=Sl.nn S (by simp[Ab]) (λx hx=>by rcases P'.1 hx with h|h;(· exact Aw _ x h);exact Aw _ x h);replace S:w2.ownsRow _ 5 1 v2 8 _:=S;obtain⟨g2,c2,rfl⟩:=CD S;clear S;have d2:=d1.trans (a.mono d1.size);have H:=F.af a;have I:=G.af a;have y:=(a.block _ i).trans t;have l:=Y' i a.size;have u:=(a.block _ f).trans m;have j:=Y' f a.size;have D:=B.af a;have N:=s1.af a;clear F G i t f m B s1;clear a;go_wp2_with fail
 refine(cR _ _ _ d (CS k c q n v) (Ab C++Ab A) w2 _ _ rfl D N s2 (by rw[W.out];omega) (by rw[BE];omega) (by simp[Ab]) (by rw[W.out];omega)).mono ?_;rintro e w3 ⟨v3,rfl,V,L⟩;have T:(d++(CS k c q n v++(Ab C++Ab A))).length=60:=by rw[H',W.out,H',BE];rfl
 have s3:=Sl.nn V (by rw[T];omega) (λx hx=>by rcases P'.1 hx with h|h;(· exact D.byte x h);rcases P'.1 h with h|h;(· exact Fj _ _ _ _ _ x h);rcases P'.1 h with h|h;(· exact Aw _ x h);exact Aw _ x h);rw[T]at V
 obtain⟨g3,c3,rfl⟩:=CD V;clear V;have Y:=d2.trans (L.mono d2.size);have O:=H.af L;have a6:=I.af L;have a5:=(L.block _ l).trans y;have a3:=Y' l L.size;have a4:=(L.block _ j).trans u;have a2:=Y' j L.size;clear H I l y j u;clear L;have R:(d++(CS k c q n v++(Ab C++Ab A))).length<=2000:=by rw[T];omega
 clear T;go_wp2_with fail
 refine(fi _ (d++(CS k c q n v++(Ab C++Ab A))) w3 s3 R O).mono ?_;rintro e w4 ⟨v4,rfl,o4,b4⟩;obtain⟨Z,c4,rfl,Q,s4⟩:=So.nn o4 (At _) (Dw _);have dd:=Y.trans (b4.mono Y.size);have a1:w.heap.size<=Z:=mT Y.size Q;have X:Hid (So w4 Z c4 (lnk d ⟨k,c,q,n,v⟩ C A)):=s4;clear s4 s3 b4 Q R o4;go_wp2
 go_ret2
 exact⟨Z,c4,rfl,a1,X.out,dd⟩
structure En where
 m:Cmd
 c:Int
 a:Int
 y:S3
 g:List Int
def enV(e:En):List Value:=[iv e.m.k,iv e.m.c,iv e.m.s,iv e.m.n,iv e.m.v,iv e.c,iv e.a,e.y.v]
def enL(E:List En):List Value:=E.flatMap enV
theorem Yr(E:List En)(e:En):enL (E++[e])=enL E++enV e:=by simp[enL]
def PO(g:Gh)(w:World)(E:List En):Prop:=∀ e∈E,FSl g w e.y e.g
variable{E:List En}
theorem PO.ch{B:Nat}{T:List Tg}{a:Gh}{b:World}(h:PO g w E)(c:Cg B T g w a b)(e:Tg.z∉T:=by simp):PO a b E:=λp d=>(h p d).ch c e
def Fa.oe(r:Nat)(x:S3)(E:List En):Fa:=⟨some r,λg w=>OwnS g w (.n 60 r) true 75 8 x (enL E)/\PO g w E,λhz hr c h=>⟨h.1.ch c (hr r rfl) (by simp),h.2.ch c hz⟩⟩
def Fa.sm(E:List En):Fa:=⟨none,λg w=>PO g w E,λhz _ c h=>h.ch c hz⟩
theorem PO.snoc(h:PO g w E){e:En}(k:FSl g w e.y e.g):PO g w (E++[e]):=λp a=>(P'.1 a).elim (h p) λq=>by rw[D'.1 q];exact k
def chQ(f:Nat->Cmd)(n:Nat)(E:List En):Prop:=E.map (λe=>(e.m,e.c,e.a,e.g))=(List.range n).map λi=>(f i,cAt f i,aAt f i,gAt f (i+1))
theorem chQ.len(h:chQ f n E):E.length=n:=by have:=congrArg List.length h;simpa using this
theorem chQ.snoc(h:chQ f n E)(y:S3):chQ f (n+1) (E++[⟨f n,cAt f n,aAt f n,y,gAt f (n+1)⟩]):=by
 unfold chQ;rw[nE,h,pf,nE];rfl
structure EnN(B:Nat)(w:World)(x:S3)(E:List En):Prop where
 o:OwN B w 75 8 x (enL E)
 d:∀ e∈E,Sl w e.y.v e.g/\Nb B e.y e.g
end
section
variable{P:Program}{fn:Func}{R:Ending->World->Prop}{w0:World}{Φ:List Fa}{g:Gh}{w:World}
theorem tMk{s:Xs}(i r c:Nat)(t e:TypeId)(j a:Nat)(z:Value)(Q:a*c<=281474976710656)(B:c<=maxLen)(K:Φ.all (λf=>f.ro != some r)=true)
  (J:∀ x' g' w',x'.n=0->GT P fn R w0 (Fa.ow r e j x' []::Φ) (nxt s i (S3.v x') s.L).s g' w')
  (M:P.underlying t=some (.slice e):=by kernel_rfl)(d:(P.info? e).map (λi=>(i.zero,i.size,i.bytes))=some (some z,j,a):=by kernel_rfl)
  (b:D2 s i=some (Instr.makeSlice t (.int .i64 0) (.int .i64 (c:Int))>>=λv=>pure (.value v)):=by kernel_rfl)(q:(nxt s i undef s.L).o.map Ob.l'=(nxt s i undef s.L).o.map Ob.r':=by kernel_rfl):GT P fn R w0 Φ s g w:=by
 refine⟨λF C=>KA i s.L q (BU b) λA O S o u=>?_⟩;obtain⟨y,I,N,x,p⟩:=info_parts d;have l:(c:Int)<=9223372036854775807:=by have h:=B;simp[maxLen]at h;omega
 have D:=run_make (P:=P) w t e y z M I N .i64 .i64 0 (c:Int) (mU _) (by omega) (by rw[p];have:((a*c:Nat):Int)<=281474976710656:=(by omega);rwa [q']at this) l;simp only[Int.toNat_zero,nI,x]at D;have E:Bw w (w.alloc (.cells (madeCells z.cells (c*j)) e)):=(Below.refl _ _).alloc (A' _) _;have H:OwN w.heap.size (w.alloc (.cells (madeCells z.cells (c*j)) e)) e j ⟨some ⟨w.heap.size,0,none⟩,0,c⟩ []:=⟨by simp,.inr ⟨w.heap.size,_,A' _,rfl,heap_alloc_new _ _,nG _,B,size_madeCells _ _,by simp⟩⟩;obtain⟨g',k,G,m,_⟩:=H.take E A.new r;refine⟨_,_,g',.inl ?_,A.ch (k w.heap.size) G (by simp),(J ⟨some ⟨w.heap.size,0,none⟩,0,c⟩ g' _ rfl).ex ⟨m,F.sq (k w0.heap.size)⟩ (C.trans ((k _).nil TQ))⟩;rw[D3 b u,Sem.run_bind,D,Result.andThen_ok];rfl
theorem qE6{B:Nat}{T:List Tg}{s:Xs}(u p m:Tmp)(c:TypeId)(i b:Nat)(a:Array Value)(v q:Value)(h:Kn B g w s.L->R (.returned (.tuple #[v,.agg a,q])) w)(H:(s.L[i]?).map (λx=>(x.g,CR x.o,Ee x.o))=some (b,a,true):=by kernel_rfl)(A:fn.results=#[.tmp u,.cell p c,.tmp m]:=by kernel_rfl)(D:s.f.act.tmps.getD p undef=pt b 0:=by kernel_rfl)(G:s.f.act.tmps.getD u undef=v:=by kernel_rfl)(k:s.f.act.tmps.getD m undef=q:=by kernel_rfl)(F:Ge P c=true:=by kernel_rfl)(C:(P.info? c).map (·.size)=some a.size:=by kernel_rfl)(E:Lz s.K=true:=by kernel_rfl):GG P fn R B T s g w :=
 S7 _ E (λK=>by
  obtain⟨e,y⟩:=K.tM H;obtain⟨d,r,t⟩:=GB F;have j:s.f.act.tmps[p]?.getD undef=.pointer (some ⟨b,0,none⟩):=by simpa using D
  rw[<- G,<- k];simp[results,A,j,asAddr,run_loadVar_row w b e c a (0,0) d y r (by cases d<;>first|rfl|cases t) C]) h
end
section
variable{A C K c k n v:Int}{W w:World}{a0:Option Addr}{b c0 off:Nat}{l sum:List Int}{m:Cmd}{s:Sto}{x:S3}{y:Operand}
theorem jG(f:NTab w)(i:Fg s)(h:m.e=0){S:Sto}{C A:Int}(g:dnS s m=S)(d:dnC s m=C)(b:dnA s m=A) :
  Calls prog 37 #[.agg (stA s),.agg #[iv m.k,iv m.c,iv m.s,iv m.n,iv m.v]] w λe w'=>e=.returned (.tuple #[.agg (stA S),.agg #[iv C,iv A],iv 0])/\Bw w w':=by
 subst g d b;have a:doE s m=0:=(Uv i).trans h;have:=gx s m w f
 rwa [a,OY a,Yf a,Yd a]at this
theorem fM(l:Sl w (.slice a0 32 c0) sum)(r:sum.length=32)(q:m.e=0)(i:(C=0\/C=7\/C=11)/\VaB A)(o:AC w)(j:NTab w) :
  Calls prog 38 #[.slice a0 32 c0,.agg #[iv m.k,iv m.c,iv m.s,iv m.n,iv m.v],.agg #[iv C,iv A]] w λe w'=>∃ za zc,e=.returned (.tuple #[.slice za 32 zc,iv 0])/\Sl w' (.slice za 32 zc) (lnk sum m C A)/\(∀ a,za=some a->w.heap.size<=a.block)/\Bw w w':=by
 unfold VaB at i;refine(bP a0 c0 sum m.k m.c m.s m.n m.v C A w l r q (by omega) (by omega) (by omega) (by omega) o j).mono ?_;rintro e w' ⟨g,b,rfl,d,f,h⟩;exact⟨_,_,rfl,f.sl,λa p=>by cases p;exact d,h⟩
theorem aL(h:w.heap[b]?=some (.cells (List.replicate 32 (Value.int .u8 0)).toArray 5)):Sl w (.slice (some ⟨b,0,none⟩) 32 32) (List.replicate 32 0):=by
 refine⟨⟨_,_,rfl,A' _,λe=>(by cases e),.inr ⟨b,0,rfl,rl h,λi a=>?_⟩⟩,by simp,λx c=>?_⟩
 .rw[cell_of_row _ _ _ _ _ _ h];have a:i<32:=by simpa using a
  simp only[nV,nM,List.getElem?_replicate,if_pos a,nu,qM]
 .obtain rfl:=pZ c;omega
theorem XB(w:World) :
  Calls prog 21 #[] w λe w'=>∃ za zc,e=.returned (.agg (tlA AP za 32 zc))/\Sl w' (.slice za 32 zc) (List.replicate 32 0)/\(∀ a,za=some a->w.heap.size<=a.block)/\Bw w w':=by
 refine tIn [] func21 trivial (tR 10 [1,0,1,0,0,0] λb _ _=>tX λF C=>Af λK=>?_);obtain⟨c,_,d,_⟩:=K.row _ (nw (show _[1]?=some ⟨(b 1),.cells (List.replicate 32 (Value.int .u8 0)).toArray 5,.l,true⟩from by kernel_rfl));exact qE1 0 72 0 (b 0) (tlA AP (some ⟨(b 1),0,none⟩) 32 32) λ_=>⟨_,_,rfl,aL c,λa f=>by cases f;exact d rfl,CgQ.af C⟩
theorem Wi(x:Sl w (.slice a0 32 c0) sum)(z:sum.length=32)(r:Fg s)(f:AnB s)(i:m.e=0)(y:AC w)(q:NTab w){S:Sto}{K A:Int}(d:dnS s m=S)(p:dnC s m=K)(l:dnA s m=A) :
  Calls prog 22 #[.agg (tlA s a0 32 c0),.agg #[iv m.k,iv m.c,iv m.s,iv m.n,iv m.v]] w λe w'=>∃ za zc,e=.returned (.tuple #[.agg #[iv m.k,iv m.c,iv m.s,iv m.n,iv m.v,iv K,iv A,.slice za 32 zc],.agg (tlA S za 32 zc),iv 0])/\Sl w' (.slice za 32 zc) (lnk sum m K A)/\(∀ a,za=some a->w.heap.size<=a.block)/\Bw w w':=by
 have o:=ko r f i;rw[p,l]at o
 refine tIn [] func22 trivial (tR 13 [0,0,0,0,1,0,1,0,0,1] λb _ _=>tC1 3 (λF C=>jG (q.af (CgQ.af C)) r i d p l) λ_=>tR 24 [1,0,1,0,4,0,5,0,0,1,5] λD _ _=>tF λ_ j=>tC 4 (λF C=>fM (x.af (CgQ.af C)) z i o (y.af (CgQ.af C)) (q.af (CgQ.af C))) λt=>?_);rintro _ _ ⟨za,zc,rfl,B,g,u⟩;refine⟨_,Fa.sl ⟨za,32,zc⟩ (lnk sum m K A)::_,rfl,u,λF=>⟨⟨B,λ_ a f=>t _ (g a f)⟩,F⟩,?_⟩;refine tR 21 [7,0,1,2,5,4,6,10] λE _ _=>Ij 4 7 ?_ ?_
 .refine tR 6 [4,12,15,2,0,17,3,0,18] λG _ _=>tX λF C=>qE5 4 5 6 75 72 2 (b 2) 3 (b 3) #[iv m.k,iv m.c,iv m.s,iv m.n,iv m.v,iv K,iv A,.slice za 32 zc] (tlA S za 32 zc) (iv 0) λ_=>⟨za,zc,rfl,F.1.s,λa h=>mT j.size (g a h),CgQ.af C⟩
 .refine tR 6 [2,0,9,4,12,17,3,0,18] λH _ _=>tX λF C=>qE5 4 5 6 75 72 2 (b 2) 3 (b 3) #[iv m.k,iv m.c,iv m.s,iv m.n,iv m.v,iv K,iv A,.slice za 32 zc] (tlA S za 32 zc) (iv 0) λ_=>⟨za,zc,rfl,F.1.s,λa h=>mT j.size (g a h),CgQ.af C⟩
theorem PZ{l:List Cmd}(h:RdV w x 5 (cmL l))(hl:l.length<=200)(he:∀ c∈l,c.e=0)(hT:AC w)(hN:NTab w){f:Nat->Cmd}(hf:∀ i c,l[i]?=some c->f i=c) :
  Calls prog 10 #[x.v] w λe w'=>∃ z E,e=.returned (.tuple #[S3.v z,.agg (stA (sAt f l.length)),iv 0])/\chQ f l.length E/\EnN w.heap.size w' z E/\Bw w w':=by
 have hx:=cN h;have W:∀ j,j<l.length->(f j).e=0:=λj X=>by rw[hf j _ (E' X)];exact he _ (nK X)
 refine tIn [Fa.zv x 5 (cmL l)] func10 ⟨h.fz,trivial⟩ (tR 13 [1,0] λb _ _=>tI ((decide (200<(x.n:Int)))) false (G' (by omega)) (tR 3 [] λa7 _ _=>tF λ_ N=>?_));have Y:=N.size;refine tC 0 (λF C=>XB _) λO=>?_;rintro _ _ ⟨r,zc,rfl,hz,hb,b3⟩;refine⟨_,Fa.sl ⟨r,32,zc⟩ (gAt f 0)::_,rfl,b3,λF=>⟨⟨hz,λ_ a q=>O _ (hb a q)⟩,F⟩,?_⟩;refine tR 7 [1,0,1,0] λm _ _=>tMk 2 0 x.n 48 75 8 80 zEn (by omega) (by unfold maxLen;omega) rfl (λy5 _ _ n5=>?_);refine tR 10 [] λa8 _ _=>Ea 46 [(20,S3.v x),(21,iv (x.n:Int)),(22,iv 0),(3,pt (b 0) 0),(5,pt (m 0) 0),(6,S3.v y5)] [true,true] [⟨(b 0),.cells #[iv 0,iv 0,iv 0,iv 0,iv 0,iv 0,iv 0,iv 0,iv 0,iv 0,iv 0,iv 0,iv 0,iv 0,iv 0,iv 0,iv 0,iv 0,iv 0,iv 0,iv 0,iv 0,iv 0,iv 0,iv 0,iv 0,iv 0,iv 0,iv 0,iv 0,iv 0,iv 0,.bool false,.bool false,.bool false,.bool false,.bool false,.bool false,.bool false,.bool false] 55,.l,false⟩,⟨(m 0),.cells #[iv (AP.V 0),iv (AP.V 1),iv (AP.V 2),iv (AP.V 3),iv (AP.V 4),iv (AP.V 5),iv (AP.V 6),iv (AP.V 7),iv (AP.L 0),iv (AP.L 1),iv (AP.L 2),iv (AP.L 3),iv (AP.L 4),iv (AP.L 5),iv (AP.L 6),iv (AP.L 7),iv (AP.C 0),iv (AP.A 0),iv (AP.C 1),iv (AP.A 1),iv (AP.C 2),iv (AP.A 2),iv (AP.C 3),iv (AP.A 3),iv (AP.C 4),iv (AP.A 4),iv (AP.C 5),iv (AP.A 5),iv (AP.C 6),iv (AP.A 6),iv (AP.C 7),iv (AP.A 7),.bool (AP.R 0),.bool (AP.R 1),.bool (AP.R 2),.bool (AP.R 3),.bool (AP.R 4),.bool (AP.R 5),.bool (AP.R 6),.bool (AP.R 7),.slice r 32 zc] 72,.l,false⟩] [Fa.oe 0 y5 [],Fa.sl ⟨r,32,zc⟩ (gAt f 0),Fa.zv x 5 (cmL l)] (λkk ee LL M=>∃ (i:Nat) (y:S3) (E:List En) (r:Option Addr) (zc:Nat),kk=x.n-i/\ee=[(20,S3.v x),(21,iv (x.n:Int)),(22,iv (i:Int)),(3,pt (b 0) 0),(5,pt (m 0) 0),(6,S3.v y)]/\LL=[⟨(b 0),.cells (stA AP) 55,.l,false⟩,⟨(m 0),.cells (tlA (sAt f i) r 32 zc) 72,.l,false⟩]/\M=[Fa.oe 0 y E,Fa.sl ⟨r,32,zc⟩ (gAt f i),Fa.zv x 5 (cmL l)]/\i<=l.length/\y.n=i/\chQ f i E/\(∀ e∈E,Nb w.heap.size e.y e.g)/\∀ a,r=some a->w.heap.size<=a.block) (x.n) ⟨0,y5,[],r,zc,rfl,rfl,rfl,rfl,by omega,n5,rfl,λ_ h=>(by cases h),λa q=>mT Y (hb a q)⟩ (λF=>⟨⟨F.1,λ_ h=>(by cases h)⟩,F.2⟩) ?_;rintro k _ _ _ ⟨i,y,E,r,zc,rfl,rfl,rfl,rfl,hi,hy,Q,D,a5⟩ _ _ _ J hJ;refine tR 5 [] λa9 _ _=>?_;by_cases h1:i<l.length
 .refine tI ((decide ((i:Int)<(x.n:Int)))) true (O' (by omega)) ?_;obtain⟨c,T⟩:∃ c,l[i]?=some c:=⟨_,E' (by omega)⟩;have d:=hf i c T;have U:=he c (nw T);have a4:=Q.len;obtain⟨sB,sA⟩:=eT (f:=f) (i:=i) λj X=>W j (by omega);refine tF λF _=>?_;obtain⟨bx,ox,H⟩:=F.2.2.1.rd.rc.addr (k:=i) (by omega);refine tR 5 [] λb0 _ _=>tV 0 (pt bx (ox+5*i)) (λF C=>(Mh H i (by omega))) (tV 1 (.agg #[iv c.k,iv c.c,iv c.s,iv c.n,iv c.v]) (λF C=>(T9 c λq_ u Z=>F.2.2.1.rd.rc.cellAt H T Z)) (tR 7 [0,0,2,0,1,2] λa0 _ _=>tF λF N=>?_));have G:=N.size;refine tC 2 (λF C=>Wi F.2.1.s (S5 f i) sB sA U (hT.af (CgQ.af C)) (hN.af (CgQ.af C)) (S:=sAt f (i+1)) (K:=cAt f i) (A:=aAt f i) (by rw[<- d];rfl) (by rw[<- d];rfl) (by rw[<- d];rfl)) λO=>?_;rintro _ _ ⟨o,p,rfl,Z,B,P⟩;refine⟨_,Fa.sl ⟨o,32,p⟩ (gAt f (i+1))::_,rfl,P,λF=>⟨⟨by rw[show gAt f (i+1)=lnk (gAt f i) c (cAt f i) (aAt f i)from by rw[<- d];rfl];exact Z,λ_ a q=>O _ (B a q)⟩,F⟩,?_⟩;refine tR 23 [0,0,0,0,3,0,4,0,6,0,2,3,8,4,5,0,0] λt _ _=>tCv [Fa.ow 0 75 8 y (enL E),Fa.sm E,Fa.sl ⟨o,32,p⟩ (gAt f (i+1)),Fa.zv x 5 (cmL l)] (λF=>⟨F.2.1.1,F.2.1.2,F.1,F.2.2.2.1,trivial⟩) (NA 3 0 (x:=y) 48 48 75 8 80 (zEn) ⟨(t 2),0,none⟩ 1 1 [iv c.k,iv c.c,iv c.s,iv c.n,iv c.v,iv (cAt f i),iv (aAt f i),.slice o 32 p] (λF=>F.1) [Fa.sm E,Fa.sl ⟨o,32,p⟩ (gAt f (i+1)),Fa.zv x 5 (cmL l)] (λF=>⟨F.2.1,F.2.2.1,F.2.2.2.1,trivial⟩) rfl (by simp[TQ]) rfl (by simp[Value.oneCell']) (λF K=>Cx K 5 (t 2) [iv c.k,iv c.c,iv c.s,iv c.n,iv c.v,iv (cAt f i),iv (aAt f i),.slice o 32 p] 75 .z true (by kernel_rfl)) (by unfold maxLen;omega) (by omega) λI _ _ a6=>tCv [Fa.oe 0 I (E++[⟨c,cAt f i,aAt f i,⟨o,32,p⟩,gAt f (i+1)⟩]),Fa.sl ⟨o,32,p⟩ (gAt f (i+1)),Fa.zv x 5 (cmL l)] (λF=>⟨⟨Yr E _▸F.1,F.2.1.snoc (e:=⟨c,cAt f i,aAt f i,⟨o,32,p⟩,gAt f (i+1)⟩) F.2.2.1⟩,F.2.2⟩) (tR 5 [10,13,1,0] λa1 _ _=>tV 0 (iv ((i:Int)+1)) (λF C=>(Be 22 (i:Int) underlying3 (by omega))) (tR 2 [] λa2 _ _=>tB hJ (x.n-(i+1)) (by omega) [true,true,false,false,false,false] (L':=[⟨(b 0),.cells (stA AP) 55,.l,false⟩,⟨(m 0),.cells #[iv ((sAt f (i+1)).V 0),iv ((sAt f (i+1)).V 1),iv ((sAt f (i+1)).V 2),iv ((sAt f (i+1)).V 3),iv ((sAt f (i+1)).V 4),iv ((sAt f (i+1)).V 5),iv ((sAt f (i+1)).V 6),iv ((sAt f (i+1)).V 7),iv ((sAt f (i+1)).L 0),iv ((sAt f (i+1)).L 1),iv ((sAt f (i+1)).L 2),iv ((sAt f (i+1)).L 3),iv ((sAt f (i+1)).L 4),iv ((sAt f (i+1)).L 5),iv ((sAt f (i+1)).L 6),iv ((sAt f (i+1)).L 7),iv ((sAt f (i+1)).C 0),iv ((sAt f (i+1)).A 0),iv ((sAt f (i+1)).C 1),iv ((sAt f (i+1)).A 1),iv ((sAt f (i+1)).C 2),iv ((sAt f (i+1)).A 2),iv ((sAt f (i+1)).C 3),iv ((sAt f (i+1)).A 3),iv ((sAt f (i+1)).C 4),iv ((sAt f (i+1)).A 4),iv ((sAt f (i+1)).C 5),iv ((sAt f (i+1)).A 5),iv ((sAt f (i+1)).C 6),iv ((sAt f (i+1)).A 6),iv ((sAt f (i+1)).C 7),iv ((sAt f (i+1)).A 7),.bool ((sAt f (i+1)).R 0),.bool ((sAt f (i+1)).R 1),.bool ((sAt f (i+1)).R 2),.bool ((sAt f (i+1)).R 3),.bool ((sAt f (i+1)).R 4),.bool ((sAt f (i+1)).R 5),.bool ((sAt f (i+1)).R 6),.bool ((sAt f (i+1)).R 7),.slice o 32 p] 72,.l,false⟩]) ⟨i+1,I,_,o,p,rfl,rfl,rfl,rfl,by omega,by omega,d▸Q.snoc _,λe h=>(P'.1 h).elim (D e) λg=>by rw[D'.1 g];exact λ_ a q=>mT G (B a q),λa q=>mT G (B a q)⟩ (λF=>F))))
 .refine tI ((decide ((i:Int)<(x.n:Int)))) false (G' (by omega)) ?_;obtain rfl:i=l.length:=by omega
  refine tR 10 [4,0,2,4,1,6,9,0,0,10] λa3 _ _=>tX λF C=>qE6 2 3 4 55 0 (b 0) (stA (sAt f l.length)) (S3.v y) (iv 0) λ_=>⟨y,E,rfl,Q,⟨F.1.1.own C,λe h=>⟨(F.1.2 e h).s,D e h⟩⟩,CgQ.af C⟩
theorem FE{P:Program}{d c:Nat}{e:TypeId}{a:Array Value}:∀ l:List Nat,(∀ i∈l,∃ v,(part e a (i*c)).run P w=.ok v w/\(Op.equalIn d e v v).run P w=.ok true w)->(Op.eqItems d e c a a l).run P w=.ok true w
 | [],_=>by simp[Op.eqItems]
 | i::l,h=>by
  obtain⟨v,h1,h2⟩:=h i (M' ..);have f:=FE l (λj b=>h j (I' _ b));simp[Op.eqItems,Sem.run_bind,h1,h2,f,Result.andThen_ok]
theorem fG(f:Nat->Int)(i:Nat)(a:i<8)(w:World):(part 3 (vaA f) (i*1)).run prog w=.ok (.int .i64 (f i)) w:=by
 rcases(by omega:i=0\/i=1\/i=2\/i=3\/i=4\/i=5\/i=6\/i=7)with rfl|rfl|rfl|rfl|rfl|rfl|rfl|rfl
 all_goals kernel_rfl
theorem Vm(f:Nat->Int)(d:Nat)(w:World):(Op.equalIn (d+2) 49 (.agg (vaA f)) (.agg (vaA f))).run prog w=.ok true w:=by
 rw[run_equalIn_array (P:=prog) w (d+1) (t:=49) (e:=3) (n:=8) (vaA f) (vaA f) underlying49 (show prog.info? 3=some _ from rfl)];rw[show prog.cellsOf 3=1 by kernel_rfl];refine FE _ (λi a=>⟨.int .i64 (f i),?_,?_⟩)
 .exact fG f i (by simpa using a) w
 .rw[run_equalIn_int w d 3 .i64 .i64 _ _ underlying3];simp
def boA(f:Nat->Bool):Array Value:=#[.bool (f 0),.bool (f 1),.bool (f 2),.bool (f 3),.bool (f 4),.bool (f 5),.bool (f 6),.bool (f 7)]
theorem cG(f:Nat->Bool)(i:Nat)(a:i<8)(w:World):(part 4 (boA f) (i*1)).run prog w=.ok (.bool (f i)) w:=by
 rcases(by omega:i=0\/i=1\/i=2\/i=3\/i=4\/i=5\/i=6\/i=7)with rfl|rfl|rfl|rfl|rfl|rfl|rfl|rfl
 all_goals kernel_rfl
theorem cH(f:Nat->Bool)(d:Nat)(w:World):(Op.equalIn (d+2) 53 (.agg (boA f)) (.agg (boA f))).run prog w=.ok true w:=by
 rw[run_equalIn_array (P:=prog) w (d+1) (t:=53) (e:=4) (n:=8) (boA f) (boA f) underlying53 (show prog.info? 4=some _ from rfl)];rw[show prog.cellsOf 4=1 by kernel_rfl];refine FE _ (λi a=>⟨.bool (f i),?_,?_⟩)
 .exact cG f i (by simpa using a) w
 .rw[run_equalIn_bool w d 4 _ _ underlying4];simp
def anA(c a:Nat->Int):Array Value:=#[.int .i64 (c 0),.int .i64 (a 0),.int .i64 (c 1),.int .i64 (a 1),.int .i64 (c 2),.int .i64 (a 2),.int .i64 (c 3),.int .i64 (a 3),.int .i64 (c 4),.int .i64 (a 4),.int .i64 (c 5),.int .i64 (a 5),.int .i64 (c 6),.int .i64 (a 6),.int .i64 (c 7),.int .i64 (a 7)]
theorem gQ(c a:Int)(d:Nat)(w:World):(Op.equalIn (d+2) 51 (.agg #[.int .i64 c,.int .i64 a]) (.agg #[.int .i64 c,.int .i64 a])).run prog w=.ok true w:=by
 rw[run_equalIn_agg w (d+1) _ _ _ (by kernel_rfl) (by kernel_rfl)];unfold Program.fieldsOf;rw[underlying51];have b:=underlying3;have e:=underlying29;simp[Op.eqFields,go_sem,b,e]
theorem co(c a:Nat->Int)(i:Nat)(b:i<8)(w:World):(part 51 (anA c a) (i*2)).run prog w=.ok (.agg #[.int .i64 (c i),.int .i64 (a i)]) w:=by
 rcases(by omega:i=0\/i=1\/i=2\/i=3\/i=4\/i=5\/i=6\/i=7)with rfl|rfl|rfl|rfl|rfl|rfl|rfl|rfl
 all_goals kernel_rfl
theorem cx(c a:Nat->Int)(d:Nat)(w:World):(Op.equalIn (d+3) 52 (.agg (anA c a)) (.agg (anA c a))).run prog w=.ok true w:=by
 rw[run_equalIn_array (P:=prog) w (d+2) (t:=52) (e:=51) (n:=8) (anA c a) (anA c a) underlying52 (show prog.info? 51=some _ from rfl)];rw[show prog.cellsOf 51=2 by kernel_rfl];refine FE _ (λi b=>⟨.agg #[.int .i64 (c i),.int .i64 (a i)],?_,gQ _ _ _ _⟩);exact co c a i (by simpa using b) w
theorem fc(s:Sto)(d:Nat)(w:World):(Op.equalIn (d+4) 55 (.agg (stA s)) (.agg (stA s))).run prog w=.ok true w:=by
 rw[run_equalIn_agg w (d+3) _ _ _ (by kernel_rfl) (by kernel_rfl)];unfold Program.fieldsOf;rw[underlying55];have f:(part 49 (stA s) 0).run prog w=.ok (.agg (vaA s.V)) w:=by kernel_rfl
 have p1:(part 49 (stA s) 8).run prog w=.ok (.agg (vaA s.L)) w:=by kernel_rfl
 have g:(part 52 (stA s) 16).run prog w=.ok (.agg (anA s.C s.A)) w:=by kernel_rfl
 have h:(part 53 (stA s) 32).run prog w=.ok (.agg (boA s.R)) w:=by kernel_rfl
 have a:=Vm s.V (d+1) w;have b:=Vm s.L (d+1) w;have c:=cx s.C s.A d w;have e:=cH s.R (d+1) w;simp[Op.eqFields,Sem.run_bind,f,p1,g,h,a,b,c,e,Result.andThen_ok]
theorem iy(s:Sto):∀ w,(binOp .eql 55 (.agg (stA s)) (.agg (stA s))).run prog w=.ok (.bool true) w:=by
 intro w;rw[run_eql_struct,fc s 9996 w];rfl
theorem PN{a:Int}(h:I64 n)(d:pick n a=c)(f:0<a:=by decide)(b:a<=9223372036854775807:=by decide) :
  Calls prog 6 #[iv n,iv a] w λe w'=>e=.returned (iv c)/\Bw w w':=by subst d;exact Vx h a f b
theorem kZ{g i j s m:Int}(h:paE n g i j k c s m v=0){now:Int}(o:EN g i j k c s m v now=0):opE (paL n g i j k c s m v) now=0/\DX (paL n g i j k c s m v) now=⟨k,c,s,m,v⟩:=by
 have p:=ep h now;have r:=p.1.trans o;refine⟨r,?_⟩;have l:=p.2;rw[if_pos o,ZE]at l
 simp only[cmC,cmA,Array.mk.injEq,py,Value.int.injEq,true_and,and_true]at l;obtain⟨a,b,d,e,f⟩:=l;generalize DX (paL n g i j k c s m v) now=q at a b d e f;obtain⟨u,t,x,w,y⟩:=q;simp only at a b d e f;subst a b d e f;rfl
theorem ec{g:Gh}{a:Lac}{d:S3}(k:FSl g w d a.d):Dat g w [(a,d)]:=λp b=>by rw[D'.1 b];exact k
theorem lC(c:x.a=some ⟨b,off,none⟩){j:Int}(f:0<=j)(d:j<(x.n:Int)):(Instr.indexAt 24 x.v (iv j)).run prog W=.ok (pt b (off+j.toNat)) W:=by
 obtain⟨k,rfl⟩:∃ k:Nat,j=(k:Int):=⟨j.toNat,by omega⟩;obtain⟨h,g,i⟩:=x;simp only at c d;subst c;rw[nI];exact Nq (P:=prog) (e:=3) (z:=1) underlying24 (by kernel_rfl) (by kernel_rfl) (show k<g by omega) _ (by rw[rG])
theorem YK(h:RdV w x 1 (l.map iv))(d:0<x.n):∃ b off,x.a=some ⟨b,off,none⟩:=by
 obtain⟨b,off,c,_⟩:=h.spot (i:=0) d;exact⟨b,off,c⟩
theorem dF(h:RdV w x 1 (l.map iv)){b c:Nat}(m:x.a=some ⟨b,c,none⟩){j:Int}(k:0<=j)(q:j<(x.n:Int)):w.cell? ⟨b,c+j.toNat,none⟩=some (iv (l.getD j.toNat 0)):=by
 have r:x.n=l.length:=by have:=h.len;rw[nr]at this;omega
 obtain⟨o,f,d,p,g⟩:=h.spot (i:=0) (by omega);rw[m]at d;cases d
 have e:j.toNat<l.length:=by omega
 have:=g j.toNat (iv (l.getD j.toNat 0)) (by rw[rW,nM,nP,E' e,nu,E' e];rfl)
 rwa [rW,pl]at this
theorem iD(h:∀ a∈l,I64 a)(i:Nat):I64 (l.getD i 0):=by
 rw[nu];cases hh:l[i]? with
 | none=>unfold I64;decide
 | some a=>exact h a (nw hh)
theorem Zh{N:Meet}{A:List Cmd}(h:∀ j,j<5->N.log j=A):((lgN N 5).map N.log).getD []=A:=by
 cases hh:lgN N 5 with
 | some j=>exact h j (Zf hh)
 | none =>
  refine pS λa=>?_;have b:0<A.length:=rz λe=>a (X' e).symm;have key:∀ n,n<5->lgN N (n+1)≠none:=by
   intro n;induction n with
   | zero=>intro _ e;rw[lgN,h 0 (by omega)]at e;simp[lgN,b]at e
   | succ n ih =>
    intro c e;rw[lgN]at e
    split at e
    .cases e
    .exact ih (by omega) e
  exact key 4 (by omega) hh
theorem l7{x:Operand}(s:Sto):(do Go.eqGuard .eql 55 x y (.agg (stA s)) (.agg (stA s));Go.binOp .eql 55 (.agg (stA s)) (.agg (stA s)):Sem Value).run prog W=.ok (.bool true) W:=by
 have a:(Go.eqGuard .eql 55 x y (.agg (stA s)) (.agg (stA s))).run prog W=.ok () W:=by kernel_rfl
 rw[Sem.run_bind,a,Result.andThen_ok];exact iy s W
theorem lw{x:Operand}(r:Bool):(do Go.eqGuard .eql 4 x y (.bool r) (.bool r);Go.binOp .eql 4 (.bool r) (.bool r):Sem Value).run prog W=.ok (.bool true) W:=by
 cases r<;>kernel_rfl
theorem jN{s S N V:Int}(i:I64 k)(h:I64 c)(l:I64 s)(j:I64 n)(m:I64 v)(a:wK k=K)(b:pick c 4=C)(d:pick s 6=S)(f:pick n 4=N)(g:wV k v=V) :
  Calls prog 4 #[.agg #[iv k,iv c,iv s,iv n,iv v]] w λe w'=>e=.returned (.agg #[iv K,iv C,iv S,iv N,iv V])/\Bw w w':=by subst a b d f g;exact RF i h l j m
theorem PF{ck cc cs cn cv ld:Int}{to:S3}{H:List Int}(hk:I64 ck)(hc:I64 cc)(hs:I64 cs)(hn:I64 cn)(hv:I64 cv)(h1:RdV w to 1 (H.map iv))(d1:∀ a∈H,I64 a)(d4:I64 ld)(hT:Vy w) :
  Calls prog 3 #[.agg #[iv ck,iv cc,iv cs,iv cn,iv cv],to.v,iv ld] w λe w'=>e=.returned (.bool true)/\Bw w w':=by
 have d8:=C6 cc 4 (by omega);have g3:=C6 cs 6 (by omega);have d9:=RD ck;have rl:=C6 ld 5 (by omega);obtain⟨q,e0,b7⟩:∃ q:Nat,pick ld 5=(q:Int)/\q<5:=⟨(pick ld 5).toNat,by omega,by omega⟩;have k1:Bg (wK ck) (pick cc 4) (pick cs 6) (pick cn 4) (wV ck cv)=0:=fS ck cn cv (pick cc 4) (pick cs 6) (by omega) (by omega);obtain⟨K1,a6⟩:∃ x,wK ck=x:=⟨_,rfl⟩;obtain⟨u,a5⟩:∃ x,pick cc 4=x:=⟨_,rfl⟩;obtain⟨O,b2⟩:∃ x,pick cs 6=x:=⟨_,rfl⟩;obtain⟨M,b0⟩:∃ x,pick cn 4=x:=⟨_,rfl⟩;obtain⟨Q,b4⟩:∃ x,wV ck cv=x:=⟨_,rfl⟩;rw[a6,a5,b2,b0,b4]at k1
 rw[a6]at d9
 rw[a5]at d8
 have t1:Dv u 7 60:=by unfold Dv;omega
 have r1:KZ K1 7:=by unfold KZ;omega
 have pi:∀ i:Nat,i<4->paE (i:Int) u 7 60 K1 u O M Q=0:=λi hi=>by rw[iZ ⟨by omega,by omega⟩ (Ji t1)];exact k1
 obtain⟨I,b5⟩:∃ I:Nat->List Int,∀ i:Nat,paL (i:Int) u 7 60 K1 u O M Q=I i:=⟨λi=>paL (i:Int) u 7 60 K1 u O M Q,λ_=>rfl⟩;obtain⟨c,Y⟩:∃ c,(⟨K1,u,O,M,Q⟩:Cmd)=c:=⟨_,rfl⟩;have oi:∀ i:Nat,i<4->opE (I i) 0=0/\DX (I i) 0=c/\(I i).length=63:=λi hi=>by
  have h:=kZ (pi i hi) (now:=0) (Uk t1 k1 ⟨r1,rfl⟩ ⟨by decide,by decide⟩);have h2:=Ts (pi i hi);rw[b5]at h h2
  exact⟨h.1,h.2.trans Y,h2⟩
 have d3:c.e=0:=by rw[<- Y];exact k1
 refine tIn [Fa.zv to 1 (H.map iv)] func3 ⟨h1.fz,trivial⟩ (tR 8 [1,0,0] λg8 _ _=>tC1 1 (λF C=>jN hk hc hs hn hv a6 a5 b2 b0 b4) λ_=>tR 16 [1,0,1,0] λs _ _=>tF λF _=>?_);have g5:to.n=H.length:=by have:=F.1.rd.len;rw[nr]at this;omega
 refine Ii 113 (λee LL o=>∃ (S:S3) (P:List (Lac × S3)),ee=[(2,iv ld),(7,pt (s 0) 0),(8,S3.v S),(9,iv (P.length:Int))]/\LL=[⟨(s 0),.cells #[iv K1,iv u,iv O,iv M,iv Q] 25,.l,false⟩]/\o=[Fa.oa 0 S P]/\S.n=P.length/\P.length<=4/\∀ x∈P.map (·.1),LacOk x/\x.k=1/\opE x.d 0=0/\DX x.d 0=c) (λJ hJ=>?_) ?_
 .refine tR 1 [] λg9 _ _=>Ea 113 [(1,S3.v to),(2,iv ld),(7,pt (s 0) 0),(8,sn),(9,iv 0),(10,iv 0)] [false,true] [⟨(s 0),.cells #[iv K1,iv u,iv O,iv M,iv Q] 25,.l,false⟩] [Fa.zv to 1 (H.map iv),Fa.oa 0 s30 []] (λkk ee LL o=>∃ (S:S3) (P:List (Lac × S3)),kk=4-P.length/\ee=[(1,S3.v to),(2,iv ld),(7,pt (s 0) 0),(8,S3.v S),(9,iv (P.length:Int)),(10,iv (P.length:Int))]/\LL=[⟨(s 0),.cells #[iv K1,iv u,iv O,iv M,iv Q] 25,.l,false⟩]/\o=[Fa.zv to 1 (H.map iv),Fa.oa 0 S P]/\S.n=P.length/\P.length<=4/\∀ x∈P.map (·.1),LacOk x/\x.k=1/\opE x.d 0=0/\DX x.d 0=c) (4) ⟨s30,[],rfl,rfl,rfl,rfl,rfl,nG _,λx G=>by cases G⟩ (λF=>⟨F.1,⟨OwnS.nil _ _ _ _ _ _,λp hp=>by cases hp⟩,trivial⟩) ?_;rintro k _ _ _ ⟨S,P,rfl,rfl,rfl,rfl,a8,a7,D⟩ _ _ _ Ja c9;refine tR 6 [] λh0 _ _=>?_;by_cases h2:P.length<H.length
  .refine tV 3 (.bool true) (λF C=>(rLt (t:=3) (m:=(P.length:Int)) (n:=(to.n:Int)) (x:=(.tmp 25)) (y:=(.tmp 27)) (O' (by omega)))) (tR 5 [] λh4 _ _=>?_);by_cases h3:P.length<4
   .refine tI ((decide ((P.length:Int)<4))) true (O' (by omega)) ?_;obtain⟨ox,qx,lx⟩:=oi P.length (by omega);refine tF λF _=>?_;obtain⟨b,e1,c0⟩:=YK F.1.rd (by omega);have d2:=iD d1 (P.length:Int).toNat;have rn:=C6 (H.getD (P.length:Int).toNat 0) 5 (by omega);obtain⟨n,d5,d6⟩:∃ n:Nat,pick (H.getD (P.length:Int).toNat 0) 5=(n:Int)/\n<5:=⟨(pick (H.getD (P.length:Int).toNat 0) 5).toNat,by omega,by omega⟩;refine tR 10 [0,0] λh6 _ _=>tC 5 (λF C=>eq (pi P.length (by omega)) (tbA hT.1 C)) λNz=>?_;rintro _ _ ⟨W,rfl,G,c1,b8⟩;refine⟨_,Fa.sl W (I P.length)::_,rfl,b8,λF=>⟨by rw[b5]at G c1;exact DF G c1 Nz,F⟩,?_⟩;refine tR 19 [] λh7 _ _=>tV 3 (pt b (e1+(P.length:Int).toNat)) (λF C=>(lC c0 (by omega) (by omega))) (tF λF _=>tV 4 (iv (H.getD (P.length:Int).toNat 0)) (λF C=>(D1 underlying3 rfl (dF F.2.1.rd c0 (by omega) (by omega)))) (tC1 5 (λF C=>PN d2 d5) λ_=>tR 3 [0,0] λa1 _ _=>NA 9 0 (x:=S) 27 27 36 5 56 zLa ⟨(a1 0),0,none⟩ 1 1 [iv 1,iv (n:Int),iv 0,iv 0,S3.v W] (λF=>F.2.2.1.1) [Fa.zv to 1 (H.map iv),Fa.dt (P++[(P8 n (I P.length),W)])] (λF=>⟨F.2.1,Dat.app F.2.2.1.2 (ec F.1),trivial⟩) rfl (by simp[TQ]) rfl (by simp[Value.oneCell']) (λF K=>Cx K 1 (a1 0) [iv 1,iv (n:Int),iv 0,iv 0,S3.v W] 36 .z true (by kernel_rfl)) (by unfold maxLen;omega) (by omega) λe2 _ _ g6=>tCv [Fa.zv to 1 (H.map iv),Fa.oa 0 e2 (P++[(P8 n (I P.length),W)])] (λF=>⟨F.2.1,⟨(by rw[Gi];exact F.1),F.2.2.1⟩,trivial⟩) ?_));have b1:(P++[(P8 n (I P.length),W)]).length=P.length+1:=by rw[H'];rfl
    refine tR 4 [] λe5 _ _=>tV 1 (iv ((P++[(P8 n (I P.length),W)]).length:Int)) (λF C=>(by rw[b1];exact Be 56 (P.length:Int) underlying3 (by omega))) (tR 5 [] λe6 _ _=>tV 1 (iv ((P++[(P8 n (I P.length),W)]).length:Int)) (λF C=>(by rw[b1];exact Be 33 (P.length:Int) underlying3 (by omega))) (tR 2 [] λe7 _ _=>?_));exact tB c9 (4-(P++[(P8 n (I P.length),W)]).length) (by omega) [true,false] ⟨_,(P++[(P8 n (I P.length),W)]),rfl,rfl,rfl,rfl,by omega,by omega,λx G=>by
     rw[nE]at G
     rcases P'.1 G with e|e
     .exact D x e
     .rw[D'.1 e];exact⟨fg d6 (by omega),rfl,ox,qx⟩⟩ (λF=>⟨F.1,F.2.1,trivial⟩)
   .refine tI ((decide ((P.length:Int)<4))) false (G' (by omega)) (tR 1 [] λe8 _ _=>tD hJ [true] ⟨S,P,rfl,rfl,rfl,a8,a7,D⟩ (λF=>⟨F.2.1,trivial⟩))
  .refine tV 3 (.bool false) (λF C=>(rLt (t:=3) (m:=(P.length:Int)) (n:=(to.n:Int)) (x:=(.tmp 25)) (y:=(.tmp 27)) (G' (by omega)))) (tR 7 [] λe9 _ _=>tD hJ [true] ⟨S,P,rfl,rfl,rfl,a8,a7,D⟩ (λF=>⟨F.2.1,trivial⟩))
 rintro _ _ _ ⟨S,P,rfl,rfl,rfl,a8,a7,D⟩ _ _ _;obtain⟨L,hL⟩:∃ L,P.map (·.1)=L:=⟨_,rfl⟩;rw[hL]at D
 have X:L.length=P.length:=by rw[<- hL,nr]
 have g4:=Ms L (q:Int);have a0:∀ x∈L,LacOk x:=λx G=>(D x G).1;have d7:∀ x∈L++D4 L (q:Int),LacOk x:=λx G=>(P'.1 G).elim (a0 x) λe=>IW (λn hn=>CN ⟨.inr (.inr rfl),by omega,by omega⟩) (λn hn=>CN ⟨.inr (.inl rfl),by omega,by omega⟩) (by rw[<- Dy];decide) (CN ⟨.inl rfl,by omega,by omega⟩) _ _ e;obtain⟨N,hN⟩:∃ N,As.dx (L++D4 L (q:Int))=N:=⟨_,rfl⟩;have Z:=ZD D (by omega) b7 hN;have b9:=jy L a0 (by omega) b7;rw[hN]at b9
 obtain⟨A,hA⟩:∃ A,(if L=[]then([]:List Cmd)else[c])=A:=⟨_,rfl⟩;rw[hA]at Z
 obtain⟨r,hr⟩:∃ r,decide (0<(P.length:Int))=r:=⟨_,rfl⟩;have c6:A.length<=1/\(∀ x∈A,x.e=0)/\decide (c∈A)=r:=by
  rw[<- hA,<- hr];by_cases e:L=[]
  .rw[if_pos e];rw[e]at X;exact⟨nG _,λx G=>(by cases G),nW.2 ⟨λg=>(by cases g),λg=>by have:P.length=0:=X.symm;omega⟩⟩
  .rw[if_neg e];exact⟨A' _,λx G=>(by rw[D'.1 G];exact d3),nW.2 ⟨λ_=>by have:=pX.2 e;omega,λ_=>D'.2 rfl⟩⟩
 obtain⟨g0,a9,c8⟩:=c6;have c7:=Zh Z;obtain⟨f,hf⟩:∃ f:Nat->Cmd,∀ i c,A[i]?=some c->f i=c:=⟨λi=>A.getD i RX,λi c e=>by simp[List.getD_eq_getElem?_getD,e]⟩;obtain⟨T,b3⟩:∃ T,sAt f A.length=T:=⟨_,rfl⟩;refine tR 4 [] λf0 _ _=>tC1 2 (λF C=>PN d4 e0) λ_=>tC 3 (λF C=>TH (n:=(q:Int)) (AcR.oo (L:=L) F.1 hL) (by omega)) λNz=>?_;rintro _ _ ⟨z,rfl,hz,c2⟩;refine⟨_,[Fa.ac z (P++rnP (D4 L (q:Int)))],rfl,c2,λF=>⟨⟨hz.fz Nz,Dat.app F.1.2 (Py _ _ (IW (P:=λa=>a.d=[]) (λ_ _=>rfl) (λ_ _=>rfl) rfl rfl _))⟩,trivial⟩,?_⟩;have d0:(P++rnP (D4 L (q:Int))).map (·.1)=L++D4 L (q:Int):=by rw[nE,eL,hL]
 refine tC 4 (λF C=>jp (AcR.of F.1 d0) d7 (by rw[H'];omega) (tb5 hT C) hN) λNz=>?_;rintro _ _ ⟨ly,tv,ys,rfl,hW,hO,c3⟩;refine⟨_,[Fa.ot ly tv ys N],rfl,c3,λF=>⟨UR hW hO Nz,trivial⟩,?_⟩;refine tR 10 [0,0,1,0,1] λU _ _=>tC1 1 (λF C=>SW (US F.1)) λ_=>tR 5 [] λf1 _ _=>?_;have b6:∀ {g w},(Fa.ot ly tv ys N).p g w->RdV w (lgY ys (lgN N 5)) 5 (cmL A):=λF=>c7▸(Zg F (n:=5) (A' 5)).rd;refine tC 1 (λF C=>by have:=PZ (b6 F.1) (by omega) a9 (hT.1.t.af (CgQ.af C)) (hT.1.n.af (CgQ.af C)) hf;rw[b3]at this;exact this) λNz=>?_;rintro _ _ ⟨z2,E,rfl,hE,g2,c4⟩;refine⟨_,_,rfl,c4,id,?_⟩;refine tR 19 [0,0,2,0] λa2 _ _=>Ii 113 (λee LL o=>∃ (wy:S3),ee=[(7,pt (s 0) 0),(13,pt (U 0) 0),(14,.bool true),(15,S3.v (lgY ys (lgN N 5))),(17,pt (a2 0) 0),(18,iv 0),(9,iv (P.length:Int)),(19,S3.v wy)]/\LL=[⟨(s 0),.cells #[iv K1,iv u,iv O,iv M,iv Q] 25,.l,false⟩,⟨(U 0),.cells #[iv (N.br.length:Int),.bool (N.ab 0).up,.bool (N.ab 1).up,.bool (N.ab 2).up,.bool (N.ab 3).up,.bool (N.ab 4).up,S3.v ly,iv ((N.ab 0).bad:Int),iv ((N.ab 1).bad:Int),iv ((N.ab 2).bad:Int),iv ((N.ab 3).bad:Int),iv ((N.ab 4).bad:Int),S3.v tv] 42,.z,false⟩,⟨(a2 0),.cells #[iv (T.V 0),iv (T.V 1),iv (T.V 2),iv (T.V 3),iv (T.V 4),iv (T.V 5),iv (T.V 6),iv (T.V 7),iv (T.L 0),iv (T.L 1),iv (T.L 2),iv (T.L 3),iv (T.L 4),iv (T.L 5),iv (T.L 6),iv (T.L 7),iv (T.C 0),iv (T.A 0),iv (T.C 1),iv (T.A 1),iv (T.C 2),iv (T.A 2),iv (T.C 3),iv (T.A 3),iv (T.C 4),iv (T.A 4),iv (T.C 5),iv (T.A 5),iv (T.C 6),iv (T.A 6),iv (T.C 7),iv (T.A 7),.bool (T.R 0),.bool (T.R 1),.bool (T.R 2),.bool (T.R 3),.bool (T.R 4),.bool (T.R 5),.bool (T.R 6),.bool (T.R 7)] 55,.z,false⟩]/\o=[Fa.ow 1 25 5 wy (cmL A),Fa.ot ly tv ys N]) (λJ hJ=>?_) ?_
 .by_cases h5:0<P.length
  .refine tI ((decide (0<(P.length:Int)))) true (O' (by omega)) (tR 4 [0,0,0] λa3 _ _=>?_);have a4:A=[(⟨K1,u,O,M,Q⟩:Cmd)]:=by rw[<- hA,if_neg (λe=>by rw[e]at X;have:P.length=0:=X.symm;omega),Y]
   refine NA 3 1 (x:=s30) (xs:=[]) 46 46 25 5 40 (.agg #[iv 0,iv 0,iv 0,iv 0,iv 0]) ⟨(a3 0),0,none⟩ 1 1 [iv K1,iv u,iv O,iv M,iv Q] (λF=>OwnS.nil _ _ _ _ _ _) [Fa.ot ly tv ys N] (λF=>⟨F.1,trivial⟩) rfl (by simp[TQ]) rfl (by simp[Value.oneCell']) (λF K=>Cx K 3 (a3 0) [iv K1,iv u,iv O,iv M,iv Q] 25 .z true (by kernel_rfl)) (by show 0+1<=_;decide) (by show(0+1)*40<=_;decide) λe3 _ _ g7=>tR 2 [] λf2 _ _=>tD hJ [true,true,true,false] ⟨e3,rfl,rfl,rfl⟩ (λF=>⟨by rw[a4];exact F.1,F.2.1,trivial⟩)
  .refine tI ((decide (0<(P.length:Int)))) false (G' (by omega)) (tR 1 [] λf3 _ _=>?_);have a4:A=[]:=by rw[<- hA,if_pos (X' (by omega))]
   exact tD hJ [true,true,true] ⟨s30,rfl,rfl,rfl⟩ (λF=>⟨by rw[a4];exact OwnS.nil _ _ _ _ _ _,F.1,trivial⟩)
 rintro _ _ _ ⟨wy,rfl,rfl,rfl⟩ _ _ _;refine tR 3 [] λf4 _ _=>tC 1 (λF C=>by have:=PZ (F.1.rv) (by omega) a9 (hT.1.t.af (CgQ.af C)) (hT.1.n.af (CgQ.af C)) hf;rw[b3]at this;exact this) λNz=>?_;rintro _ _ ⟨z3,E3,rfl,g1,e4,c5⟩;refine⟨_,_,rfl,c5,id,?_⟩;refine tR 23 [0,0,3,0] λf5 _ _=>tW 12 (.bool true) (λF K=>D1 underlying4 rfl (mI K 1 (U 0) (II N ly tv).toList 42 .z false (j:=1) (by kernel_rfl) (kX (n:=0) (by omega) b9))) (tR 4 [2,3] λf6 _ _=>tV 17 (.bool true) (λF C=>(l7 (x:=(.tmp 101)) (y:=(.tmp 102)) T)) (tR 4 [0] λf7 _ _=>tC1 22 (λF C=>i9 (c:=(⟨K1,u,O,M,Q⟩:Cmd)) (b6 F.2.1) (by omega) (r:=r) (by rw[Y];exact c8)) λ_=>tR 1 [] λf8 _ _=>tV 24 (.bool r) (λF C=>(rGt (t:=3) (m:=(P.length:Int)) (n:=0) (x:=(.tmp 109)) (y:=(.const (iv 0))) hr)) (tV 25 (.bool true) (λF C=>(lw (x:=(.tmp 108)) (y:=(.tmp 110)) r)) (tR 3 [] λf9 _ _=>tE (.bool true) λ_ B=>⟨rfl,B⟩))))
end
end
end Go.Proofs.YtknnhaeneaaebaaGreatDoor
