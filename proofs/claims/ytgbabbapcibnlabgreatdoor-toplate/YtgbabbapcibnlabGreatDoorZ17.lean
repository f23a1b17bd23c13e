/- Part 17 of the walk. -/
import Derived.Deep.Slices
import Derived.Test.YtgbabbapcibnlabGreatDoorZ16
set_option maxRecDepth 100000
set_option maxHeartbeats 4000000
open Go.Proofs.Tryz
set_option linter.unusedVariables false
namespace Go.Proofs.YtgbabbapcibnlabGreatDoor
section
theorem Ie{f:Nat->Nod}{i j:Nat}{p:Nod}(h:i=j->p=f j):upN f i p j=f j:=by
 unfold upN;split
 .rename_i e;exact h e.symm
 .rfl
theorem O9(M:Meet)(l:Let){j:Nat}(a:(M.ab j).up=false):(M.mv l).ab j=M.ab j:=by
 unfold Meet.mv;split
 .rename_i hu
  exact Ie λe=>by rw[e,a]at hu;cases hu
 .rfl
theorem X2(l:List Let)(M:Meet){j:Nat}(a:(M.ab j).up=false):(l.foldl (λM l=>M.mv l) M).ab j=M.ab j:=by
 induction l generalizing M with
 | nil=>rfl
 | cons x l ih =>
  have h:=O9 M x a;exact(ih (M.mv x) (by rw[h];exact a)).trans h
theorem dh(M:Meet)(k:Int)(a:Nat){j:Nat}(b:(M.ab j).up=false):(M.move k a).ab j=M.ab j:=by
 unfold Meet.move;split
 .rfl
 .simp only;split
  .split
   .exact O9 _ _ b
   .exact O9 _ _ b
  .split<;>rfl
theorem P0(M:Meet)(x:Lac){j:Nat}(a:(M.ab j).up=false)(c:¬ (x.k=9/\x.n.toNat=j)):(M.act x).ab j=M.ab j:=by
 have b:∀ {i:Nat},i=j->¬ (M.ab i).up=true:=λe h=>by rw[e,a]at h;cases h
 unfold Meet.act;simp only;split
 .refine Ie λe=>?_;rw[e];unfold Nod.qM Nod.qP;rw[if_pos a]
 .split
  .exact Ie λe=>by rw[if_neg (b e),e]
  .split
   .exact Ie λe=>by rw[if_neg (b e),e]
   .split
    .exact dh M _ _ a
    .split
     .unfold Meet.qz;exact X2 _ { M with br:=[] } a
     .split
      .exact Ie λe=>by rw[if_neg (b e),e]
      .split
       .rename_i k9;exact Ie λe=>absurd ⟨k9,e⟩ c
       .rfl
theorem WY(L:List Lac)(h:∀ x∈L,LacOk x)(r:L.length<=100000){j:Nat}(m:j<5)(i:((Ao.dc L).ab j).up=false):((Ao.dc L).ab j).ae=[]:=by
 have key:∀ k,k<=L.length->((Ao.dc (L.take k)).ab j).up=false->((Ao.dc (L.take k)).ab j).ae=[]:=by
  intro k;induction k with
  | zero=>intro _ h;cases h
  | succ k f =>
   intro q;have o:∀ x∈L.take k,LacOk x:=λx d=>h x (mr d);have d:=h L[k] (mM (by omega));have l:=Oz (L.take k) o (by rw[X'];omega) m;rw[oh,G' (show k<L.length by omega),Option.toList_some,AB];have f:=f (by omega);generalize Ao.dc (L.take k)=M at f l ⊢;generalize L[k]=x at d ⊢;by_cases b:(M.ab j).up=true
   .intro h2;by_cases c:x.k=8
    .by_cases hn:x.n.toNat=j
     .have:=EW l (d.p (by rw[c];rfl)).1;have a:(M.act x).ab j=(M.ab j).kc x.p:=by
       unfold Meet.act;simp only;rw[if_neg (by omega),if_neg (by omega),if_neg (by omega),if_neg (by omega),if_neg (by omega),if_pos c,hn,if_pos b];show upN _ _ _ _=_;unfold upN;rw[if_pos rfl]
      rw[a];exact this.2.2.2
     .have a:(M.act x).ab j=M.ab j:=by
       unfold Meet.act;simp only;rw[if_neg (by omega),if_neg (by omega),if_neg (by omega),if_neg (by omega),if_neg (by omega),if_pos c];exact Ie λe=>absurd e hn
      rw[a,b]at h2;cases h2
    .rw[WW M c b]at h2;cases h2
   .have i:(M.ab j).up=false:=by simpa using b
    by_cases g:x.k=9/\x.n.toNat=j
    .intro h2;have a:(M.act x).ab j=(M.ab j).start:=by
      unfold Meet.act;simp only;rw[if_neg (by omega),if_neg (by omega),if_neg (by omega),if_neg (by omega),if_neg (by omega),if_neg (by omega),if_pos g.1,g.2,if_neg b];show upN _ _ _ _=_;unfold upN;rw[if_pos rfl]
     rw[a,(Fj l).2.1]at h2;cases h2
    .rw[P0 M x i g];exact f
 have:=key L.length (A' _);rw[nD]at this
 exact this i
theorem X7(L:List Lac)(h:∀ x∈L,LacOk x)(f:L.length<=100000){j:Nat}(e:j<5){x:Lac}(b:x.k=8)(g:x.n=(j:Int))(i:0<=x.p):((Ao.dc (L++[x])).ab j).up=false:=by
 rw[AB];have a:=Oz L h f e;generalize Ao.dc L=M at a ⊢;have d:x.n.toNat=j:=by rw[g,mW]
 have c:(M.act x).ab j=if(M.ab j).up then(M.ab j).kc x.p else M.ab j:=by
  unfold Meet.act;simp only;rw[if_neg (by omega),if_neg (by omega),if_neg (by omega),if_neg (by omega),if_neg (by omega),if_pos b,d];show upN _ _ _ _=_;unfold upN;rw[if_pos rfl]
 rw[c];split
 .exact(EW a i).2.1
 .rename_i hu;simpa using hu
theorem OU(p:Nod)(b:Bal):(p.au b).1.done=p.done:=by
 unfold Nod.au;split
 .rfl
 .split
  .rfl
  .split<;>rfl
theorem On(p:Nod)(v:Vt):(p.cl v).1.done=p.done:=by
 unfold Nod.cl;split
 .rfl
 .split
  .rfl
  .split<;>rfl
theorem KY(p:Nod)(j:Nat)(v:Vt):(p.count j v).done=p.done:=by
 unfold Nod.count;split
 .rfl
 .split<;>rfl
theorem JR(p:Nod)(to:Nat)(e:Int):(p.ed to e).done=p.done:=by unfold Nod.ed;split<;>rfl
theorem Io(p:Nod)(l:List Cmd):(p.dT l).done=p.done:=by unfold Nod.dT;split<;>rfl
theorem W8(p:Nod)(l:Let):(p.take l).done=p.done:=by
 unfold Nod.take;split
 .split
  .exact JR _ _ _
  .exact OU p l.fv
 .simp only;split<;>rfl
 .rfl
 .split
  .exact JR _ _ _
  .exact On p l.cl
 .exact KY p _ _
 .split<;>rfl
 .simp only;split<;>exact Io p l.fa
 .rfl
theorem Oa(p:Nod)(i:Nat)(q:Pend):(p.ln i q).done=p.done:=by
 cases q with
 | began b vs=>unfold Nod.ln;simp only;split<;>rfl
 | prop v=>exact KY p i v
 | _=>rfl
theorem RK(i:Nat)(l:List Pend)(p:Nod)(a:List Let):(nn i l p a).1.done=p.done:=by
 induction l generalizing p a with
 | nil=>rfl
 | cons q l ih=>exact(ih _ _).trans (Oa p i q)
def Wq(l:List Cmd):Sto:=l.foldl dnS E2
theorem Wr(l:List Cmd)(c:Cmd):Wq (l++[c])=dnS (Wq l) c:=by unfold Wq;rw[oM];rfl
theorem ZY(l:List Cmd)(h:∀ c∈l,c.e=0):If (Wq l):=by
 have key:∀ (l:List Cmd) (s:Sto),If s->(∀ c∈l,c.e=0)->If (l.foldl dnS s):=by
  intro l;induction l with
  | nil=>exact λs a _=>a
  | cons c l ih=>exact λs a h=>ih _ (TL a (h c M')) λd b=>h d (I' _ b)
 exact key l E2 ZX h
def StI(p:Nod):Prop:=p.lr=Wq (p.ae.take p.done)
theorem StI.ov{p q:Nod}(h:StI p)(d:q.lr=p.lr)(b:q.done=p.done)(a:p.ae <+: q.ae)(c:p.done<=p.ae.length):StI q:=by
 unfold StI;rw[d,b,Rb a c];exact h
theorem aH(p:Nod)(l:Let):(p.take l).lr=p.lr:=by
 unfold Nod.take;split
 .split
  .unfold Nod.ed;split<;>rfl
  .show(p.au l.fv).1.lr=_;unfold Nod.au;split
   .rfl
   .split
    .rfl
    .split<;>rfl
 .simp only;split<;>rfl
 .rfl
 .split
  .unfold Nod.ed;split<;>rfl
  .show(p.cl l.cl).1.lr=_;unfold Nod.cl;split
   .rfl
   .split
    .rfl
    .split<;>rfl
 .unfold Nod.count;split
  .rfl
  .split<;>rfl
 .split<;>rfl
 .simp only;unfold Nod.dT;split<;>split<;>rfl
 .rfl
theorem StI.bare(p:Nod)(u:Bool)(d:List Int)(s:Int)(a:Acc)(x:List Pend):StI (p.bare u d s a x):=rfl
theorem StI.step{D:Wh}{c:Nat}{M N:Meet}(s:Stp D c M N)(a:∀ j,j<5->(M.ab j).done<=(M.ab j).ae.length)(h:∀ j,j<5->StI (M.ab j)):∀ j,j<5->StI (N.ab j):=by
 intro j g;have put:∀ {k:Nat} {p:Nod} {f:List Let} {i:List Tol},(k<5->StI p)->StI ((M.set k p f i).ab j):=λ{k p f i} e=>by
  rw[Am];split
  .rename_i e2;exact e (by omega)
  .exact h j g
 cases s with
 | take _ l hl hd2 hu ht=>exact put λ_=>(h _ hd2.2).ov (aH _ l) (W8 _ l) (Ev.take _ l).ag (a _ hd2.2)
 | br _ f hl a=>exact h j g
 | one _ k c hi hu hc he =>
  refine put λ_=>?_;have e:StI { M.ab k with lr:=doS (M.ab k).lr c,done:=(M.ab k).done+1 }:=by
   unfold StI;show doS (M.ab k).lr c=Wq ((M.ab k).ae.take ((M.ab k).done+1));rw[oh,hc,RJ he,h k hi];exact(Wr _ c).symm
  unfold Nod.gC;split<;>exact e
 | ask _ k hi hu =>
  refine put λ_=>?_;have:=h k hi;unfold Nod.hZ;split
  .exact this
  .split
   .unfold Nod.dT;split<;>exact this
   .exact this
 | prop _ k hi hu =>
  refine put λ_=>?_;have:=h k hi;unfold Nod.cn;split
  .exact this
  .split
   .exact this
   .split
    .exact this
    .show StI ((M.ab k).cl _).1;unfold Nod.cl;split
     .exact this
     .split
      .exact this
      .split<;>exact this
 | qA _ k hi hu hs hT=>exact put λ_=>h k hi
 | run _ k hi hu q l hp hs =>
  refine put λ_=>(h k hi).ov ?_ ((Oa (M.ab k) k q)) ((Ev.ln (M.ab k) k q).bu l).ag (a k hi);show((M.ab k).ln k q).lr=_;cases q with
  | began b vs=>simp only[Nod.ln];split<;>rfl
  | prop v =>
   simp only[Nod.ln,Nod.count];split
   .rfl
   .split<;>rfl
  | _=>rfl
 | qx _ k hi hu hL=>exact put λ_=>h k hi
 | lead _ k hi hu hL =>
  refine put λ_=>?_;have:=h k hi;unfold Nod.lead;simp only;split
  .exact this
  .generalize (⟨max (M.ab k).cF (M.ab k).vo.p.r+1,(k:Int)⟩:Bal)=b;show StI ((M.ab k).au b).1;unfold Nod.au;split
   .exact this
   .split
    .exact this
    .split<;>exact this
 | sub _ k d hi hu hD =>
  refine put λ_=>?_;have:=h k hi;unfold Nod.qM Nod.qP;split
  .exact this
  .split
   .exact this
   .split
    .exact this
    .show StI (Nod.want _ _);unfold Nod.want;split<;>exact this
 | kc _ k x hi hu hk hC =>
  refine put λ_=>?_;unfold Nod.kc;split
  .exact h k hi
  .exact .bare _ _ _ _ _ _
 | start _ k hi hu hs =>
  refine put λ_=>?_;unfold Nod.start;split
  .exact h k hi
  .split<;>exact .bare _ _ _ _ _ _
theorem StI.zero:∀ j,j<5->StI (Ao.ab j):=λj _=>rfl
theorem bS(i:Nat)(l:List Cmd)(p:Nod)(k:List Tol)(j:If p.lr)(h:∀ c∈l,c.e=0):(qD i l p k).1.done=p.done+l.length:=by
 induction l generalizing p k with
 | nil=>rfl
 | cons c l ih =>
  have a:=h c M';have b:doE p.lr c=0:=(bR j).trans a;rw[qD,if_neg (λg=>g b)];have f:(Nod.gC { p with lr:=doS p.lr c,done:=p.done+1 } c).lr=dnS p.lr c/\(Nod.gC { p with lr:=doS p.lr c,done:=p.done+1 } c).done=p.done+1:=by
   unfold Nod.gC;split<;>exact⟨RJ b,rfl⟩
  rw[ih _ _ (by rw[f.1];exact TL j a) λd m=>h d (I' _ m),f.2,mE];omega
theorem SX(p:Nod)(i:Nat)(f:List Let)(e:List Tol):(p.piece i f e).1.done=(qD i (p.ae.drop p.done) p e).1.done:=by
 unfold Nod.piece;simp only;generalize (qD i (p.ae.drop p.done) p e).1=a;have g:(a.hZ i).1.done=a.done:=by
  unfold Nod.hZ;split
  .rfl
  .split
   .exact Io _ _
   .rfl
 generalize a.hZ i=b at g ⊢;have h:b.1.cn.done=b.1.done:=by
  unfold Nod.cn;split
  .rfl
  .split
   .rfl
   .split
    .rfl
    .exact On _ _
 generalize b.1.cn=c at h ⊢;generalize f++b.2=k;have j:(c.ni i k).1.done=c.done:=by
  unfold Nod.ni;split
  .rfl
  .rw[RK];unfold Nod.qA;split<;>rfl
 generalize c.ni i k=d at j ⊢;have l:(d.1.bw i d.2).1.done=d.1.done:=by unfold Nod.bw;split<;>rfl
 omega
theorem D0{I:Meet->Prop}(d:∀ c M N,Stp wh0 c M N->I M->I N)(j:∀ M,I M->I { M with br:=[] })(m:Nat){n:Nat}{M:Meet}(i:MOk n M)(o:n+6*m<=1000000)(h:I M):I (M.dc (Af m))/\MOk (n+6*m) (M.dc (Af m)):=by
 induction m with
 | zero=>exact⟨h,i⟩
 | succ m ih =>
  obtain⟨e,f⟩:=ih (by omega);show I (M.dc (Af m++An))/\MOk (n+6*(m+1)) (M.dc (Af m++An));rw[AC,E4];have a:=Bk (λc A N s g=>d c A N s.calm g) f (by omega) e;obtain⟨N,k,l,_⟩:=Co (λA N s g=>d _ A N s.qY g) a.1 a.2;have b:=a.1.act (x:=acN 7 0) (by omega) (by rw[<- Dp];decide);rw[k]at b ⊢
  exact⟨j N l,b.mono (by omega)⟩
theorem Jw{M:Meet}(h:∀ j,j<5->(M.ab j).up=true):M.dc Ay=M:=by
 have key:∀ l:List Lac,(∀ x∈l,M.act x=M)->M.dc l=M:=by
  intro l;induction l with
  | nil=>exact λ_=>rfl
  | cons x l ih =>
   intro a;show(M.act x).dc l=M;rw[a x M'];exact ih λy e=>a y (I' _ e)
 refine key _ λx d=>?_;obtain⟨k,b,rfl⟩:=mA.1 d;have c:=h k (nW.1 b);unfold Meet.act;simp only[acN];rw[if_neg (by decide),if_neg (by decide),if_neg (by decide),if_neg (by decide),if_neg (by decide),if_neg (by decide),if_pos trivial];show M.set k (if(M.ab k).up=true then M.ab k else _) M.br M.eo=M;rw[if_pos c,EC]
theorem Ix{M:Meet}{i:Nat}(a:(M.ab i).up=true):M.act (acN 2 (i:Int))=M.set i ((M.ab i).lead i) M.br M.eo:=by
 unfold Meet.act;simp only[acN];rw[if_neg (by decide),if_pos trivial];show M.set i (if(M.ab i).up=true then _ else _) M.br M.eo=_;rw[if_pos a];rfl
theorem Ea(a b:Nat):Af (a+b)=Af a++Af b:=by
 induction b with
 | zero=>exact(mz _).symm
 | succ b ih=>show Af (a+b)++An=Af a++(Af b++An);rw[ih,mf]
theorem lD(f:Nat->Int):∃ j,j<5/\∀ k,k<5->f k<=f j:=by
 have key:∀ n,∃ j,j<n+1/\∀ k,k<n+1->f k<=f j:=by
  intro n;induction n with
  | zero=>exact⟨0,by omega,λk c=>by rw[show k=0 by omega];exact mc _⟩
  | succ n ih =>
   obtain⟨j,d,b⟩:=ih;by_cases e:f j<=f (n+1)
   .refine⟨n+1,by omega,λk c=>?_⟩;by_cases a:k=n+1
    .rw[a];exact mc _
    .exact mC (b k (by omega)) e
   .refine⟨j,by omega,λk c=>?_⟩;by_cases a:k=n+1
    .rw[a];omega
    .exact b k (by omega)
 exact key 4
def Fw(b:Bal):List (Bal × Nat):=(List.range 40).map λs=>(b,s)
theorem Fx(b:Bal){s:Nat}(h:s<40):(b,s)∈Fw b:=mA.2 ⟨s,nW.2 h,rfl⟩
section
variable{S:Cmd->Prop}{K:Int}{B:Nat->Bal}{cov:List (Bal × Nat)}
theorem Cm.to{M:Meet}(h:Cm S K B cov M){K':Int}(c:∀ j,j<5->(M.ab j).vo.p.key<=K')(b:K'<=3600):Cm S K' B cov M :=
 ⟨h.ex,⟨b,λj a=>⟨by unfold Nod.pk;rw[if_pos (h.up j a)];exact c j a,(h.kb.2 j a).2⟩⟩,h.up,h.fv,h.s⟩
structure Led(i:Nat)(p q:Nod)(b:Bal):Prop where
 may:Ab b
 n:b.n=(i:Int)
 gt:5*p.cF+4<b.key/\p.vo.p.key<b.key
 le:b.key<=max (5*p.cF) p.vo.p.key+9
 up:q.up=p.up
 vo:q.vo.p=b
 fv:q.av.fv=b
 p1:P1 i q
 pe:∃ vs,Pend.began b vs∈q.bu
 ask:q.bn=p.bn/\q.bN=p.bN/\q.done=p.done
 ro:q.cF=p.cF
theorem Cm.lead{M:Meet}(h:Cm S K B cov M)(z:14*K+38*(cov.length:Int)<=99000){i:Nat}(d:i<5)(I:K<=3591)(J:0<=(M.ab i).cF/\5*(M.ab i).cF<=3591) :
  ∃ b,Led i (M.ab i) ((M.ab i).lead i) b/\Cm S 3600 (upN B i b) (cov++Fw b) (M.set i ((M.ab i).lead i) M.br M.eo):=by
 have m:=h.up i d;have O:=h.le d;have u:=(h.acc d).1;have N:=Yy u;have F:0<=(M.ab i).vo.p.r/\0<=(M.ab i).vo.p.n/\(M.ab i).vo.p.n<=4:=by unfold Ap Ab at u;omega
 obtain⟨b,l⟩:∃ b:Bal,(⟨max (M.ab i).cF (M.ab i).vo.p.r+1,(i:Int)⟩:Bal)=b:=⟨_,rfl⟩;have L:b.key=5*(max (M.ab i).cF (M.ab i).vo.p.r+1)+(i:Int):=by rw[<- l];rfl
 have C:(M.ab i).vo.p.key=5*(M.ab i).vo.p.r+(M.ab i).vo.p.n:=rfl;have t:Ab b:=by rw[<- l];refine⟨⟨?_,?_⟩,?_,?_⟩<;>simp only<;>omega
 have f:=h.prom z d t (by rw[EN t.pr u];omega);have E:(M.ab i).lead i=Nod.wait { ((M.ab i).au b).1 with av:=⟨b,λ_=>false,λ_=>DS,λ_=>(M.ab i).ae.length,0,[]⟩ } (.began b ((M.ab i).au b).2.1):=by
  unfold Nod.lead;simp only;rw[l,if_neg (λg=>g f.1)]
 have v:((M.ab i).au b).1.cF=(M.ab i).cF:=by
  unfold Nod.au;split
  .rfl
  .split
   .rfl
   .split<;>rfl
 have a:Led i (M.ab i) ((M.ab i).lead i) b:=by
  rw[E];exact⟨t,by rw[<- l],by omega,by omega,(Ev.au _ b).up,f.2,rfl,⟨rfl,λ_ _=>rfl⟩,⟨_,mh _ (D'.2 rfl)⟩,(Bh _ b).1,v⟩
 refine⟨b,a,?_⟩;obtain⟨σ,g,A⟩:=h.ex;obtain⟨τ,G,H,w,x,y⟩:=g.step (D:=whT) (.lead M i d m trivial);refine⟨⟨τ,w,λo s c k=>?_⟩,⟨mc _,?_⟩,λj q=>?_,λj q=>?_,h.s.step (D:=⟨λ_ _=>False,True,False,False,False,False⟩) (λ_ _ e=>False.elim e) (.lead M i d m trivial)⟩
 .rcases x o s c k with k|k
  .exact mi _ (A o s c k)
  .exact absurd (y o s k).1 (by decide)
 .refine(h.kb.2.mono h.kb.1 (mc _)).set ⟨?_,by rw[a.ro];omega⟩ _ _;unfold Nod.pk;rw[if_pos (a.up.trans m),a.vo];omega
 .rw[Am];split
  .exact a.up.trans m
  .exact h.up j q
 .rw[Am];unfold upN;split
  .exact a.fv
  .exact h.fv j q
theorem j7{a:Int}{n:Nat}{M:Meet}(O:MOk n M){m:Nat}(hm:2<=m)(hn:n+6*m+20<=1000000)(U:∀ j,j<5->∀ s,s<40->(B j,s)∈cov)(h:Cm S K B cov M)(z:KbI a a M)(W:K<=a)(T:a<=3500)(Z:14*a+38*(cov.length:Int)<=97000){i:Nat}(q:i<5) :
  ∃ K' B' cov',K'<=a+9/\Cm S K' B' cov' (((M.act (acN 2 (i:Int))).dc Ay).dc (Af m))/\(∀ j,j<5->∀ s,s<40->(B' j,s)∈cov')/\cov'.length<=cov.length+40/\Gr8 K' ((((M.act (acN 2 (i:Int))).dc Ay).dc (Af m)).ab i)/\KbI (a+9) (a+9) (((M.act (acN 2 (i:Int))).dc Ay).dc (Af m))/\MOk (n+6*m+1) (((M.act (acN 2 (i:Int))).dc Ay).dc (Af m)):=by
 have G:=h.up i q;have hr:=z i q;have F:=(O.ab i q).ro;have d:=O.act (x:=acN 2 (i:Int)) (by omega) (Ef ⟨.inl rfl,by omega,by omega⟩);obtain⟨b,y,f⟩:=h.lead (by omega) q (by omega) ⟨F.1,by omega⟩;obtain⟨σ,g,_⟩:=h.ex;have o:=z.lead g q G M.br M.eo;have H:∀ j,j<5->((M.act (acN 2 (i:Int))).ab j).up=true:=by rw[Ix G];exact f.up
 rw[Jw H];rw[Ix G]at d ⊢
 have u:=Bu M i ((M.ab i).lead i) M.br M.eo;generalize M.set i ((M.ab i).lead i) M.br M.eo=N at f o d u ⊢;rw[<- u]at y
 obtain⟨j,v,C⟩:=lD λj=>(N.ab j).vo.p.key;have E:∀ j,j<5->(N.ab j).vo.p.key<=a+9:=λj v=>by
  have:=(o j v).1;unfold Nod.pk at this
  rwa [if_pos (f.up j v)]at this
 have t:=E j v;have f:=f.to C (by omega);have l:∀ k,k<5->∀ s,s<40->(upN B i b k,s)∈cov++Fw b:=λk z s P=>by
  unfold upN;split
  .exact mh _ (Fx b P)
  .exact mi _ (U k z s P)
 obtain⟨vs,V⟩:=y.pe;have A:=ip l d (by omega) f q v rfl y.vo y.may V;generalize (N.ab j).vo.p.key=K' at f A t;have L:∀ c X Y,Stp wh0 c X Y->(Cm S K' (upN B i b) (cov++Fw b) X/\KbI (a+9) (a+9) X)->(Cm S K' (upN B i b) (cov++Fw b) Y/\KbI (a+9) (a+9) Y):=λc X Y s g=>by
  obtain⟨σ,R,_⟩:=g.1.ex;exact⟨g.1.step l s,g.2.step (D:=wh0) (λe=>e) R s (mc _)⟩
 have J:=D0 L (λX g=>⟨g.1.drop,g.2⟩) 2 d (by omega) ⟨f,o⟩;obtain⟨r,rfl⟩:∃ r,m=2+r:=⟨m-2,by omega⟩;rw[Ea,AC];have Q:N.dc (Af 2)=N.dc (An++An):=rfl;rw[<- Q]at A
 have w:=D0 (I:=λX=>(Cm S K' (upN B i b) (cov++Fw b) X/\KbI (a+9) (a+9) X)/\Gr8 K' (X.ab i)) (λc X Y s g=>⟨L c X Y s g.1,g.2.ev (s.ev i)⟩) (λX g=>⟨⟨g.1.1.drop,g.1.2⟩,g.2⟩) r J.2 (by omega) ⟨J.1,A⟩;refine⟨K',_,_,t,w.1.1.1,l,?_,w.1.2,w.1.1.2,w.2.mono (by omega)⟩;rw[H'];unfold Fw;rw[mw,n7];exact A' _
end
section
variable{C:List Cmd}{K:Int}{B:Nat->Bal}{cov:List (Bal × Nat)}{i:Nat}{b:Bal}{A:List Cmd}
theorem Fin_.drop{N:Meet}(f:Fin_ i A N):Fin_ i A { N with br:=[] }:=⟨f.ag,f.nx,f.hd,f.qu⟩
theorem Fin_.se(a:PhC C K B cov i b){M:Meet}(h:PhE C K B cov i b M)(f:Fin_ i A M){j:Nat}(c:j<5)(p:A.length<=(M.ab j).ae.length):(M.ab j).ae=A:=by
 have o:=f.le a h c;obtain⟨σ,g,_⟩:=h.pb.cm.ex;refine oA (by omega) λs k l=>?_;obtain⟨m,d⟩:=(g.nd j c).ag s _ (G' k);obtain⟨n,e⟩:=(g.nd i a.hi).ag s _ (by rw[f.ag];exact G' l);exact g.gs.rU.agree d e
structure Fz(C:List Cmd)(K:Int)(B:Nat->Bal)(cov:List (Bal × Nat))(i:Nat)(b:Bal)(A:List Cmd)(M:Meet):Prop where
 l:PhL C K B cov i b M
 f:Fin_ i A M
 a:∀ j,j<5->(M.ab j).ae=A
 s:∀ j,j<5->StI (M.ab j)
theorem Fz.step(d:PhC C K B cov i b){n:Nat}{M N:Meet}(s:Stp wh0 n M N)(h:Fz C K B cov i b A M):Fz C K B cov i b A N:=by
 have e:=h.l.step d s;have g:=Fin_.step d s h.l.pe h.f;exact⟨e,g,λj c=>g.se d e.pe c (by have:=(s.ev j).ag.length_le;rw[h.a j c]at this;exact this),StI.step s (λj c=>(h.l.pe.pb.ak j c).dn) h.s⟩
theorem Fz.drop{N:Meet}(h:Fz C K B cov i b A N):Fz C K B cov i b A { N with br:=[] }:=⟨h.l.drop,h.f.drop,h.a,h.s⟩
structure Rst(C:List Cmd)(K:Int)(B:Nat->Bal)(cov:List (Bal × Nat))(i:Nat)(b:Bal)(A:List Cmd)(M:Meet):Prop where
 z:Fz C K B cov i b A M
 d:∀ j,j<5->(M.ab j).done=A.length
theorem OB(g:PhC C K B cov i b){n:Nat}{M N:Meet}(s:Stp wh0 n M N)(h:Fz C K B cov i b A M){j:Nat}(e:j<5)(d:(M.ab j).done=A.length):(N.ab j).done=A.length:=by
 have c:=h.step g s;have k:=(s.ev j).dn;have f:=(c.l.pe.pb.ak j e).dn;rw[c.a j e]at f
 omega
theorem Rst.step(a:PhC C K B cov i b){n:Nat}{M N:Meet}(s:Stp wh0 n M N)(h:Rst C K B cov i b A M):Rst C K B cov i b A N:=⟨h.z.step a s,λj c=>OB a s h.z c (h.d j c)⟩
theorem Wo(o:PhC C K B cov i b)(g:∀ c∈C,c.e=0){M:Meet}(h:Fz C K B cov i b A M){j:Nat}(d:j<5):((M.act (acN 3 (j:Int))).ab j).done=A.length:=by
 have n:=h.l.pe.pb.cm.up j d;have m:=(h.l.pe.pb.ak j d).dn;have k:∀ c∈(M.ab j).ae,c.e=0:=λc f=>g c ((h.l.pe.pb.cm.s.nd j d).ag c f);rw[GP n,Am,if_pos rfl,SX,bS]
 .rw[mm,h.a j d];rw[h.a j d]at m
  omega
 .rw[h.s j d];exact ZY _ λc f=>k c (mr f)
 .exact λc f=>k c (nO f)
theorem Gr8.gt{p q:Nod}{K:Int}(h:Gr8 K p)(a:Ap p.vo.p){i:Nat}{b:Bal}(l:Led i p q b):K<b.key:=by
 have:=l.gt;unfold Gr8 at h;omega
theorem j8(R:∀ c∈C,c.e=0)(hC:C.length<40){K1:Int}{n:Nat}{M:Meet}(hM:MOk n M){m:Nat}(hm:85<=m)(hn:n+6*m+20<=990000)(hc:∀ j,j<5->∀ s,s<40->(B j,s)∈cov)(h:Cm (λc=>c∈C) K B cov M)(gr:Gr8 K (M.ab i))(hk:KbI K1 K1 M)(hK:K<=K1)(a4:K1<=3510)(hQ:14*K1+38*(cov.length:Int)<=97000)(t:i<5)(hA:∀ j,j<5->AskI (M.ab j))(hS:∀ j,j<5->StI (M.ab j)) :
  ∃ K' B' cov' b A,PhC C K' B' cov' i b/\Rst C K' B' cov' i b A (((M.act (acN 2 (i:Int))).dc Ay).dc (Af m)):=by
 have hu:=h.up i t;have hr:=hk i t;have a2:=(hM.ab i t).ro;have u:=hM.act (x:=acN 2 (i:Int)) (by omega) (Ef ⟨.inl rfl,by omega,by omega⟩);obtain⟨b,q,o⟩:=h.lead (by omega) t (by omega) ⟨a2.1,by omega⟩;obtain⟨σ,g,_⟩:=h.ex;have L:=AskI.step (Stp.lead (D:=whT) M i t hu trivial) g hA;have T:=StI.step (Stp.lead (D:=whT) M i t hu trivial) (λj f=>(hA j f).dn) hS;have a5:=gr.gt (h.acc t).1 q;have a6:b.key<=K1+9:=by
  have:=q.le;have:=h.le t;omega
 have a3:∀ j,j<5->((M.act (acN 2 (i:Int))).ab j).up=true:=by rw[Ix hu];exact o.up
 rw[Jw a3];rw[Ix hu]at u ⊢
 have G:=Bu M i ((M.ab i).lead i) M.br M.eo;have S:∀ j,j≠i->((M.set i ((M.ab i).lead i) M.br M.eo).ab j)=M.ab j:=λj f=>by rw[Am,if_neg f]
 have V:QA i b (M.set i ((M.ab i).lead i) M.br M.eo):=λj f c hx=>by
  refine absurd ?_ (show ¬ b.key<=max K (M.ab i).vo.p.key by have:=q.gt;omega);by_cases e:j=i
  .rw[e,G,q.ask.2.1]at hx
   have:=(hA i t).le c b hx;omega
  .rw[S j e]at hx
   have:=(hA j f).le c b hx;have:=h.le f;omega
 have F:∀ j,j<5->j≠i->((M.set i ((M.ab i).lead i) M.br M.eo).ab j).vo.p.key<b.key:=λj f e=>by
  rw[S j e];have:=h.le f;omega
 generalize M.set i ((M.ab i).lead i) M.br M.eo=N at o u G L T V F ⊢;rw[<- G]at q
 have o:=o.to (K':=b.key) (λj f=>by
  by_cases e:j=i
  .rw[e,q.vo];exact mc _
  .have:=F j f e;omega) (by omega)
 have E:∀ k,k<5->∀ s,s<40->(upN B i b k,s)∈cov++Fw b:=λk hk s hs=>by
  unfold upN;split
  .exact mh _ (Fx b hs)
  .exact mi _ (hc k hk s hs)
 have l:PhC C b.key (upN B i b) (cov++Fw b) i b:=⟨E,hC,t,q.may,q.n,Da _ _ _,rfl⟩;have y:14*b.key+38*((cov++Fw b).length:Int)<=99000:=by
  have:(cov++Fw b).length=cov.length+40:=by rw[H'];unfold Fw;rw[mw,n7]
  omega
 obtain⟨vs,hq⟩:=q.pe;generalize cov++Fw b=cov' at o E l y;generalize upN B i b=B' at o E l;generalize a0:b.key=K' at o l y F;have O:PhB C K' B' cov' i b N:=⟨o,L,q.vo⟩;obtain⟨p1,p2,p3,p4,p5,p6,p7⟩:=dC E y u (by omega) o t q.may a0 l.hB q.vo F hq q.p1;obtain⟨q1,q2,_,_⟩:=QB l u (by omega) O V;have U:=D0 (I:=λX=>PhB C K' B' cov' i b X/\∀ j,j<5->StI (X.ab j)) (λc X Y s g=>⟨g.1.step l s,StI.step s (λj f=>(g.1.ak j f).dn) g.2⟩) (λX g=>⟨⟨g.1.cm.drop,g.1.ak,g.1.vi⟩,g.2⟩);have H:∀ a X k,MOk k X->k+6*a<=1000000->PhB C K' B' cov' i b X->(∀ j,j<5->StI (X.ab j))->∀ j,j<5->StI ((X.dc (Af a)).ab j):=λa X k h1 h2 h3 h4=>(U a h1 h2 ⟨h3,h4⟩).1.2;clear U;have s1:=H 1 N _ u (by omega) O T;rw[show Af 1=An from rfl]at s1
 obtain⟨r1,r2,r3,r4⟩:=dD l p7 (by omega) q1 (λj f c e=>.inl (q2 j f c e)) p2 p3 p4 p5 p6;have s2:=H 1 _ _ p7 (by omega) q1 s1;rw[show Af 1=An from rfl]at s2
 obtain⟨W,t1,t2,t3,t4,t5⟩:=gR l y R 81 r4 (by omega) r1 r2 r3 (by unfold mu;split<;>omega);have s3:=H W _ _ r4 (by omega) r1.pe.pb s2;obtain⟨r,rfl⟩:∃ r,m=1+(1+(W+(1+(1+r)))):=⟨m-W-4,by omega⟩;rw[Ea,AC,Ea,AC,Ea,AC,Ea,AC,Ea,AC];simp only[show Af 1=An from rfl];generalize (((N.dc An).dc An).dc (Af W))=X at t2 t3 t4 t5 s3 ⊢;generalize (X.ab i).ae=A at t2;obtain⟨u1,u2⟩:=Mn l t5 (by omega) t3 t4;rw[t2.ag]at u2
 have v:=D0 (I:=λY=>PhL C K' B' cov' i b Y/\Fin_ i A Y/\∀ j,j<5->StI (Y.ab j)) (λc Y Z s g=>⟨g.1.step l s,Fin_.step l s g.1.pe g.2.1,StI.step s (λj f=>(g.1.pe.pb.ak j f).dn) g.2.2⟩) (λY g=>⟨g.1.drop,g.2.1.drop,g.2.2⟩) 1 t5 (by omega) ⟨t3,t2,s3⟩;rw[show Af 1=An from rfl]at v
 obtain⟨⟨v1,v2,v3⟩,v4⟩:=v;have w:Fz C K' B' cov' i b A (X.dc An):=⟨v1,v2,λj f=>v2.se l v1.pe f (u2 j f),v3⟩;generalize X.dc An=Y at w v4 ⊢;have x:Rst C K' B' cov' i b A (Y.dc An):=by
  have hz:=D0 (λc Y Z s g=>Fz.step l s g) (λY g=>Fz.drop g) 1 v4 (by omega) w;rw[show Af 1=An from rfl]at hz
  refine⟨hz.1,λj f=>?_⟩;have a:=Bk (λc A N s g=>Fz.step l s.calm g) v4 (by omega) w;have d:=Mc (J:=λZ=>(Z.ab j).done=A.length) (λc A N s g=>Fz.step l s.calm g) (λc A N s g d=>OB l s.calm g f d) v4 (by omega) w f λZ _ _ _ g _=>Wo l R g f;rw[E4];obtain⟨Z,k1,k2,_⟩:=Co (I:=λZ=>Fz C K' B' cov' i b A Z/\(Z.ab j).done=A.length) (λP Q s g=>⟨g.1.step l s.qY,OB l s.qY g.1 f g.2⟩) a.1 ⟨a.2,d⟩;rw[k1];exact k2.2
 have a1:MOk (n+1+6+6+6*W+6*1+6*1) (Y.dc An):=(D0 (λc Y Z s g=>Fz.step l s g) (λY g=>Fz.drop g) 1 v4 (by omega) w).2;exact⟨K',B',cov',b,A,l,(D0 (λc Y Z s g=>Rst.step l s g) (λY g=>⟨g.z.drop,g.d⟩) r a1 (by omega) x).1⟩
end
def kt(l:List Int):Cmd:=⟨Ac (unQ l) 0,Ac (unQ l) 4,Ac (unQ l) 8,Ac (unQ l) 12,Ac (unQ l) 16⟩
theorem jO{l:List Int}{a:Int}(h:opE l a=0):unE l=0:=by
 unfold opE at h;split at h
 .rename_i g;exact absurd h g
 .rename_i g;exact mg.1 g
theorem ku{l:List Int}(h:unE l=0):(kt l).e=0:=by
 have:=(Rh h).2;unfold Cr at this;split at this
 .cases this
 .exact this
def Kv(L:List Lac):List Cmd:=(L.filter λx=>decide (x.k=1/\unE x.d=0)).map λx=>kt x.d
theorem eq{L:List Lac}{x:Lac}(c:x∈L)(b:x.k=1){a:Int}(h:opE x.d a=0):GW x.d a∈Kv L:=by
 refine mA.2 ⟨x,o8.2 ⟨c,O' ⟨b,jO h⟩⟩,?_⟩;unfold GW;rw[if_pos h];rfl
theorem iQ(L:List Lac):∀ c∈Kv L,c.e=0:=λc a=>by
 obtain⟨x,b,rfl⟩:=mA.1 a;exact ku (mI (o8.1 b).2).2
theorem WX(L:List Lac)(e:∀ x∈L,LacOk x)(k:L.length<=100000):(∀ j,j<5->AskI ((Ao.dc L).ab j))/\∀ j,j<5->StI ((Ao.dc L).ab j):=by
 have s:Sts whT L.length Ao (Ao.dc L):=ES L MOk.zero (by omega) λx i=>⟨e x i,IQ x⟩;exact(s.inv (I:=λM=>(∃ σ,AgI σ M)/\(∀ j,j<5->AskI (M.ab j))/\∀ j,j<5->StI (M.ab j)) (λc M N h ⟨⟨σ,g⟩,a,b⟩=>by
  obtain⟨τ,_,_,d,_⟩:=g.step h;exact⟨⟨τ,d⟩,AskI.step h g a,StI.step h (λj f=>(a j f).dn) b⟩) ⟨⟨_,AgI.zero⟩,AskI.zero,StI.zero⟩).2
theorem da(L M:List Lac):lds (L++M)=lds L+lds M:=by unfold lds;rw[nM]
theorem settled(L:List Lac)(v:∀ x∈L,LacOk x)(a2:9*lds L<=3480)(n:(Kv L).length<40)(hq:126*lds L+38*L.length<=85000)(m:Nat)(hm:85<=m)(hl:L.length+12*m<=99000){i:Nat}(O:i<5) :
  ∃ K B cov b A,PhC (Kv L) K B cov i b/\Rst (Kv L) K B cov i b A (Ao.dc (L++(Ct m (i:Int)++Ct m (i:Int)))):=by
 have C:∀ x∈Ct m (i:Int),LacOk x:=λx hx=>by
  rcases P'.1 hx with hx|hx
  .rcases P'.1 hx with hx|hx
   .exact KE 0 x hx
   .rw[D'.1 hx];exact Ef ⟨.inl rfl,by omega,by omega⟩
  .exact KE m x hx
 have a0:(Ct m (i:Int)).length=6*m+11:=by
  have V:∀ m,(Dk m).length=5+6*m:=λm=>by unfold Dk;rw[H',F5];rfl
  unfold Ct;simp only[H',V,m5];omega
 have l:∀ x∈L++Ay,LacOk x:=λx hx=>(P'.1 hx).elim (v x) λe=>KE 0 x (mi _ e);have a1:(L++Ay).length=L.length+5:=by rw[H'];rfl
 have t:∀ j,j<5->((Ao.dc (L++Ay)).ab j).up=true:=λj z=>by
  have:=iE L v 0 (by omega) z
  rwa [show Dk 0=Ay from mz _]at this
 have Y:∀ x∈L++Ay,x.k=1->∀ o:Nat,opE x.d (o:Int)=0->GW x.d (o:Int)∈Kv L:=λx hx H o h=>by
  rcases P'.1 hx with e|e
  .exact eq e H h
  .obtain⟨k,_,rfl⟩:=mA.1 e;exact absurd H (by show(9:Int)≠1;decide)
 have g:=fR (S:=λc=>c∈Kv L) (L++Ay) l (by omega) Y;obtain⟨τ,cov,_,J,u,w,y⟩:=We (L++Ay) MOk.zero (by omega) l AgI.zero KbI.zero (cov:=[]) (λb s c h=>h.elim);rw[show lds (L++Ay)=lds L by rw[da];rfl,Int.zero_add]at u
 have r:=Ih (L++Ay) l (by omega);have F:Ao.dc (L++(Ct m (i:Int)++Ct m (i:Int)))=(((((((Ao.dc (L++Ay)).act (acN 2 (i:Int))).dc Ay).dc (Af m)).dc Ay).act (acN 2 (i:Int))).dc Ay).dc (Af m):=by
  have e:∀ X:Meet,X.dc (Ct m (i:Int))=(((X.dc Ay).act (acN 2 (i:Int))).dc Ay).dc (Af m):=λX=>by
   unfold Ct;rw[AC,show Dk 0=Ay from mz _,AB];unfold Dk;rw[AC]
  rw[AC,AC,e,e,AC]
 rw[F];have G:((((Ao.dc (L++Ay)).act (acN 2 (i:Int))).dc Ay).dc (Af m))=Ao.dc (L++Ct m (i:Int)):=by
  rw[AC _ L (Ct m (i:Int)),AC _ L Ay];unfold Ct;rw[AC,show Dk 0=Ay from mz _,AB];unfold Dk;rw[AC]
 have a:=WX (L++Ct m (i:Int)) (λx hx=>(P'.1 hx).elim (v x) (C x)) (by rw[H'];omega);rw[<- G]at a
 clear F G;generalize Ao.dc (L++Ay)=M at t g J u r a ⊢;obtain⟨q,f⟩:∃ q,cov++(Fw (M.ab 0).av.fv++(Fw (M.ab 1).av.fv++(Fw (M.ab 2).av.fv++(Fw (M.ab 3).av.fv++Fw (M.ab 4).av.fv))))=q:=⟨_,rfl⟩;have I:q.length<=L.length+205:=by
  rw[<- f];simp only[H',Fw,mw,n7];simp only[List.length_nil]at w;omega
 have Z:∀ j,j<5->∀ s,s<40->((M.ab j).av.fv,s)∈q:=λj z s n=>by
  rw[<- f];refine mh _ ?_;simp only[P'];rcases qq z with rfl|rfl|rfl|rfl|rfl
  .exact .inl (Fx _ n)
  .exact .inr (.inl (Fx _ n))
  .exact .inr (.inr (.inl (Fx _ n)))
  .exact .inr (.inr (.inr (.inl (Fx _ n))))
  .exact .inr (.inr (.inr (.inr (Fx _ n))))
 have W:Cm (λc=>c∈Kv L) (9*(lds L:Int)) (λj=>(M.ab j).av.fv) q M:=⟨⟨τ,J,λb s c h=>by rw[<- f];exact mi _ (y b s c h)⟩,⟨by omega,u.mono (mc _) (by omega)⟩,t,λ_ _=>rfl,g⟩;obtain⟨K',B',E,k1,D,k3,k4,P,Q,R⟩:=j7 r (m:=m) (by omega) (by omega) Z W u (mc _) (by omega) (by omega) O;generalize (((M.act (acN 2 (i:Int))).dc Ay).dc (Af m))=N at D P Q R a ⊢;rw[Jw D.up];obtain⟨U,T,p,b,A,z1,z2⟩:=j8 (iQ L) n R hm (by omega) k3 D P Q (by omega) (by omega) (by omega) O a.1 a.2;exact⟨U,T,p,b,A,z1,z2⟩
theorem ir{l A:List Cmd}(e:l.length<=A.length)(h:∀ (s:Nat) (c d:Cmd),l[s]?=some c->A[s]?=some d->c=d):l <+: A:=by
 refine List.prefix_iff_eq_take.2 (oA (by rw[X'];omega) λs a b=>?_);rw[List.getElem_take];exact h s _ _ (G' a) (G' (by omega))
section
variable{C:List Cmd}{K:Int}{B:Nat->Bal}{cov:List (Bal × Nat)}{i:Nat}{b:Bal}{A:List Cmd}
theorem Rst.log{N:Meet}(r:Rst C K B cov i b A N){j:Nat}(c:j<5):N.log j=A:=by unfold Meet.log;rw[r.z.a j c,r.d j c,nD]
theorem Rst.tg(m:PhC C K B cov i b){L R:List Lac}(k:∀ x∈L++R,LacOk x)(o:(L++R).length<=100000)(r:Rst C K B cov i b A (Ao.dc (L++R))){j:Nat}(n:j<5):(Ao.dc L).log j <+: A:=by
 refine(oB _ _).trans (ir ?_ λs c d g h=>agree k o n m.hi g (by rw[r.z.f.ag];exact h));rw[H']at o
 have a:∀ x∈L,LacOk x:=λx e=>k x (mi _ e);have q:Sts whT L.length Ao (Ao.dc L):=ES L MOk.zero (by omega) λx e=>⟨a x e,IQ x⟩;have t:Sts whT R.length (Ao.dc L) (Ao.dc (L++R)):=by
  rw[AC];exact ES R (Ih L a (by omega)) (by omega) λx e=>⟨k x (mh _ e),IQ x⟩
 obtain⟨σ,_,_,g,_⟩:=AgI.zero.steps q;obtain⟨τ,_,h,p,_⟩:=g.steps t;have:=((g.nd j n).ag.mono h).le (r.z.f.none m r.z.l.pe p) (mH _);omega
end
theorem ah(L:List Lac):(Kv L).length<=L.countP λx=>decide (x.k=1):=by
 unfold Kv;rw[mw,<- List.countP_eq_length_filter];exact List.countP_mono_left λx _ h=>O' (mI h).1
theorem ZH(G:List Gr)(m:Nat)(a:Bool):(scr G m a).countP (λx=>decide (x.k=1))<=6:=by
 have key:∀ (l:List Gr) (s:Nat),(LV a s l).countP (λx=>decide (x.k=1))<=6-s:=by
  intro l;induction l with
  | nil=>exact λs=>mH _
  | cons g l ih =>
   intro s;rw[LV,oP];unfold Wj dZ;generalize MI g a=x;by_cases h:x.k=1
   .have:=ih (s+1);by_cases b:6<s+1
    .rw[if_pos h,if_pos (⟨h,b⟩:x.k=1/\6<s+1),if_neg (by decide)];omega
    .rw[if_pos h,if_neg (λe:x.k=1/\6<s+1=>b e.2),if_pos (O' h)];omega
   .have:=ih s;rw[if_neg h,if_neg (λe:x.k=1/\6<s+1=>h e.1),if_neg (λe=>h (mI e))];omega
 exact key _ 0
theorem gT(L:List Lac):lds L<=L.length:=List.countP_le_length
theorem ei(L:List Lac)(a:∀ x∈L,LacOk x)(g:L.length<=380)(h:L.countP (λx=>decide (x.k=1))<40){i:Nat}(c:i<5) :
  ∃ K B cov b A,PhC (Kv L) K B cov i b/\Rst (Kv L) K B cov i b A (Ao.dc (L++GX L (i:Int))):=by
 have d:=gT L;have e:(L.filter hvy).length<=L.length:=oK _ _;have f:=ah L;exact settled L a (by omega) (by omega) (by omega) (Fb L) (by unfold Fb;omega) (by unfold Fb;omega) c
end
section
open Go.RowKit
theorem Pz{n a c:Int}{w:World}(h:I64 n)(d:pick n a=c)(f:0<a:=by decide)(b:a<=9223372036854775807:=by decide) :
  Calls prog 4 #[iv n,iv a] w λe w'=>e=.returned (iv c)/\Bw w w':=by subst d;exact Cf h a f b
theorem bk{l A:List Cmd}(h:l <+: A):alk A l=true:=by
 obtain⟨r,rfl⟩:=h;induction l with
 | nil=>exact TB _
 | cons c l ih=>rw[List.cons_append,alk,ih];simp
theorem YE{M:Meet}{A:List Cmd}(h:∀ j,j<5->M.log j <+: A):((lgN M 5).map M.log).getD [] <+: A:=by
 cases hh:lgN M 5 with
 | none=>exact List.nil_prefix
 | some j=>exact h j (YD hh)
theorem PT(m:Nat):∀ a∈Af m,a.k=3\/a.k=7:=by
 induction m with
 | zero=>intro a b;cases b
 | succ m ih =>
  intro a b;rcases P'.1 b with h|h
  .exact ih a h
  .rcases P'.1 h with h|h
   .obtain⟨n,_,rfl⟩:=mA.1 h;exact .inl rfl
   .rw[D'.1 h];exact .inr rfl
theorem UN(L:List Lac)(a:∀ x∈L,x.k≠9){M:Meet}{j:Nat}(b:(M.ab j).up=false):(M.dc L).ab j=M.ab j:=by
 induction L generalizing M with
 | nil=>rfl
 | cons x L ih =>
  have e:=P0 M x b λg=>a x M' g.1;show((M.act x).dc L).ab j=_;rw[ih (λy c=>a y (I' _ c)) (by rw[e];exact b),e]
theorem lx{g:Gh}{w:World}{a:Lac}(b:a.d=[]:=by rfl):Dat g w [(a,s30)]:=by
 intro p c;rw[D'.1 c];show FSl g w s30 a.d;rw[b];exact Lp g w
theorem Ve{n:Nat}(a:n<5):LacOk (acN 8 (n:Int)):=by
 rw[<- Dp];simp[Y1,acN,FP,Ha,Hb];omega
theorem Pr{l:S3}{G:List Gr}{wo ld:Int}{w:World}(h:RdV w l 5 (grL G))(hG:∀ g∈G,GrOk g)(c7:I64 wo)(c0:I64 ld)(hT:UL w) :
  Calls prog 3 #[l.v,iv wo,iv ld] w λe w'=>e=.returned (.bool true)/\Bw w w':=by
 obtain⟨L,hL⟩:∃ L,scr G 60 false=L:=⟨_,rfl⟩;have a8:=iI G 60 false;have c1:=ec G 60 false;have b8:=ZH G 60 false;have a6:=λx p=>(ZG G 60 x p).2;rw[hL]at a8 c1 b8 a6
 have hr:=Be wo 5 (by omega);have c4:=Be ld 4 (by omega);obtain⟨k,hk,f⟩:∃ n:Nat,pick wo 5=(n:Int)/\n<5:=⟨(pick wo 5).toNat,by omega,by omega⟩;obtain⟨c,hc⟩:∃ c,pick ld 4=c:=⟨_,rfl⟩;rw[hc]at c4
 obtain⟨n,hn,c2⟩:∃ n:Nat,((k:Int)+1+c)%5=(n:Int)/\n<5:=⟨(((k:Int)+1+c)%5).toNat,by omega,by omega⟩;obtain⟨T,D⟩:∃ T,[acN 8 (k:Int)]++L++[acN 2 (n:Int)]=T:=⟨_,rfl⟩;obtain⟨o,E⟩:∃ o,T++Af 40=o:=⟨_,rfl⟩;have g0:(Af 40).length=240:=F5 40;have g1:T.length<=62:=by rw[<- D,H',H'];show 1+L.length+1<=62;omega
 have g2:o.length<=302:=by rw[<- E,H'];omega
 have a9:∀ x∈T,LacOk x:=λx p=>by
  rw[<- D]at p
  rcases P'.1 p with e|e
  .rcases P'.1 e with e|e
   .rw[D'.1 e];exact Ve f
   .exact a8 x e
  .rw[D'.1 e];exact Ef ⟨.inl rfl,by omega,by omega⟩
 have u:∀ x∈o,LacOk x:=λx p=>by rw[<- E]at p;exact(P'.1 p).elim (a9 x) λe=>KE 40 x (mh _ e)
 have c5:o.countP (λx=>decide (x.k=1))<40:=by
  rw[<- E,<- D,nM,nM,nM,show(Af 40).countP (λx=>decide (x.k=1))=0 from List.countP_eq_zero.2 λx p=>by rcases PT 40 x p with e|e<;>simp[e]];show 0+L.countP _+0+0<40;omega
 have a2:((Ao.dc o).ab k).up=false:=by
  have e:o=[acN 8 (k:Int)]++(L++([acN 2 (n:Int)]++Af 40)):=by rw[<- E,<- D];simp
  have hd:=X7 [] (λx p=>by cases p) (by simp) f (x:=acN 8 (k:Int)) rfl rfl (mc 0);rw[nC]at hd
  rw[e,AC,UN _ (λx p=>?_) hd]
  .exact hd
  .rcases P'.1 p with g|g
   .exact a6 x g
   .rcases P'.1 g with g|g
    .rw[D'.1 g];show(2:Int)≠9;decide
    .rcases PT 40 x g with g|g<;>rw[g]<;>decide
 have a7:(Ao.dc o).log k=[]:=by unfold Meet.log;rw[WY _ u (by omega) f a2,List.take_nil]
 have g5:=ZN o (n:Int);have c3:∀ x∈GX o (n:Int),LacOk x:=QN (λn hn=>Ef ⟨.inr (.inr rfl),by omega,by omega⟩) (λn hn=>Ef ⟨.inr (.inl rfl),by omega,by omega⟩) (by rw[<- Dp];decide) (Ef ⟨.inl rfl,by omega,by omega⟩) o;have I:∀ x∈o++GX o (n:Int),LacOk x:=λx p=>(P'.1 p).elim (u x) λe=>c3 x e;have a3:(o++GX o (n:Int)).length<=100000:=by rw[H'];omega
 obtain⟨K,B,f5,b,A,hh,hR⟩:=ei o u (by omega) c5 c2;have V:∀ j,j<5->(Ao.dc o).log j <+: A:=λj hj=>hR.tg hh I a3 hj;have q:∀ j,j<5->(Ao.dc (o++GX o (n:Int))).log j=A:=λj hj=>hR.log hj;have b0:((Ao.dc (o++GX o (n:Int))).ab k).up=true:=hR.z.l.pe.pb.cm.up k f;have f6:A.length<=40:=by
  have:=((Ih _ I a3).ab 0 (by omega)).ag
  rwa [hR.z.a 0 (by omega)]at this
 clear hR hh;obtain⟨M,hM⟩:∃ M,Ao.dc o=M:=⟨_,rfl⟩;obtain⟨N,a5⟩:∃ N,Ao.dc (o++GX o (n:Int))=N:=⟨_,rfl⟩;rw[hM]at V a2 a7
 rw[a5]at q b0
 have U:=YE V;refine tIn [] func3 trivial (tR 7 [] λh0 _ _=>tC1 1 (λF C=>Pz c7 hk) λ_=>tR 5 [] λh1 _ _=>tV 1 (iv ((k:Int)+1)) (λF C=>(AK 19 (k:Int) underlying3 (by omega))) (tR 1 [] λh4 _ _=>tC1 3 (λF C=>Pz c0 hc) λ_=>tV 4 (iv ((k:Int)+1+c)) (λF C=>(Kp (x:=(.tmp 20)) (y:=(.tmp 22)) ((k:Int)+1) c underlying3 (by omega))) (tV 5 (iv (n:Int)) (λF C=>((by rw[<- hn];exact Ur (x:=(.tmp 23)) (y:=(.const (iv 5))) ((k:Int)+1+c) 5 underlying3 (by omega) (by omega) (by omega) (by omega)))) (tR 13 [62,0] λa4 _ _=>lT 0 0 (a4 0) 1 [false] [iv 8,iv (k:Int),iv 0,iv 0,sn] 26 5 rfl λ_=>tCv [Fa.oa 0 (⟨some ⟨(a4 0),0,none⟩,1,1⟩:S3) [(acN 8 (k:Int),s30)]] (λF=>⟨⟨F.1,lx⟩,trivial⟩) (tC 2 (λF C=>Wk (most:=60) (cr:=false) (h.af (CgQ.af C)) hG (by decide) (tbA hT.1 C)) λNz=>?_)))));rintro _ _ ⟨s,P,rfl,hP,hN,b9⟩;refine⟨_,Fa.ac s P::_,rfl,b9,λF=>⟨hN.ac Nz,F⟩,?_⟩;rw[hL]at hP
 have f7:P.length=L.length:=by rw[<- hP,mw]
 refine tF λF _=>?_;have c6:=(AcR.of F.1 hP).n;refine fH 3 0 (x:=(⟨some ⟨(a4 0),0,none⟩,1,1⟩:S3)) s (acV P) 27 27 26 5 56 zLa (λF=>F.2.1.1) (λF=>F.1.1.rd) [Fa.dt ([(acN 8 (k:Int),s30)]++P)] (λF=>⟨Dat.app F.2.1.2 F.1.2,trivial⟩) rfl (by simp[TQ]) (Ow P) (by show 1+s.n<=_;unfold maxLen;omega) (by show(1+s.n)*56<=_;omega) λy0 _ _ c8=>tCv [Fa.oa 0 y0 ([(acN 8 (k:Int),s30)]++P)] (λF=>⟨⟨(by rw[bf];exact F.1),F.2.1⟩,trivial⟩) ?_;have d4:y0.n=1+L.length:=by rw[c8,c6]
 refine tR 8 [0,0] λW _ _=>Jx 4 0 (x:=y0) 27 27 26 5 56 zLa ⟨(W 0),0,none⟩ 1 1 [iv 2,iv (n:Int),iv 0,iv 0,sn] (λF=>F.1.1) [Fa.dt (([(acN 8 (k:Int),s30)]++P)++[(acN 2 (n:Int),s30)])] (λF=>⟨Dat.snoc F.1.2 (Lp _ _),trivial⟩) rfl (by simp[TQ]) rfl (by simp[Value.oneCell']) (λF K=>BR K 0 (W 0) [iv 2,iv (n:Int),iv 0,iv 0,sn] 26 .z true (by kernel_rfl)) (by unfold maxLen;omega) (by omega) λO _ _ g7=>tCv [Fa.oa 0 O (([(acN 8 (k:Int),s30)]++P)++[(acN 2 (n:Int),s30)])] (λF=>⟨⟨(by rw[CL];exact F.1),F.2.1⟩,trivial⟩) ?_;have a1:(([(acN 8 (k:Int),s30)]++P)++[(acN 2 (n:Int),s30)]).map (·.1)=T:=by rw[mB,mB,hP,<- D];rfl
 generalize (([(acN 8 (k:Int),s30)]++P)++[(acN 2 (n:Int),s30)])=Q at a1 ⊢;have f8:Q.length=T.length:=by rw[<- a1,mw]
 have d3:T.length=2+L.length:=by rw[<- D,H',H'];show 1+L.length+1=_;omega
 have d5:O.n=Q.length:=by omega
 refine tR 8 [] λd7 _ _=>Dx 114 [(7,iv (k:Int)),(8,iv (n:Int)),(9,S3.v O),(10,iv 0)] [false] [] [Fa.oa 0 O (Q++rnP (Af 0))] (λkk ee LL S=>∃ (i:Nat) (y:S3),kk=40-i/\ee=[(7,iv (k:Int)),(8,iv (n:Int)),(9,S3.v y),(10,iv (i:Int))]/\LL=[]/\S=[Fa.oa 0 y (Q++rnP (Af i))]/\i<=40/\y.n=Q.length+6*i) (40) ⟨0,O,rfl,rfl,rfl,rfl,by omega,by omega⟩ (λF=>⟨by rw[show rnP (Af 0)=[]from rfl,mz];exact F.1,trivial⟩) ?_;rintro k _ _ _ ⟨i,y,rfl,rfl,rfl,rfl,hi,d0⟩ _ _ _ J hJ;refine tR 6 [] λd8 _ _=>?_;by_cases h2:i<40
 .refine tI ((decide ((i:Int)<40))) true (O' (by omega)) (tR 9 [] λd9 _ _=>Dx 114 [(7,iv (k:Int)),(8,iv (n:Int)),(9,S3.v y),(10,iv (i:Int)),(11,iv 0)] [] [] [Fa.oa 0 y (Q++rnP (Af i++Aw 3 0))] (λkk ee LL S=>∃ (j:Nat) (y:S3),kk=5-j/\ee=[(7,iv (k:Int)),(8,iv (n:Int)),(9,S3.v y),(10,iv (i:Int)),(11,iv (j:Int))]/\LL=[]/\S=[Fa.oa 0 y (Q++rnP (Af i++Aw 3 j))]/\j<=5/\y.n=Q.length+(6*i+j)) (5) ⟨0,y,rfl,rfl,rfl,rfl,by omega,by omega⟩ (λF=>⟨by rw[show Aw 3 0=[]from rfl,mz];exact F.1,trivial⟩) ?_);rintro k _ _ _ ⟨j,y,rfl,rfl,rfl,rfl,hj,d0⟩ _ _ _ Jb b4;refine tR 6 [] λe0 _ _=>?_;by_cases h3:j<5
  .refine tI ((decide ((j:Int)<5))) true (O' (by omega)) (tR 8 [0,0] λX _ _=>Jx 4 0 (x:=y) 27 27 26 5 56 zLa ⟨(X 0),0,none⟩ 1 1 [iv 3,iv (j:Int),iv 0,iv 0,sn] (λF=>F.1.1) [Fa.dt ((Q++rnP (Af i++Aw 3 j))++[(acN 3 (j:Int),s30)])] (λF=>⟨Dat.snoc F.1.2 (Lp _ _),trivial⟩) rfl (by simp[TQ]) rfl (by simp[Value.oneCell']) (λF K=>BR K 0 (X 0) [iv 3,iv (j:Int),iv 0,iv 0,sn] 26 .z true (by kernel_rfl)) (by unfold maxLen;omega) (by omega) λd1 _ _ g8=>tR 5 [] λe1 _ _=>tV 1 (iv ((j:Int)+1)) (λF C=>(AK 43 (j:Int) underlying3 (by omega))) (tR 2 [] λe2 _ _=>tB b4 (5-(j+1)) (by omega) [false] ⟨j+1,d1,rfl,rfl,rfl,rfl,by omega,by omega⟩ (λF=>by rw[BE,<- mf (Af i),Fh,<- mf Q];exact⟨⟨(by rw[CL];exact F.1),F.2.1⟩,trivial⟩)))
  .refine tI ((decide ((j:Int)<5))) false (E' (by omega)) ?_;obtain rfl:j=5:=by omega
   refine tR 5 [0,0] λY _ _=>Jx 3 0 (x:=y) 27 27 26 5 56 zLa ⟨(Y 0),0,none⟩ 1 1 [iv 7,iv 0,iv 0,iv 0,sn] (λF=>F.1.1) [Fa.dt ((Q++rnP (Af i++Aw 3 5))++[(acN 7 0,s30)])] (λF=>⟨Dat.snoc F.1.2 (Lp _ _),trivial⟩) rfl (by simp[TQ]) rfl (by simp[Value.oneCell']) (λF K=>BR K 0 (Y 0) [iv 7,iv 0,iv 0,iv 0,sn] 26 .z true (by kernel_rfl)) (by unfold maxLen;omega) (by omega) λd2 _ _ g9=>tR 5 [] λe3 _ _=>tV 1 (iv ((i:Int)+1)) (λF C=>(AK 39 (i:Int) underlying3 (by omega))) (tR 2 [] λe4 _ _=>tB hJ (40-(i+1)) (by omega) [false] ⟨i+1,d2,rfl,rfl,rfl,rfl,by omega,by omega⟩ (λF=>by rw[show Af (i+1)=Af i++Aw 3 5++[acN 7 0]by rw[Af,mf];rfl,Fh,<- mf Q];exact⟨⟨(by rw[CL];exact F.1),F.2.1⟩,trivial⟩))
 .refine tI ((decide ((i:Int)<40))) false (E' (by omega)) ?_;obtain rfl:i=40:=by omega
  have H:(Q++rnP (Af 40)).map (·.1)=o:=by rw[mB,a1,Uv,E]
  generalize Q++rnP (Af 40)=R at H ⊢;have f9:R.length=o.length:=by rw[<- H,mw]
  refine tR 4 [] λe5 _ _=>tC 1 (λF C=>Zu (AcR.oo F.1 H) u (by omega) (tb5 hT C) hM) λNz=>?_;rintro _ _ ⟨ly,tv,ys,rfl,hW,hO,b1⟩;refine⟨_,Fa.ot ly tv ys M::_,rfl,b1,λF=>⟨OQ hW hO Nz,F⟩,?_⟩;refine tR 11 [1,0,0,0] λZ _ _=>tC 2 (λF C=>Tl (n:=(n:Int)) (AcR.oo F.2.1 H) (by omega)) λNz=>?_;rintro _ _ ⟨z,rfl,hz,b2⟩;refine⟨_,Fa.ac z (R++rnP (GX o (n:Int)))::_,rfl,b2,λF=>⟨⟨hz.fz Nz,Dat.app F.2.1.2 (Pc _ _ (QN (P:=λa=>a.d=[]) (λ_ _=>rfl) (λ_ _=>rfl) rfl rfl o))⟩,F⟩,?_⟩;have b6:(R++rnP (GX o (n:Int))).map (·.1)=o++GX o (n:Int):=by rw[mB,H,Uv]
  refine tC 3 (λF C=>Zu (AcR.of F.1 b6) I a3 (tb5 hT C) a5) λNz=>?_;rintro _ _ ⟨lz,tz,zs,rfl,b7,b5,b3⟩;refine⟨_,[Fa.ot lz tz zs N,Fa.ot ly tv ys M],rfl,b3,λF=>⟨OQ b7 b5 Nz,F.2.1,trivial⟩,?_⟩;refine tF λF _=>?_;have g3:=(KB F.2.1).n5;obtain⟨bl,fl,al,_⟩:=F.2.1.qW.rd.spot (i:=0) (by omega);have g4:=(KB F.1).n5;obtain⟨bm,fm,am,_⟩:=F.1.qW.rd.spot (i:=0) (by omega);have c9:(ys k).n=0:=by rw[R7 (F.2.1.log k f).rd,a7];rfl
  have g6:(zs k).n=A.length:=by rw[R7 (F.1.log k f).rd,q k f]
  have d6:(lgY ys (lgN M 5)).n<=A.length:=by rw[R7 (Sz F.2.1 (n:=5) (A' 5)).rd];exact U.length_le
  refine tR 19 [1,0,1,0] λa0 _ _=>tV 9 (pt (Z 0) (1+k)) (λF C=>(Zq f)) (tW 10 (.bool false) (λF K=>CP underlying4 rfl (kw K 0 (Z 0) (Hy M ly tv).toList 34 .l false (by kernel_rfl) (fs f a2))) (tR 5 [0] λe6 _ _=>tV 16 (pt bl (fl+k)) (λF C=>(QD al k (by omega))) (tV 17 (S3.v (ys k)) (λF C=>(CP underlying38 rfl (Iy F.2.1.qW.rd al f))) (tR 1 [] λe7 _ _=>tV 19 (.bool false) (λF C=>(H6 (t:=3) (m:=((ys k).n:Int)) (n:=0) (x:=(.tmp 84)) (y:=(.const (iv 0))) (by rw[c9];rfl))) (tR 4 [] λe8 _ _=>tV 24 (pt (a0 0) (1+k)) (λF C=>(Zq f)) (tW 25 (.bool true) (λF K=>CP underlying4 rfl (kw K 1 (a0 0) (Hy N lz tz).toList 34 .l false (by kernel_rfl) (fs f b0))) (tR 8 [0] λe9 _ _=>tC1 1 (λF C=>S1 (KB F.2.1)) λ_=>tR 7 [1] λf0 _ _=>tV 3 (pt bm (fm+k)) (λF C=>(QD am k (by omega))) (tV 4 (S3.v (zs k)) (λF C=>(CP underlying38 rfl (Iy F.1.qW.rd am f))) (tR 3 [] λf1 _ _=>tV 8 (.bool true) (λF C=>(rGe (t:=3) (m:=((zs k).n:Int)) (n:=((lgY ys (lgN M 5)).n:Int)) (x:=(.tmp 101)) (y:=(.tmp 103)) (O' (by omega)))) (tR 4 [1] λf2 _ _=>tV 13 (pt bm (fm+k)) (λF C=>(QD am k (by omega))) (tV 14 (S3.v (zs k)) (λF C=>(CP underlying38 rfl (Iy F.1.qW.rd am f))) (tR 1 [] λf3 _ _=>tC1 16 (λF C=>WZ (F.1.log k f).rd (Sz F.2.1 (n:=5) (A' 5)).rd (by rw[q k f];omega) (r:=true) (by rw[q k f];exact bk U)) λ_=>tR 3 [] λf4 _ _=>tE (.bool true) λ_ B=>⟨rfl,B⟩))))))))))))
end
section
open Go.RowKit Go.ChangeShapes Go.WideShapes Go.ChangeAt
section
variable{H:Type}{W:World}{base fuel n:Nat}{cs:List Value}{held:Bool}
theorem Ps{P:Program}{b:TypeId × Value->H}{w:World}{a:Nat->Bool}{t:TypeId}{c d e f g:Field}{x:DataW H × List MemPlace}(l:P.underlying t=some (.struct #[c,d,e,f,g]))(h:DataW.trod b P w base a held fuel t cs=some x) :
  ∃ y0 y1 y2 y3 y4 n,x=(.agg [y0.1,y1.1,y2.1,y3.1,y4.1],y0.2++(y1.2++(y2.2++(y3.2++y4.2))))/\cs.length=P.cellsOf t/\DataW.trod b P w base a held n c.type ((cs.drop c.offset).take (P.cellsOf c.type))=some y0 /\
   DataW.trod b P w base a held n d.type ((cs.drop d.offset).take (P.cellsOf d.type))=some y1/\DataW.trod b P w base a held n e.type ((cs.drop e.offset).take (P.cellsOf e.type))=some y2 /\
   DataW.trod b P w base a held n f.type ((cs.drop f.offset).take (P.cellsOf f.type))=some y3/\DataW.trod b P w base a held n g.type ((cs.drop g.offset).take (P.cellsOf g.type))=some y4:=by
 obtain⟨m,n,_,rfl,k,j,i⟩:=DataW.trod_struct l h
 match m,j with
 | [y0,y1,y2,y3,y4],_=>exact⟨y0,y1,y2,y3,y4,n,by simp,k,by simpa using i 0 c rfl,by simpa using i 1 d rfl,by simpa using i 2 e rfl,by simpa using i 3 f rfl,by simpa using i 4 g rfl⟩
theorem gf:prog.cellsOf 3=1:=by kernel_rfl
theorem Lu{n:Int}(h:(Lit.int .i64 n).wf=true):I64 n:=by have:=bounds_i64 h;unfold I64;omega
instance:Inhabited Gr:=⟨⟨0,0,0,0,0⟩⟩
theorem gJ{a:TypeId × Value->H}{t:Nat->Bool}{x:DataW H × List MemPlace}(h:DataW.trod a prog W base t held fuel 44 cs=some x):∃ g,cs=grV g/\GrOk g:=by
 obtain⟨A,B,C,D,E,m,_,o,i,j,k,l,n⟩:=Ps underlying44 h;rw[show prog.cellsOf 44=5 by kernel_rfl]at o
 simp only[gf]at i j k l n
 match cs,o with
 | [c0,c1,c2,c3,c4],_ =>
  obtain⟨a0,b,_,u⟩:=DataW.trod_int underlying3 i;obtain⟨p,c,_,v⟩:=DataW.trod_int underlying3 j;obtain⟨q,d,_,w⟩:=DataW.trod_int underlying3 k;obtain⟨r,e,_,y⟩:=DataW.trod_int underlying3 l;obtain⟨s,f,_,z⟩:=DataW.trod_int underlying3 n;simp at b c d e f;subst b c d e f;exact⟨⟨a0,p,q,r,s⟩,rfl,Lu u,Lu v,Lu w,Lu y,Lu z⟩
theorem gH{f:Nat->Gr}{i j:Nat}{u:Value}(h:(((List.range n).map f).flatMap grV)[j]?=some u)(d:i=j/5):∃ q,j=5*i+q/\i<n/\(grV (f i))[q]?=some u:=by
 subst d;have b:j<(((List.range n).map f).flatMap grV).length:=(V'.1 h).1;rw[Gk (f:=grV) (sz:=5) (λ_=>rfl),mw,n7]at b
 have hin:j/5<n:=by omega
 refine⟨j%5,by omega,hin,?_⟩;obtain⟨v,c⟩:∃ v,(grV (f (j/5)))[j%5]?=some v:=⟨_,G' (by show j%5<5;omega)⟩;have:=K8 (f:=grV) (sz:=5) (λ_=>rfl) ((List.range n).map f) (i:=j/5) (j:=j%5) (a:=f (j/5)) (by simp[hin]) c;rw[show 5*(j/5)+j%5=j by omega,h]at this
 rw[c];exact this.symm
theorem Yi{z:TypeId × Value->H}{a:Option Addr}{c:Nat}{d:DataW H}{p:List MemPlace}(F:DataW.trod z prog W 0 (λ_=>true) true fuel 22 [.slice a n c]=some (d,p)):∃ G,RdV W ⟨a,n,c⟩ 5 (grL G)/\∀ g∈G,GrOk g:=by
 rcases Deep.open_slice underlying22 F with⟨l,_⟩|⟨a',len,cap,m,k,D,Pl,l,hb,hl,hm,hmm,hx,hel⟩
 .simp at l;obtain⟨rfl,rfl,rfl⟩:=l;exact⟨[],⟨rfl,A' _,λ_=>rfl,.inl rfl⟩,λg w=>by cases w⟩
 .simp at l;obtain⟨rfl,rfl,rfl⟩:=l;simp only[if_true]at hmm;rw[show prog.cellsOf 44=5 by kernel_rfl]at hel
  have hin:∀ i,i<n->∃ g,(∀ j u,(grV g)[j]?=some u->W.cell? ((a'.add (i*5)).add j)=some u)/\GrOk g:=by
   intro i x;obtain⟨B,l,C⟩:=hel i (by omega);obtain⟨g,rfl,w⟩:=gJ C;obtain⟨_,_,E⟩:=World.cells?_some l;refine⟨g,λj u y=>?_,w⟩;have A:j<5:=(V'.1 y).1;rw[E j A,y]
  obtain⟨f,s⟩:=Deep.choose_lt hin;refine⟨(List.range n).map f,⟨by rw[show(grL ((List.range n).map f)).length=_ from Gk (f:=grV) (sz:=5) (λ_=>rfl) _,mw,n7],hl,(λh=>by cases h),?_⟩,λg w=>?_⟩
  .by_cases h0:n=0
   .exact .inl h0
   .right;obtain⟨b,v,spot⟩:=a';have r:=(s 0 (by omega)).1 0 _ rfl;have t:spot=none:=by simpa[Addr.add]using World.cell?_spot r
    subst t;have e:∀ o k,(⟨b,o,none⟩:Addr).add k=⟨b,o+k,none⟩:=λo k=>by unfold Addr.add;split<;>simp_all
    refine⟨b,v,rfl,?_,λj u y=>?_⟩
    .rw[e,e]at r
     exact World.block_lt_of_cell? W _ r
    .obtain⟨q,hq,x,hu⟩:=gH y rfl;have:=(s (j/5) x).1 q u hu;rw[e,e]at this
     rw[show v+j=v+j/5*5+q by omega];exact this
  .obtain⟨i,x,rfl⟩:=mA.1 w;exact(s i (nW.1 x)).2
end
end
section
open Go.ChangeShapes Go.WideShapes Go.ChangeAt Go.RowKit
section
theorem J6(H:Type)(k:TypeId × Value->H)(W:World)(n:Nat)(a:Array Value)(s B:List (DataW H))(c:List MemPlace)(b:∀ (j:Nat) t v,f3.params[j]?=some t->a[j]?=some v->Value.okWide prog W .any n t v)(E:DataW.Whole k prog f3.params.toList Rows.topLateSpec.vars false W a.toList s B c)(y:(DataW.weightsEach prog (f3.params.toList++Rows.topLateSpec.plain.varTypes prog) (s++B)).all (·<=reachBytes)=true)(U:laidMetH prog Rows.topLateRow.laid W) :
  Calls prog 3 a W λe W'=>∃ v,e=.returned v/\Rows.topLateSpec.post k prog f3 false true false false W a v W':=by
 have u:=E;obtain⟨p,q,r,V,rfl,Z,a3⟩:=E;have D:DataW.TrodAll k prog W 0 (λ_=>true) true f3.params.toList a.toList s p:=r;rw[params3]at D b y
 obtain⟨I,a4,d0,P,p0,q0,w,rfl,rfl,C,r0⟩:=trodAll_cons D;obtain⟨J,a5,d1,Q,p1,q1,rfl,rfl,rfl,S,r1⟩:=trodAll_cons r0;obtain⟨K,a6,d2,R,p2,q2,rfl,rfl,rfl,T,r2⟩:=trodAll_cons r1;obtain⟨rfl,rfl,rfl⟩:=trodAll_nil r2;obtain rfl:a=#[I,J,K]:=by cases a;simp_all
 obtain⟨rfl,rfl⟩:=trodVars_none V;obtain⟨a0,i,d,rfl⟩:=okWide_slice underlying22 (b 0 22 I rfl rfl);have F:=C;have z:∀ x∈p0,x.block<W.heap.size:=by obtain⟨m,hm⟩:=F;exact DataW.trod_lt m _ _ _ hm
 obtain⟨l0,w0,i0⟩:∃ G,RdV W ⟨a0,i,d⟩ 5 (grL G)/\∀ g∈G,GrOk g:=by obtain⟨A,Y⟩:=C;exact Yi Y
 obtain⟨N,rfl,rfl,rfl,L⟩:=open_int underlying3 (b 1 3 J rfl rfl) S;have b1:=bounds_i64 L;obtain⟨O,rfl,rfl,rfl,M⟩:=open_int underlying3 (b 2 3 K rfl rfl) T;have b2:=bounds_i64 M;clear r;refine(Pr (l:=⟨a0,i,d⟩) (wo:=N) (ld:=O) w0 i0 ⟨by omega,by omega⟩ ⟨by omega,by omega⟩ (lU U)).mono λe W' ⟨X,o⟩=>?_;subst X;exact⟨_,rfl,_,_,_,[],_,[],u,trodAll_mk1 (shut_bool underlying4 _),(trodAll_cons_mk (Below.trod cZ (by kernel_rfl) (mI (by kernel_rfl)) F o z) (trodAll_cons_mk (shut_int underlying3 L) (trodAll_cons_mk (shut_int underlying3 M) trodAll_mk0))),rfl,o.frame _,λh=>by cases h⟩
variable{W:World}{os:Os}
theorem Rg(h:IT os W):laidMet prog Rows.topLateRow.laid (W.forCall (λ_ _=>0) ⟨#[],#[.slice none 0 0,.int .i64 0,.int .i64 0],[]⟩).memory:=by
 unfold IT at h;subst h;exact laidMet_of_run' 8 (by kernel_rfl) (by kernel_rfl)
theorem Nh(h:IT os W){H:Type}(a:TypeId × Value->H):∃ places,DataW.whole a prog (W.forCall (λ_ _=>0) ⟨#[],#[.slice none 0 0,.int .i64 0,.int .i64 0],[]⟩).memory f3.params.toList Rows.topLateSpec.vars false (#[.slice none 0 0,.int .i64 0,.int .i64 0]:Array Value).toList 8=some ([.nil,.lit (.int .i64 0),.lit (.int .i64 0)],[],places):=by
 unfold IT at h;subst h;exact⟨[],by kernel_rfl⟩
theorem Ml(d:Os)(a:d.Started)(H:Type)(enc:TypeId × Value->H)(F:Stop.Interp) :
  ReturnsInHanded {} Tryz.checked d 3 .any ((OpenSpec.ofChange Rows.topLateSpec).preRow enc prog f3 Rows.topLateRow.domain false Rows.topLateRow.laid) (((OpenSpec.ofChange Rows.topLateSpec).at F).post enc prog f3 false true false false):=by
 obtain⟨i,b⟩:=cc d;obtain⟨c,h⟩:=Nh b enc;have g:=Rg b;refine returnsInHanded_of_row (C:=Tryz.checked) (s:=OpenSpec.ofChange Rows.topLateSpec) own a (by kernel_rfl) func3 ?_ ?_
 .unfold IT at b;subst b;exact witness_row_at (enc:=enc) (C:=Tryz.checked) false _ #[.slice none 0 0,.int .i64 0,.int .i64 0] rfl (by kernel_rfl) (by kernel_rfl) (by kernel_rfl)
   (OpenSpec.preRow_of_cond 8 h (by kernel_rfl) (λk e=>by cases e) (by kernel_rfl) g)
 .intro W base args ds gs before hval hW _ _ hsz hL _ _;exact J6 H enc W base args ds gs before hval hW hsz hL
theorem Pq:Rows.TopLateSaid :=
 OpenClaim.holds_of_cond 3 f3 rfl rfl rfl rfl rfl rfl rfl ⟨rfl,rfl,rfl,rfl,rfl⟩ rfl rfl rfl rfl rfl (by kernel_rfl) func3 (by kernel_rfl)
  (mI (by kernel_rfl)) (by unfold Func.isWrapper;first|(rw[if_pos (by decide +kernel)];kernel_rfl)|(rw[if_neg (by decide +kernel)];exact⟨rfl,rfl⟩))
  (λc a H b _ F=>by rw[OpenClaim.pre_eq_preRow];exact Ml c a H b F)
theorem Ng(f : FuncId)(b : Func)(e : Tryz.pinned.checked.prog.funcNamed "conclave/conclavetop.TopLate" = some f)(c : Tryz.pinned.checked.prog.funcs[f]? = some b) :
  false=Tryz.pinned.checked.prog.looks []/\∀ (j:Nat) t,b.params[j]?=some t->Tryz.pinned.checked.prog.wantsStandIn t=false:=by
 obtain rfl : f = 3 := Option.some.inj ((show prog.funcNamed "conclave/conclavetop.TopLate" = some 3 by kernel_rfl).symm.trans e) |>.symm
 obtain rfl:b=f3:=(mS (func3.symm.trans c)).symm;refine⟨by kernel_rfl,λj t d=>?_⟩;rw[params3]at d
 have a:=Array.mem_of_getElem? d;simp only[List.mem_toArray,mn,Q',or_false]at a;rcases a with rfl|rfl|rfl
 .exact(show prog.wantsStandIn 22=false by kernel_rfl)
 .exact(show prog.wantsStandIn 3=false by kernel_rfl)
 .exact(show prog.wantsStandIn 3=false by kernel_rfl)
theorem topLate_card:Rows.TopLateCardSaid :=
 Claim7.holds_tied_plain_at .later [] _ _ _ _ Pq (λ_ h=>by cases h) (by kernel_rfl) (λ_ h=>by cases h) topLate_row_tie rfl ⟨rfl,rfl⟩ (by kernel_rfl) rfl Ng (by kernel_rfl)
#print axioms topLate_card
end
end
end Go.Proofs.YtgbabbapcibnlabGreatDoor
