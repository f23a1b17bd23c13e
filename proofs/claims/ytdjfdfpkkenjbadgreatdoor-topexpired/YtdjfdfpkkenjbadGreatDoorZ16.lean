/- Part 16 of the walk. -/
import Derived.Test.YtdjfdfpkkenjbadGreatDoorZ15
set_option maxRecDepth 100000
set_option maxHeartbeats 4000000
set_option linter.unusedVariables false
namespace Go.Proofs.YtdjfdfpkkenjbadGreatDoor
section
open Go.RowKit
section
variable{K key p:List Int}{c n s t:Int}{l:List Bool}
theorem aN{r u:Int}(i:key.length=32)(h:CU c r u):El key (ED key c r u)=0/\LZ key (ED key c r u)=tkA c r u:=by
 have f:(ED key c r u).take 6=Ih c r u:=by unfold ED;rw[my (by rw[BY];omega),mo (by rw[BY];omega)]
 have g:(ED key c r u).drop 6=(E2 key (Ih c r u)).take 16:=by unfold ED;rw[nN (by rw[BY];omega),nG (by rw[BY];omega),nz]
 have a:(ED key c r u).getD 0 0=c:=rfl;have b:(ED key c r u).getD 1 0=r:=rfl;have d:Ac (ED key c r u) 2=u:=Oh c r u _ h.2.2.1 (by have:=h.2.2.2;omega);have e:El key (ED key c r u)=0:=by
  rw[QM i (BH key c r u) (by rw[f,g]),a,b,d,Hc h]
 exact⟨e,by rw[Pj e,a,b,d]⟩
theorem XD{k v:Int}(h:Bh k c s n v=0):Ci (D2 k c s n v)=0/\Iu (D2 k c s n v)=cmA k c s n v:=by
 obtain⟨b,a⟩:=De h;unfold InC at a;have e:Ci (D2 k c s n v)=0:=by
  unfold Ci;rw[if_neg (λg=>g (DQ k c s n v)),GW k c s n v (by omega) (by omega),GX k c s n v (by omega) (by omega),GY k c s n v (by omega) (by omega),FG k c s n v (by omega) (by omega),FH k c s n v (by omega) (by omega)];exact h
 refine⟨e,?_⟩;unfold Iu;rw[if_pos e,GW k c s n v (by omega) (by omega),GX k c s n v (by omega) (by omega),GY k c s n v (by omega) (by omega),FG k c s n v (by omega) (by omega),FH k c s n v (by omega) (by omega)]
theorem aE{r:List Int}(a:OkC key s t l)(c:r.length<=2020)(d:20<=r.length)(e:IB (r.take 4)<1073741824)(b:Ze t l (IB (r.take 4))=false):GA key s t l r=Ec key (Cc (r.take 4)) (r.take 4) (r.drop 4):=by
 unfold GA;rw[if_neg (λh=>h a),if_neg (by omega),if_neg (by omega),if_neg (by omega),b,if_neg (by simp)]
theorem NO{h:List Int}(a:K.length=32)(b:h.length=4):F9 K (Cc h) h=true:=Uh a (EY b) (by omega)
theorem U0(K:List Int)(n:Int)(p:List Int)(a:0<=n)(b:n<1073741824):IB ((FZ K n p).take 4)=n:=by rw[J7,VY n a (by omega)]
theorem aH(a:OkC K s t l)(d:0<=n)(c:n<1073741824)(e:p.length<=2000)(f:∀ x∈p,0<=x/\x<256)(b:Ze t l n=false):GA K s t l (FZ K n p)=0:=by
 rw[aE a (by rw[Dl];omega) (by rw[Dl];omega) (by rw[U0 K n p d c];exact c) (by rw[U0 K n p d c];exact b),J7,On];exact Kd (NO a.key rfl) e
theorem TB(a:K.length=32)(c:p.length<=2000)(b:∀ x∈p,0<=x/\x<256):IW K (FZ K n p)=p:=by
 unfold IW;rw[J7,On];exact SQ (NO a rfl) c b
end
section
variable{n tc tr tu k c s m v:Int}(h:paE n tc tr tu k c s m v=0)
include h
theorem Zn:KA (paL n tc tr tu k c s m v)=0/\Pc (paL n tc tr tu k c s m v)=paP tc tr tu k c s m v:=by
 obtain⟨a,b,d⟩:=IF h;have f:=(De d).2;have e:KA (c::FZ (I2 c) n (paP tc tr tu k c s m v))=0:=by
  unfold KA;rw[if_neg (by simp),mC,if_neg (by have:=f.2.1;omega),List.drop_one,List.tail_cons];exact aH (OkC.new (Cw c) 0 (by omega) (by omega)) a.1 a.2 (by rw[DC];omega) (QG b) (U5 a.1)
 rw[Pe h];refine⟨e,?_⟩;unfold Pc;rw[if_pos e,mC,List.drop_one,List.tail_cons];exact TB (Cw c) (by rw[DC];omega) (QG b)
theorem fu:unT (paL n tc tr tu k c s m v)=ED Fh tc tr tu/\unQ (paL n tc tr tu k c s m v)=D2 k c s m v:=by
 unfold unT unQ;rw[(Zn h).2];unfold paP;exact⟨by rw[my (by rw[BH];omega),mo (by rw[BH];omega)],by rw[nN (by rw[BH];omega),nG (by rw[BH];omega),nz]⟩
theorem ip:unE (paL n tc tr tu k c s m v)=0:=by
 obtain⟨j,f,i⟩:=IF h;obtain⟨a,b⟩:=Zn h;obtain⟨d,e⟩:=fu h;unfold unE;rw[if_neg (λg=>g a),if_neg (by rw[b,DC];simp),d,if_neg (λg=>g (aN Gr f).1),e];exact(XD i).1
theorem Ta:(unT (paL n tc tr tu k c s m v)).getD 0 0=tc/\(unT (paL n tc tr tu k c s m v)).getD 1 0=tr/\Ac (unT (paL n tc tr tu k c s m v)) 2=tu/\Ac (unQ (paL n tc tr tu k c s m v)) 0=k/\Ac (unQ (paL n tc tr tu k c s m v)) 4=c/\Ac (unQ (paL n tc tr tu k c s m v)) 8=s/\Ac (unQ (paL n tc tr tu k c s m v)) 12=m/\Ac (unQ (paL n tc tr tu k c s m v)) 16=v:=by
 obtain⟨i,a,e⟩:=IF h;obtain⟨b,d⟩:=fu h;rw[b,d];obtain⟨g,f⟩:=De e;unfold InC at f;exact⟨rfl,rfl,Oh tc tr tu _ a.2.2.1 (by have:=a.2.2.2;omega),GW k c s m v (by omega) (by omega),GX k c s m v (by omega) (by omega),GY k c s m v (by omega) (by omega),FG k c s m v (by omega) (by omega),FH k c s m v (by omega) (by omega)⟩
theorem UC(a:Int):opE (paL n tc tr tu k c s m v) a=EE tc tr tu k c s m v a/\opA (paL n tc tr tu k c s m v) a=if EE tc tr tu k c s m v a=0 then cmA k c s m v else cmA 0 0 0 0 0:=by
 obtain⟨o,p,q,b,d,e,f,i⟩:=Ta h;have l:opE (paL n tc tr tu k c s m v) a=EE tc tr tu k c s m v a:=by
  unfold opE;rw[if_neg (λg=>g (ip h)),o,p,q,b,d,e,f,i,if_neg];rintro⟨_,j⟩;rw[Pe h,mC]at j
  exact j rfl
 refine⟨l,?_⟩;unfold opA;rw[l,b,d,e,f,i]
end
theorem LS{n a b d k c s m v:Int}(h:paE n a b d k c s m v=0):(paL n a b d k c s m v).length=63:=by
 rw[Pe h,mI,Dl,DC]
end
section
section
def Nod.ub(p:Nod):Bool × Nat:=(p.up,p.bad)
theorem LX(p:Nod)(b:Bal):(p.au b).1.ub=p.ub:=by
 unfold Nod.au;split
 .rfl
 .split
  .rfl
  .split<;>rfl
theorem UY(p:Nod)(v:Vt):(p.cl v).1.ub=p.ub:=by
 unfold Nod.cl;split
 .rfl
 .split
  .rfl
  .split<;>rfl
theorem Ln(p:Nod)(j:Nat)(v:Vt):(p.count j v).ub=p.ub:=by
 unfold Nod.count;split
 .rfl
 .split<;>rfl
theorem Ot(p:Nod)(to:Nat)(e:Int):(p.ew to e).ub=p.ub:=by unfold Nod.ew;split<;>rfl
theorem Lr(p:Nod)(l:List Cmd):(p.eb l).ub=p.ub:=by unfold Nod.eb;split<;>rfl
theorem P4(p:Nod)(l:Let):(p.take l).ub=p.ub:=by
 unfold Nod.take;split
 .split
  .exact Ot _ _ _
  .exact LX p l.hZ
 .simp only;split<;>rfl
 .rfl
 .split
  .exact Ot _ _ _
  .exact UY p l.cl
 .exact Ln p _ _
 .split<;>rfl
 .simp only;split<;>exact Lr p l.gC
 .rfl
theorem dX(p:Nod)(i:Nat)(q:Pend):(p.ic i q).ub=p.ub:=by
 cases q with
 | began b vs=>unfold Nod.ic;simp only;split<;>rfl
 | prop v=>exact Ln p i v
 | _=>rfl
theorem XU(i:Nat)(l:List Pend)(p:Nod)(a:List Let):(nn i l p a).1.ub=p.ub:=by
 induction l generalizing p a with
 | nil=>rfl
 | cons q l ih=>exact(ih _ _).trans (dX p i q)
theorem WW(p:Nod)(c:Cmd):(p.hU c).ub=p.ub:=by unfold Nod.hU;split<;>rfl
theorem gu(i:Nat)(l:List Cmd)(p:Nod)(a:List Tol):(qK i l p a).1.ub=p.ub:=by
 induction l generalizing p a with
 | nil=>rfl
 | cons c l ih =>
  rw[qK];split
  .rfl
  .exact(ih _ _).trans (WW _ _)
theorem bD(p:Nod)(i:Nat):(p.ib i).1.ub=p.ub:=by
 unfold Nod.ib;split
 .rfl
 .split
  .exact Lr _ _
  .rfl
theorem To(p:Nod):p.cF.ub=p.ub:=by
 unfold Nod.cF;split
 .rfl
 .split
  .rfl
  .split
   .rfl
   .exact UY p _
theorem ar(p:Nod)(i:Nat)(a:List Let):(p.mv i a).1.ub=p.ub:=by
 unfold Nod.mv;split
 .rfl
 .rw[XU];unfold Nod.qH;split<;>rfl
theorem WS(p:Nod)(i:Nat)(a:List Let):(p.bw i a).1.ub=p.ub:=by unfold Nod.bw;split<;>rfl
theorem Zs(p:Nod)(i:Nat)(a:List Let)(b:List Tol):(p.piece i a b).1.ub=p.ub:=by
 unfold Nod.piece;simp only;rw[WS,ar,To,bD,gu]
theorem Ur(p:Nod)(i:Nat):(p.lead i).ub=p.ub:=by
 unfold Nod.lead;simp only;split
 .rfl
 .exact LX p _
theorem TZ(M:Meet)(l:Let)(j:Nat):((M.ni l).ab j).ub=(M.ab j).ub:=by
 unfold Meet.ni;split
 .show(upN M.ab l.dst _ j).ub=_;unfold upN;split
  .rename_i h;rw[h];exact P4 _ _
  .rfl
 .rfl
theorem XE(l:List Let)(M:Meet)(j:Nat):((l.foldl (λM l=>M.ni l) M).ab j).ub=(M.ab j).ub:=by
 induction l generalizing M with
 | nil=>rfl
 | cons x l ih=>exact(ih _).trans (TZ M x j)
theorem dh(M:Meet)(k:Int)(a:Nat)(j:Nat):((M.move k a).ab j).ub=(M.ab j).ub:=by
 unfold Meet.move;split
 .rfl
 .simp only;split
  .rw[TZ];split<;>rfl
  .split<;>rfl
theorem IR(M:Meet)(i:Nat)(p:Nod)(a:List Let)(b:List Tol)(j:Nat):(M.set i p a b).ab j=if j=i then p else M.ab j:=rfl
variable{D:Wh}{M N:Meet}{P:Lac->Prop}{i n:Nat}{k:Int}{l:Let}{p:Nod}{rs:List Rk}{x:Lac}{σ:Gs}
theorem Xk(M:Meet){x:Lac}(f:x.k≠1)(g:x.k≠8)(h:x.k≠9)(j:Nat):((M.act x).ab j).ub=(M.ab j).ub:=by
 unfold Meet.act;simp only;rw[if_neg f];by_cases a:x.k=2
 .rw[if_pos a,IR];split
  .rename_i e
   rw[e];split
   .exact Ur _ _
   .rfl
  .rfl
 .rw[if_neg a];by_cases b:x.k=3
  .rw[if_pos b,IR];split
   .rename_i e
    rw[e];split
    .exact Zs _ _ _ _
    .rfl
   .rfl
  .rw[if_neg b];by_cases c:x.k=4\/x.k=5\/x.k=6
   .rw[if_pos c];exact dh _ _ _ _
   .rw[if_neg c];by_cases d:x.k=7
    .rw[if_pos d];exact XE _ _ _
    .rw[if_neg d,if_neg g,if_neg h]
theorem iS(M:Meet){x:Lac}(h:x.k=1)(j:Nat):((M.act x).ab j).ub=if j=x.n.toNat/\(M.ab j).up=true/\opE x.d ((M.ab j).done:Int)≠0 then((M.ab j).up,(M.ab j).bad+1)else(M.ab j).ub:=by
 unfold Meet.act;simp only;rw[if_pos h,IR];by_cases f:j=x.n.toNat
 .subst f;rw[if_pos rfl];unfold Nod.qJ Nod.qW;by_cases b:(M.ab x.n.toNat).up=false
  .rw[if_pos b,if_neg (by rw[b];simp)]
  .rw[if_neg b];have g:(M.ab x.n.toNat).up=true:=by simpa using b
   by_cases a:opE x.d ((M.ab x.n.toNat).done:Int)≠0
   .rw[if_pos a,if_pos ⟨rfl,g,a⟩];rfl
   .rw[if_neg a,if_neg (c:=_/\_) (λe=>a e.2.2)];split
    .rfl
    .show(Nod.want _ _).ub=_;unfold Nod.want;split<;>rfl
 .rw[if_neg f,if_neg (λe=>f e.1)]
theorem AI(M:Meet)(L:List Lac)(x:Lac):M.dT (L++[x])=(M.dT L).act x:=by unfold Meet.dT;rw[oO];rfl
theorem Vj{L:List Lac}(h:L[i]?=some x):M.dT (L.take (i+1))=(M.dT (L.take i)).act x:=by rw[nS,h];exact AI M (L.take i) x
theorem PF(L:List Lac)(h:∀ x∈L,LacOk x)(d:L.length<=100000):MOk L.length (As.dT L):=by
 suffices ∀ i,i<=L.length->MOk i (As.dT (L.take i))by have a:=this L.length (A' _);rwa [nP]at a
 intro i;induction i with
 | zero=>intro _;exact MOk.zero
 | succ i ih =>
  intro c;have b:L[i]?=some L[i]:=G' (by omega);rw[Vj b];exact(ih (by omega)).act (by omega) (h _ (mN _))
def Nod.tp(p:Nod):Prop:=AR p.d p.sy
theorem Vf{d:List Int}{s:Int}{may:Prop}[Decidable may]{b:List Int}(h:CG d s may b=0):AR (FU d s may b) (GJ d s may b):=by
 obtain⟨a,c,_⟩:=JP h;unfold FU GJ;rw[if_pos h,if_pos h];unfold AR at *;rw[H',Bj];omega
theorem LW(h:p.tp)(b:Bal):(p.au b).1.tp:=by
 unfold Nod.au;split
 .exact h
 .split
  .exact h
  .split
   .exact h
   .rename_i hw;exact Vf (mf.1 hw)
theorem P9(h:p.tp)(v:Vt):(p.cl v).1.tp:=by
 unfold Nod.cl;split
 .exact h
 .split
  .exact h
  .split
   .exact h
   .rename_i hw;exact Vf (mf.1 hw)
theorem Oq(h:p.tp)(to:Nat)(e:Int):(p.ew to e).tp:=by unfold Nod.ew;split<;>exact h
theorem XF(h:p.tp)(j:Nat)(v:Vt):(p.count j v).tp:=by
 unfold Nod.count;split
 .exact h
 .split<;>exact h
theorem Sa(h:p.tp)(l:List Cmd):(p.eb l).tp:=by unfold Nod.eb;split<;>exact h
theorem It(h:p.tp){k:Int}(c:0<=k):(p.jv k).tp/\(p.jv k).up=false/\(p.jv k).done=0/\(p.jv k).ae=[]:=by
 have a:Gj p.d p.sy k=0:=by unfold Gj;rw[if_neg (λe=>e h),if_neg (by omega)]
 unfold Nod.jv;rw[if_neg (λe=>e a)];refine⟨?_,rfl,rfl,rfl⟩;show AR (Ky p.d p.sy k) (Kz p.d p.sy k);unfold Ky Kz;rw[if_pos a,if_pos a];unfold Nod.tp AR at h;have b:0<=Gk p.d p.sy k/\Gk p.d p.sy k<=(p.d.length:Int):=by unfold Gk;split<;>omega
 unfold AR;rw[j'];omega
theorem G9(h:p.tp):p.start.tp/\p.start.up=true/\p.start.done=0/\p.start.ae=[]:=by
 have b:CZ p.d p.sy=0:=if_pos h;have c:=Y2 p.d p.d.length;unfold Nod.start;rw[if_neg (λe=>e b)];split
 .refine⟨?_,rfl,rfl,rfl⟩;show AR (J8 p.d p.sy) (Mf p.d p.sy);unfold J8 Mf;have a:AR p.d p.sy:=h;rw[if_pos a,if_pos a];unfold Nod.tp AR at h;unfold AR;rw[j'];unfold En;split<;>omega
 .exact⟨h,rfl,rfl,rfl⟩
theorem iZ(A:Alw)(i:Nat):NInv A i (λ_=>True) (λ_=>True) Nod.tp where
 take:=λ_ p l h _ _ _=>by
  unfold Nod.take;split
  .split
   .exact Oq h _ _
   .exact LW h l.hZ
  .simp only;split<;>exact h
  .exact h
  .split
   .exact Oq h _ _
   .exact P9 h l.cl
  .exact XF h _ _
  .split<;>exact h
  .simp only;split<;>exact Sa h l.gC
  .exact h
 one:=λp c h _ _ _=>by unfold Nod.hU;split<;>exact h
 ask:=λp h _=>⟨by
  unfold Nod.ib;split
  .exact h
  .split
   .unfold Nod.eb;split<;>exact h
   .exact h,λ_ _=>trivial⟩
 prop:=λp h _=>by
  unfold Nod.cF;split
  .exact h
  .split
   .exact h
   .split
    .exact h
    .exact P9 h _
 qH:=λp h _=>by
  unfold Nod.qH;split
  .show AR (Hg p.d p.sy) (If p.d p.sy);unfold Hg If;have b:AR p.d p.sy:=h;rw[if_pos b,if_pos b];unfold Nod.tp AR at h;unfold AR;omega
  .exact h
 run:=λp q l h _ _ _=>⟨by
  have a:=DE p i q;show AR (p.ic i q).d (p.ic i q).sy;rw[a.2.2.1,a.2.2.2];exact h,λ_ _=>trivial⟩
 qz:=λp h _ _=>⟨h,λ_ _=>trivial⟩
 lead:=λ_ p h _=>by
  unfold Nod.lead;simp only;split
  .exact h
  .exact LW h _
 sub:=λp d e h _ _=>by
  unfold Nod.qJ Nod.qW;split
  .exact h
  .split
   .exact h
   .split
    .exact h
    .show(Nod.want _ _).tp;unfold Nod.want;split<;>exact h
 jv:=λ_ p k h a _=>(It h a).1
 start:=λ_ p h _=>(G9 h).1
def jo:Alw:=⟨true,true,true,true⟩
theorem bq(x:Lac):jo.Ok x:=⟨λ_=>rfl,λ_=>rfl,λ_=>rfl,λ_=>rfl⟩
theorem bk(L:List Lac)(h:∀ x∈L,LacOk x)(c:L.length<=100000){i:Nat}(a:i<5):((As.dT L).ab i).tp :=
 (GInv.dT (R:=λ_=>True) (D:=λ_ _=>True) (Q:=λ_=>True) (P:=λ_=>Nod.tp) (λi _=>iZ jo i) (λi _=>TInv.all i _ _) L MOk.zero (by omega) ⟨λ_ _=>(by show AR [] 0;decide),λ_ _=>trivial⟩ trivial λx b=>⟨h x b,bq x,λ_=>trivial⟩).1.ab i a
theorem Vi(M:Meet){i:Nat}(b:i<5)(a:(M.ab i).tp)(j:Nat):((M.act (acN 9 (i:Int))).ab j).up=if j=i then true else(M.ab j).up:=by
 show(upN M.ab (i:Int).toNat _ j).up=_;unfold upN;rw[mK];split
 .split
  .assumption
  .exact(G9 a).2.1
 .rfl
theorem fP(M:Meet){x:Lac}(c:x.k≠8){j:Nat}(a:(M.ab j).up=true):((M.act x).ab j).up=true:=by
 by_cases b:x.k=1
 .have:=congrArg Prod.fst (iS M b j);split at this
  .exact this.trans a
  .exact this.trans a
 .by_cases h9:x.k=9
  .unfold Meet.act;simp only;rw[if_neg b,if_neg (by omega),if_neg (by omega),if_neg (by omega),if_neg (by omega),if_neg (by omega),if_pos h9,IR];split
   .rename_i e;rw[<- e,if_pos a];exact a
   .exact a
  .exact(congrArg Prod.fst (Xk M b c h9 j)).trans a
theorem bm(L:List Lac)(a:∀ x∈L,x.k≠8)(M:Meet){j:Nat}(b:(M.ab j).up=true):((M.dT L).ab j).up=true:=by
 induction L generalizing M with
 | nil=>exact b
 | cons x L ih=>exact ih (λy c=>a y (I' _ c)) _ (fP M (a x M') b)
theorem AG(M:Meet)(L K:List Lac):M.dT (L++K)=(M.dT L).dT K:=oO
theorem D6{n:Int}(h:(k=2\/k=3\/k=9)/\0<=n/\n<=4):LacOk (acN k n):=by
 rw[<- DK];rcases h with⟨rfl|rfl|rfl,h1,h2⟩<;>simp[cY,acN,Gb,Ii,Ij]<;>omega
theorem LE(h:∀ n:Nat,n<5->P (acN k (n:Int))){j:Nat}(c:j<=5):∀ x∈AC k j,P x:=by
 intro x b;obtain⟨n,a,rfl⟩:=mz.1 b;exact h n (by have:=oH.1 a;omega)
theorem Lt(b:∀ n:Nat,n<5->P (acN 3 (n:Int)))(c:P (acN 7 0))(m:Nat):∀ x∈Am m,P x:=by
 induction m with
 | zero=>intro x a;cases a
 | succ m ih =>
  intro x a;rcases Q'.1 a with h|h
  .exact ih x h
  .rcases Q'.1 h with h|h
   .exact LE b (A' _) x h
   .rw[D'.1 h];exact c
theorem Mi(c:∀ n:Nat,n<5->P (acN 9 (n:Int)))(a:∀ n:Nat,n<5->P (acN 3 (n:Int)))(b:P (acN 7 0))(m:Nat):∀ x∈Dp m,P x:=by
 intro x d;rcases Q'.1 d with h|h
 .exact LE c (A' _) x h
 .exact Lt a b m x h
theorem Pr(m:Nat):∀ x∈Dp m,LacOk x:=Mi (λn a=>D6 ⟨.inr (.inr rfl),by omega,by omega⟩) (λn a=>D6 ⟨.inr (.inl rfl),by omega,by omega⟩) (by rw[<- DK];decide) m
theorem iI(L:List Lac)(h:∀ x∈L,LacOk x)(m:Nat)(o:L.length+6*m+5<=100000){j:Nat}(b:j<5):((As.dT (L++Dp m)).ab j).up=true:=by
 unfold Dp;rw[<- ml,AG];refine bm _ (Lt (λ_ _=>by show(3:Int)≠8;decide) (by decide) m) _ ?_;have d:∀ k,k<=5->j<k->((As.dT (L++AC 9 k)).ab j).up=true:=by
  intro k;induction k with
  | zero=>intro _ h;omega
  | succ k ih =>
   intro l c;have a:∀ x∈L++AC 9 k,LacOk x:=λx g=>(Q'.1 g).elim (h x) λe=>LE (λn p=>D6 ⟨.inr (.inr rfl),by omega,by omega⟩) (by omega) x e;have f:=bk (L++AC 9 k) a (by rw[H',Y8];omega) (i:=k) (by omega);rw[BR,<- ml,AI,Vi _ (by omega) f];split
   .rfl
   .exact ih (by omega) (by omega)
 exact d 5 (A' _) b
theorem NdI.mk'(b:p.up=true)(h:UpI σ i p rs)(a:AgL σ p.ae 0):NdI σ i p:=⟨λ_=>⟨rs,h⟩,λe=>(by rw[b]at e;cases e),a⟩
theorem AgL.nil(σ:Gs)(k:Nat):AgL σ [] k:=λs c e=>by simp at e
theorem AgL.drop{l:List Cmd}(h:AgL σ l 0)(k:Nat):AgL σ (l.drop k) k:=λs c e=>by
 rw[nc]at e
 have:=h _ c e
 rwa [mR]at this
theorem UpI.wait(h:UpI σ i p rs){x:Pend}(a:PnI σ rs p.bn x):UpI σ i (p.wait x) rs :=
 h.lr rfl rfl rfl h.rd rfl λy b=>(Q'.1 b).imp id λe=>by rw[D'.1 e];exact a
theorem UpI.ew(h:UpI σ i p rs)(to:Nat)(e:Int):UpI σ i (p.ew to e) rs:=by
 unfold Nod.ew;split
 .exact h.wait (by show Ao p.vo.p/\p.vo.p.key<=_;rw[h.tp.vo];exact⟨h.tp.ok.acc.1,mc _⟩)
 .exact h
theorem Oo(p:Nod)(to:Nat)(e:Int):(p.ew to e).ae=p.ae:=by unfold Nod.ew;split<;>rfl
theorem UpI.wrote{τ:Gs}{q:Nod}{a:List Rk}(h:UpI σ i p rs)(j:σ.le τ)(l:GsI τ)(f:τ.dr i=σ.dr i)(b:TpU q (σ.dr i) a)(m:rs <+: a)(o:∀ v,Rk.vt v∈a->τ.rh v){r:Rnd}(n:RdI τ i r)(c:p.bn.hZ.key<=r.hZ.key)(e:r.hZ.key<=q.vo.p.key){x:Pend}(s:PnI τ a r x)(k:q.bu=p.bu):UpI τ i (Nod.wait { q with bn:=r } x) a :=
 ⟨by rw[f];exact⟨b.ok,b.pre,b.d,b.sy,b.vo,b.len⟩,o,n,e,λy t=>by
  rcases Q'.1 t with g|g
  .have g:y∈q.bu:=g;rw[k]at g
   exact(h.pe y g).mono j l m b.ok c
  .rw[D'.1 g];exact s⟩
theorem F7(h:UpI σ i p rs)(l:List Cmd):UpI σ i (p.eb l) rs/\(p.eb l).ae=p.ae:=by
 unfold Nod.eb;split
 .exact⟨h.lr rfl rfl rfl ⟨h.rd.hZ,h.rd.next,h.rd.own,h.rd.an,h.rd.prom,h.rd.acc⟩ rfl λx a=>.inl a,rfl⟩
 .exact⟨h,rfl⟩
theorem Qu(h:UpI σ i p rs)(a:AgL σ p.ae 0):UpI σ i p.qy rs/\AgL σ p.qy.ae 0:=⟨h.lr rfl rfl rfl h.rd rfl λx d=>.inl d,Uv (λj b v c=>(h.rd.an j b v c).1) 41 a⟩
theorem NdI.take(C:GsI σ){i:Nat}{p:Nod}(h:NdI σ i p)(D:p.up=true){l:Let}(u:LtI σ l)(G:l.src<5):NdI σ i (p.take l):=by
 obtain⟨f,k⟩:=h.up D;have c:=h.ag
 suffices g:∃ b,UpI σ i (p.take l) b/\AgL σ (p.take l).ae 0 by
  obtain⟨b,w,o⟩:=g;exact NdI.mk' ((congrArg Prod.fst (P4 p l)).trans D) w o
 unfold Nod.take;split
 .rename_i hk
  rcases k.tp.au l.hZ with⟨e,he⟩|⟨e,he,hvs,b,hp,ht,hm,hpb,hpv,d,a,hq⟩
  .rw[if_pos e];exact⟨f,k.ew _ _,by rw[Oo];exact c⟩
  .rw[if_neg (λg=>g e)];have m:=Cl he;refine⟨b,?_,?_⟩
   .refine k.wrote (q:=(p.au l.hZ).1) (r:=(p.au l.hZ).1.bn) (.refl σ) C rfl ht hp (λv B=>k.rh v ((hm v).1 B)) ?_ ?_ ?_ ⟨PrmOk.of ht.ok hpb (hpv.trans hvs.symm),u.k0 hk⟩ (by rw[hq];rfl)
    .rw[hq];exact k.rd
    .rw[hq];exact mc _
    .rw[ht.vo,hpb,hq];exact mB k.bp (Bp m.2.1.pr m.1.1 m.2.2)
   .show AgL σ (p.au l.hZ).1.ae 0;rw[hq];exact c
 .rename_i hk
  obtain⟨w,o,E⟩:=u.k1 hk;have y:AgL σ (p.ie 0 l.gC).ae 0:=Qv c E (mJ _);have s:UpI σ i (p.ie 0 l.gC) f:=k.lr rfl rfl rfl k.rd rfl λx j=>.inl j;generalize p.ie 0 l.gC=K at y s ⊢;simp only;split
  .exact⟨f,s,y⟩
  .rename_i hc
   have A:K.leads=true:=by cases hh:K.leads with|true=>rfl|false=>exact absurd (.inl hh) hc
   have t:l.hZ=K.bn.hZ:=mf.1 λe=>hc (.inr (.inl e));have z:K.bn.hZ≠Be:=(mL A).1;rw[t]at w o
   have F:=(s.rd.hZ.resolve_left z).2;rw[F,mK]at o
   have n:=s.rd.qM w o;exact⟨f,Qu (p:={ K with bn:={ K.bn.qM l.src l.ln with bw:=upN K.bn.bw l.src l.gC.length } }) (s.lr rfl rfl rfl ⟨n.hZ,n.next,n.own,n.an,n.prom,n.acc⟩ rfl λx j=>.inl j) y⟩
 .exact⟨f,k.lr rfl rfl rfl k.rd rfl λx j=>.inl j,c⟩
 .rename_i hk
  rcases k.tp.cl l.cl with⟨e,he⟩|⟨e,he,b,hp,ht,hm,hpb,d,a,hq⟩
  .rw[if_pos e];exact⟨f,k.ew _ _,by rw[Oo];exact c⟩
  .rw[if_neg (λg=>g e)];have m:=Ap he;refine⟨b,?_,?_⟩
   .refine k.wrote (q:=(p.cl l.cl).1) (r:=(p.cl l.cl).1.bn) (.refl σ) C rfl ht hp (λv B=>((hm v).1 B).elim (λe=>by rw[e];exact u.k3 hk) (k.rh v)) ?_ ?_ ?_ ((hm _).2 (.inl rfl)) (by rw[hq];rfl)
    .rw[hq];exact k.rd
    .rw[hq];exact mc _
    .rw[ht.vo,hpb,hq];exact mB k.bp (Bp m.2.1.2.1.pr m.1.1 m.2.2)
   .show AgL σ (p.cl l.cl).1.ae 0;rw[hq];exact c
 .rename_i hk
  exact⟨f,k.count c (u.k4 hk)⟩
 .rename_i hk
  split
  .exact⟨f,k.wait trivial,c⟩
  .rename_i hlt;exact⟨f,k.lr rfl rfl rfl k.rd rfl λx j=>.inl j,Qv c (u.k5 hk) (by omega)⟩
 .have:=F7 k l.gC;simp only;split
  .exact⟨f,this.1.wait trivial,by show AgL σ (p.eb l.gC).ae 0;rw[this.2];exact c⟩
  .exact⟨f,this.1,by rw[this.2];exact c⟩
 .exact⟨f,k,c⟩
theorem Wm(W:GsI σ){i:Nat}{p:Nod}(h:RdI σ i p.bn)(X:Ab p.bn.hZ)(Y:p.bn.qA=true){s:Nat}(hs:p.bn.next<=s){c:Cmd}(t:p.ov s=some c):Et σ.H σ.P s p.bn.hZ.key c:=by
 have h5:5<2*Jo p.bn.qk:=mL Y;have m:∀ j,j<5->∀ v∈(p.bn.an j).vs,v.bt=(s:Int)->v∈Ae (p.bn.ia.map (·.vs)).flatten (s:Int):=λj F v M e=>by
  refine AK.2 ⟨nQ.2 ⟨(p.bn.an j).vs,mz.2 ⟨p.bn.an j,?_,rfl⟩,M⟩,e⟩;unfold Rnd.ia;rcases qv F with rfl|rfl|rfl|rfl|rfl<;>simp
 refine⟨p.bn.qk,by omega,λq n o=>(h.prom q n o).1,?_⟩;unfold Nod.ov at t;split at t
 .cases t
 .rename_i d
  have d:=mf.1 d;have D:DV (p.bn.ia.map (·.vs)) (s:Int)=(Ed (p.bn.ia.map (·.vs)) (s:Int)).isSome:=if_pos d;have S:Gx (p.bn.ia.map (·.vs)) (s:Int)=((Ed (p.bn.ia.map (·.vs)) (s:Int)).map (·.w)).getD ⟨0,0,0,0,0⟩:=if_pos d;have r:∀ l∈p.bn.ia.map (·.vs),∀ v∈l,Ah v:=by
   unfold BW at d;split at d
   .cases d
   .split at d
    .assumption
    .cases d
  have L:∀ v∈Ae (p.bn.ia.map (·.vs)).flatten (s:Int),Ao v.b:=λv M=>by
   obtain⟨l,k,f⟩:=nQ.1 (AK.1 M).1;exact(r l k v f).2.1.pr
  rcases La _ L with⟨h0,E⟩|⟨x,E,hx,hmax⟩
  .left;intro q n o U V ⟨v,g,R,Z,k3⟩;refine Int.not_lt.1 λz=>?_;obtain⟨u,k,f,_⟩:=(h.prom q n o).2 v g (by omega);have:=m q n u k (f.trans R);rw[h0]at this;cases this
  .right;have E:Ed (p.bn.ia.map (·.vs)) (s:Int)=some x:=E;rw[E]at D S
   have D:DV (p.bn.ia.map (·.vs)) (s:Int)=true:=D;rw[if_pos D]at t
   have G:c=x.w:=(mQ t).symm.trans S;obtain⟨O,Q⟩:=AK.1 hx;obtain⟨j,F,N⟩:∃ j,j<5/\x∈(p.bn.an j).vs:=by
    obtain⟨l,k,f⟩:=nQ.1 O;obtain⟨a,C,rfl⟩:=mz.1 k;unfold Rnd.ia at C;simp only[mn,P',or_false]at C;rcases C with rfl|rfl|rfl|rfl|rfl
    .exact⟨0,by omega,f⟩
    .exact⟨1,by omega,f⟩
    .exact⟨2,by omega,f⟩
    .exact⟨3,by omega,f⟩
    .exact⟨4,by omega,f⟩
   obtain⟨y,I,J⟩:=h.an j F x N;have B:=W.hv j x y;have A:x.b≠p.bn.hZ:=λe=>by
    have k:=B.2;rw[e]at k
    have:=h.next _ _ k;omega
   have z:x.b.key<p.bn.hZ.key:=by
    rcases Int.lt_or_eq_of_le I with g|g
    .exact g
    .exact absurd (DJ B.1.2.1.pr X.pr g) A
   have K:p.bn.qk j=true:=by
    cases hh:p.bn.qk j with
    | true=>rfl
    | false=>exact absurd (J hh) A
   refine⟨x.b.key,z,⟨j,F,K,x,y,Q,rfl,G.symm⟩,λq n o U V ⟨v,g,R,Z,k3⟩ T=>?_⟩;obtain⟨u,k,f,C⟩:=(h.prom q n o).2 v g (by omega);have:=hmax u (m q n u k (f.trans R));omega
def Gs.prop(σ:Gs)(b:Bal)(s:Nat)(c:Cmd):Gs:=⟨σ.dr,λb' s' c'=>σ.W b' s' c'\/(b'=b/\s'=s/\c'=c)⟩
theorem GsI.prop(h:GsI σ){b:Bal}{s:Nat}{c:Cmd}(e:Ab b)(d:Et σ.H σ.P s b.key c)(f:b.key<=σ.P b.n.toNat)(a:∀ c',¬ σ.W b s c'):GsI (σ.prop b s c):=by
 refine⟨h.ok,h.rX,?_,?_,?_,λn v g=>⟨(h.hv n v g).1,.inl (h.hv n v g).2⟩⟩
 .rintro b' s' c1 c2 (g|⟨rfl,rfl,rfl⟩) (k|⟨e1,e2,e3⟩)
  .exact h.w1 _ _ _ _ g k
  .subst e1 e2;exact absurd g (a _)
  .exact absurd k (a _)
  .exact e3.symm
 .rintro b' s' c' (g|⟨rfl,rfl,rfl⟩)
  .exact h.w2 _ _ _ g
  .exact⟨e,d⟩
 .rintro b' s' c' (g|⟨rfl,rfl,rfl⟩)
  .exact h.w3 _ _ _ g
  .exact f
theorem NdI.cF(x:GsI σ){i:Nat}{p:Nod}(h:NdI σ i p)(E:p.up=true):∃ τ ex,Gs.se i σ τ/\GsI τ/\NdI τ i p.cF/\(∀ b s c,τ.W b s c->σ.W b s c\/ex=some (b,s))/\∀ b s,ex=some (b,s)->s<40/\b=p.bn.hZ/\s=p.ae.length/\∀ c,τ.W b s c->p.ov s=some c:=by
 obtain⟨rs,k⟩:=h.up E;have f:∃ τ ex,Gs.se i σ τ/\GsI τ/\NdI τ i p/\(∀ b s c,τ.W b s c->σ.W b s c\/ex=some (b,s))/\∀ b s,ex=some (b,s)->s<40/\b=p.bn.hZ/\s=p.ae.length/\∀ c,τ.W b s c->p.ov s=some c:=⟨σ,none,.refl i σ,x,h,λ_ _ _ h=>.inl h,λ_ _ e=>by cases e⟩;have o:=(E7 p).trans E
 revert o
 unfold Nod.cF;split
 .exact λ_=>f
 .rename_i hc
  have z:p.leads=true:=by cases hh:p.leads with|true=>rfl|false=>exact absurd (.inl hh) hc
  have n:p.bn.qA=true:=by cases hh:p.bn.qA with|true=>rfl|false=>exact absurd (.inr (.inl hh)) hc
  have A:p.bn.next<=p.ae.length:=Nat.not_lt.1 λe=>hc (.inr (.inr e));cases hn:p.ov p.ae.length with
  | none=>exact λ_=>f
  | some c =>
   simp only;rcases k.tp.cl ⟨(p.ae.length:Int),p.bn.hZ,c⟩with⟨e,he⟩|⟨e,he,rs',hp,ht,hm,hpb,d,a,w⟩
   .rw[if_pos e];exact λ_=>f
   .rw[if_neg (λg=>g e)];intro o;have F:=Ap he;have y:p.bn.hZ≠Be:=(mL z).1;obtain⟨D,t⟩:=k.rd.hZ.resolve_left y;have H:=Wm x k.rd D n A hn;have C:∀ l,¬ σ.W p.bn.hZ p.ae.length l:=λl g=>by have:=k.rd.next _ _ g;omega
    have I:p.bn.hZ.key<=σ.P i:=by
     obtain⟨q,w,G,_⟩:=Gu p.bn.qk p.bn.qk (by have:5<2*Jo p.bn.qk:=mL n;omega) (by have:5<2*Jo p.bn.qk:=mL n;omega);exact k.rd.own q w G
    have m:=x.prop D H (by rw[t,mK];exact I) C;have j:Gs.se i σ (σ.prop p.bn.hZ p.ae.length c):=⟨⟨λ_=>mh _,λ_ _ _ g=>.inl g⟩,λb s l g=>g.imp id λe=>by rw[e.1];exact t,λ_ _=>rfl⟩;have B:(σ.prop p.bn.hZ p.ae.length c).rh ⟨(p.ae.length:Int),p.bn.hZ,c⟩:=⟨F.2.1,.inr ⟨rfl,mK _,rfl⟩⟩;have K:=k.rd.mono (τ:=σ.prop p.bn.hZ p.ae.length c) (r:=p.bn) j.le m;refine⟨_,some (p.bn.hZ,p.ae.length),j,m,NdI.mk' (rs:=rs') o ?_ ?_,λb s l g=>g.imp id λe=>by rw[e.1,e.2.1],λb s e=>?_⟩
    .refine k.wrote (q:=(p.cl ⟨(p.ae.length:Int),p.bn.hZ,c⟩).1) (r:={ p.bn with next:=p.ae.length+1 }) j.le m rfl ht hp (λv J=>((hm v).1 J).elim (λe=>by rw[e];exact B) λg=>j.le.rh (k.rh v g)) ?_ (mc _) ?_ ((hm _).2 (.inl rfl)) (by rw[w];rfl)
     .have g:=k.rd;refine RdI.mono (σ:=σ) j.le m (r:={ p.bn with next:=p.ae.length+1 }) ⟨g.hZ,λs l u=>Z' (g.next s l u) (by show p.bn.next<=p.ae.length+1;omega),g.own,g.an,g.prom,g.acc⟩ λs l u=>?_;rcases u with u|⟨_,rfl,_⟩
      .exact Z' (g.next s l u) (by show p.bn.next<=p.ae.length+1;omega)
      .exact Nat.lt_succ_self _
     .rw[ht.vo,hpb];exact mc _
    .show AgL _ (p.cl ⟨(p.ae.length:Int),p.bn.hZ,c⟩).1.ae 0;rw[w];exact h.ag.mono j.le
    .cases e;have:=F.2.1.1.2;exact⟨by simp only at this;omega,rfl,rfl,λl g=>by
      rcases g with g|⟨_,_,g⟩
      .exact absurd g (C l)
      .rw[g];exact hn⟩
theorem LtI.none(h:l.kind=6):LtI σ l:=⟨λe=>by omega,λe=>by omega,λe=>by omega,λe=>by omega,λe=>by omega,λe=>by omega⟩
theorem LtI.news(h:l.kind=5)(a:AgL σ l.gC l.bt):LtI σ l:=⟨λe=>by omega,λe=>by omega,λe=>by omega,λe=>by omega,λe=>by omega,λ_=>a⟩
theorem NdI.run(C:GsI σ){i:Nat}(H:i<5){p:Nod}(h:NdI σ i p)(j:p.up=true){q:Pend}{l:List Pend}(A:p.bu=q::l)(E:¬ p.sy<(p.d.length:Int)):NdI σ i { p.ic i q with bu:=l }/\∀ m∈p.qx i q,LtI σ m:=by
 obtain⟨B,k⟩:=h.up j;have f:=k.tp.all E;have c:=k.pe q (by rw[A];exact M');have t:∀ x∈l,x∈p.bu:=λx u=>by rw[A];exact I' _ u
 have o:∀ {p':Nod},UpI σ i p' B->p'.bu=p.bu->UpI σ i { p' with bu:=l } B:=λ{p'} g e=>g.lr rfl rfl rfl g.rd rfl λx u=>.inl (by rw[e];exact t x u);cases q with
 | began b vs =>
  unfold Nod.ic Nod.qx;simp only;split
  .exact⟨NdI.mk' j (o k rfl) h.ag,λm a=>by cases a⟩
  .rename_i e
   have e:=mf.1 e;obtain⟨w,G⟩:=c;have r:=k.tp.ok.acc;rw[<- k.tp.vo]at r
   have z:=k.bp;have y:p.bn.hZ=b:=by
    rw[<- e];refine DJ ?_ r.1 (by rw[e]at z ⊢;omega);rcases k.rd.hZ with g|g
    .rw[g];exact .inr ⟨rfl,rfl⟩
    .exact g.1.pr
   have s:b.key<=σ.P i:=by have:=w.le;rw[<- f]at this;exact this
   rw[<- f,<- y]at w
   rw[<- y]at s
   refine⟨NdI.mk' j (o (p':={ p with bn:=p.bn.qM i vs }) (k.lr rfl rfl rfl (k.rd.qM w s) rfl λx u=>.inl u) rfl) h.ag,λm a=>?_⟩;obtain⟨to,_,rfl⟩:=CE a;refine⟨λ_=>?_,λe=>(by cases e),λe=>(by cases e),λe=>(by cases e),λe=>(by cases e),λe=>(by cases e)⟩;show b.key<=σ.P b.n.toNat;rw[<- y];rcases k.rd.hZ with g|g
   .rw[g];have F:=(C.ok (Be.n.toNat)).acc.1;have:0<=σ.P (Be.n.toNat):=by
     unfold Ao Ab at F;unfold Gs.P Bal.key;omega
    exact this
   .rw[g.2,mK];exact s
 | prom to b vs =>
  refine⟨NdI.mk' j (o k rfl) h.ag,λm a=>?_⟩;rw[D'.1 a];refine⟨λe=>(by cases e),λ_=>⟨?_,c.2,h.ag⟩,λe=>(by cases e),λe=>(by cases e),λe=>(by cases e),λe=>(by cases e)⟩;show PrmOk (σ.dr i) b vs;rw[f];exact c.1
 | voted to v =>
  refine⟨NdI.mk' j (o k rfl) h.ag,λm a=>?_⟩;rw[D'.1 a];refine⟨λe=>(by cases e),λe=>(by cases e),λe=>(by cases e),λe=>(by cases e),λ_=>?_,λe=>(by cases e)⟩;show Rk.vt v∈σ.dr i;rw[f];exact c
 | ew to b =>
  refine⟨NdI.mk' j (o k rfl) h.ag,λm a=>?_⟩;rw[D'.1 a];refine⟨λe=>(by cases e),λe=>(by cases e),λ_=>?_,λe=>(by cases e),λe=>(by cases e),λe=>(by cases e)⟩;show Ao b/\b.key<=(B1 (σ.dr i)).p.key;rw[f];exact c
 | prop v =>
  have D:σ.held i v:=by show Rk.vt v∈σ.dr i;rw[f];exact c
  have g:=k.count h.ag D;refine⟨NdI.mk' ((congrArg Prod.fst (Ln p i v)).trans j) (o g.1 (DE p i (.prop v)).1) g.2,λm a=>?_⟩;obtain⟨to,_,rfl⟩:=CE a;exact⟨λe=>(by cases e),λe=>(by cases e),λe=>(by cases e),λ_=>k.rh v c,λe=>(by cases e),λe=>(by cases e)⟩
 | askNews to=>exact⟨NdI.mk' j (o k rfl) h.ag,λm a=>by rw[D'.1 a];exact LtI.none rfl⟩
 | start=>exact⟨NdI.mk' j (o k rfl) h.ag,λm a=>by obtain⟨to,_,rfl⟩:=CE a;exact LtI.none rfl⟩
 | tell to bt=>exact⟨NdI.mk' j (o k rfl) h.ag,λm a=>by rw[D'.1 a];exact LtI.news rfl (h.ag.drop bt)⟩
theorem NdI.lead(w:GsI σ){i:Nat}(E:i<5){p:Nod}(h:NdI σ i p)(y:p.up=true):NdI σ i (p.lead i):=by
 obtain⟨rs,k⟩:=h.up y;have f:(p.lead i).up=true:=(congrArg Prod.fst (Ur p i)).trans y
 revert f
 unfold Nod.lead;simp only;generalize m:(⟨max p.dc p.vo.p.r+1,(i:Int)⟩:Bal)=b;rcases k.tp.au b with⟨e,he⟩|⟨e,he,hvs,rs',hp,ht,hm,hpb,hpv,d,a,hq⟩
 .rw[if_pos e];exact λ_=>h
 .rw[if_neg (λg=>g e)];intro f;have A:=Cl he;have C:p.vo.p.key<b.key:=by
   have:=A.1.1;rw[<- m];unfold Ao Ab at this;show 5*p.vo.p.r+p.vo.p.n<5*(max p.dc p.vo.p.r+1)+(i:Int);omega
  refine NdI.mk' (rs:=rs') f ?_ ?_
  .refine k.wrote (q:=(p.au b).1) (r:=⟨b,λ_=>false,λ_=>Eh,λ_=>p.ae.length,0,[]⟩) (.refl σ) w rfl ht hp (λv o=>k.rh v ((hm v).1 o)) ?_ ?_ ?_ ⟨PrmOk.of ht.ok hpb (hpv.trans hvs.symm),mc _⟩ (by rw[hq];rfl)
   .refine⟨.inr ⟨A.2.1,by rw[<- m]⟩,λs c B=>?_,λj _ e=>(by cases e),λj _ v o=>(by cases o),λj _ e=>(by cases e),λj _=>⟨KK,λe=>(by cases e)⟩⟩;have l:=w.w3 _ _ _ B;rw[show b.n.toNat=i by rw[<- m];exact mK i]at l
    obtain⟨x,z⟩:=k.tp.pre;have t:=k.tp.ok;rw[<- z]at t
    have u:=(DD t).1;rw[z,<- k.tp.vo]at u
    have D:σ.P i<=p.vo.p.key:=u;have l:b.key<=σ.P i:=l;omega
   .have:=k.bp;show _<=b.key;omega
   .rw[ht.vo,hpb];exact mc _
  .show AgL σ (p.au b).1.ae 0;rw[hq];exact h.ag
theorem JK(k:Nat):∀ m∈Dq p i k,m.kind=5/\m.gC=p.ae.drop m.bt:=by
 induction k with
 | zero=>intro m hm;cases hm
 | succ k ih =>
  intro m hm;rw[Dq]at hm
  rcases Q'.1 hm with hm|hm
  .exact ih m hm
  .split at hm
   .rw[D'.1 hm];exact⟨rfl,rfl⟩
   .cases hm
theorem AgI.si(h:AgI σ M)(s:Stp D n M N):∃ τ ex,σ.le τ/\AgI τ N/\(∀ b s c,τ.W b s c->σ.W b s c\/ex=some (b,s))/\∀ b s,ex=some (b,s)->n=1/\s<40/\∃ i,i<5/\b=(M.ab i).bn.hZ/\(M.ab i).up=true/\s=(M.ab i).ae.length/\∀ c,τ.W b s c->(M.ab i).ov s=some c:=by
 have r:=h.gs;have done:∀ {i:Nat} {p:Nod} {G:List Let} {O:List Tol},NdI σ i p->(∀ l∈G,l∈M.br\/LtI σ l)->∃ τ ex,σ.le τ/\AgI τ (M.set i p G O)/\(∀ b s c,τ.W b s c->σ.W b s c\/ex=some (b,s))/\∀ b s,ex=some (b,s)->n=1/\s<40/\∃ i,i<5/\b=(M.ab i).bn.hZ/\(M.ab i).up=true/\s=(M.ab i).ae.length/\∀ c,τ.W b s c->(M.ab i).ov s=some c:=λ{i p G O} E f=>⟨σ,none,.refl σ,h.set (.refl _ σ) r E f O,λ_ _ _ h=>.inl h,λ_ _ e=>by cases e⟩;have same:∀ l∈M.br,l∈M.br\/LtI σ l:=λl f=>.inl f;have app:∀ {ms:List Let},(∀ m∈ms,LtI σ m)->∀ l∈M.br++ms,l∈M.br\/LtI σ l:=λg l f=>(Q'.1 f).imp id (g l);cases s with
 | take _ l f hd hu _=>exact done ((h.nd _ hd.2).take r hu (h.lt l f) hd.1) same
 | br _ G f _=>exact⟨σ,none,.refl σ,⟨r,h.nd,λl g=>h.lt l (f l g)⟩,λ_ _ _ h=>.inl h,λ_ _ e=>by cases e⟩
 | one _ i c hi hu hc he =>
  refine done ?_ same;obtain⟨rs,k⟩:=(h.nd i hi).up hu;have Q:=DX { M.ab i with lp:=doS (M.ab i).lp c,done:=(M.ab i).done+1 } c;refine NdI.mk' (Q.1.trans hu) (rs:=rs) ?_ (by rw[Q.2.1];exact(h.nd i hi).ag);unfold Nod.hU;split<;>exact k.lr rfl rfl rfl k.rd rfl λx a=>.inl a
 | ask _ i hi hu =>
  obtain⟨rs,k⟩:=(h.nd i hi).up hu;have z:=(h.nd i hi).ag;have C:=(Io (M.ab i) i).trans hu;generalize E:M.ab i=p at k z C ⊢;refine done (NdI.mk' (rs:=rs) C ?_ ?_) (app ?_)
  .unfold Nod.ib;split
   .exact k.lr rfl rfl rfl k.rd rfl λx a=>.inl a
   .split
    .exact(F7 (p:={ p with bN:=(Bb p.vo.p p.bN (p.av.take 40)).2 }) (k.lr rfl rfl rfl k.rd rfl λx a=>.inl a) _).1
    .exact k.lr rfl rfl rfl k.rd rfl λx a=>.inl a
  .unfold Nod.ib;split
   .exact z
   .split
    .show AgL σ (Nod.eb _ _).ae 0;rw[(F7 (p:={ p with bN:=(Bb p.vo.p p.bN (p.av.take 40)).2 }) (k.lr rfl rfl rfl k.rd rfl λx a=>.inl a) _).2];exact z
    .exact z
  .intro m u;unfold Nod.ib at u;split at u
   .cases u
   .split at u
    .cases u
    .rw[D'.1 u];exact LtI.none rfl
 | prop _ i hi hu =>
  obtain⟨τ,ex,o,w,V,X,H⟩:=(h.nd i hi).cF r hu;exact⟨τ,ex,o.le,h.set o w V (λl f=>.inl f) _,X,λb s e=>⟨rfl,(H b s e).1,i,hi,(H b s e).2.1,hu,(H b s e).2.2⟩⟩
 | qH _ i hi hu hlt I =>
  obtain⟨rs,k⟩:=(h.nd i hi).up hu;obtain⟨x,a⟩:=k.tp.pre;have w:=r.ext (i:=i) x (by rw[a];exact k.tp.ok) λv t=>k.rh v (by rw[<- a];exact mg _ t);have o:=OR σ i x;refine⟨σ.ext i x,none,o.le,h.set o w (NdI.mk' (p:={ M.ab i with sy:=((M.ab i).d.length:Int) }) (rs:=rs) hu ⟨?_,λv t=>o.le.rh (k.rh v t),k.rd.mono o.le w λs c J=>k.rd.next s c J,k.bp,λq F=>(k.pe q F).mono o.le w (mh _) k.tp.ok (mc _)⟩ ((h.nd i hi).ag.mono o.le)) (λl f=>.inl f) _,λ_ _ _ h=>.inl h,λ_ _ e=>by cases e⟩;rw[Hy,a];exact k.tp.qH
 | run _ i hi hu q l E hs =>
  have g:=(h.nd i hi).run r hi hu E hs;exact done g.1 (app g.2)
 | qz _ i hi hu hL =>
  obtain⟨rs,k⟩:=(h.nd i hi).up hu;refine done (NdI.mk' (rs:=rs) hu (k.lr rfl rfl rfl ⟨k.rd.hZ,k.rd.next,k.rd.own,k.rd.an,k.rd.prom,k.rd.acc⟩ rfl λx a=>.inl a) (h.nd i hi).ag) (app λm u=>?_);obtain⟨T,U⟩:=JK 5 m u;exact LtI.news T (by rw[U];exact(h.nd i hi).ag.drop _)
 | lead _ i hi hu _=>exact done ((h.nd i hi).lead r hi hu) same
 | sub _ i d hi hu P =>
  obtain⟨rs,k⟩:=(h.nd i hi).up hu;have z:=(h.nd i hi).ag;refine done ?_ same;unfold Nod.qJ Nod.qW;split
  .exact h.nd i hi
  .split
   .exact NdI.mk' (rs:=rs) hu (k.lr rfl rfl rfl k.rd rfl λx a=>.inl a) z
   .split
    .exact h.nd i hi
    .show NdI σ i (Nod.want _ _);unfold Nod.want;split
     .exact h.nd i hi
     .exact NdI.mk' (rs:=rs) hu (k.lr rfl rfl rfl k.rd rfl λx a=>.inl a) z
 | jv _ i c hi hu hc _ =>
  obtain⟨rs,k⟩:=(h.nd i hi).up hu;obtain⟨S,⟨x,a⟩,⟨y,R⟩,P⟩:=k.tp.jv hc;have w:=r.ext (i:=i) x (k.tp.ok.pre ⟨y,by rw[a];exact R⟩) λv t=>k.rh v (by rw[<- R,<- a];exact mi _ (mg _ t));have o:=OR σ i x;have A:=It (p:=M.ab i) k.tp.rF hc;exact⟨σ.ext i x,none,o.le,h.set o w ⟨λe=>(by rw[A.2.1]at e;cases e),λ_=>(by rw[Hy,a];exact P),by rw[A.2.2.2];exact AgL.nil _ _⟩ (λl f=>.inl f) _,λ_ _ _ h=>.inl h,λ_ _ e=>by cases e⟩
 | start _ i hi hu _ =>
  have k:=(h.nd i hi).dn hu;have I:AR (M.ab i).d (M.ab i).sy:=⟨k.len,by rw[k.sy];omega,by rw[k.sy];omega⟩;have B:=G9 (p:=M.ab i) I;have L:=k.start;have K:(M.ab i).start.bn=dU/\(M.ab i).start.bu=[.start]:=by
   unfold Nod.start;rw[if_neg (λe=>e (if_pos I))];split<;>exact⟨rfl,rfl⟩
  refine done (NdI.mk' (rs:=σ.dr i) B.2.1 ⟨L,λv t=>r.hv i v t,?_,?_,λq F=>?_⟩ (by rw[B.2.2.2];exact AgL.nil _ _)) same
  .rw[K.1];exact⟨.inl rfl,λs c J=>absurd (r.w2 _ _ _ J).1 (by decide),λj _ e=>(by cases e),λj _ v t=>(by cases t),λj _ e=>(by cases e),λj _=>⟨KK,λe=>(by cases e)⟩⟩
  .rw[K.1,L.vo];have Y:=L.ok.acc.1;show(0:Int)<=_;unfold Ao Ab at Y;unfold Bal.key;omega
  .rw[K.2]at F
   rw[D'.1 F];trivial
theorem AgI.step(h:AgI σ M)(s:Stp D n M N):∃ τ ex,σ.le τ/\AgI τ N/\(∀ b s c,τ.W b s c->σ.W b s c\/ex=some (b,s))/\∀ b s,ex=some (b,s)->n=1/\s<40/\∃ i,i<5/\b=(M.ab i).bn.hZ:=by
 obtain⟨τ,ex,a,d,f,g⟩:=h.si s;exact⟨τ,ex,a,d,f,λb s e=>by
  obtain⟨j,k,i,l,m,_⟩:=g b s e;exact⟨j,k,i,l,m⟩⟩
theorem AgI.zero:AgI ⟨λ_=>[],λ_ _ _=>False⟩ As :=
 ⟨⟨λ_=>AQ.nil,⟨λn s b c ⟨v,g,_⟩=>(by cases g),λn k s b c h ⟨v,g,_⟩=>(by cases g),λn s b c ⟨v,g,_⟩=>(by cases g)⟩,λ_ _ _ _ g=>g.elim,λ_ _ _ g=>g.elim,λ_ _ _ g=>g.elim,λn v g=>(by cases g)⟩,
  λi _=>NdI.mk' (rs:=[]) rfl ⟨TpU.zero,λv g=>(by cases g),⟨.inl rfl,λ_ _ g=>g.elim,λj _ e=>(by cases e),λj _ v f=>(by cases f),λj _ e=>(by cases e),λj _=>⟨KK,λe=>(by cases e)⟩⟩,mc _,λq d=>(by cases d)⟩ (AgL.nil _ _),λl a=>by cases a⟩
end
end
section
open Go.RowKit
section
variable{P:Program}{fn:Func}{R:Ending->World->Prop}{w0:World}{Φ:List Fa}{g:Gh}{w:World}
def j7(g:Gh)(r b k:Nat):Gh:=⟨λc=>if c=b then .n 60 r else g.t c,λc=>if c=b then k else g.k c⟩
theorem lT{s:Xs}(i r b I n:Nat)(o:List Value)(e:TypeId){v:Bool}(Ψ:List Fa)(E:∀ g',(∀ c,g.t c=.z->g'.t c=.z)->AllF g w Φ->AllF g' w Ψ)
  (M:∀ g',GT P fn R w0 (Fa.ow r e I ⟨some ⟨b,0,none⟩,n,n⟩ o::Ψ) ⟨s.K,s.f,s.L.eraseIdx i⟩ g' w)
  (D:o.length=n*I)(N:n<=maxLen)(H:s.L[i]?=some ⟨b,.cells o.toArray e,.l,v⟩:=by kernel_rfl):GT P fn R w0 Φ s g w:=by
 refine⟨λF C=>⟨λm=>?_⟩⟩;obtain⟨G,J,B,S⟩:=m.row _ (mA H);have B:w0.heap.size<=b:=B rfl;have T:b<w.heap.size:=rl G;have Q:∀ c,g.t c=.z->(j7 g r b o.length).t c=.z:=λc h=>by
  show(if c=b then _ else _)=_;rw[if_neg (λe=>by rw[e,J]at h;cases h)];exact h
 have ne:∀ c,c<w0.heap.size->c≠b:=λc h e=>by subst e;exact absurd B (by omega)
 refine((M (j7 g r b o.length)).ex ⟨⟨D,.inr ⟨b,o.toArray,rfl,G,A' _,N,by simpa using D,by simp[<- D],if_pos rfl,if_pos rfl⟩⟩,E _ Q F⟩ ⟨C.os,C.tape,C.output,C.size,λc h=>?_,λc h=>?_,λc h a d=>?_,C.same,λc h=>C.rm c h⟩).ex ⟨λx O=>?_,?_,λc h=>?_,m.base⟩
 .show(if c=b then _ else _)=_\/_/\_/\(if c=b then _ else _)=_;rw[if_neg (ne c h)];exact C.rD c h
 .show _<=(if c=b then _ else _);rw[if_neg (ne c h)];exact C.rp c h
 .show(if c=b then _ else _)=_;rw[if_neg (ne c h)];exact C.rU c h a d
 .obtain⟨j,hj,hx2⟩:=List.mem_eraseIdx_iff_getElem?.1 O;have A:x.g≠b:=λe=>by
   obtain⟨u,y⟩:=V'.1 hx2;obtain⟨p,k⟩:=V'.1 H;rcases Nat.lt_or_gt_of_ne hj with q|q
   .have:=(m6.1 m.rG j i u p q (by rw[y,k];exact e)).2.1;rw[k]at this;cases this
   .have:=(m6.1 m.rG i j p u q (by rw[y,k];exact e.symm)).1.1;rw[k]at this;cases this
  have:=m.row x (mA hx2);show _/\(if _ then _ else _)=_/\_/\(_->(if _ then _ else _)=_);rw[if_neg A,if_neg A];exact this
 .exact m.rG.sublist (List.eraseIdx_sublist _ _)
 .show(if _ then _ else _)=_/\(if _ then _ else _)=_;have e:c≠b:=by omega
  rw[if_neg e,if_neg e];exact m.new c h
end
theorem FSl.og{g b:Gh}{w:World}{x:S3}{l:List Int}(h:FSl g w x l)(f:∀ c,g.t c=.z->b.t c=.z):FSl b w x l:=⟨h.s,λe a d=>f _ (h.z e a d)⟩
end
section
section
theorem KO{α:Type}[DecidableEq α]{l m:List α}(f:l.Nodup)(h:∀ x∈l,x∈m):l.length<=m.length:=by
 induction l generalizing m with
 | nil=>exact mJ _
 | cons x l ih =>
  obtain⟨c,d⟩:=oq.1 f;have a:=h x M';have:=ih d (m:=m.erase x) λy b=>(List.mem_erase_of_ne (λe=>c (by rw[<- e];exact b))).2 (h y (I' _ b));rw[List.length_erase_of_mem a]at this
  have:=List.length_pos_of_mem a;rw[mI];omega
def prc:List Rk->Nat
 | []=>0
 | .pr _::l=>prc l+1
 | .vt _::l=>prc l
def vts:List Rk->List Vt
 | []=>[]
 | .pr _::l=>vts l
 | .vt v::l=>v::vts l
theorem dF(l m:List Rk):prc (l++m)=prc l+prc m:=by
 induction l with
 | nil=>simp[prc]
 | cons r l ih=>cases r<;>simp[prc,ih];omega
theorem eS(l m:List Rk):vts (l++m)=vts l++vts m:=by
 induction l with
 | nil=>rfl
 | cons r l ih=>cases r<;>simp[vts,ih]
theorem Vb{l:List Rk}{v:Vt}:v∈vts l↔Rk.vt v∈l:=by
 induction l with
 | nil=>simp[vts]
 | cons r l ih=>cases r<;>simp[vts,ih]
theorem cA(a:List Rk):(fl a).length=14*prc a+38*(vts a).length:=by
 induction a with
 | nil=>rfl
 | cons r l ih =>
  have e:fl (r::l)=AM r.body++fl l:=rfl;rw[e,H',Bj,ih];cases r with
  | pr b=>show(Bu b).length+5+_=14*(prc l+1)+38*(vts l).length;rw[Kg];omega
  | vt v=>show(Bk v).length+5+_=14*prc l+38*((vts l).length+1);rw[GF];omega
variable{K R:Int}{M N:Meet}{b:Bal}{c i j:Nat}{p:Nod}{q:Pend}{rs:List Rk}{σ:Gs}
theorem ir(h:AQ rs):(prc rs:Int)<=(B1 rs).p.key:=h.ind (P:=λrs=>(prc rs:Int)<=(B1 rs).p.key) (by decide) λrs r f a g=>by
 have c:=Rk.rN f.acc a.err;rw[dF,BS];cases r with
 | pr b =>
  have d:=Cl a.1;have:(B1 rs).p.key≠b.key:=λe=>a.2 (DJ d.1.1 d.2.1.pr e);have c:(B1 rs).p.key<=b.key:=c;show((prc rs+1:Nat):Int)<=b.key;omega
 | vt v=>show((prc rs+0:Nat):Int)<=_;exact mB (by omega) c
theorem Xb(s:GsI σ){a:List Rk}(h:AQ a)(c:∀ v,Rk.vt v∈a->σ.rh v):(vts a).Nodup:=by
 revert c
 refine h.ind (P:=λa=>(∀ v,Rk.vt v∈a->σ.rh v)->(vts a).Nodup) (λ_=>nJ) λa r i m j c=>?_;have j:=j λv g=>c v (mi _ g);rw[eS];cases r with
 | pr b=>show(vts a++[]).Nodup;rw[mG];exact j
 | vt v =>
  show(vts a++[v]).Nodup;refine om.2 ⟨j,oq.2 ⟨P',nJ⟩,λx z y A e=>?_⟩;rw[D'.1 A]at e
  subst e;obtain⟨B,u,f,l,C⟩:=QV i x (Vb.1 z);have p:=Ap m.1;have w:=i.acc.le f;have t:=Bp p.2.1.2.1.pr i.acc.1 p.2.2;have n:=c u (mi _ (IP i u f));have d:=c x (mg _ M');have k:u.b=x.b:=DJ n.1.2.1.pr d.1.2.1.pr (by omega);have o:=n.2;rw[k,l]at o
  have q:=s.w1 _ _ _ _ o d.2;have:u=x:=(Vt.eq_iff u x).1 ⟨l,k,q⟩;rw[this]at f
  exact m.2 f
theorem eT(r:GsI σ){d:List Rk}(h:AQ d)(i:∀ v,Rk.vt v∈d->σ.rh v){a:List (Bal × Nat)}(B:∀ b s c,σ.W b s c->(b,s)∈a):(vts d).length<=a.length:=by
 have t:=Xb r h i;have j:∀ v∈vts d,σ.rh v:=λv g=>i v (Vb.1 g);have:((vts d).map λv=>(v.b,v.bt.toNat)).Nodup:=by
  clear h i;generalize vts d=q at t j ⊢;induction q with
  | nil=>exact nJ
  | cons v l ih =>
   obtain⟨z,A⟩:=oq.1 t;refine oq.2 ⟨λg=>?_,ih A λu f=>j u (I' _ f)⟩;obtain⟨u,f,e⟩:=mz.1 g;have n:=j u (I' _ f);have o:=j v M';have k:u.b=v.b:=congrArg Prod.fst e;have w:u.bt.toNat=v.bt.toNat:=congrArg Prod.snd e;have p:=n.2;rw[k,w]at p
   have y:=r.w1 _ _ _ _ p o.2;have:u=v:=(Vt.eq_iff u v).1 ⟨by have:=n.1.1;have:=o.1.1;omega,k,y⟩;rw[this]at f;exact z f
 have:=KO this (m:=a) λx C=>by
  obtain⟨v,i,rfl⟩:=mz.1 C;exact B _ _ _ (j v i).2
 rwa [mD]at this
theorem aK(h:AgI σ M){a:List (Bal × Nat)}(e:∀ b s c,σ.W b s c->(b,s)∈a){j:Nat}(f:j<5)(g:(M.ab j).up=true):((M.ab j).d.length:Int)<=14*(M.ab j).vo.p.key+38*(a.length:Int):=by
 obtain⟨m,k⟩:=(h.nd j f).up g;have i:=eT h.gs k.tp.ok k.rh e;have l:=ir k.tp.ok;rw[k.tp.d,cA,k.tp.vo];omega
def Nod.pk(p:Nod):Int:=if p.up then p.vo.p.key else(En p.d).2.p.key
def KbI(K R:Int)(M:Meet):Prop:=∀ j,j<5->(M.ab j).pk<=K/\5*(M.ab j).dc<=R
theorem NdI.rH(h:NdI σ j p):σ.P j<=p.pk:=by
 unfold Nod.pk;split
 .rename_i hu
  obtain⟨c,k⟩:=h.up hu;obtain⟨x,b⟩:=k.tp.pre;have a:=k.tp.ok;rw[<- b]at a
  have:=(DD a).1;rw[b,<- k.tp.vo]at this
  exact this
 .rename_i hu
  rw[(h.dn (by simpa using hu)).sc];exact mc _
theorem AgI.rH(h:AgI σ M){K R:Int}(c:KbI K R M){b:Bal}(d:Ab b)(e:b.key<=σ.P b.n.toNat):b.key<=K:=by
 have a:b.n.toNat<5:=by unfold Ab at d;omega
 exact mB e (mB (h.nd _ a).rH (c _ a).1)
theorem Y6(h:Ao b):5*b.r<=b.key:=by unfold Ao Ab at h;unfold Bal.key;omega
theorem KbI.set(h:KbI K R M){i:Nat}{p:Nod}(b:p.pk<=K/\5*p.dc<=R)(ls:List Let)(ts:List Tol):KbI K R (M.set i p ls ts):=λj a=>by
 show(upN M.ab i p j).pk<=K/\5*(upN M.ab i p j).dc<=R;unfold upN;split
 .exact b
 .exact h j a
theorem KbI.step{D:Wh}(P:¬ D.ld){n:Nat}{σ:Gs}{M N:Meet}(h:AgI σ M)(s:Stp D n M N){K R:Int}(Q:K<=R)(m:KbI K R M):KbI K R N:=by
 have lr:∀ {i:Nat} {p:Nod},i<5->(M.ab i).up=true->p.up=true->p.vo.p.key<=(M.ab i).vo.p.key\/p.vo.p.key<=K->p.dc=(M.ab i).dc->p.pk<=K/\5*p.dc<=R:=λ{i p} j f z S A=>by
  have o:=m i j;unfold Nod.pk at o ⊢;rw[if_pos f]at o
  rw[if_pos z,A];exact⟨S.elim (λg=>mB g o.1) id,o.2⟩
 cases s with
 | take _ l hl hd f _ =>
  have w:=h.lt l hl;obtain⟨O,k⟩:=(h.nd _ hd.2).up f;have b:=(congrArg Prod.fst (P4 (M.ab l.dst) l)).trans f;refine m.set ?_ _ _
  revert b
  unfold Nod.take;split
  .rename_i u
   rcases k.tp.au l.hZ with⟨e,he⟩|⟨e,he,hvs,rs',z,v,hm,hpb,hpv,d,a,hq⟩
   .rw[if_pos e];intro b;refine lr hd.2 f b (.inl ?_) ?_<;>(unfold Nod.ew;split)<;>first|exact mc _|rfl
   .rw[if_neg (λg=>g e)];intro b;refine lr hd.2 f b (.inr ?_) (by show((M.ab l.dst).au l.hZ).1.dc=_;rw[hq];rfl);show((M.ab l.dst).au l.hZ).1.vo.p.key<=K;rw[v.vo,hpb];exact h.rH m (Cl he).2.1 (w.k0 u)
  .simp only;split<;>exact λb=>lr hd.2 f b (.inl (mc _)) rfl
  .rename_i u
   intro b;have o:=lr (p:=M.ab l.dst) hd.2 f f (.inl (mc _)) rfl;refine⟨o.1,?_⟩;have B:=mB (w.k2 u).2 (mB (h.nd _ hd.1).rH (m _ hd.1).1);have J:5*l.hZ.r<=K:=mB (Y6 (w.k2 u).1) B;show 5*max (M.ab l.dst).dc l.hZ.r<=R;have:=o.2;omega
  .rename_i u
   rcases k.tp.cl l.cl with⟨e,he⟩|⟨e,he,rs',z,v,hm,hpb,d,a,hq⟩
   .rw[if_pos e];intro b;refine lr hd.2 f b (.inl ?_) ?_<;>(unfold Nod.ew;split)<;>first|exact mc _|rfl
   .rw[if_neg (λg=>g e)];intro b;refine lr hd.2 f b (.inr ?_) (by show((M.ab l.dst).cl l.cl).1.dc=_;rw[hq];rfl);show((M.ab l.dst).cl l.cl).1.vo.p.key<=K;rw[v.vo,hpb];exact h.rH m (Ap he).2.1.2.1 (h.gs.w3 _ _ _ (w.k3 u).2)
  .unfold Nod.count;split
   .exact λb=>lr hd.2 f b (.inl (mc _)) rfl
   .split<;>exact λb=>lr hd.2 f b (.inl (mc _)) rfl
  .split<;>exact λb=>lr hd.2 f b (.inl (mc _)) rfl
  .simp only;unfold Nod.eb;split<;>split<;>exact λb=>lr hd.2 f b (.inl (mc _)) rfl
  .exact λb=>lr hd.2 f b (.inl (mc _)) rfl
 | br _ ls hl _=>exact m
 | one _ i c j f hc he =>
  refine m.set (lr j f ((DX { M.ab i with lp:=doS (M.ab i).lp c,done:=(M.ab i).done+1 } c).1.trans f) (.inl ?_) ?_) _ _<;>(unfold Nod.hU;split)<;>first|exact mc _|rfl
 | ask _ i j f =>
  refine m.set (lr j f ((Io _ i).trans f) (.inl ?_) ?_) _ _<;>(unfold Nod.ib;split)<;>first|exact mc _|rfl|(split<;>first|exact mc _|rfl|(unfold Nod.eb;split<;>first|exact mc _|rfl))
 | prop _ i j f =>
  refine m.set (lr j f ((E7 _).trans f) (.inl ?_) ?_) _ _
  .obtain⟨O,k⟩:=(h.nd i j).up f;unfold Nod.cF;split
   .exact mc _
   .rename_i hc
    have G:(M.ab i).leads=true:=by cases hh:(M.ab i).leads with|true=>rfl|false=>exact absurd (.inl hh) hc
    cases hn:(M.ab i).ov (M.ab i).ae.length with
    | none=>exact mc _
    | some c =>
     simp only;rcases k.tp.cl ⟨((M.ab i).ae.length:Int),(M.ab i).bn.hZ,c⟩with⟨e,he⟩|⟨e,he,rs',z,v,hm,hpb,d,a,hq⟩
     .rw[if_pos e];exact mc _
     .rw[if_neg (λg=>g e)];show((M.ab i).cl _).1.vo.p.key<=_;rw[v.vo,hpb,(mL G).2];exact mc _
  .unfold Nod.cF;split
   .rfl
   .split
    .rfl
    .split
     .rfl
     .show((M.ab i).cl _).1.dc=_;unfold Nod.cl;split
      .rfl
      .split
       .rfl
       .split<;>rfl
 | qH _ i j f hlt E=>exact m.set (lr (p:={ M.ab i with sy:=((M.ab i).d.length:Int) }) j f f (.inl (mc _)) rfl) _ _
 | run _ i j f q l z hs =>
  have u:=DE (M.ab i) i q;refine m.set (lr (p:={ (M.ab i).ic i q with bu:=l }) j f (u.2.1.trans f) (.inl ?_) ?_) _ _<;>(cases q<;>first|exact mc _|rfl|(simp only[Nod.ic];split<;>first|exact mc _|rfl)|(simp only[Nod.ic,Nod.count];split<;>first|exact mc _|rfl|(split<;>first|exact mc _|rfl)))
 | qz _ i j f w=>exact m.set (lr (p:=EC (M.ab i) i 5) j f f (.inl (mc _)) rfl) _ _
 | lead _ i j f w=>exact absurd w P
 | sub _ i d j f hd =>
  have b:((M.ab i).qJ i d M.fa).1.up=true:=by
   unfold Nod.qJ Nod.qW;split
   .exact f
   .split
    .exact f
    .split
     .exact f
     .show(Nod.want _ _).up=true;unfold Nod.want;split<;>exact f
  refine m.set (lr j f b (.inl ?_) ?_) _ _<;>(unfold Nod.qJ Nod.qW;split)<;>first|exact mc _|rfl|(split<;>first|exact mc _|rfl|(split<;>first|exact mc _|rfl|(simp only[Nod.want];split<;>first|exact mc _|rfl)))
 | jv _ i c j f hc hC =>
  obtain⟨O,k⟩:=(h.nd i j).up f;obtain⟨x,_,⟨y,L⟩,C⟩:=k.tp.jv hc;have F:=It (p:=M.ab i) k.tp.rF hc;have A:((M.ab i).jv c).dc=0:=by
   unfold Nod.jv;rw[if_neg]
   .rfl
   .intro e;exact e (by unfold Gj;rw[if_neg (λe=>e k.tp.rF),if_neg (by omega)])
  have t:=(m i j).1;unfold Nod.pk at t;rw[if_pos f]at t
  have o:=k.tp.ok;rw[<- L]at o
  have B:=(DD o).1;rw[L,<- k.tp.vo]at B
  have I:=(AQ.left o).acc.1;have J:0<=(B1 x).p.key:=by unfold Ao Ab at I;unfold Bal.key;omega
  refine m.set ⟨?_,by rw[A];omega⟩ _ _;unfold Nod.pk;rw[if_neg (by rw[F.2.1];decide),C.sc];show(B1 x).p.key<=K;omega
 | start _ i j f _ =>
  have k:=(h.nd i j).dn f;have v:=k.start;have E:AR (M.ab i).d (M.ab i).sy:=⟨k.len,by rw[k.sy];omega,by rw[k.sy];omega⟩;have H:=G9 (p:=M.ab i) E;have A:(M.ab i).start.dc=0:=by
   unfold Nod.start;rw[if_neg (λe=>e (if_pos E))];split<;>rfl
  have t:=(m i j).1;unfold Nod.pk at t;rw[if_neg (by rw[f];decide),k.sc]at t
  have t:(B1 (σ.dr i)).p.key<=K:=t;have I:=v.ok.acc.1;have J:0<=(B1 (σ.dr i)).p.key:=by unfold Ao Ab at I;unfold Bal.key;omega
  refine m.set ⟨?_,by rw[A];omega⟩ _ _;unfold Nod.pk;rw[if_pos H.2.1,v.vo];exact t
def wh1:Wh:=⟨λ_ _=>False,False,False,False,False,False⟩
def wh0:Wh:=⟨λ_ _=>False,False,False,False,True,False⟩
theorem Stp.calm(h:Stp wh1 c M N):Stp wh0 c M N:=by
 cases h with
 | take _ l hl hd hu ht=>exact .take M l hl hd hu trivial
 | br _ ls h hd=>exact False.elim hd
 | one _ i c hi hu hc he=>exact .one M i c hi hu hc he
 | ask _ i hi hu=>exact .ask M i hi hu
 | prop _ i hi hu=>exact .prop M i hi hu
 | qH _ i hi hu h hT=>exact .qH M i hi hu h hT
 | run _ i hi hu q l hp hs=>exact .run M i hi hu q l hp hs
 | qz _ i hi hu hL=>exact .qz M i hi hu hL
 | lead _ i hi hu hL=>exact False.elim hL
 | sub _ i d hi hu hD=>exact False.elim hD
 | jv _ i k hi hu hk hC=>exact False.elim hC
 | start _ i hi hu hs=>exact False.elim hs
theorem Kj{to:Nat}{e:Int}(a:q∈p.bu):q∈(p.ew to e).bu:=by
 unfold Nod.ew;split
 .exact mi _ a
 .exact a
theorem Hb{l:Let}(a:q∈p.bu):q∈(p.take l).bu:=by
 unfold Nod.take;split
 .split
  .exact Kj a
  .exact mi _ (by rw[FK];exact a)
 .simp only;split<;>exact a
 .exact a
 .split
  .exact Kj a
  .exact mi _ (by rw[Hd];exact a)
 .unfold Nod.count;split
  .exact a
  .split<;>exact a
 .split
  .exact mi _ a
  .exact a
 .simp only;unfold Nod.eb;split<;>split<;>first|exact a|exact mi _ a
 .exact a
theorem Pi(a:q∈p.bu):q∈p.cF.bu:=by
 unfold Nod.cF;split
 .exact a
 .split
  .exact a
  .split
   .exact a
   .exact mi _ (by rw[Hd];exact a)
theorem Jk(p:Nod)(i:Nat):(p.ib i).1.bu=p.bu/\(p.ib i).1.d=p.d/\(p.ib i).1.sy=p.sy:=by
 unfold Nod.ib;split
 .exact⟨rfl,rfl,rfl⟩
 .split
  .unfold Nod.eb;split<;>exact⟨rfl,rfl,rfl⟩
  .exact⟨rfl,rfl,rfl⟩
theorem GC(p:Nod)(c:Cmd):(p.hU c).bu=p.bu/\(p.hU c).d=p.d/\(p.hU c).sy=p.sy:=by unfold Nod.hU;split<;>exact⟨rfl,rfl,rfl⟩
theorem XQ(i:Nat)(l:List Cmd)(p:Nod)(a:List Tol):(qK i l p a).1.d=p.d/\(qK i l p a).1.sy=p.sy:=by
 induction l generalizing p a with
 | nil=>exact⟨rfl,rfl⟩
 | cons c l ih =>
  rw[qK];split
  .exact⟨rfl,rfl⟩
  .have h1:=ih (Nod.hU { p with lp:=doS p.lp c,done:=p.done+1 } c) (if(p.bN c).isSome=true then a++[⟨i,c.c,c.s,doC p.lp c,doA p.lp c⟩]else a);have b:=GC { p with lp:=doS p.lp c,done:=p.done+1 } c;exact⟨h1.1.trans b.2.1,h1.2.trans b.2.2⟩
theorem RV(i:Nat)(l:List Pend)(p:Nod)(a:List Let):(nn i l p a).1.bu=p.bu:=by
 induction l generalizing p a with
 | nil=>rfl
 | cons q l ih=>rw[nn,ih];exact(DE p i q).1
theorem H8(h:AR p.d p.sy)(i:Nat)(k:List Let)(l:List Tol):(p.piece i k l).1.bu=[]:=by
 unfold Nod.piece;simp only;have g:=XQ i (p.ae.drop p.done) p l;generalize qK i (p.ae.drop p.done) p l=a at g ⊢;have j:=Jk a.1 i;generalize a.1.ib i=b at j ⊢;have c:b.1.tp:=by show AR b.1.d b.1.sy;rw[j.2.1,j.2.2,g.1,g.2];exact h
 have m:b.1.cF.tp:=by
  unfold Nod.cF;split
  .exact c
  .split
   .exact c
   .split
    .exact c
    .exact P9 c _
 generalize b.1.cF=r at m ⊢;have n:(r.mv i (k++b.2)).1.bu=[]:=by
  unfold Nod.mv;rw[if_neg (λe=>e.2 (if_pos m)),RV]
 generalize r.mv i (k++b.2)=f at n ⊢;unfold Nod.bw;split<;>exact n
theorem Aj(M:Meet)(i:Nat)(p:Nod)(a:List Let)(b:List Tol)(j:Nat):(M.set i p a b).ab j=if j=i then p else M.ab j:=rfl
theorem Oj(s:Stp wh0 c M N){i:Nat}{q:Pend}(hq:q∈(M.ab i).bu):q∈(N.ab i).bu\/∃ l,(M.ab i).bu=q::l/\N=M.set i { (M.ab i).ic i q with bu:=l } (M.br++(M.ab i).qx i q) M.fa:=by
 have put:∀ {j:Nat} {p:Nod} {a:List Let} {b:List Tol},(j=i->q∈p.bu)->q∈((M.set j p a b).ab i).bu:=λ{j p a b} h=>by
  rw[Aj];split
  .rename_i e;exact h e.symm
  .exact hq
 cases s with
 | take _ l hl hd hu ht=>exact .inl (put λe=>Hb (by rw[e];exact hq))
 | br _ a h hd=>exact False.elim hd
 | one _ j c hi hu hc he=>exact .inl (put λe=>by rw[(GC _ c).1,e];exact hq)
 | ask _ j hi hu=>exact .inl (put λe=>by rw[(Jk _ j).1,e];exact hq)
 | prop _ j hi hu=>exact .inl (put λe=>Pi (by rw[e];exact hq))
 | qH _ j hi hu h hT=>exact .inl (put λe=>by subst e;exact hq)
 | run _ j hi hu x l hp hs =>
  by_cases e:j=i
  .subst e;rw[hp]at hq
   rcases mn.1 hq with rfl|hq
   .exact .inr ⟨l,hp,rfl⟩
   .exact .inl (by rw[Aj,if_pos rfl];exact hq)
  .exact .inl (put λf=>absurd f e)
 | qz _ j hi hu hL=>exact .inl (put λe=>by subst e;exact hq)
 | lead _ j hi hu hL=>exact False.elim hL
 | sub _ j d hi hu hD=>exact False.elim hD
 | jv _ j k hi hu hk hC=>exact False.elim hC
 | start _ j hi hu hs=>exact False.elim hs
theorem Ha(a:(M.ab i).up=true):M.act (acN 3 (i:Int))=M.set i ((M.ab i).piece i M.br M.fa).1 ((M.ab i).piece i M.br M.fa).2.1 ((M.ab i).piece i M.br M.fa).2.2:=by
 unfold Meet.act;simp[acN,a]
theorem FP(a:i<5):LacOk (acN 3 (i:Int)):=D6 ⟨.inr (.inl rfl),by omega,by omega⟩
theorem ZX(i:Nat):wh1.may (acN 3 (i:Int)):=⟨λe=>absurd e (by show(3:Int)≠1;decide),λe=>absurd e (by show(3:Int)≠2;decide),λe=>absurd e (by show(3:Int)≠8;decide),λe=>absurd e (by show ¬ ((3:Int)=4\/(3:Int)=5\/(3:Int)=6\/(3:Int)=7);decide),λe=>absurd e (by show(3:Int)≠9;decide)⟩
end
section
variable{I J:Meet->Prop}
theorem C1(a:∀ c M N,Stp wh1 c M N->I M->I N){n:Nat}{M:Meet}(b:MOk n M){i:Nat}(d:i<5)(h:I M):I (M.act (acN 3 (i:Int))):=(OD (D:=wh1) b (FP d) (ZX i)).inv a h
theorem WC(a:∀ c M N,Stp wh1 c M N->I M->I N)(b:∀ c M N,Stp wh1 c M N->I M->J M->J N){n:Nat}{M:Meet}(e:MOk n M){i:Nat}(f:i<5)(p:(M.ab i).up=true)(o:AR (M.ab i).d (M.ab i).sy){q:Pend}(j:q∈(M.ab i).bu)(h:I M)
  (m:∀ N l,I N->(N.ab i).bu=q::l->J (N.set i { (N.ab i).ic i q with bu:=l } (N.br++(N.ab i).qx i q) N.fa)):J (M.act (acN 3 (i:Int))):=by
 have k:=C1 (I:=λN=>I N/\(q∈(N.ab i).bu\/J N)) (λc A B s g=>⟨a c A B s g.1,by
  rcases g.2 with g2|g2
  .rcases Oj s.calm g2 with g3|⟨l,g3,rfl⟩
   .exact .inl g3
   .exact .inr (m A l g.1 g3)
  .exact .inr (b c A B s g.1 g2)⟩) e f ⟨h,.inl j⟩
 refine k.2.resolve_left λg=>?_;rw[Ha p,Aj,if_pos rfl,H8 o]at g
 cases g
def TkS(M N:Meet):Prop:=∃ l,l∈M.br/\(l.src<5/\l.dst<5)/\(M.ab l.dst).up=true/\N=M.set l.dst ((M.ab l.dst).take l) M.br M.fa
theorem TkS.qZ{M N:Meet}(h:TkS M N):Stp wh0 0 M N:=by obtain⟨l,a,b,c,rfl⟩:=h;exact .take M l a b c trivial
theorem Jq(e:∀ M N,TkS M N->I M->I N)(l:List Let){M:Meet}(a:∀ m∈l,m∈M.br/\m.src<5/\m.dst<5)(h:I M):I (l.foldl (λM l=>M.ni l) M)/\(l.foldl (λM l=>M.ni l) M).br=M.br:=by
 induction l generalizing M with
 | nil=>exact⟨h,rfl⟩
 | cons x l ih =>
  obtain⟨b,c⟩:=a x M';have d:I (M.ni x):=by
   unfold Meet.ni;split
   .rename_i hu;exact e M _ ⟨x,b,c,hu,rfl⟩ h
   .exact h
  have:=ih (M:=M.ni x) (λm f=>by rw[Eo];exact a m (I' _ f)) d;exact⟨this.1,this.2.trans (Eo M x)⟩
theorem DO(f:∀ M N,TkS M N->I M->I N)(t:∀ M N,TkS M N->I M->J M->J N){n:Nat}{M:Meet}(o:MOk n M)(h:I M){l:Let}(k:l∈M.br)(q:∀ N,I N->(N.ab l.dst).up=true)
  (u:∀ N,I N->N.br=M.br->J (N.set l.dst ((N.ab l.dst).take l) N.br N.fa)):∃ N,M.act (acN 7 0)={ N with br:=[] }/\I N/\J N/\N.br=M.br:=by
 have j:∀ m∈M.br,m.src<5/\m.dst<5:=λm d=>⟨(o.br m d).src,(o.br m d).dst⟩;obtain⟨a,b,e⟩:=List.append_of_mem k;have r:M.act (acN 7 0)={ M.br.foldl (λM l=>M.ni l) M with br:=[] }:=by
  show M.qD=_;unfold Meet.qD;rw[Hv]
 refine⟨_,r,?_⟩;have c:=Jq f a (M:=M) (λm d=>by have:m∈M.br:=(by rw[e];exact mi _ d);exact⟨this,j m this⟩) h;rw[show M.br.foldl (λM l=>M.ni l) M=b.foldl (λM l=>M.ni l) ((a.foldl (λM l=>M.ni l) M).ni l)by rw[e,oO];rfl];generalize a.foldl (λM l=>M.ni l) M=A at c ⊢;have p:A.ni l=A.set l.dst ((A.ab l.dst).take l) A.br A.fa:=by unfold Meet.ni;rw[if_pos (q A c.1)];rfl
 have s:TkS A (A.ni l):=⟨l,by rw[c.2];exact k,j l k,q A c.1,p⟩;have i:=Jq (I:=λN=>I N/\J N) (λA B s g=>⟨f A B s g.1,t A B s g.1 g.2⟩) b (M:=A.ni l) (λm d=>by
  have:m∈M.br:=by rw[e];exact mg _ (I' _ d)
  exact⟨by rw[Eo,c.2];exact this,j m this⟩) ⟨f _ _ s c.1,by rw[p];exact u A c.1 c.2⟩
 exact⟨i.1.1,i.1.2,by rw[i.2,Eo,c.2]⟩
end
theorem KbI.mono{K R a b:Int}{M:Meet}(h:KbI K R M)(d:K<=a)(e:R<=b):KbI a b M:=λj c=>⟨mB (h j c).1 d,mB (h j c).2 e⟩
theorem Tq{D:Wh}(l:¬ D.ld){n:Nat}{M N:Meet}(s:Sts D n M N){σ:Gs}(h:AgI σ M){K R:Int}(a:K<=R)(f:KbI K R M):∃ (τ:Gs) (ex:List (Bal × Nat)),σ.le τ/\AgI τ N/\KbI K R N/\ex.length<=n/\∀ b s c,τ.W b s c->σ.W b s c\/(b,s)∈ex:=by
 induction s with
 | nil=>exact⟨σ,[],.refl σ,h,f,mJ _,λ_ _ _ g=>.inl g⟩
 | snoc _ s hm ih =>
  obtain⟨τ,ex,i,d,j,r,k⟩:=ih h f;obtain⟨υ,e,m,o,p,q⟩:=d.step s;refine⟨υ,ex++e.toList,i.trans m,o,j.step l d s a,?_,λb s c g=>?_⟩
  .cases e with
   | none=>simp;omega
   | some x=>have:=(q x.1 x.2 rfl).1;simp;omega
  .rcases p b s c g with g|g
   .exact(k b s c g).imp id λg=>mi _ g
   .exact .inr (mg _ (by rw[g];exact D'.2 rfl))
theorem KbI.lead{σ:Gs}{M:Meet}(h:AgI σ M){R:Int}(l:KbI R R M){i:Nat}(m:i<5)(j:(M.ab i).up=true)(o:List Let)(q:List Tol):KbI (R+9) (R+9) (M.set i ((M.ab i).lead i) o q):=by
 obtain⟨t,k⟩:=(h.nd i m).up j;have f:=l i m;have c:=f.1;unfold Nod.pk at c;rw[if_pos j]at c
 have s:=Y6 (b:=(M.ab i).vo.p) (by rw[k.tp.vo];exact k.tp.ok.acc.1);refine(l.mono (by omega) (by omega)).set ?_ _ _;unfold Nod.lead;simp only;generalize n:(⟨max (M.ab i).dc (M.ab i).vo.p.r+1,(i:Int)⟩:Bal)=b;rcases k.tp.au b with⟨e,he⟩|⟨e,he,hvs,rs',hp,ht,hm,hpb,hpv,d,a,hq⟩
 .rw[if_pos e];exact⟨by have:=f.1;omega,by have:=f.2;omega⟩
 .rw[if_neg (λg=>g e)];refine⟨?_,?_⟩
  .show(if((M.ab i).au b).1.up=true then((M.ab i).au b).1.vo.p.key else(En ((M.ab i).au b).1.d).2.p.key)<=_;rw[if_pos (by rw[hq];exact j),ht.vo,hpb,<- n];show 5*(max (M.ab i).dc (M.ab i).vo.p.r+1)+(i:Int)<=_;omega
  .show 5*((M.ab i).au b).1.dc<=_;rw[hq];show 5*(M.ab i).dc<=_;omega
def whL:Wh:=⟨λ_ _=>True,False,True,True,True,True⟩
def lds(L:List Lac):Nat:=L.countP λx=>decide (x.k=2)
theorem Ww(L:List Lac){n:Nat}{M:Meet}(w:MOk n M)(B:n+L.length<=1000000)(v:∀ x∈L,LacOk x){σ:Gs}(h:AgI σ M){R:Int}(l:KbI R R M){cov:List (Bal × Nat)}(m:∀ b s c,σ.W b s c->(b,s)∈cov) :
  ∃ (τ:Gs) (cov':List (Bal × Nat)),σ.le τ/\AgI τ (M.dT L)/\KbI (R+9*(lds L:Int)) (R+9*(lds L:Int)) (M.dT L)/\cov'.length<=cov.length+L.length/\∀ b s c,τ.W b s c->(b,s)∈cov':=by
 induction L generalizing n M σ R cov with
 | nil=>exact⟨σ,cov,.refl σ,h,l.mono (by simp[lds]) (by simp[lds]),A' _,m⟩
 | cons x L ih =>
  rw[mI]at B
  have t:=v x M';have r:lds (x::L)=lds L+if x.k=2 then 1 else 0:=by unfold lds;rw[pF];simp
  have one:∃ (τ:Gs) (cov':List (Bal × Nat)),σ.le τ/\AgI τ (M.act x)/\KbI (R+if x.k=2 then 9 else 0) (R+if x.k=2 then 9 else 0) (M.act x)/\cov'.length<=cov.length+1/\∀ b s c,τ.W b s c->(b,s)∈cov':=by
   by_cases d:x.k=2
   .rw[if_pos d];have z:x.n.toNat<5:=by have:=t.n (by rw[d];rfl);omega
    have e:M.act x=M.set x.n.toNat (if(M.ab x.n.toNat).up then(M.ab x.n.toNat).lead x.n.toNat else M.ab x.n.toNat) M.br M.fa:=by
     unfold Meet.act;simp only;rw[if_neg (by omega),if_pos d]
    by_cases o:(M.ab x.n.toNat).up=true
    .rw[if_pos o]at e
     obtain⟨τ,u,f,i,j,p⟩:=h.step (D:=whT) (.lead M _ z o trivial);refine⟨τ,cov,f,by rw[e];exact i,by rw[e];exact l.lead h z o _ _,by omega,λb s c g=>?_⟩;rcases j b s c g with g|g
     .exact m b s c g
     .exact absurd (p b s g).1 (by decide)
    .rw[if_neg o,ER]at e
     rw[e];exact⟨σ,cov,.refl σ,h,l.mono (by omega) (by omega),by omega,m⟩
   .rw[if_neg d,Int.add_zero];obtain⟨τ,u,f,i,j,p,q⟩:=Tq (D:=whL) (λe=>e) (OD w t ⟨λ_=>trivial,λe=>d e,λ_=>trivial,λ_=>⟨trivial,trivial⟩,λ_=>trivial⟩) h (mc R) l;refine⟨τ,cov++u,f,i,j,by rw[H'];omega,λb s c g=>?_⟩;exact(q b s c g).elim (λg=>mi _ (m b s c g)) λg=>mg _ g
  obtain⟨τ,cov',f,i,j,p,q⟩:=one;obtain⟨υ,a,E,F,A,H,G⟩:=ih (w.act (by omega) t) (by omega) (λy C=>v y (I' _ C)) i j q;have e:R+(if x.k=2 then 9 else 0)+9*(lds L:Int)=R+9*(lds (x::L):Int):=by
   rw[r];split<;>omega
  rw[e]at A
  exact⟨υ,a,f.trans E,F,A,by rw[mI];omega,G⟩
theorem KbI.zero:KbI 0 0 As:=λj a=>⟨by show Cx.pk<=0;decide,by show 5*Cx.dc<=0;decide⟩
section
variable{S:Cmd->Prop}
section
def VsS(S:Cmd->Prop)(l:List Vt):Prop:=∀ v∈l,S v.w
def RsS(S:Cmd->Prop)(rs:List Rk):Prop:=∀ v,Rk.vt v∈rs->S v.w
def PnS(S:Cmd->Prop):Pend->Prop
 | .began _ vs=>VsS S vs
 | .prom _ _ vs=>VsS S vs
 | .voted _ v=>S v.w
 | .prop v=>S v.w
 | _=>True
structure NdS(S:Cmd->Prop)(p:Nod):Prop where
 up:p.up=true->∃ dr rs,TpU p dr rs/\RsS S rs
 dn:p.up=false->∃ dr,TpD p dr/\RsS S dr
 ag:∀ c∈p.ae,S c
 wa:∀ c∈p.av,S c
 qu:∀ c∈p.bn.fv,S c
 he:∀ j,j<5->VsS S (p.bn.an j).vs
 pe:∀ q∈p.bu,PnS S q
structure LtS(S:Cmd->Prop)(l:Let):Prop where
 vs:VsS S l.ln
 wh:∀ c∈l.gC,S c
 vt:l.kind=3\/l.kind=4->S l.cl.w
variable{M:Meet}{dr:List Rk}{i:Nat}{p q:Nod}{r:Rnd}
theorem NdS.tape(h:NdS S p){q:Nod}(i:q.up=p.up)(a:q.d=p.d)(f:q.sy=p.sy)(n:q.vo=p.vo)(l:∀ c∈q.ae,S c)(t:∀ c∈q.av,S c)(r:∀ c∈q.bn.fv,S c)(m:∀ j,j<5->VsS S (q.bn.an j).vs)(o:∀ x∈q.bu,PnS S x):NdS S q :=
 ⟨λe=>by
  obtain⟨b,s,k,g⟩:=h.up (i▸e);exact⟨b,s,⟨k.ok,k.pre,a.trans k.d,f.trans k.sy,n.trans k.vo,by rw[a];exact k.len⟩,g⟩,λe=>by
  obtain⟨b,k,g⟩:=h.dn (i▸e);exact⟨b,⟨k.ok,by rw[a];exact k.sc,by rw[a];exact k.tk,by rw[f,a];exact k.sy,by rw[a];exact k.len⟩,g⟩,l,t,r,m,o⟩
theorem NdS.wait(h:NdS S p){x:Pend}(a:PnS S x):NdS S (p.wait x) :=
 h.tape rfl rfl rfl rfl h.ag h.wa h.qu h.he λy b=>(Q'.1 b).elim (h.pe y) λe=>by rw[D'.1 e];exact a
theorem NdS.ew(h:NdS S p)(to:Nat)(e:Int):NdS S (p.ew to e):=by
 unfold Nod.ew;split
 .exact h.wait trivial
 .exact h
theorem NdS.wrote(h:NdS S p){f b:List Rk}(j:TpU q f b)(i:RsS S b)(k:p.up=true){d:List Int}{a:Acc}(g:q=p.tv d p.sy a)(l:∀ c∈q.ae,S c):NdS S q:=by
 subst g;exact⟨λ_=>⟨f,b,j,i⟩,λe=>(by rw[show(p.tv d p.sy a).up=p.up from rfl,k]at e;cases e),h.ag,h.wa,h.qu,h.he,h.pe⟩
theorem fO(h:∀ j,j<5->VsS S (r.an j).vs){a:Acc}(b:a∈r.ia):VsS S a.vs:=by
 unfold Rnd.ia at b;simp only[mn,P',or_false]at b;rcases b with rfl|rfl|rfl|rfl|rfl
 .exact h 0 (by omega)
 .exact h 1 (by omega)
 .exact h 2 (by omega)
 .exact h 3 (by omega)
 .exact h 4 (by omega)
theorem Yj(h:∀ j,j<5->VsS S (r.an j).vs){s:Int}{v:Vt}(e:v∈Ae (r.ia.map (·.vs)).flatten s):S v.w:=by
 obtain⟨l,b,c⟩:=nQ.1 (AK.1 e).1;obtain⟨a,d,rfl⟩:=mz.1 b;exact fO h d v c
theorem gh(h:∀ j,j<5->VsS S (r.an j).vs){s:Int}(a:CW r.ia s=0):S (CN r.ia s):=by
 have c:CN r.ia s=((He (D1 r.ia s) r.ia.length).map (·.w)).getD ⟨0,0,0,0,0⟩:=if_pos a;unfold CW at a;split at a
 .cases a
 .split at a
  .cases a
  .split at a
   .rename_i hO
    obtain⟨v,b⟩:=nh.1 hO;rw[c,b];exact Yj h (pU b)
   .cases a
theorem gV(h:∀ j,j<5->VsS S (r.an j).vs)(k:Nat){l:List Cmd}(a:∀ c∈l,S c):∀ c∈FB k r l,S c:=by
 induction k generalizing l with
 | zero=>exact a
 | succ k ih =>
  rw[FB];split
  .rename_i he;exact ih λc b=>(Q'.1 b).elim (a c) λe=>by rw[D'.1 e];exact gh h he
  .exact a
theorem NdS.qy(h:NdS S p):NdS S p.qy:=h.tape rfl rfl rfl rfl (gV h.he 41 h.ag) h.wa h.qu h.he h.pe
theorem cL(a:Acc)(l:List Vt)(d:VsS S a.vs)(e:VsS S l):VsS S (Df a l).vs:=by
 induction l generalizing a with
 | nil=>exact d
 | cons u l ih =>
  rw[Df];refine ih _ ?_ λv b=>e v (I' _ b);by_cases c:Ba a u=0
  .rw[if_pos c];intro v b;have b:v∈Br a u:=b;rw[(DI c).2]at b
   rcases(BB (Ap c).1.2.2).1 b with rfl|⟨b,_⟩
   .exact e v M'
   .exact d v b
  .rw[if_neg c];exact d
theorem Yv(h:∀ j,j<5->VsS S (r.an j).vs)(j:Nat)(b:j<5){a:List Vt}(d:VsS S a):∀ k,k<5->VsS S ((r.qM j a).an k).vs:=λk c=>by
 show VsS S (upN r.an j _ k).vs;unfold upN;split
 .exact cL ⟨r.hZ,a⟩ _ d (h j b)
 .exact h k c
theorem NdS.count(h:NdS S p){j:Nat}(c:j<5){v:Vt}(e:S v.w):NdS S (p.count j v):=by
 unfold Nod.count;split
 .exact h
 .split
  .exact h
  .rename_i b
   have b:=mf.1 b;refine NdS.qy (h.tape rfl rfl rfl rfl h.ag h.wa h.qu (λk d=>?_) h.pe);show VsS S (upN p.bn.an j _ k).vs;unfold upN;split
   .intro u a;have a:u∈Br (p.bn.an j) v:=a;rw[(DI b).2]at a
    rcases(BB (Ap b).1.2.2).1 a with rfl|⟨a,_⟩
    .exact e
    .exact h.he j c u a
   .exact h.he k d
theorem gy(q l:List Cmd)(b:∀ c∈q,S c)(f:∀ c∈l,S c):∀ c∈Hf q l,S c:=by
 induction l generalizing q with
 | nil=>exact b
 | cons d l ih =>
  rw[Hf];refine ih _ ?_ λc a=>f c (I' _ a);split
  .exact λc a=>(Q'.1 a).elim (b c) λe=>by rw[D'.1 e];exact f d M'
  .exact b
theorem NdS.eb(h:NdS S p){l:List Cmd}(a:∀ c∈l,S c):NdS S (p.eb l):=by
 unfold Nod.eb;split
 .exact h.tape rfl rfl rfl rfl h.ag h.wa (gy _ _ h.qu a) h.he h.pe
 .exact h
theorem NdS.ie(h:NdS S p)(bt:Nat){l:List Cmd}(b:∀ c∈l,S c):NdS S (p.ie bt l) :=
 h.tape rfl rfl rfl rfl (λc a=>(Q'.1 a).elim (h.ag c) λg=>b c (nR g)) h.wa h.qu h.he h.pe
theorem TpU.tf{a:List Rk}(h:TpU p dr a)(b:RsS S a):VsS S p.vo.vs:=λv c=>b v (IP h.ok v (by rw[<- h.vo];exact c))
theorem NdS.take(h:NdS S p)(f:p.up=true){l:Let}(b:LtS S l)(j:l.src<5):NdS S (p.take l):=by
 obtain⟨m,n,k,c⟩:=h.up f;unfold Nod.take;split
 .rcases k.au l.hZ with⟨e,he⟩|⟨e,he,hvs,rs',hp,ht,hm,hpb,hpv,d,a,hq⟩
  .rw[if_pos e];exact h.ew _ _
  .rw[if_neg (λg=>g e)];exact(h.wrote ht (λv i=>c v ((hm v).1 i)) f hq (by rw[hq];exact h.ag)).wait (by show VsS S _;rw[hvs];exact k.tf c)
 .have hL:=h.ie 0 b.wh;generalize p.ie 0 l.gC=K at hL ⊢;simp only;split
  .exact hL
  .exact NdS.qy (hL.tape rfl rfl rfl rfl hL.ag hL.wa hL.qu (Yv hL.he _ j b.vs) hL.pe)
 .exact h.tape rfl rfl rfl rfl h.ag h.wa h.qu h.he h.pe
 .rename_i hk
  rcases k.cl l.cl with⟨e,he⟩|⟨e,he,rs',hp,ht,hm,hpb,d,a,hq⟩
  .rw[if_pos e];exact h.ew _ _
  .rw[if_neg (λg=>g e)];exact(h.wrote ht (λv i=>((hm v).1 i).elim (λe=>by rw[e];exact b.vt (.inl hk)) (c v)) f hq (by rw[hq];exact h.ag)).wait (b.vt (.inl hk))
 .rename_i hk;exact h.count j (b.vt (.inr hk))
 .split
  .exact h.wait trivial
  .exact h.ie _ b.wh
 .simp only;split
  .exact(h.eb b.wh).wait trivial
  .exact h.eb b.wh
 .exact h
theorem KP(h:NdS S p){s:Nat}{c:Cmd}(b:p.ov s=some c):S c:=by
 unfold Nod.ov at b;split at b
 .cases b
 .rename_i a
  have a:=mf.1 a;split at b
  .rename_i hF
   have f:Gx (p.bn.ia.map (·.vs)) (s:Int)=((Ed (p.bn.ia.map (·.vs)) (s:Int)).map (·.w)).getD ⟨0,0,0,0,0⟩:=if_pos a;have d:DV (p.bn.ia.map (·.vs)) (s:Int)=(Ed (p.bn.ia.map (·.vs)) (s:Int)).isSome:=if_pos a;rw[hF]at d
   obtain⟨x,i⟩:=nh.1 d.symm;rw[i]at f
   rw[<- mQ b,f];refine Yj h.he (s:=(s:Int)) ?_;have:∀ (l:List Vt) (o:Option Vt) (x:Vt),BQ l o=some x->x∈l\/o=some x:=by
    intro l;induction l with
    | nil=>intro o x e;exact .inr e
    | cons v l ih =>
     intro o x e;cases o with
     | none =>
      rw[BQ]at e
      rcases ih _ _ e with g|g
      .exact .inl (I' _ g)
      .left;cases g;exact M'
     | some u =>
      rw[BQ]at e
      split at e
      .rcases ih _ _ e with g|g
       .exact .inl (I' _ g)
       .left;cases g;exact M'
      .rcases ih _ _ e with g|g
       .exact .inl (I' _ g)
       .exact .inr g
   exact(this _ _ _ i).resolve_right λe=>by cases e
  .exact h.qu c (pU b)
theorem NdS.cF(h:NdS S p)(f:p.up=true):NdS S p.cF:=by
 obtain⟨l,m,k,i⟩:=h.up f;unfold Nod.cF;split
 .exact h
 .cases hn:p.ov p.ae.length with
  | none=>exact h
  | some c =>
   have b:=KP h hn;simp only;rcases k.cl ⟨(p.ae.length:Int),p.bn.hZ,c⟩with⟨e,he⟩|⟨e,he,rs',hp,ht,hm,hpb,d,a,hq⟩
   .rw[if_pos e];exact h
   .rw[if_neg (λg=>g e)];have g:=h.wrote ht (λv j=>((hm v).1 j).elim (λe=>by rw[e];exact b) (i v)) f hq (by rw[hq];exact h.ag);exact NdS.wait (p:={ (p.cl ⟨(p.ae.length:Int),p.bn.hZ,c⟩).1 with bn:={ p.bn with next:=p.ae.length+1 } }) (g.tape rfl rfl rfl rfl g.ag g.wa h.qu h.he g.pe) b
theorem NdS.run(n:i<5){p:Nod}(h:NdS S p){q:Pend}{l:List Pend}(o:p.bu=q::l):NdS S { p.ic i q with bu:=l }/\∀ m∈p.qx i q,LtS S m:=by
 have f:=h.pe q (by rw[o];exact M');have j:∀ {p':Nod},NdS S p'->p'.bu=p.bu->NdS S { p' with bu:=l }:=λ{p'} g e=>g.tape rfl rfl rfl rfl g.ag g.wa g.qu g.he λx r=>g.pe x (by rw[e,o];exact I' _ r);have none:∀ c∈([]:List Cmd),S c:=λc k=>by cases k
 have a:VsS S []:=λc k=>by cases k
 cases q with
 | began b vs =>
  unfold Nod.ic Nod.qx;simp only;split
  .exact⟨j h rfl,λm d=>(by cases d)⟩
  .refine⟨j (p':={ p with bn:=p.bn.qM i vs }) (h.tape rfl rfl rfl rfl h.ag h.wa h.qu (Yv h.he i n f) h.pe) rfl,λm d=>?_⟩;obtain⟨to,_,rfl⟩:=CE d;exact⟨a,none,λe=>e.elim (λg=>by cases g) λg=>(by cases g)⟩
 | prom to b vs=>exact⟨j h rfl,λm d=>by rw[D'.1 d];exact⟨f,h.ag,λe=>e.elim (λg=>by cases g) λg=>(by cases g)⟩⟩
 | voted to v=>exact⟨j h rfl,λm d=>by rw[D'.1 d];exact⟨a,none,λ_=>f⟩⟩
 | ew to b=>exact⟨j h rfl,λm d=>by rw[D'.1 d];exact⟨a,none,λe=>e.elim (λg=>by cases g) λg=>(by cases g)⟩⟩
 | prop v =>
  refine⟨j (h.count n f) (DE p i (.prop v)).1,λm d=>?_⟩;obtain⟨to,_,rfl⟩:=CE d;exact⟨a,none,λ_=>f⟩
 | askNews to=>exact⟨j h rfl,λm d=>by rw[D'.1 d];exact⟨a,none,λe=>e.elim (λg=>by cases g) λg=>(by cases g)⟩⟩
 | start =>
  refine⟨j h rfl,λm d=>?_⟩;obtain⟨to,_,rfl⟩:=CE d;exact⟨a,none,λe=>e.elim (λg=>by cases g) λg=>(by cases g)⟩
 | tell to bt=>exact⟨j h rfl,λm d=>by rw[D'.1 d];exact⟨a,λc k=>h.ag c (nR k),λe=>e.elim (λg=>by cases g) λg=>(by cases g)⟩⟩
theorem NdS.lead(h:NdS S p)(m:p.up=true):NdS S (p.lead i):=by
 obtain⟨o,q,k,l⟩:=h.up m;unfold Nod.lead;simp only;generalize (⟨max p.dc p.vo.p.r+1,(i:Int)⟩:Bal)=b;rcases k.au b with⟨e,he⟩|⟨e,he,hvs,rs',hp,ht,hm,hpb,hpv,d,a,hq⟩
 .rw[if_pos e];exact h
 .rw[if_neg (λg=>g e)];have g:=h.wrote ht (λv f=>l v ((hm v).1 f)) m hq (by rw[hq];exact h.ag);exact NdS.wait (p:={ (p.au b).1 with bn:=⟨b,λ_=>false,λ_=>Eh,λ_=>p.ae.length,0,[]⟩ }) (x:=.began b (p.au b).2.1) (g.tape rfl rfl rfl rfl g.ag g.wa (λc n=>by cases n) (λj _ v f=>by cases f) g.pe) (by show VsS S _;rw[hvs];exact k.tf l)
theorem fZ(b:Bal)(f:Cmd->Option Bal)(l:List Cmd)(h:∀ c∈l,S c):∀ c∈(Bb b f l).1,S c:=by
 induction l generalizing f with
 | nil=>intro c a;cases a
 | cons d l g =>
  have g:=λf=>g f λc a=>h c (I' _ a);rw[Bb];split
  .exact λc a=>(mn.1 a).elim (λe=>by rw[e];exact h d M') (g _ c)
  .exact g f
structure MtS(S:Cmd->Prop)(M:Meet):Prop where
 nd:∀ i,i<5->NdS S (M.ab i)
 lt:∀ l∈M.br,LtS S l
theorem MtS.set(h:MtS S M){i:Nat}{p:Nod}(d:NdS S p){ls:List Let}(b:∀ l∈ls,l∈M.br\/LtS S l)(ts:List Tol):MtS S (M.set i p ls ts) :=
 ⟨λj a=>by
  show NdS S (upN M.ab i p j);unfold upN;split
  .exact d
  .exact h.nd j a,λl c=>(b l c).elim (h.lt l) id⟩
theorem MtS.step{D:Wh}(x:∀ i d,D.d i d->∀ now:Nat,opE d (now:Int)=0->S (DZ d (now:Int))){n:Nat}{M N:Meet}(s:Stp D n M N)(h:MtS S M):MtS S N:=by
 have same:∀ l∈M.br,l∈M.br\/LtS S l:=λl o=>.inl o;have app:∀ {ms:List Let},(∀ m∈ms,LtS S m)->∀ l∈M.br++ms,l∈M.br\/LtS S l:=λg l o=>(Q'.1 o).imp id (g l);cases s with
 | take _ l o hd hu _=>exact h.set ((h.nd _ hd.2).take hu (h.lt l o) hd.1) same _
 | br _ ls o _=>exact⟨h.nd,λl g=>h.lt l (o l g)⟩
 | one _ i c hi hu a he =>
  refine h.set ?_ same _;have k:=h.nd i hi;unfold Nod.hU;split
  .exact k.tape rfl rfl rfl rfl k.ag (λc a=>k.wa c (List.mem_of_mem_erase a)) k.qu k.he k.pe
  .exact k.tape rfl rfl rfl rfl k.ag k.wa k.qu k.he k.pe
 | ask _ i hi hu =>
  have k:=h.nd i hi;have E:=fZ (M.ab i).vo.p (M.ab i).bN ((M.ab i).av.take 40) λc a=>k.wa c (mt a);have B:NdS S { M.ab i with bN:=(Bb (M.ab i).vo.p (M.ab i).bN ((M.ab i).av.take 40)).2 }:=k.tape rfl rfl rfl rfl k.ag k.wa k.qu k.he k.pe;refine h.set ?_ (app ?_) _
  .unfold Nod.ib;split
   .exact B
   .split
    .exact B.eb E
    .exact B
  .intro m hm;unfold Nod.ib at hm;split at hm
   .cases hm
   .split at hm
    .cases hm
    .rw[D'.1 hm];exact⟨λv f=>(by cases f),E,λe=>e.elim (λg=>by cases g) λg=>(by cases g)⟩
 | prop _ i hi hu=>exact h.set ((h.nd i hi).cF hu) same _
 | qH _ i hi hu hlt y =>
  have k:=h.nd i hi;obtain⟨u,C,g,r⟩:=k.up hu;exact h.set (p:={ M.ab i with sy:=((M.ab i).d.length:Int) }) ⟨λ_=>⟨C,C,g.qH,r⟩,λe=>(by rw[show _=(M.ab i).up from rfl,hu]at e;cases e),k.ag,k.wa,k.qu,k.he,k.pe⟩ same _
 | run _ i hi hu q l hp hs =>
  have g:=(h.nd i hi).run hi hp;exact h.set g.1 (app g.2) _
 | qz _ i hi hu hL =>
  have k:=h.nd i hi;refine h.set (p:=EC (M.ab i) i 5) (k.tape rfl rfl rfl rfl k.ag k.wa k.qu k.he k.pe) (app ?_) _;have:∀ n,∀ m∈Dq (M.ab i) i n,LtS S m:=by
   intro n;induction n with
   | zero=>intro m hm;cases hm
   | succ n ih =>
    intro m hm;rw[Dq]at hm
    rcases Q'.1 hm with hm|hm
    .exact ih m hm
    .split at hm
     .rw[D'.1 hm];exact⟨λv f=>(by cases f),λc a=>k.ag c (nR a),λe=>e.elim (λg=>by cases g) λg=>(by cases g)⟩
     .cases hm
  exact this 5
 | lead _ i hi hu _=>exact h.set ((h.nd i hi).lead hu) same _
 | sub _ i d hi hu hd =>
  have k:=h.nd i hi;refine h.set ?_ same _;unfold Nod.qJ Nod.qW;split
  .exact k
  .split
   .exact k.tape rfl rfl rfl rfl k.ag k.wa k.qu k.he k.pe
   .rename_i he
    split
    .exact k
    .show NdS S (Nod.want _ _);unfold Nod.want;split
     .exact k
     .exact k.tape rfl rfl rfl rfl k.ag (λc a=>(Q'.1 a).elim (k.wa c) λe=>by rw[D'.1 e];exact x i d hd _ (mf.1 he)) k.qu k.he k.pe
 | jv _ i c hi hu a _ =>
  have k:=h.nd i hi;obtain⟨u,C,g,r⟩:=k.up hu;obtain⟨w,_,G,x⟩:=g.jv a;have z:Gj (M.ab i).d (M.ab i).sy c=0:=by unfold Gj;rw[if_neg (λe=>e g.rF),if_neg (by omega)]
  have A:=It (p:=M.ab i) g.rF a;refine h.set ⟨λe=>(by rw[A.2.1]at e;cases e),λ_=>⟨w,x,λv f=>r v (G.subset f)⟩,?_,?_,?_,?_,?_⟩ same _<;>(unfold Nod.jv;rw[if_neg (λe=>e z)])
  .exact λc a=>by cases a
  .exact λc a=>by cases a
  .exact λc a=>by cases a
  .exact λj _ v f=>by cases f
  .exact λc a=>by cases a
 | start _ i hi hu _ =>
  obtain⟨u,g,r⟩:=(h.nd i hi).dn hu;have y:AR (M.ab i).d (M.ab i).sy:=⟨g.len,by rw[g.sy];omega,by rw[g.sy];omega⟩;have t:=G9 (p:=M.ab i) y;have b:(M.ab i).start.bn=dU/\(M.ab i).start.bu=[.start]/\(M.ab i).start.av=[]:=by
   unfold Nod.start;rw[if_neg (λe=>e (if_pos y))];split<;>exact⟨rfl,rfl,rfl⟩
  refine h.set ⟨λ_=>⟨u,u,g.start,r⟩,λe=>(by rw[t.2.1]at e;cases e),?_,?_,?_,?_,?_⟩ same _
  .rw[t.2.2.2];exact λc a=>by cases a
  .rw[b.2.2];exact λc a=>by cases a
  .rw[b.1];exact λc a=>by cases a
  .rw[b.1];exact λj _ v f=>by cases f
  .rw[b.2.1];exact λq F=>by rw[D'.1 F];trivial
theorem MtS.zero:MtS S As:=⟨λi _=>⟨λ_=>⟨[],[],TpU.zero,λv b=>(by cases b)⟩,λe=>(by cases e),λc a=>(by cases a),λc a=>(by cases a),λc a=>(by cases a),λj _ v b=>(by cases b),λc a=>(by cases a)⟩,λl d=>(by cases d)⟩
theorem fQ(L:List Lac)(f:∀ x∈L,LacOk x)(n:L.length<=100000)(j:∀ x∈L,x.k=1->∀ now:Nat,opE x.d (now:Int)=0->S (DZ x.d (now:Int))):MtS S (As.dT L):=by
 have s:Sts ⟨λ_ d=>∃ x∈L,x.k=1/\x.d=d,True,True,True,True,True⟩ L.length As (As.dT L):=In L MOk.zero (by omega) λx a=>⟨f x a,λe=>⟨x,a,e,rfl⟩,λ_=>trivial,λ_=>trivial,λ_=>⟨trivial,trivial⟩,λ_=>trivial⟩;exact s.inv (λ_ M N h g=>g.step (λi d l now m=>by obtain⟨x,b,c,rfl⟩:=l;exact j x b c now m) h) MtS.zero
end
end
structure Ev(p q:Nod):Prop where
 up:q.up=p.up
 hZ:q.bn.hZ=p.bn.hZ
 vo:p.vo.p.key<=q.vo.p.key
 dc:p.dc<=q.dc
 ag:p.ae <+: q.ae
 qk:∀ j,p.bn.qk j=true->q.bn.qk j=true
 next:p.bn.next<=q.bn.next
 qu:p.bn.fv <+: q.bn.fv
 wa:∀ c∈q.av,c∈p.av
 dn:p.done<=q.done
theorem Ev.refl(p:Nod):Ev p p:=⟨rfl,rfl,mc _,mc _,mh _,λ_ h=>h,A' _,mh _,λ_ h=>h,A' _⟩
theorem Ev.trans{p q r:Nod}(h:Ev p q)(k:Ev q r):Ev p r:=⟨k.up.trans h.up,k.hZ.trans h.hZ,mB h.vo k.vo,mB h.dc k.dc,h.ag.trans k.ag,λj g=>k.qk j (h.qk j g),me h.next k.next,h.qu.trans k.qu,λc g=>h.wa c (k.wa c g),me h.dn k.dn⟩
theorem I7(k:Nat)(r:Rnd)(l:List Cmd):l <+: FB k r l:=by
 induction k generalizing l with
 | zero=>exact mh _
 | succ k ih =>
  rw[FB];split
  .exact(nw _ _).trans (ih _)
  .exact mh _
theorem Qd(l q:List Cmd):q <+: Hf q l:=by
 induction l generalizing q with
 | nil=>exact mh _
 | cons c l ih =>
  rw[Hf];split
  .exact(nw _ _).trans (ih _)
  .exact ih _
theorem Ev.au(p:Nod)(b:Bal):Ev p (p.au b).1:=by
 unfold Nod.au;split
 .exact .refl p
 .rename_i h
  have a:=Cl (mf.1 h);have c:p.vo.p.key<=b.key:=Bp a.2.1.pr a.1.1 a.2.2;split
  .exact⟨rfl,rfl,c,mc _,mh _,λ_ h=>h,A' _,mh _,λ_ h=>h,A' _⟩
  .split
   .exact .refl p
   .exact⟨rfl,rfl,c,mc _,mh _,λ_ h=>h,A' _,mh _,λ_ h=>h,A' _⟩
theorem Ev.cl(p:Nod)(v:Vt):Ev p (p.cl v).1:=by
 unfold Nod.cl;split
 .exact .refl p
 .rename_i h
  have a:=Ap (mf.1 h);have c:p.vo.p.key<=v.b.key:=Bp a.2.1.2.1.pr a.1.1 a.2.2;split
  .exact⟨rfl,rfl,c,mc _,mh _,λ_ h=>h,A' _,mh _,λ_ h=>h,A' _⟩
  .split
   .exact .refl p
   .exact⟨rfl,rfl,c,mc _,mh _,λ_ h=>h,A' _,mh _,λ_ h=>h,A' _⟩
theorem Ev.bu{p q:Nod}(h:Ev p q)(x:List Pend):Ev p { q with bu:=x }:=⟨h.up,h.hZ,h.vo,h.dc,h.ag,h.qk,h.next,h.qu,h.wa,h.dn⟩
theorem Ev.sY(p:Nod){l:List Cmd}(h:p.ae <+: l):Ev p { p with ae:=l }:=⟨rfl,rfl,mc _,mc _,h,λ_ h=>h,A' _,mh _,λ_ h=>h,A' _⟩
theorem Ev.ew(p:Nod)(to:Nat)(e:Int):Ev p (p.ew to e):=by
 unfold Nod.ew;split
 .exact(Ev.refl p).bu _
 .exact .refl p
theorem Ev.count(p:Nod)(j:Nat)(v:Vt):Ev p (p.count j v):=by
 unfold Nod.count;split
 .exact .refl p
 .split
  .exact .refl p
  .exact⟨rfl,rfl,mc _,mc _,I7 _ _ _,λ_ h=>h,A' _,mh _,λ_ h=>h,A' _⟩
theorem Ev.sR(p:Nod)(l:List Cmd):Ev p (p.eb l):=by
 unfold Nod.eb;split
 .exact⟨rfl,rfl,mc _,mc _,mh _,λ_ h=>h,A' _,Qd _ _,λ_ h=>h,A' _⟩
 .exact .refl p
theorem US{f:Nat->Bool}{i j:Nat}(h:f j=true):upN f i true j=true:=by unfold upN;split<;>first|rfl|exact h
theorem Ev.take(p:Nod)(l:Let):Ev p (p.take l):=by
 unfold Nod.take;split
 .split
  .exact .ew p _ _
  .exact(Ev.au p l.hZ).bu _
 .simp only;have a:Ev p (p.ie 0 l.gC):=.sY p (nw _ _);split
  .exact a
  .exact⟨rfl,rfl,mc _,mc _,a.ag.trans (I7 _ _ _),λ_ h=>US h,A' _,mh _,λ_ h=>h,A' _⟩
 .exact⟨rfl,rfl,mc _,Int.le_max_left _ _,mh _,λ_ h=>h,A' _,mh _,λ_ h=>h,A' _⟩
 .split
  .exact .ew p _ _
  .exact(Ev.cl p l.cl).bu _
 .exact .count p _ _
 .split
  .exact(Ev.refl p).bu _
  .exact .sY p (nw _ _)
 .simp only;split
  .exact(Ev.sR p l.gC).bu _
  .exact .sR p l.gC
 .exact .refl p
theorem Ev.cF(p:Nod):Ev p p.cF:=by
 unfold Nod.cF;split
 .exact .refl p
 .rename_i hc
  have a:p.bn.next<=p.ae.length:=by omega
  split
  .exact .refl p
  .split
   .exact .refl p
   .have h1:=Ev.cl p ⟨(p.ae.length:Int),p.bn.hZ,‹Cmd›⟩;exact⟨h1.up,rfl,h1.vo,h1.dc,h1.ag,λ_ h=>h,me a (nf _),mh _,h1.wa,h1.dn⟩
theorem Ev.hU(p:Nod)(c:Cmd):Ev p (p.hU c):=by
 unfold Nod.hU;split
 .exact⟨rfl,rfl,mc _,mc _,mh _,λ_ h=>h,A' _,mh _,λ_ h=>List.mem_of_mem_erase h,A' _⟩
 .exact .refl p
theorem Ev.ib(p:Nod)(i:Nat):Ev p (p.ib i).1:=by
 have a:Ev p { p with bN:=(Bb p.vo.p p.bN (p.av.take 40)).2 }:=⟨rfl,rfl,mc _,mc _,mh _,λ_ h=>h,A' _,mh _,λ_ h=>h,A' _⟩;unfold Nod.ib;split
 .exact a
 .split
  .exact a.trans (.sR _ _)
  .exact a
theorem Ev.ic(p:Nod)(i:Nat)(q:Pend):Ev p (p.ic i q):=by
 cases q with
 | began b vs =>
  simp only[Nod.ic];split
  .exact .refl p
  .exact⟨rfl,rfl,mc _,mc _,mh _,λ_ h=>US h,A' _,mh _,λ_ h=>h,A' _⟩
 | prop v=>exact .count p i v
 | _=>exact .refl p
theorem Stp.ev{c:Nat}{M N:Meet}(s:Stp wh0 c M N)(j:Nat):Ev (M.ab j) (N.ab j):=by
 have put:∀ {i:Nat} {p:Nod} {a:List Let} {b:List Tol},Ev (M.ab i) p->Ev (M.ab j) ((M.set i p a b).ab j):=λ{i p a b} h=>by
  rw[Aj];split
  .rename_i e;rw[e];exact h
  .exact .refl _
 cases s with
 | take _ l hl hd hu ht=>exact put (.take _ l)
 | br _ a h hd=>exact False.elim hd
 | one _ i c hi hu hc he =>
  refine put (Ev.trans (q:={ M.ab i with lp:=doS (M.ab i).lp c,done:=(M.ab i).done+1 }) ?_ (.hU _ c));exact⟨rfl,rfl,mc _,mc _,mh _,λ_ h=>h,A' _,mh _,λ_ h=>h,nf _⟩
 | ask _ i hi hu=>exact put (.ib _ i)
 | prop _ i hi hu=>exact put (.cF _)
 | qH _ i hi hu h hT=>exact put ⟨rfl,rfl,mc _,mc _,mh _,λ_ h=>h,A' _,mh _,λ_ h=>h,A' _⟩
 | run _ i hi hu q l hp hs=>exact put ((Ev.ic _ i q).bu l)
 | qz _ i hi hu hL=>exact put ⟨rfl,rfl,mc _,mc _,mh _,λ_ h=>h,A' _,mh _,λ_ h=>h,A' _⟩
 | lead _ i hi hu hL=>exact False.elim hL
 | sub _ i d hi hu hD=>exact False.elim hD
 | jv _ i k hi hu hk hC=>exact False.elim hC
 | start _ i hi hu hs=>exact False.elim hs
theorem Stp.qQ{c:Nat}{M N:Meet}(s:Stp wh0 c M N){l:Let}(a:l∈M.br):l∈N.br:=by
 cases s with
 | br _ ls h hd=>exact False.elim hd
 | ask _ i hi hu=>exact mi _ a
 | run _ i hi hu q l hp hs=>exact mi _ a
 | qz _ i hi hu hL=>exact mi _ a
 | _=>exact a
structure Cm(S:Cmd->Prop)(K:Int)(B:Nat->Bal)(cov:List (Bal × Nat))(M:Meet):Prop where
 ex:∃ σ,AgI σ M/\∀ b s c,σ.W b s c->(b,s)∈cov
 kb:K<=3600/\KbI K 3600 M
 up:∀ j,j<5->(M.ab j).up=true
 hZ:∀ j,j<5->(M.ab j).bn.hZ=B j
 s:MtS S M
section
variable{S:Cmd->Prop}{K:Int}{B:Nat->Bal}{cov:List (Bal × Nat)}
theorem Cm.step(n:∀ j,j<5->∀ s,s<40->(B j,s)∈cov){c:Nat}{M N:Meet}(s:Stp wh0 c M N)(h:Cm S K B cov M):Cm S K B cov N:=by
 obtain⟨σ,d,f⟩:=h.ex;obtain⟨τ,o,p,k,l,m⟩:=d.step s;refine⟨⟨τ,k,λb t c g=>?_⟩,⟨h.kb.1,h.kb.2.step (λe=>e) d s h.kb.1⟩,λj a=>(s.ev j).up.trans (h.up j a),λj a=>(s.ev j).hZ.trans (h.hZ j a),h.s.step (λ_ _ e=>False.elim e) s⟩;rcases l b t c g with g|g
 .exact f b t c g
 .obtain⟨_,h7,i,hi,e⟩:=m b t g;rw[e,h.hZ i hi];exact n i hi t h7
theorem Cm.rF{M:Meet}(h:Cm S K B cov M){j:Nat}(a:j<5):AR (M.ab j).d (M.ab j).sy:=by
 obtain⟨σ,b,_⟩:=h.ex;obtain⟨c,k⟩:=(b.nd j a).up (h.up j a);exact k.tp.rF
theorem Cm.le{M:Meet}(h:Cm S K B cov M){j:Nat}(a:j<5):(M.ab j).vo.p.key<=K:=by
 have:=(h.kb.2 j a).1;unfold Nod.pk at this
 rwa [if_pos (h.up j a)]at this
theorem Cm.len{M:Meet}(h:Cm S K B cov M){j:Nat}(a:j<5):((M.ab j).d.length:Int)<=14*K+38*(cov.length:Int):=by
 obtain⟨σ,b,c⟩:=h.ex;have e:=aK b c a (h.up j a);have:=h.le a;omega
end
section
variable{S:Cmd->Prop}{K:Int}{B:Nat->Bal}{cov:List (Bal × Nat)}{M:Meet}
theorem Cm.acc(h:Cm S K B cov M){j:Nat}(a:j<5):Ag (M.ab j).vo:=by
 obtain⟨σ,b,_⟩:=h.ex;obtain⟨c,k⟩:=(b.nd j a).up (h.up j a);rw[k.tp.vo];exact k.tp.ok.acc
theorem Cm.prom(h:Cm S K B cov M)(k:14*K+38*(cov.length:Int)<=99000){j:Nat}(a:j<5){b:Bal}(c:Ab b)(i:¬ b.lt (M.ab j).vo.p):((M.ab j).au b).2.2=0/\((M.ab j).au b).1.vo.p=b:=by
 have e:Cj (M.ab j).vo b=0:=by unfold Cj;rw[if_neg (λg=>g (h.acc a)),if_neg (λg=>g c),if_neg i]
 have f:CG (M.ab j).d (M.ab j).sy (Ab b) (Bu b)=0:=by
  have:=h.len a;unfold CG;rw[UJ (h.rF a) (by rw[Kg];omega),if_neg (λg=>g rfl),if_pos c]
 unfold Nod.au;rw[if_neg (λg=>g e)];split
 .exact⟨rfl,rfl⟩
 .rw[if_neg (λg=>g f)];exact⟨rfl,rfl⟩
theorem Cm.sB(h:Cm S K B cov M)(k:14*K+38*(cov.length:Int)<=99000){j:Nat}(a:j<5){v:Vt}(c:Ah v)(i:¬ v.b.lt (M.ab j).vo.p):((M.ab j).cl v).2=0/\((M.ab j).cl v).1.vo.p=v.b:=by
 have e:Ba (M.ab j).vo v=0:=by unfold Ba;rw[if_neg (λg=>g (h.acc a)),if_neg (λg=>g c),if_neg i]
 have f:CG (M.ab j).d (M.ab j).sy (Ah v) (Bk v)=0:=by
  have:=h.len a;unfold CG;rw[UJ (h.rF a) (by rw[GF];omega),if_neg (λg=>g rfl),if_pos c]
 unfold Nod.cl;rw[if_neg (λg=>g e)];split
 .exact⟨rfl,rfl⟩
 .rw[if_neg (λg=>g f)];exact⟨rfl,rfl⟩
end
section
variable{I J:Meet->Prop}
theorem E9(M:Meet){i j:Nat}(h:j≠i):(M.act (acN 3 (i:Int))).ab j=M.ab j:=by
 unfold Meet.act;simp only[acN];rw[if_neg (by decide),if_neg (by decide),if_pos trivial,Aj,if_neg (by rw[mK];exact h)]
theorem Fq(i:∀ c M N,Stp wh1 c M N->I M->I N)(r:∀ c M N,Stp wh1 c M N->I M->J M->J N)(z:∀ M j,I M->j<5->(M.ab j).up=true/\AR (M.ab j).d (M.ab j).sy){n:Nat}{M:Meet}(v:MOk n M)(D:n+5<=1000000)(h:I M){j:Nat}(m:j<5){q:Pend}(w:q∈(M.ab j).bu)
  (x:∀ N l,I N->Ev (M.ab j) (N.ab j)->(N.ab j).bu=q::l->J (N.set j { (N.ab j).ic j q with bu:=l } (N.br++(N.ab j).qx j q) N.fa)):J (M.dT (AC 3 5)):=by
 have y:∀ k,k<=5->MOk (n+k) (M.dT (AC 3 k))/\I (M.dT (AC 3 k))/\(k<=j->(M.dT (AC 3 k)).ab j=M.ab j)/\(j<k->J (M.dT (AC 3 k))):=by
  intro k;induction k with
  | zero=>exact λ_=>⟨v,h,λ_=>rfl,λe=>absurd e (nU _)⟩
  | succ k ih =>
   intro C;obtain⟨b,f,p,u⟩:=ih (by omega);rw[BR,AI];refine⟨b.act (by omega) (FP (by omega)),C1 i b (by omega) f,λe=>by rw[E9 _ (by omega)];exact p (by omega),λe=>?_⟩;by_cases t:j<k
   .exact(C1 (I:=λN=>I N/\J N) (λc A B s g=>⟨i c A B s g.1,r c A B s g.1 g.2⟩) b (by omega) ⟨f,u t⟩).2
   .obtain rfl:k=j:=by omega
    have o:=p (A' _);have a:=z _ k f m;exact WC (I:=λN=>I N/\Ev (M.ab k) (N.ab k)) (λc A B s g=>⟨i c A B s g.1,g.2.trans (s.calm.ev k)⟩) (λc A B s g=>r c A B s g.1) b m a.1 a.2 (by rw[o];exact w) ⟨f,by rw[o];exact .refl _⟩ λN l g=>x N l g.1 g.2
 exact(y 5 (A' _)).2.2.2 m
theorem Bm(d:∀ c M N,Stp wh1 c M N->I M->I N){n:Nat}{M:Meet}(e:MOk n M)(i:n+5<=1000000)(h:I M):MOk (n+5) (M.dT (AC 3 5))/\I (M.dT (AC 3 5)):=by
 have f:∀ k,k<=5->MOk (n+k) (M.dT (AC 3 k))/\I (M.dT (AC 3 k)):=by
  intro k;induction k with
  | zero=>exact λ_=>⟨e,h⟩
  | succ k ih =>
   intro g;obtain⟨a,b⟩:=ih (by omega);rw[BR,AI];exact⟨a.act (by omega) (FP (by omega)),C1 d a (by omega) b⟩
 exact f 5 (A' _)
theorem Cr(d:∀ M N,TkS M N->I M->I N){n:Nat}{M:Meet}(b:MOk n M)(h:I M):∃ N,M.act (acN 7 0)={ N with br:=[] }/\I N/\N.br=M.br:=by
 have c:M.act (acN 7 0)={ M.br.foldl (λM l=>M.ni l) M with br:=[] }:=by
  show M.qD=_;unfold Meet.qD;rw[Hv]
 have:=Jq d M.br (M:=M) (λm a=>⟨a,(b.br m a).src,(b.br m a).dst⟩) h;exact⟨_,c,this⟩
end
theorem Stp.sx{c:Nat}{M N:Meet}(s:Stp wh1 c M N)(j:Nat):(N.ab j).vo.p=(M.ab j).vo.p:=by
 have put:∀ {i:Nat} {p:Nod} {b:List Let} {f:List Tol},p.vo.p=(M.ab i).vo.p->((M.set i p b f).ab j).vo.p=(M.ab j).vo.p:=λ{i p b f} h=>by
  rw[Aj];split
  .rename_i e;rw[e];exact h
  .rfl
 cases s with
 | take _ l a hd hu ht=>exact False.elim ht
 | br _ b h hd=>exact False.elim hd
 | one _ i c hi hu hc he=>exact put (by unfold Nod.hU;split<;>rfl)
 | ask _ i hi hu=>exact put (by
   unfold Nod.ib;split
   .rfl
   .split
    .unfold Nod.eb;split<;>rfl
    .rfl)
 | prop _ i hi hu=>exact put (by
   unfold Nod.cF;split
   .rfl
   .rename_i hc
    have a:(M.ab i).bn.hZ=(M.ab i).vo.p:=by
     have:(M.ab i).leads=true:=by cases hh:(M.ab i).leads with|true=>rfl|false=>exact absurd (.inl hh) hc
     exact(mL this).2
    split
    .rfl
    .split
     .rfl
     .show((M.ab i).cl _).1.vo.p=_;unfold Nod.cl;split
      .rfl
      .split
       .exact a
       .split
        .rfl
        .exact a)
 | qH _ i hi hu h hT=>exact put rfl
 | run _ i hi hu q l hp hs=>exact put (by
   show((M.ab i).ic i q).vo.p=_;cases q<;>first|rfl|(simp only[Nod.ic];split<;>rfl)|(simp only[Nod.ic,Nod.count];split<;>first|rfl|(split<;>rfl)))
 | qz _ i hi hu hL=>exact put rfl
 | lead _ i hi hu hL=>exact False.elim hL
 | sub _ i d hi hu hD=>exact False.elim hD
 | jv _ i k hi hu hk hC=>exact False.elim hC
 | start _ i hi hu hs=>exact False.elim hs
theorem Mk{i:Nat}(l:Let){j k:Nat}(a:j<k)(h:j≠i):{ l with src:=i,dst:=j }∈BT i l k:=mz.2 ⟨j,oJ.2 ⟨oH.2 a,O' h⟩,rfl⟩
section
variable{S:Cmd->Prop}{K:Int}{B:Nat->Bal}{cov:List (Bal × Nat)}
theorem Cm.drop{M:Meet}(h:Cm S K B cov M):Cm S K B cov { M with br:=[] }:=by
 obtain⟨σ,b,c⟩:=h.ex;exact⟨⟨σ,⟨b.gs,b.nd,λl a=>by cases a⟩,c⟩,h.kb,h.up,h.hZ,⟨h.s.nd,λl a=>by cases a⟩⟩
def Gr8(K:Int)(p:Nod):Prop:=K<=5*p.dc+4\/K<=p.vo.p.key
theorem Gr8.ev{p q:Nod}(h:Gr8 K p)(e:Ev p q):Gr8 K q:=by
 have:=e.dc;have:=e.vo;unfold Gr8 at *;omega
theorem iq(Q:∀ j,j<5->∀ s,s<40->(B j,s)∈cov){n:Nat}{M:Meet}(C:MOk n M)(hn:n+12<=1000000)(h:Cm S K B cov M){i:Nat}(R:i<5){j:Nat}(f:j<5)(O:(M.ab j).vo.p.key=K){b:Bal}{vs:List Vt}(P:(M.ab i).vo.p=b)(u:Ab b)(hq:.began b vs∈(M.ab i).bu) :
  Gr8 K ((M.dT (An++An)).ab i):=by
 have X:∀ A:Meet,A.dT (An++An)=(((A.dT (AC 3 5)).act (acN 7 0)).dT (AC 3 5)).act (acN 7 0):=λA=>by
  rw[AG,show An=AC 3 5++[acN 7 0]from rfl,AI,AI]
 have a:∀ c A N,Stp wh1 c A N->Cm S K B cov A->Cm S K B cov N:=λc A N s g=>g.step Q s.calm;have d:∀ A N,TkS A N->Cm S K B cov A->Cm S K B cov N:=λA N s g=>g.step Q s.qZ;have m:LacOk (acN 7 0):=by rw[<- DK];decide
 rw[X];by_cases D:Gr8 K (M.ab i)
 .-- it knows already
  have z:=Bm (I:=λN=>Cm S K B cov N/\Gr8 K (N.ab i)) (λc A N s g=>⟨a c A N s g.1,g.2.ev (s.calm.ev i)⟩) C (by omega) ⟨h,D⟩;obtain⟨N,F,x,_⟩:=Cr (I:=λN=>Cm S K B cov N/\Gr8 K (N.ab i)) (λA N s g=>⟨d A N s g.1,g.2.ev (s.qZ.ev i)⟩) z.1 z.2;have t:=z.1.act (by omega) m;rw[F]at t ⊢
  have L:=Bm (I:=λN=>Cm S K B cov N/\Gr8 K (N.ab i)) (λc A N s g=>⟨a c A N s g.1,g.2.ev (s.calm.ev i)⟩) t (by omega) ⟨x.1.drop,x.2⟩;obtain⟨U,G,T,_⟩:=Cr (I:=λN=>Cm S K B cov N/\Gr8 K (N.ab i)) (λA N s g=>⟨d A N s g.1,g.2.ev (s.qZ.ev i)⟩) L.1 L.2;rw[G];exact T.2
 .have hij:i≠j:=λe=>D (.inr (by rw[e,O];exact mc _));have a0:b.key<K:=by rw[<- P];unfold Gr8 at D;omega
  obtain⟨b0,o⟩:∃ b0,(M.ab j).vo.p=b0:=⟨_,rfl⟩;rw[o]at O
  have w:Ao b0:=by rw[<- o];exact(h.acc f).1
  have E:∀ A N,TkS A N->Cm S K B cov A->(A.ab j).vo.p=b0->(N.ab j).vo.p=b0:=λA N s g e=>by
   have Y:=(s.qZ.ev j).vo;have h2:=(d A N s g).le f;rw[e]at Y
   exact DJ ((d A N s g).acc f).1 w (by omega)
  have y:=Bm (I:=λN=>Cm S K B cov N/\(N.ab j).vo.p=b0) (λc A N s g=>⟨a c A N s g.1,(s.sx j).trans g.2⟩) C (by omega) ⟨h,o⟩;have V:=Fq (I:=λN=>Cm S K B cov N/\(N.ab i).vo.p=b) (J:=λN=>({ BD 0 with hZ:=b,src:=i,dst:=j }:Let)∈N.br) (λc A N s g=>⟨a c A N s g.1,(s.sx i).trans g.2⟩) (λc A N s _ g=>s.calm.qQ g) (λA k g v=>⟨g.1.up k v,g.1.rF v⟩) C (by omega) ⟨h,P⟩ R hq (λN l g _ _=>by
   refine mg _ ?_;simp only[Nod.qx];rw[if_neg (λe=>e g.2)];exact Mk { BD 0 with hZ:=b } f (Ne.symm hij))
  obtain⟨N,F,x,G,T⟩:=DO (I:=λN=>Cm S K B cov N/\(N.ab j).vo.p=b0) (J:=λN=>Pend.ew i b0∈(N.ab j).bu) (λA N s g=>⟨d A N s g.1,E A N s g.1 g.2⟩) (λA N s _ g=>by
   obtain⟨l,_,_,_,rfl⟩:=s;rw[Aj];split
   .rename_i e;rw[<- e];exact Hb g
   .exact g) y.1 y.2 V (λN g=>g.1.up j f) (λN g _=>by
   rw[Aj,if_pos rfl];have Z:Cj (N.ab j).vo b=7:=by
    unfold Cj;rw[if_neg (λe=>e (g.1.acc f)),if_neg (λe=>e u),if_pos (by rw[EX u.pr (g.1.acc f).1,g.2];omega)]
   have h8:(N.ab j).au b=(N.ab j,[],7):=by unfold Nod.au;rw[Z,if_pos (by decide)]
   show Pend.ew i b0∈(if((N.ab j).au b).2.2≠0 then(N.ab j).ew i ((N.ab j).au b).2.2 else _).bu;rw[h8,if_pos (show(7:Int)≠0 by decide)];unfold Nod.ew;rw[if_pos rfl,<- g.2];exact mg _ (D'.2 rfl))
  have t:=y.1.act (by omega) m;rw[F]at t ⊢
  have H:=Bm (I:=Cm S K B cov) a t (by omega) x.1.drop;have W:=Fq (I:=Cm S K B cov) (J:=λN=>({ BD 2 with hZ:=b0,src:=j,dst:=i }:Let)∈N.br) a (λc A N s _ g=>s.calm.qQ g) (λA k g v=>⟨g.up k v,g.rF v⟩) t (by omega) x.1.drop f (q:=.ew i b0) G (λN l g _ _=>mg _ (D'.2 rfl));obtain⟨U,k5,k6,k7,_⟩:=DO (I:=Cm S K B cov) (J:=λN=>Gr8 K (N.ab i)) d (λA N s _ g=>g.ev (s.qZ.ev i)) H.1 H.2 W (λN g=>g.up i R) (λN g _=>by
   rw[Aj,if_pos rfl];refine .inl ?_;show K<=5*max (N.ab i).dc b0.r+4;have:b0.key<=5*b0.r+4:=by unfold Ao Ab at w;unfold Bal.key;omega
   omega)
  rw[k5];exact k7
end
def P1(i:Nat)(p:Nod):Prop:=p.bn.next=0/\∀ j,j≠i->p.bn.qk j=false
theorem P1.th{i:Nat}{p:Nod}(h:P1 i p):p.bn.qA=false:=by
 unfold Rnd.qA Jo;have k:=h.2;have g:∀ j,(p.bn.qk j).toNat<=if j=i then 1 else 0:=λj=>by
  split
  .cases p.bn.qk j<;>decide
  .rename_i e;rw[k j e];decide
 have a:=g 0;have b:=g 1;have c:=g 2;have d:=g 3;have f:=g 4;refine E' ?_;split at a<;>split at b<;>split at c<;>split at d<;>split at f<;>omega
theorem Stp.p1{c:Nat}{M N:Meet}(s:Stp wh1 c M N){i:Nat}(h:P1 i (M.ab i)):P1 i (N.ab i):=by
 have put:∀ {k:Nat} {p:Nod} {a:List Let} {m:List Tol},(i=k->P1 i p)->P1 i ((M.set k p a m).ab i):=λ{k p a m} g=>by
  rw[Aj];split
  .rename_i e;exact g e
  .exact h
 cases s with
 | take _ l hl hd hu ht=>exact False.elim ht
 | br _ a h hd=>exact False.elim hd
 | one _ k c hi hu hc he=>exact put λe=>by subst e;unfold Nod.hU;split<;>exact h
 | ask _ k hi hu =>
  exact put λe=>by
   subst e;unfold Nod.ib;split
   .exact h
   .split
    .unfold Nod.eb;split<;>exact h
    .exact h
 | prop _ k hi hu =>
  exact put λe=>by
   subst e;unfold Nod.cF;rw[if_pos (.inr (.inl h.th))];exact h
 | qH _ k hi hu hs hT=>exact put λe=>by subst e;exact h
 | run _ k hi hu q l hp hs =>
  exact put λe=>by
   subst e;show P1 i ((M.ab i).ic i q);cases q with
   | began b vs =>
    simp only[Nod.ic];split
    .exact h
    .exact⟨h.1,λj f=>by show upN (M.ab i).bn.qk i true j=false;rw[Dy _ _ f];exact h.2 j f⟩
   | prop v =>
    simp only[Nod.ic,Nod.count];split
    .exact h
    .split<;>exact h
   | _=>exact h
 | qz _ k hi hu hL=>exact put λe=>by subst e;exact h
 | lead _ k hi hu hL=>exact False.elim hL
 | sub _ k d hi hu hD=>exact False.elim hD
 | jv _ k x hi hu hk hC=>exact False.elim hC
 | start _ k hi hu hs=>exact False.elim hs
theorem ez{i:Nat}{p:Nod}(h:P1 i p){l:Let}(c:l.kind=1->l.src≠i->l.hZ≠p.bn.hZ):P1 i (p.take l):=by
 have f:∀ v,P1 i (p.cl v).1:=λv=>by
  unfold Nod.cl;split
  .exact h
  .split
   .exact h
   .split<;>exact h
 unfold Nod.take;split
 .split
  .unfold Nod.ew;split<;>exact h
  .show P1 i (p.au l.hZ).1;unfold Nod.au;split
   .exact h
   .split
    .exact h
    .split<;>exact h
 .rename_i hk
  simp only;split
  .exact h
  .rename_i hc
   have b:l.hZ=p.bn.hZ:=mS λe=>hc (.inr (.inl e));have d:l.src=i:=mS λe=>c hk e b;exact⟨h.1,λj a=>by show upN p.bn.qk l.src true j=false;rw[Dy _ _ (by rw[d];exact a)];exact h.2 j a⟩
 .exact h
 .split
  .unfold Nod.ew;split<;>exact h
  .exact f _
 .unfold Nod.count;split
  .exact h
  .split<;>exact h
 .split<;>exact h
 .simp only;unfold Nod.eb;split<;>split<;>exact h
 .exact h
section
variable{S:Cmd->Prop}{K:Int}{B:Nat->Bal}{cov:List (Bal × Nat)}
theorem Cm.top(a:∀ j,j<5->∀ s,s<40->(B j,s)∈cov){c:Nat}{A N:Meet}(s:Stp wh0 c A N)(g:Cm S K B cov A){b:Bal}(h:Ao b)(k:b.key=K){j:Nat}(d:j<5)(e:(A.ab j).vo.p=b):(N.ab j).vo.p=b:=by
 have f:=(s.ev j).vo;have i:=(g.step a s).le d;rw[e]at f
 exact DJ ((g.step a s).acc d).1 h (by omega)
theorem dD(D:∀ j,j<5->∀ s,s<40->(B j,s)∈cov)(hQ:14*K+38*(cov.length:Int)<=99000){n:Nat}{M:Meet}(Y:MOk n M)(hn:n+12<=1000000)(h:Cm S K B cov M){i:Nat}(L:i<5){b:Bal}(o:Ab b)(X:b.key=K)(hB:B i=b)(hv:(M.ab i).vo.p=b)(R:∀ j,j<5->j≠i->(M.ab j).vo.p.key<K){d:List Vt}(hq:.began b d∈(M.ab i).bu)(T:P1 i (M.ab i)) :
  Cm S K B cov (M.dT An)/\(∀ j,j<5->((M.dT An).ab j).vo.p=b)/\((M.dT An).ab i).bn.qk i=true/\(∀ j,j<5->j≠i->∃ d,Pend.prom i b d∈((M.dT An).ab j).bu)/\P1 i ((M.dT An).ab i)/\(M.dT An).br=[]/\MOk (n+6) (M.dT An):=by
 have v:LacOk (acN 7 0):=by rw[<- DK];decide
 have t:∀ c A N,Stp wh1 c A N->Cm S K B cov A->Cm S K B cov N:=λc A N s g=>g.step D s.calm;have u:∀ A N,TkS A N->Cm S K B cov A->Cm S K B cov N:=λA N s g=>g.step D s.qZ;have U:=Bm (I:=λN=>Cm S K B cov N/\(∀ j,(N.ab j).vo.p=(M.ab j).vo.p)/\P1 i (N.ab i)) (λc A N s g=>⟨t c A N s g.1,λj=>(s.sx j).trans (g.2.1 j),s.p1 g.2.2⟩) Y (by omega) ⟨h,λ_=>rfl,T⟩;have F:=Fq (I:=λN=>Cm S K B cov N/\(N.ab i).vo.p=b) (J:=λN=>(∀ j,j<5->j≠i->({ BD 0 with hZ:=b,src:=i,dst:=j }:Let)∈N.br)/\(N.ab i).bn.qk i=true) (λc A N s g=>⟨t c A N s g.1,(s.sx i).trans g.2⟩) (λc A N s _ g=>⟨λj a e=>s.calm.qQ (g.1 j a e),(s.calm.ev i).qk i g.2⟩) (λA k g E=>⟨g.1.up k E,g.1.rF E⟩) Y (by omega) ⟨h,hv⟩ L hq (λN l g _ _=>by
  refine⟨λj a e=>mg _ ?_,?_⟩
  .simp only[Nod.qx];rw[if_neg (λe=>e g.2)];exact Mk { BD 0 with hZ:=b } a e
  .rw[Aj,if_pos rfl];show((N.ab i).ic i (.began b d)).bn.qk i=true;simp only[Nod.ic];rw[if_neg (λe=>e g.2)];exact Db _ _ _)
 rw[show An=AC 3 5++[acN 7 0]from rfl,AI];generalize M.dT (AC 3 5)=A at U F ⊢;obtain⟨z,f,r,H⟩:=U;have Q:∀ m∈A.br,m.kind=1->m.src≠i->m.hZ≠b:=λm Z E hs e=>by
  obtain⟨σ,y,_⟩:=f.ex;have q:=(z.br m Z).src;have G:=((y.lt m Z).k1 E).1.le;have W:=(y.nd _ q).rH;unfold Nod.pk at W;rw[if_pos (f.up _ q),r]at W
  have h4:=R _ q hs;have h6:m.hZ.key<=σ.P m.src:=G;rw[e]at h6
  omega
 obtain⟨N,k1,⟨k2,k3,k4,k5,k6⟩,k7⟩:=Cr (I:=λN=>Cm S K B cov N/\(N.ab i).vo.p=b/\P1 i (N.ab i)/\(N.ab i).bn.qk i=true/\N.br=A.br) (λC N s g=>by
  refine⟨u C N s g.1,g.1.top D s.qZ o.pr X L g.2.1,?_,(s.qZ.ev i).qk i g.2.2.2.1,?_⟩
  .obtain⟨l,hl,_,_,rfl⟩:=s;rw[Aj];split
   .rename_i e
    rw[<- e];exact ez g.2.2.1 λy G=>by rw[g.1.hZ i L,hB];exact Q l (by rw[<- g.2.2.2.2];exact hl) y G
   .exact g.2.2.1
  .obtain⟨l,hl,_,_,rfl⟩:=s;exact g.2.2.2.2) z ⟨f,(r i).trans hv,H,F.2,rfl⟩
 have a:∀ j,j<5->j≠i->((A.act (acN 7 0)).ab j).vo.p=b/\∃ d,Pend.prom i b d∈((A.act (acN 7 0)).ab j).bu:=λj a O=>by
  obtain⟨N',q1,q2,q3,_⟩:=DO (I:=Cm S K B cov) (J:=λN=>(N.ab j).vo.p=b/\∃ d,Pend.prom i b d∈(N.ab j).bu) u (λC N s g e=>⟨g.top D s.qZ o.pr X a e.1,by
   obtain⟨d,V⟩:=e.2;refine⟨d,?_⟩;obtain⟨l,_,_,_,rfl⟩:=s;rw[Aj];split
   .rename_i e3;rw[<- e3];exact Hb V
   .exact V⟩) z f (F.1 j a O) (λN g=>g.up j a) (λN g _=>by
   rw[Aj,if_pos rfl];have a0:=g.le a;have x:=g.prom hQ a o (by rw[EX o.pr (g.acc a).1];omega);have e:(N.ab j).take ({ BD 0 with hZ:=b,src:=i,dst:=j }:Let)=((N.ab j).au b).1.wait (.prom i b ((N.ab j).au b).2.1):=by
    show(if((N.ab j).au b).2.2≠0 then _ else _)=_;rw[if_neg (λg=>g x.1)]
   rw[e];exact⟨x.2,_,mg _ (D'.2 rfl)⟩)
  rw[q1];exact q3
 have w:=z.act (by omega) v;rw[k1]at a w ⊢
 exact⟨k2.drop,λj q=>by
  by_cases e:j=i
  .rw[e];exact k3
  .exact(a j q e).1,k5,λj q e=>(a j q e).2,k4,rfl,w⟩
end
section
theorem eE(f:Cmd->Option Bal)(c:Cmd)(b:Option Bal):BU f c b c=b:=if_pos rfl
theorem UU(f:Cmd->Option Bal){c d:Cmd}(b:Option Bal)(h:d≠c):BU f c b d=f d:=if_neg h
theorem KY{b:Bal}(p:b≠Be)(l:List Cmd)(f:Cmd->Option Bal):(∀ c,c∉l->(Bb b f l).2 c=f c)/\(∀ c∈l,(Bb b f l).2 c=some b)/\(∀ c∈l,f c=some b\/c∈(Bb b f l).1)/\∀ c∈(Bb b f l).1,c∈l:=by
 induction l generalizing f with
 | nil=>exact⟨λ_ _=>rfl,λ_ h=>(by cases h),λ_ h=>(by cases h),λ_ h=>(by cases h)⟩
 | cons c l ih =>
  rw[Bb];split
  .rename_i hc
   obtain⟨j,k,m,n⟩:=ih (BU f c (some b));refine⟨λd a=>?_,λd a=>?_,λd a=>?_,λd a=>?_⟩
   .show(Bb b (BU f c (some b)) l).2 d=f d;rw[j d λe=>a (I' _ e),UU _ _ λe=>a (by rw[e];exact M')]
   .show(Bb b (BU f c (some b)) l).2 d=some b;by_cases i:d∈l
    .exact k d i
    .rcases mn.1 a with rfl|e
     .rw[j d i,eE]
     .exact absurd e i
   .rcases mn.1 a with rfl|e
    .exact .inr M'
    .by_cases e2:d=c
     .rw[e2];exact .inr M'
     .rcases m d e with g|g
      .rw[UU _ _ e2]at g;exact .inl g
      .exact .inr (I' _ g)
   .rcases mn.1 a with rfl|e
    .exact M'
    .exact I' _ (n d e)
  .rename_i hc
   have o:f c=some b:=by
    have:=mf.1 hc;cases hh:f c with
    | none=>rw[hh]at this;exact absurd this.symm p
    | some x=>rw[hh]at this;exact congrArg some this
   obtain⟨j,k,m,n⟩:=ih f;refine⟨λd a=>j d λe=>a (I' _ e),λd a=>?_,λd a=>?_,λd a=>I' _ (n d a)⟩
   .by_cases i:d∈l
    .exact k d i
    .rcases mn.1 a with rfl|e
     .rw[j d i];exact o
     .exact absurd e i
   .rcases mn.1 a with rfl|e
    .exact .inl o
    .exact m d e
theorem Hx(l q:List Cmd)(h:q.Nodup):(Hf q l).Nodup:=by
 induction l generalizing q with
 | nil=>exact h
 | cons c l ih =>
  rw[Hf];refine ih _ ?_;split
  .rename_i hc
   exact om.2 ⟨h,oq.2 ⟨P',nJ⟩,λx a y b e=>hc.2 (by rw[<- D'.1 b,<- e];exact a)⟩
  .exact h
theorem Qc{C:List Cmd}(j:C.length<40)(l q:List Cmd)(g:q.Nodup)(a:∀ c∈q,c∈C)(b:∀ c∈l,c∈C):∀ c∈l,c∈Hf q l:=by
 induction l generalizing q with
 | nil=>exact λc hc=>by cases hc
 | cons d l ih =>
  have f:=KO g a;have i:=b d M';intro c hc;rw[Hf];have h:d∈(if q.length<40/\d∉q then q++[d]else q):=by
   by_cases e:d∈q
   .split
    .exact mi _ e
    .exact e
   .rw[if_pos ⟨by omega,e⟩];exact mg _ (D'.2 rfl)
  rcases mn.1 hc with rfl|hc
  .exact(Qd l _).subset h
  .refine ih _ ?_ (λx hx=>?_) (λx hx=>b x (I' _ hx)) c hc
   .exact Hx [d] q g
   .split at hx
    .rcases Q'.1 hx with hx|hx
     .exact a x hx
     .rw[D'.1 hx];exact i
    .exact a x hx
structure AskI(p:Nod):Prop where
 nd:p.av.Nodup
 wa:∀ c,c∈p.av↔(p.bN c).isSome=true
 le:∀ c x,p.bN c=some x->x.key<=p.vo.p.key
 un:∀ c∈p.av,c∉p.ae.take p.done
 qn:p.bn.fv.Nodup
 dn:p.done<=p.ae.length
theorem My{α:Type}{l m:List α}{k:Nat}(h:l <+: m)(a:k<=l.length):m.take k=l.take k:=by obtain⟨x,rfl⟩:=h;exact my a
variable{M N:Meet}{p:Nod}
theorem AskI.lr{q:Nod}(h:AskI p)(e:Ev p q)(i:q.av=p.av/\q.bN=p.bN/\q.done=p.done)(f:q.bn.fv.Nodup):AskI q:=by
 obtain⟨a,b,d⟩:=i;refine⟨by rw[a];exact h.nd,by rw[a,b];exact h.wa,λc x g=>mB (h.le c x (by rw[<- b];exact g)) e.vo,?_,f,by rw[d];exact me h.dn e.ag.length_le⟩;rw[a,d,My e.ag h.dn];exact h.un
theorem AY(p:Nod)(b:Bal):((p.au b).1.av=p.av/\(p.au b).1.bN=p.bN/\(p.au b).1.done=p.done)/\(p.au b).1.bn=p.bn:=by
 unfold Nod.au;split
 .exact⟨⟨rfl,rfl,rfl⟩,rfl⟩
 .split
  .exact⟨⟨rfl,rfl,rfl⟩,rfl⟩
  .split<;>exact⟨⟨rfl,rfl,rfl⟩,rfl⟩
theorem Ck(p:Nod)(v:Vt):((p.cl v).1.av=p.av/\(p.cl v).1.bN=p.bN/\(p.cl v).1.done=p.done)/\(p.cl v).1.bn=p.bn:=by
 unfold Nod.cl;split
 .exact⟨⟨rfl,rfl,rfl⟩,rfl⟩
 .split
  .exact⟨⟨rfl,rfl,rfl⟩,rfl⟩
  .split<;>exact⟨⟨rfl,rfl,rfl⟩,rfl⟩
theorem Mx(p:Nod)(l:Let)(a:p.bn.fv.Nodup):((p.take l).av=p.av/\(p.take l).bN=p.bN/\(p.take l).done=p.done)/\(p.take l).bn.fv.Nodup:=by
 unfold Nod.take;split
 .split
  .unfold Nod.ew;split<;>exact⟨⟨rfl,rfl,rfl⟩,a⟩
  .have:=AY p l.hZ;exact⟨this.1,by show(p.au l.hZ).1.bn.fv.Nodup;rw[this.2];exact a⟩
 .simp only;split<;>exact⟨⟨rfl,rfl,rfl⟩,a⟩
 .exact⟨⟨rfl,rfl,rfl⟩,a⟩
 .split
  .unfold Nod.ew;split<;>exact⟨⟨rfl,rfl,rfl⟩,a⟩
  .have:=Ck p l.cl;exact⟨this.1,by show(p.cl l.cl).1.bn.fv.Nodup;rw[this.2];exact a⟩
 .unfold Nod.count;split
  .exact⟨⟨rfl,rfl,rfl⟩,a⟩
  .split<;>exact⟨⟨rfl,rfl,rfl⟩,a⟩
 .split<;>exact⟨⟨rfl,rfl,rfl⟩,a⟩
 .simp only;unfold Nod.eb;split<;>split<;>first|exact⟨⟨rfl,rfl,rfl⟩,a⟩|exact⟨⟨rfl,rfl,rfl⟩,Hx _ _ a⟩
 .exact⟨⟨rfl,rfl,rfl⟩,a⟩
theorem AskI.ib(h:AskI p)(i:Nat)(q:0<=p.vo.p.key):AskI (p.ib i).1:=by
 have key:∀ (l:List Cmd) (f:Cmd->Option Bal),(∀ c,c∈l->(f c).isSome=true)->(∀ c,((Bb p.vo.p f l).2 c).isSome=(f c).isSome)/\∀ c x,(Bb p.vo.p f l).2 c=some x->f c=some x\/x=p.vo.p:=by
  intro l;induction l with
  | nil=>exact λf _=>⟨λ_=>rfl,λ_ _ g=>.inl g⟩
  | cons c l ih =>
   intro f j;rw[Bb];split
   .have hu:∀ d,(BU f c (some p.vo.p) d).isSome=(f d).isSome:=λd=>by
     unfold BU;split
     .rename_i e;rw[e,j c M'];rfl
     .rfl
    obtain⟨a,k⟩:=ih (BU f c (some p.vo.p)) λd b=>by rw[hu];exact j d (I' _ b)
    refine⟨λd=>(a d).trans (hu d),λd x g=>?_⟩;rcases k d x g with g|g
    .unfold BU at g;split at g
     .exact .inr (mQ g).symm
     .exact .inl g
    .exact .inr g
   .exact ih f λd b=>j d (I' _ b)
 obtain⟨n,o⟩:=key (p.av.take 40) p.bN λc m=>(h.wa c).1 (mt m);have a:AskI { p with bN:=(Bb p.vo.p p.bN (p.av.take 40)).2 }:=⟨h.nd,λc=>by show _↔((Bb p.vo.p p.bN (p.av.take 40)).2 c).isSome=true;rw[n];exact h.wa c,λc x g=>by
  rcases o c x g with g|g
  .exact h.le c x g
  .rw[g];exact mc _,h.un,h.qn,h.dn⟩
 unfold Nod.ib;split
 .exact a
 .split
  .refine a.lr (.sR _ _) ?_ ?_
   .unfold Nod.eb;split<;>exact⟨rfl,rfl,rfl⟩
   .unfold Nod.eb;split
    .exact Hx _ _ h.qn
    .exact h.qn
  .exact a
theorem AskI.one(h:AskI p){c:Cmd}(b:p.ae[p.done]?=some c)(s:Sto):AskI (Nod.hU { p with lp:=s,done:=p.done+1 } c):=by
 have f:=(V'.1 b).1;have i:p.ae.take (p.done+1)=p.ae.take p.done++[c]:=by rw[nS,b];rfl
 unfold Nod.hU;split
 .refine⟨h.nd.erase c,λd=>?_,λd x g=>?_,λd a=>?_,h.qn,f⟩
  .show d∈p.av.erase c↔(BU p.bN c none d).isSome=true;rw[h.nd.mem_erase_iff];unfold BU;split
   .rename_i e;simp[e]
   .rename_i e;rw[h.wa d];simp[e]
  .have g:BU p.bN c none d=some x:=g;unfold BU at g;split at g
   .cases g
   .exact h.le d x g
  .have a:d∈p.av.erase c:=a;rw[h.nd.mem_erase_iff]at a
   show d∉p.ae.take (p.done+1);rw[i];intro e;rcases Q'.1 e with e|e
   .exact h.un d a.2 e
   .exact a.1 (D'.1 e)
 .rename_i hn
  refine⟨h.nd,h.wa,h.le,λd a=>?_,h.qn,f⟩;show d∉p.ae.take (p.done+1);rw[i];intro e;rcases Q'.1 e with e|e
  .exact h.un d a e
  .rw[D'.1 e]at a
   exact hn ((h.wa c).1 a)
theorem AskI.want(h:AskI p){c:Cmd}(b:c∉p.ae.take p.done)(a:0<=p.vo.p.key):AskI (p.want c):=by
 unfold Nod.want;split
 .exact h
 .rename_i hn
  have f:c∉p.av:=λe=>hn ((h.wa c).1 e);refine⟨om.2 ⟨h.nd,oq.2 ⟨P',nJ⟩,λx i y j e=>f (by rw[<- D'.1 j,<- e];exact i)⟩,λd=>?_,λd x g=>?_,λd hd=>?_,h.qn,h.dn⟩
  .show d∈p.av++[c]↔(BU p.bN c (some Be) d).isSome=true;unfold BU;split
   .rename_i e;simp[e]
   .rename_i e;rw[<- h.wa d];simp[e]
  .have g:BU p.bN c (some Be) d=some x:=g;unfold BU at g;split at g
   .rw[<- mQ g];exact a
   .exact h.le d x g
  .rcases Q'.1 hd with hd|hd
   .exact h.un d hd
   .rw[D'.1 hd];exact b
theorem AskI.bare(p:Nod)(u:Bool)(d:List Int)(s:Int)(a:Acc)(x:List Pend):AskI (p.bare u d s a x):=⟨nJ,λc=>⟨λe=>(by cases e),λe=>(by cases e)⟩,λc x e=>(by cases e),λc e=>(by cases e),nJ,A' _⟩
theorem AskI.step{D:Wh}{c:Nat}(s:Stp D c M N){σ:Gs}(g:AgI σ M)(h:∀ j,j<5->AskI (M.ab j)):∀ j,j<5->AskI (N.ab j):=by
 intro j i;have put:∀ {k:Nat} {p:Nod} {f:List Let} {o:List Tol},(k<5->AskI p)->AskI ((M.set k p f o).ab j):=λ{k p f o} e=>by
  rw[Aj];split
  .rename_i e2;exact e (by omega)
  .exact h j i
 have pos:∀ {k:Nat},k<5->(M.ab k).up=true->0<=(M.ab k).vo.p.key:=λ{k} m a=>by
  obtain⟨t,q⟩:=(g.nd k m).up a;have n:=q.tp.ok.acc.1;rw[<- q.tp.vo]at n
  unfold Ao Ab at n;unfold Bal.key;omega
 cases s with
 | take _ l hl hd a ht =>
  have:=Mx (M.ab l.dst) l (h _ hd.2).qn;exact put λ_=>(h _ hd.2).lr (.take _ l) this.1 this.2
 | br _ f hl hd=>exact h j i
 | one _ k c hi a hc he=>exact put λ_=>(h k hi).one hc _
 | ask _ k hi a=>exact put λ_=>(h k hi).ib k (pos hi a)
 | prop _ k hi a =>
  refine put λ_=>(h k hi).lr (.cF _) ?_ ?_
  .unfold Nod.cF;split
   .exact⟨rfl,rfl,rfl⟩
   .split
    .exact⟨rfl,rfl,rfl⟩
    .split
     .exact⟨rfl,rfl,rfl⟩
     .exact(Ck (M.ab k) _).1
  .unfold Nod.cF;split
   .exact(h k hi).qn
   .split
    .exact(h k hi).qn
    .split<;>exact(h k hi).qn
 | qH _ k hi a hs hT=>exact put λ_=>⟨(h k hi).nd,(h k hi).wa,(h k hi).le,(h k hi).un,(h k hi).qn,(h k hi).dn⟩
 | run _ k hi a q l hp hs =>
  refine put λ_=>(h k hi).lr ((Ev.ic _ k q).bu l) ?_ ?_
  .show((M.ab k).ic k q).av=_/\((M.ab k).ic k q).bN=_/\((M.ab k).ic k q).done=_;cases q<;>first|exact⟨rfl,rfl,rfl⟩|(simp only[Nod.ic];split<;>exact⟨rfl,rfl,rfl⟩)|(simp only[Nod.ic,Nod.count];split<;>first|exact⟨rfl,rfl,rfl⟩|(split<;>exact⟨rfl,rfl,rfl⟩))
  .show((M.ab k).ic k q).bn.fv.Nodup;have:=(h k hi).qn;cases q<;>first|exact this|(simp only[Nod.ic];split<;>exact this)|(simp only[Nod.ic,Nod.count];split<;>first|exact this|(split<;>exact this))
 | qz _ k hi a hL=>exact put λ_=>⟨(h k hi).nd,(h k hi).wa,(h k hi).le,(h k hi).un,(h k hi).qn,(h k hi).dn⟩
 | lead _ k hi a hL =>
  refine put λ_=>?_;unfold Nod.lead;simp only;split
  .exact h k hi
  .generalize (⟨max (M.ab k).dc (M.ab k).vo.p.r+1,(k:Int)⟩:Bal)=b;have e:=AY (M.ab k) b;have q:=(h k hi).lr (.au _ b) e.1 (by rw[e.2];exact(h k hi).qn);exact⟨q.nd,q.wa,q.le,q.un,nJ,q.dn⟩
 | sub _ k d hi a hD =>
  refine put λ_=>?_;unfold Nod.qJ Nod.qW;split
  .exact h k hi
  .split
   .exact⟨(h k hi).nd,(h k hi).wa,(h k hi).le,(h k hi).un,(h k hi).qn,(h k hi).dn⟩
   .split
    .exact h k hi
    .rename_i hc;exact(h k hi).want hc (pos hi a)
 | jv _ k x hi a m hC =>
  refine put λ_=>?_;unfold Nod.jv;split
  .exact h k hi
  .exact .bare _ _ _ _ _ _
 | start _ k hi a hs =>
  refine put λ_=>?_;unfold Nod.start;split
  .exact h k hi
  .split<;>exact .bare _ _ _ _ _ _
theorem AskI.zero:∀ j,j<5->AskI (As.ab j):=λj _=>AskI.bare Cx true [] 0 Eh []
theorem Stp.bN{n:Nat}(s:Stp wh0 n M N){j:Nat}{c:Cmd}{x:Bal}(h:(N.ab j).bN c=some x):(M.ab j).bN c=some x\/(j<5/\N=M.set j ((M.ab j).ib j).1 (M.br++((M.ab j).ib j).2) M.fa):=by
 have put:∀ {k:Nat} {p:Nod} {a:List Let} {b:List Tol},((M.set k p a b).ab j).bN c=some x->(p.bN c=some x->(M.ab k).bN c=some x)->(M.ab j).bN c=some x:=λ{k p a b} g e=>by
  rw[Aj]at g
  split at g
  .rename_i e2;rw[e2];exact e g
  .exact g
 cases s with
 | take _ l hl hd hu ht =>
  refine .inl (put h λg=>?_);rw[show((M.ab l.dst).take l).bN=(M.ab l.dst).bN from ?_]at g
  .exact g
  .unfold Nod.take;split
   .split
    .unfold Nod.ew;split<;>rfl
    .exact(AY _ _).1.2.1
   .simp only;split<;>rfl
   .rfl
   .split
    .unfold Nod.ew;split<;>rfl
    .exact(Ck _ _).1.2.1
   .unfold Nod.count;split
    .rfl
    .split<;>rfl
   .split<;>rfl
   .simp only;unfold Nod.eb;split<;>split<;>rfl
   .rfl
 | br _ a hl hd=>exact False.elim hd
 | one _ k d hi hu hc he =>
  refine .inl (put h λg=>?_);unfold Nod.hU at g;split at g
  .have g:BU (M.ab k).bN d none c=some x:=g;unfold BU at g;split at g
   .cases g
   .exact g
  .exact g
 | ask _ k hi hu =>
  by_cases e:j=k
  .subst e;exact .inr ⟨hi,rfl⟩
  .rw[Aj,if_neg e]at h;exact .inl h
 | prop _ k hi hu =>
  refine .inl (put h λg=>?_);unfold Nod.cF at g;split at g
  .exact g
  .split at g
   .exact g
   .split at g
    .exact g
    .have g:((M.ab k).cl _).1.bN c=some x:=g;rw[(Ck _ _).1.2.1]at g;exact g
 | qH _ k hi hu hs hT=>exact .inl (put h λg=>g)
 | run _ k hi hu q l hp hs =>
  refine .inl (put h λg=>?_);have g:((M.ab k).ic k q).bN c=some x:=g;rw[show((M.ab k).ic k q).bN=(M.ab k).bN from ?_]at g
  .exact g
  .cases q<;>first|rfl|(simp only[Nod.ic];split<;>rfl)|(simp only[Nod.ic,Nod.count];split<;>first|rfl|(split<;>rfl))
 | qz _ k hi hu hL=>exact .inl (put h λg=>g)
 | lead _ k hi hu hL=>exact False.elim hL
 | sub _ k d hi hu hD=>exact False.elim hD
 | jv _ k y hi hu hk hC=>exact False.elim hC
 | start _ k hi hu hs=>exact False.elim hs
end
section
variable{C:List Cmd}{K:Int}{B:Nat->Bal}{cov:List (Bal × Nat)}{i:Nat}{b:Bal}
structure PhB(C:List Cmd)(K:Int)(B:Nat->Bal)(cov:List (Bal × Nat))(i:Nat)(b:Bal)(M:Meet):Prop where
 cm:Cm (λc=>c∈C) K B cov M
 ak:∀ j,j<5->AskI (M.ab j)
 vi:(M.ab i).vo.p=b
structure PhC(C:List Cmd)(K:Int)(B:Nat->Bal)(cov:List (Bal × Nat))(i:Nat)(b:Bal):Prop where
 hc:∀ j,j<5->∀ s,s<40->(B j,s)∈cov
 hC:C.length<40
 hi:i<5
 hb:Ab b
 hn:b.n=(i:Int)
 hB:B i=b
 hK:b.key=K
theorem PhB.step(a:PhC C K B cov i b){n:Nat}{M N:Meet}(s:Stp wh0 n M N)(h:PhB C K B cov i b M):PhB C K B cov i b N:=by
 obtain⟨σ,g,_⟩:=h.cm.ex;exact⟨h.cm.step a.hc s,AskI.step s g h.ak,h.cm.top a.hc s a.hb.pr a.hK a.hi h.vi⟩
theorem PhB.leads(a:PhC C K B cov i b){M:Meet}(h:PhB C K B cov i b M):(M.ab i).leads=true:=by
 have c:=a.hb;unfold Nod.leads;refine O' ⟨?_,?_⟩
 .rw[h.cm.hZ i a.hi,a.hB];intro e;rw[e]at c
  exact absurd c (by decide)
 .rw[h.cm.hZ i a.hi,a.hB,h.vi]
def QA(i:Nat)(b:Bal)(M:Meet):Prop:=∀ j,j<5->∀ c,(M.ab j).bN c=some b->c∈(M.ab i).bn.fv\/∃ m∈M.br,m.kind=6/\m.dst=i/\c∈m.gC
theorem QA.step(t:PhC C K B cov i b){n:Nat}{M N:Meet}(s:Stp wh0 n M N)(h:PhB C K B cov i b M)(q:QA i b M):QA i b N:=by
 intro j x c a;have z:b≠Be:=λe=>by have:=t.hb;rw[e]at this;exact absurd this (by decide)
 by_cases e:(M.ab j).bN c=some b
 .rcases q j x c e with g|⟨m,g1,g2⟩
  .exact .inl ((s.ev i).qu.subset g)
  .exact .inr ⟨m,s.qQ g1,g2⟩
 .rcases s.bN a with g|⟨_,rfl⟩
  .exact absurd g e
  .rw[Aj,if_pos rfl]at a
   have E:=h.ak j x;have y:(Bb (M.ab j).vo.p (M.ab j).bN ((M.ab j).av.take 40)).2 c=some b:=by
    unfold Nod.ib at a;split at a
    .exact a
    .split at a
     .unfold Nod.eb at a;split at a<;>exact a
     .exact a
   have r:(M.ab j).vo.p=b/\c∈(M.ab j).av.take 40:=by
    have key:∀ (l:List Cmd) (f:Cmd->Option Bal) (p:Bal),(Bb p f l).2 c=some b->f c=some b\/(p=b/\c∈l):=by
     intro l;induction l with
     | nil=>exact λf p g=>.inl g
     | cons d l ih =>
      intro f p g;rw[Bb]at g
      split at g
      .rcases ih _ p g with k|k
       .unfold BU at k;split at k
        .rename_i e;exact .inr ⟨mQ k,by rw[e];exact M'⟩
        .exact .inl k
       .exact .inr ⟨k.1,I' _ k.2⟩
      .exact(ih f p g).imp id λk=>⟨k.1,I' _ k.2⟩
    exact(key _ _ _ y).resolve_left e
   obtain⟨r,H⟩:=r;have D:=KY z ((M.ab j).av.take 40) (M.ab j).bN;have o:c∈(Bb (M.ab j).vo.p (M.ab j).bN ((M.ab j).av.take 40)).1:=by rw[r];exact(D.2.2.1 c H).resolve_left e
   have u:¬ (Bb (M.ab j).vo.p (M.ab j).bN ((M.ab j).av.take 40)).1=[]:=λg=>by rw[g]at o;cases o
   have v:∀ d∈(Bb (M.ab j).vo.p (M.ab j).bN ((M.ab j).av.take 40)).1,d∈C:=λd w=>by
    rw[r]at w
    exact(h.cm.s.nd j x).wa d (mt (D.2.2.2 d w))
   by_cases A:j=i
   .subst A;refine .inl ?_;rw[Aj,if_pos rfl];unfold Nod.ib;rw[if_neg u,if_pos (by rw[r];exact t.hn)];have F:({ M.ab j with bN:=(Bb (M.ab j).vo.p (M.ab j).bN ((M.ab j).av.take 40)).2 }:Nod).leads=true:=h.leads t;unfold Nod.eb;rw[if_pos F];exact Qc t.hC _ _ E.qn (λd w=>(h.cm.s.nd j x).qu d w) v c o
   .refine .inr ?_;have G:¬ (M.ab j).vo.p.n=(j:Int):=by rw[r,t.hn];omega
    unfold Nod.ib;rw[if_neg u,if_neg G];refine⟨_,mg _ (D'.2 rfl),rfl,?_,o⟩;show(M.ab j).vo.p.n.toNat=i;rw[r,t.hn];exact mK i
theorem QP(a:PhC C K B cov i b){n:Nat}{M:Meet}(E:MOk n M)(L:n+6<=1000000)(h:PhB C K B cov i b M)(q:QA i b M):PhB C K B cov i b (M.dT An)/\(∀ j,j<5->∀ c,((M.dT An).ab j).bN c=some b->c∈((M.dT An).ab i).bn.fv)/\(M.dT An).br=[]/\MOk (n+6) (M.dT An):=by
 have v:∀ A N,TkS A N->PhB C K B cov i b A->PhB C K B cov i b N:=λA N s g=>g.step a s.qZ;have z:=Bm (I:=λN=>PhB C K B cov i b N/\QA i b N) (λc A N s g=>⟨g.1.step a s.calm,g.2.step a s.calm g.1⟩) E (by omega) ⟨h,q⟩;rw[show An=AC 3 5++[acN 7 0]from rfl,AI];generalize M.dT (AC 3 5)=A at z ⊢;obtain⟨p,k,u⟩:=z;have y:=p.act (by omega) (x:=acN 7 0) (by rw[<- DK];decide);have t:∀ j,j<5->∀ c,((A.act (acN 7 0)).ab j).bN c=some b->c∈((A.act (acN 7 0)).ab i).bn.fv:=λj G c r=>by
  obtain⟨N,f,o,_⟩:=Cr (I:=λN=>PhB C K B cov i b N/\(N.ab j).bN c=(A.ab j).bN c) (λD N s g=>⟨v D N s g.1,by
   obtain⟨l,_,w,_,rfl⟩:=s;rw[Aj];split
   .rename_i e
    rw[(Mx (D.ab l.dst) l (g.1.ak _ w.2).qn).1.2.1,<- e];exact g.2
   .exact g.2⟩) p ⟨k,rfl⟩
  rw[f]at r
  have r:(N.ab j).bN c=some b:=r;rw[o.2]at r
  rcases u j G c r with g|⟨m,g1,g2,g3,g4⟩
  .obtain⟨N,f,o,_⟩:=Cr (I:=λN=>c∈(N.ab i).bn.fv) (λD N s g=>(s.qZ.ev i).qu.subset g) p g;rw[f];exact o
  .obtain⟨N,f,_,k3,_⟩:=DO (I:=PhB C K B cov i b) (J:=λN=>c∈(N.ab i).bn.fv) v (λD N s _ g=>(s.qZ.ev i).qu.subset g) p k g1 (λN g=>g.cm.up _ (by rw[g3];exact a.hi)) (λN g e=>by
    have F:=(g.cm.s.lt m (by rw[e];exact g1)).wh;rw[g3,Aj,if_pos rfl];have H:c∈((N.ab i).eb m.gC).bn.fv:=by
     unfold Nod.eb;rw[if_pos (g.leads a)];exact Qc a.hC _ _ (g.ak i a.hi).qn (λd w=>(g.cm.s.nd i a.hi).qu d w) F c g4
    unfold Nod.take;rw[g2];simp only;split<;>exact H)
   rw[f];exact k3
 obtain⟨N,f,o,_⟩:=Cr (I:=PhB C K B cov i b) v p k;refine⟨?_,t,by rw[f],y⟩;rw[f];exact⟨o.cm.drop,o.ak,o.vi⟩
theorem Wl(a:PhC C K B cov i b){n:Nat}{M:Meet}(t:MOk n M)(I:n+6<=1000000)(h:PhB C K B cov i b M){j:Nat}(y:j<5){H:List Vt}(E:Pend.prom i b H∈(M.ab j).bu):((M.dT An).ab i).bn.qk j=true:=by
 have x:∀ A N,TkS A N->PhB C K B cov i b A->PhB C K B cov i b N:=λA N s g=>g.step a s.qZ;have d:∀ c A N,Stp wh1 c A N->PhB C K B cov i b A->PhB C K B cov i b N:=λc A N s g=>g.step a s.calm;have f:=Bm d t (by omega) h;have q:=Fq (J:=λN=>∃ m∈N.br,m.kind=1/\m.src=j/\m.dst=i/\m.hZ=b) d (λc A N s _ ⟨m,o,p⟩=>⟨m,s.calm.qQ o,p⟩) (λA k g u=>⟨g.cm.up k u,g.cm.rF u⟩) t (by omega) h y E (λN l g _ _=>⟨_,mg _ (D'.2 rfl),rfl,rfl,rfl,rfl⟩);rw[show An=AC 3 5++[acN 7 0]from rfl,AI];generalize M.dT (AC 3 5)=A at f q ⊢;obtain⟨m,o,p,v,r,w⟩:=q;obtain⟨N,F,_,G,_⟩:=DO (J:=λN=>(N.ab i).bn.qk j=true) x (λD N s _ g=>(s.qZ.ev i).qk j g) f.1 f.2 o (λN g=>g.cm.up _ (by rw[r];exact a.hi)) (λN g e=>by
  rw[r,Aj,if_pos rfl];have z:((N.ab i).ie 0 m.gC).leads=true:=g.leads a;unfold Nod.take;rw[p];simp only;rw[v,w];split
  .rename_i hc
   rcases hc with hc|hc|hc
   .rw[z]at hc;cases hc
   .exact absurd (show b=(N.ab i).bn.hZ by rw[g.cm.hZ i a.hi,a.hB]) hc
   .exact hc
  .exact Db _ _ _)
 rw[F];exact G
end
theorem Uc(i:Nat)(l:List Cmd)(p:Nod)(a:List Tol):(qK i l p a).1.bn=p.bn/\(qK i l p a).1.ae=p.ae:=by
 induction l generalizing p a with
 | nil=>exact⟨rfl,rfl⟩
 | cons c l ih =>
  rw[qK];split
  .exact⟨rfl,rfl⟩
  .have h1:=ih (Nod.hU { p with lp:=doS p.lp c,done:=p.done+1 } c) (if(p.bN c).isSome=true then a++[⟨i,c.c,c.s,doC p.lp c,doA p.lp c⟩]else a);have b:(Nod.hU { p with lp:=doS p.lp c,done:=p.done+1 } c).bn=p.bn/\(Nod.hU { p with lp:=doS p.lp c,done:=p.done+1 } c).ae=p.ae:=by unfold Nod.hU;split<;>exact⟨rfl,rfl⟩
   exact⟨h1.1.trans b.1,h1.2.trans b.2⟩
theorem Ic{D:Wh}{i:Nat}(c:i<5){M:Meet}(t:(M.ab i).up=true):∃ M0,Sts D 0 M M0/\(M0.ab i).up=true/\(M0.ab i).bn=(M.ab i).bn/\(M0.ab i).ae=(M.ab i).ae /\
  ∃ M1,M1=M0.set i ((M0.ab i).ib i).1 (M0.br++((M0.ab i).ib i).2) M0.fa/\(M1.ab i).up=true/\Sts D 0 M0 M1/\Sts D 0 (M1.set i (M1.ab i).cF M1.br M1.fa) (M.act (acN 3 (i:Int))):=by
 rw[Ha t];have w:Sts D 0 M (M.set i (M.ab i) M.br M.fa):=by rw[ER];exact .nil 0 M
 obtain⟨p,h⟩:=Sts.qK c _ (M.ab i) w t rfl;have q:=Uc i ((M.ab i).ae.drop (M.ab i).done) (M.ab i) M.fa;unfold Nod.piece;simp only;generalize Go.Proofs.YtdjfdfpkkenjbadGreatDoor.qK i ((M.ab i).ae.drop (M.ab i).done) (M.ab i) M.fa=a at p h q ⊢;refine⟨_,p,by rw[Bg];exact h,by rw[Bg];exact q.1,by rw[Bg];exact q.2,?_⟩;have e:=Bg M i a.1 M.br a.2;have s:=Stp.ask (D:=D) (M.set i a.1 M.br a.2) i c (by rw[e];exact h);have l:=(Io a.1 i).trans h;rw[e,Cf]at s
 refine⟨M.set i (a.1.ib i).1 (M.br++(a.1.ib i).2) a.2,by rw[e,Cf];rfl,by rw[Bg];exact l,s.s,?_⟩;show Sts D 0 ((M.set i (a.1.ib i).1 (M.br++(a.1.ib i).2) a.2).set i ((M.set i (a.1.ib i).1 (M.br++(a.1.ib i).2) a.2).ab i).cF (M.br++(a.1.ib i).2) a.2) _;clear e s p;generalize (a.1.ib i)=b at l ⊢;rw[Bg,Cf];have g:=(E7 b.1).trans l;show Sts D 0 (M.set i b.1.cF (M.br++b.2) a.2) _;generalize b.1.cF=r at g ⊢;generalize M.br++b.2=k at ⊢;have j:Sts D 0 (M.set i r k a.2) (M.set i (r.mv i k).1 (r.mv i k).2 a.2)/\(r.mv i k).1.up=true:=by
  unfold Nod.mv;split
  .exact⟨.nil 0 _,g⟩
  .rename_i hn
   have e:=Bg M i r k a.2;unfold Nod.qH;split
   .rename_i h1
    have m:CZ r.d r.sy=0:=mf.1 λe=>hn ⟨h1,e⟩;have o:AR r.d r.sy:=by
     unfold CZ at m;split at m
     .assumption
     .cases m
    have s:=Stp.qH (D:=D) (M.set i r k a.2) i c (by rw[e];exact g) (by rw[e];exact h1) (by rw[e];exact o);rw[e,Cf]at s
    have u:Hg r.d r.sy=r.d:=if_pos o;have v:If r.d r.sy=(r.d.length:Int):=if_pos o;rw[u,v];have:=Sts.nn (D:=D) (n:=0) (M:=M.set i r k a.2) (ls:=k) (ts:=a.2) c r.bu { r with sy:=(r.d.length:Int),bu:=[] } (by rw[Cf];exact(Sts.nil 0 _).s0 s) g rfl (pY _);rw[Cf]at this
    exact this
   .rename_i h1
    have:=Sts.nn (D:=D) (n:=0) (M:=M.set i r k a.2) (ls:=k) (ts:=a.2) c r.bu { r with bu:=[] } (by rw[Cf];exact .nil 0 _) g rfl h1;rw[Cf]at this
    exact this
 generalize r.mv i k=f at j ⊢;unfold Nod.bw;split
 .rename_i hL
  have e:=Bg M i f.1 f.2 a.2;have s:=Stp.qz (D:=D) (M.set i f.1 f.2 a.2) i c (by rw[e];exact j.2) (by rw[e];exact hL);rw[e,Cf]at s
  exact j.1.s0 s
 .exact j.1
section
variable{C:List Cmd}{K:Int}{B:Nat->Bal}{cov:List (Bal × Nat)}{i:Nat}{b:Bal}
theorem dI(a:PhC C K B cov i b)(d:14*K+38*(cov.length:Int)<=99000){M:Meet}(h:PhB C K B cov i b M)(j:(M.ab i).bn.qA=true)(n:(M.ab i).bn.next<=(M.ab i).ae.length){c:Cmd}(f:(M.ab i).ov (M.ab i).ae.length=some c)(l:Ah ⟨((M.ab i).ae.length:Int),b,c⟩) :
  (M.ab i).cF.bn.next=(M.ab i).ae.length+1/\Pend.prop ⟨((M.ab i).ae.length:Int),b,c⟩∈(M.ab i).cF.bu:=by
 have e:(M.ab i).bn.hZ=b:=(h.cm.hZ i a.hi).trans a.hB;have k:=h.leads a;have m:=h.cm.sB d a.hi l (λg=>by
  have:b.lt (M.ab i).vo.p:=g;rw[h.vi]at this
  unfold Bal.lt at this;omega)
 unfold Nod.cF;rw[if_neg (λg=>by
  rcases g with g|g|g
  .rw[k]at g;cases g
  .rw[j]at g;cases g
  .omega),f]
 simp only;rw[e,if_neg (λg=>g m.1)];exact⟨rfl,mg _ (D'.2 rfl)⟩
theorem Xa(f:PhC C K B cov i b)(e:14*K+38*(cov.length:Int)<=99000){M:Meet}(h:PhB C K B cov i b M){j:Nat}(a:j<5){v:Vt}(c:Ah v)(o:v.b=b){l:Let}(k:l.kind=3)(m:l.cl=v):Pend.voted l.src v∈((M.ab j).take l).bu:=by
 have n:=h.cm.le a;have d:=h.cm.sB e a c (by rw[EX c.2.1.pr (h.cm.acc a).1,o,f.hK];omega);unfold Nod.take;rw[k];simp only;rw[m,if_neg (λg=>g d.1)];exact mg _ (D'.2 rfl)
end
end
end Go.Proofs.YtdjfdfpkkenjbadGreatDoor
