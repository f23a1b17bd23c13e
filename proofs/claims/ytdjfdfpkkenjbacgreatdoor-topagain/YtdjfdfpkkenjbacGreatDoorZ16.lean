/- Part 16 of the walk. -/
import Derived.Test.YtdjfdfpkkenjbacGreatDoorZ15
set_option maxRecDepth 100000
set_option maxHeartbeats 4000000
set_option linter.unusedVariables false
namespace Go.Proofs.YtdjfdfpkkenjbacGreatDoor
section
open Go.RowKit
section
variable{K key p:List Int}{c n s t:Int}{l:List Bool}
theorem aV{r u:Int}(i:key.length=32)(h:Dt c r u):Ep key (EI key c r u)=0/\LZ key (EI key c r u)=tkA c r u:=by
 have f:(EI key c r u).take 6=Im c r u:=by unfold EI;rw[mA (by rw[Ca];omega),mr (by rw[Ca];omega)]
 have g:(EI key c r u).drop 6=(E7 key (Im c r u)).take 16:=by unfold EI;rw[nQ (by rw[Ca];omega),nJ (by rw[Ca];omega),nC]
 have a:(EI key c r u).getD 0 0=c:=rfl;have b:(EI key c r u).getD 1 0=r:=rfl;have d:Ac (EI key c r u) 2=u:=On c r u _ h.2.2.1 (by have:=h.2.2.2;omega);have e:Ep key (EI key c r u)=0:=by
  rw[QW i (BH key c r u) (by rw[f,g]),a,b,d,Ja h]
 exact⟨e,by rw[Pu e,a,b,d]⟩
theorem XG{k v:Int}(h:Bh k c s n v=0):Ck (D3 k c s n v)=0/\Iy (D3 k c s n v)=cmA k c s n v:=by
 obtain⟨b,a⟩:=Dg h;unfold InC at a;have e:Ck (D3 k c s n v)=0:=by
  unfold Ck;rw[if_neg (λg=>g (DU k c s n v)),Hb k c s n v (by omega) (by omega),Hc k c s n v (by omega) (by omega),Hd k c s n v (by omega) (by omega),FL k c s n v (by omega) (by omega),FM k c s n v (by omega) (by omega)];exact h
 refine⟨e,?_⟩;unfold Iy;rw[if_pos e,Hb k c s n v (by omega) (by omega),Hc k c s n v (by omega) (by omega),Hd k c s n v (by omega) (by omega),FL k c s n v (by omega) (by omega),FM k c s n v (by omega) (by omega)]
theorem aM{r:List Int}(a:OkC key s t l)(c:r.length<=2020)(d:20<=r.length)(e:IF (r.take 4)<1073741824)(b:Zg t l (IF (r.take 4))=false):GE key s t l r=Eg key (Ce (r.take 4)) (r.take 4) (r.drop 4):=by
 unfold GE;rw[if_neg (λh=>h a),if_neg (by omega),if_neg (by omega),if_neg (by omega),b,if_neg (by simp)]
theorem NW{h:List Int}(a:K.length=32)(b:h.length=4):FE K (Ce h) h=true:=Uq a (Fc b) (by omega)
theorem UB(K:List Int)(n:Int)(p:List Int)(a:0<=n)(b:n<1073741824):IF ((Gd K n p).take 4)=n:=by rw[J8,Wc n a (by omega)]
theorem aP(a:OkC K s t l)(d:0<=n)(c:n<1073741824)(e:p.length<=2000)(f:∀ x∈p,0<=x/\x<256)(b:Zg t l n=false):GE K s t l (Gd K n p)=0:=by
 rw[aM a (by rw[Dn];omega) (by rw[Dn];omega) (by rw[UB K n p d c];exact c) (by rw[UB K n p d c];exact b),J8,Ow];exact Kc (NW a.key rfl) e
theorem TL(a:K.length=32)(c:p.length<=2000)(b:∀ x∈p,0<=x/\x<256):IX K (Gd K n p)=p:=by
 unfold IX;rw[J8,Ow];exact Ta (NW a rfl) c b
end
section
variable{n tc tr tu k c s m v:Int}(h:paE n tc tr tu k c s m v=0)
include h
theorem Zq:K9 (paL n tc tr tu k c s m v)=0/\Pl (paL n tc tr tu k c s m v)=paP tc tr tu k c s m v:=by
 obtain⟨a,b,d⟩:=II h;have f:=(Dg d).2;have e:K9 (c::Gd (I6 c) n (paP tc tr tu k c s m v))=0:=by
  unfold K9;rw[if_neg (by simp),mE,if_neg (by have:=f.2.1;omega),List.drop_one,List.tail_cons];exact aP (OkC.new (Cy c) 0 (by omega) (by omega)) a.1 a.2 (by rw[DG];omega) (QQ b) (UC a.1)
 rw[Pp h];refine⟨e,?_⟩;unfold Pl;rw[if_pos e,mE,List.drop_one,List.tail_cons];exact TL (Cy c) (by rw[DG];omega) (QQ b)
theorem fH:unT (paL n tc tr tu k c s m v)=EI Fk tc tr tu/\unQ (paL n tc tr tu k c s m v)=D3 k c s m v:=by
 unfold unT unQ;rw[(Zq h).2];unfold paP;exact⟨by rw[mA (by rw[BH];omega),mr (by rw[BH];omega)],by rw[nQ (by rw[BH];omega),nJ (by rw[BH];omega),nC]⟩
theorem iy:unE (paL n tc tr tu k c s m v)=0:=by
 obtain⟨j,f,i⟩:=II h;obtain⟨a,b⟩:=Zq h;obtain⟨d,e⟩:=fH h;unfold unE;rw[if_neg (λg=>g a),if_neg (by rw[b,DG];simp),d,if_neg (λg=>g (aV Gw f).1),e];exact(XG i).1
theorem Tl:(unT (paL n tc tr tu k c s m v)).getD 0 0=tc/\(unT (paL n tc tr tu k c s m v)).getD 1 0=tr/\Ac (unT (paL n tc tr tu k c s m v)) 2=tu/\Ac (unQ (paL n tc tr tu k c s m v)) 0=k/\Ac (unQ (paL n tc tr tu k c s m v)) 4=c/\Ac (unQ (paL n tc tr tu k c s m v)) 8=s/\Ac (unQ (paL n tc tr tu k c s m v)) 12=m/\Ac (unQ (paL n tc tr tu k c s m v)) 16=v:=by
 obtain⟨i,a,e⟩:=II h;obtain⟨b,d⟩:=fH h;rw[b,d];obtain⟨g,f⟩:=Dg e;unfold InC at f;exact⟨rfl,rfl,On tc tr tu _ a.2.2.1 (by have:=a.2.2.2;omega),Hb k c s m v (by omega) (by omega),Hc k c s m v (by omega) (by omega),Hd k c s m v (by omega) (by omega),FL k c s m v (by omega) (by omega),FM k c s m v (by omega) (by omega)⟩
theorem dK(a:Int):opE (paL n tc tr tu k c s m v) a=EL tc tr tu k c s m v a/\opA (paL n tc tr tu k c s m v) a=if EL tc tr tu k c s m v a=0 then cmA k c s m v else cmA 0 0 0 0 0:=by
 obtain⟨o,p,q,b,d,e,f,i⟩:=Tl h;have l:opE (paL n tc tr tu k c s m v) a=EL tc tr tu k c s m v a:=by
  unfold opE;rw[if_neg (λg=>g (iy h)),o,p,q,b,d,e,f,i,if_neg];rintro⟨_,j⟩;rw[Pp h,mE]at j
  exact j rfl
 refine⟨l,?_⟩;unfold opA;rw[l,b,d,e,f,i]
end
theorem Tk{n a b d k c s m v:Int}(h:paE n a b d k c s m v=0):(paL n a b d k c s m v).length=63:=by
 rw[Pp h,mJ,Dn,DG]
end
section
section
def Nod.ub(p:Nod):Bool × Nat:=(p.up,p.bad)
theorem LX(p:Nod)(b:Bal):(p.an b).1.ub=p.ub:=by
 unfold Nod.an;split
 .rfl
 .split
  .rfl
  .split<;>rfl
theorem UZ(p:Nod)(v:Vt):(p.bN v).1.ub=p.ub:=by
 unfold Nod.bN;split
 .rfl
 .split
  .rfl
  .split<;>rfl
theorem Lp(p:Nod)(j:Nat)(v:Vt):(p.count j v).ub=p.ub:=by
 unfold Nod.count;split
 .rfl
 .split<;>rfl
theorem Oz(p:Nod)(to:Nat)(e:Int):(p.ew to e).ub=p.ub:=by unfold Nod.ew;split<;>rfl
theorem Lt(p:Nod)(l:List Cmd):(p.dT l).ub=p.ub:=by unfold Nod.dT;split<;>rfl
theorem PD(p:Nod)(l:Let):(p.take l).ub=p.ub:=by
 unfold Nod.take;split
 .split
  .exact Oz _ _ _
  .exact LX p l.fv
 .simp only;split<;>rfl
 .rfl
 .split
  .exact Oz _ _ _
  .exact UZ p l.bN
 .exact Lp p _ _
 .split<;>rfl
 .simp only;split<;>exact Lt p l.fm
 .rfl
theorem el(p:Nod)(i:Nat)(q:Pend):(p.hZ i q).ub=p.ub:=by
 cases q with
 | began b vs=>unfold Nod.hZ;simp only;split<;>rfl
 | prop v=>exact Lp p i v
 | _=>rfl
theorem XX(i:Nat)(l:List Pend)(p:Nod)(a:List Let):(lr i l p a).1.ub=p.ub:=by
 induction l generalizing p a with
 | nil=>rfl
 | cons q l ih=>exact(ih _ _).trans (el p i q)
theorem WZ(p:Nod)(c:Cmd):(p.fu c).ub=p.ub:=by unfold Nod.fu;split<;>rfl
theorem gB(i:Nat)(l:List Cmd)(p:Nod)(a:List Tol):(qL i l p a).1.ub=p.ub:=by
 induction l generalizing p a with
 | nil=>rfl
 | cons c l ih =>
  rw[qL];split
  .rfl
  .exact(ih _ _).trans (WZ _ _)
theorem bO(p:Nod)(i:Nat):(p.hU i).1.ub=p.ub:=by
 unfold Nod.hU;split
 .rfl
 .split
  .exact Lt _ _
  .rfl
theorem Ty(p:Nod):p.cl.ub=p.ub:=by
 unfold Nod.cl;split
 .rfl
 .split
  .rfl
  .split
   .rfl
   .exact UZ p _
theorem aF(p:Nod)(i:Nat)(a:List Let):(p.ln i a).1.ub=p.ub:=by
 unfold Nod.ln;split
 .rfl
 .rw[XX];unfold Nod.qJ;split<;>rfl
theorem WV(p:Nod)(i:Nat)(a:List Let):(p.bu i a).1.ub=p.ub:=by unfold Nod.bu;split<;>rfl
theorem Zv(p:Nod)(i:Nat)(a:List Let)(b:List Tol):(p.piece i a b).1.ub=p.ub:=by
 unfold Nod.piece;simp only;rw[WV,aF,Ty,bO,gB]
theorem Uz(p:Nod)(i:Nat):(p.lead i).ub=p.ub:=by
 unfold Nod.lead;simp only;split
 .rfl
 .exact LX p _
theorem Ui(M:Meet)(l:Let)(j:Nat):((M.lp l).ab j).ub=(M.ab j).ub:=by
 unfold Meet.lp;split
 .show(upN M.ab l.dst _ j).ub=_;unfold upN;split
  .rename_i h;rw[h];exact PD _ _
  .rfl
 .rfl
theorem XH(l:List Let)(M:Meet)(j:Nat):((l.foldl (λM l=>M.lp l) M).ab j).ub=(M.ab j).ub:=by
 induction l generalizing M with
 | nil=>rfl
 | cons x l ih=>exact(ih _).trans (Ui M x j)
theorem dw(M:Meet)(k:Int)(a:Nat)(j:Nat):((M.move k a).ab j).ub=(M.ab j).ub:=by
 unfold Meet.move;split
 .rfl
 .simp only;split
  .rw[Ui];split<;>rfl
  .split<;>rfl
theorem IS(M:Meet)(i:Nat)(p:Nod)(a:List Let)(b:List Tol)(j:Nat):(M.set i p a b).ab j=if j=i then p else M.ab j:=rfl
variable{D:Wh}{M N:Meet}{P:Lac->Prop}{i n:Nat}{k:Int}{l:Let}{p:Nod}{rs:List Rk}{x:Lac}{σ:Gs}
theorem Xn(M:Meet){x:Lac}(f:x.k≠1)(g:x.k≠8)(h:x.k≠9)(j:Nat):((M.act x).ab j).ub=(M.ab j).ub:=by
 unfold Meet.act;simp only;rw[if_neg f];by_cases a:x.k=2
 .rw[if_pos a,IS];split
  .rename_i e
   rw[e];split
   .exact Uz _ _
   .rfl
  .rfl
 .rw[if_neg a];by_cases b:x.k=3
  .rw[if_pos b,IS];split
   .rename_i e
    rw[e];split
    .exact Zv _ _ _ _
    .rfl
   .rfl
  .rw[if_neg b];by_cases c:x.k=4\/x.k=5\/x.k=6
   .rw[if_pos c];exact dw _ _ _ _
   .rw[if_neg c];by_cases d:x.k=7
    .rw[if_pos d];exact XH _ _ _
    .rw[if_neg d,if_neg g,if_neg h]
theorem iV(M:Meet){x:Lac}(h:x.k=1)(j:Nat):((M.act x).ab j).ub=if j=x.n.toNat/\(M.ab j).up=true/\opE x.d ((M.ab j).done:Int)≠0 then((M.ab j).up,(M.ab j).bad+1)else(M.ab j).ub:=by
 unfold Meet.act;simp only;rw[if_pos h,IS];by_cases f:j=x.n.toNat
 .subst f;rw[if_pos rfl];unfold Nod.qK Nod.qY;by_cases b:(M.ab x.n.toNat).up=false
  .rw[if_pos b,if_neg (by rw[b];simp)]
  .rw[if_neg b];have g:(M.ab x.n.toNat).up=true:=by simpa using b
   by_cases a:opE x.d ((M.ab x.n.toNat).done:Int)≠0
   .rw[if_pos a,if_pos ⟨rfl,g,a⟩];rfl
   .rw[if_neg a,if_neg (c:=_/\_) (λe=>a e.2.2)];split
    .rfl
    .show(Nod.want _ _).ub=_;unfold Nod.want;split<;>rfl
 .rw[if_neg f,if_neg (λe=>f e.1)]
theorem AJ(M:Meet)(L:List Lac)(x:Lac):M.dc (L++[x])=(M.dc L).act x:=by unfold Meet.dc;rw[oS];rfl
theorem Vk{L:List Lac}(h:L[i]?=some x):M.dc (L.take (i+1))=(M.dc (L.take i)).act x:=by rw[oQ,h];exact AJ M (L.take i) x
theorem PP(L:List Lac)(h:∀ x∈L,LacOk x)(d:L.length<=100000):MOk L.length (As.dc L):=by
 suffices ∀ i,i<=L.length->MOk i (As.dc (L.take i))by have a:=this L.length (A' _);rwa [nS]at a
 intro i;induction i with
 | zero=>intro _;exact MOk.zero
 | succ i ih =>
  intro c;have b:L[i]?=some L[i]:=H' (by omega);rw[Vk b];exact(ih (by omega)).act (by omega) (h _ (mP _))
def Nod.tp(p:Nod):Prop:=AR p.d p.sy
theorem Vg{d:List Int}{s:Int}{may:Prop}[Decidable may]{b:List Int}(h:CK d s may b=0):AR (FY d s may b) (GP d s may b):=by
 obtain⟨a,c,_⟩:=JO h;unfold FY GP;rw[if_pos h,if_pos h];unfold AR at *;rw[E',Bg];omega
theorem LW(h:p.tp)(b:Bal):(p.an b).1.tp:=by
 unfold Nod.an;split
 .exact h
 .split
  .exact h
  .split
   .exact h
   .rename_i hw;exact Vg (mh.1 hw)
theorem PJ(h:p.tp)(v:Vt):(p.bN v).1.tp:=by
 unfold Nod.bN;split
 .exact h
 .split
  .exact h
  .split
   .exact h
   .rename_i hw;exact Vg (mh.1 hw)
theorem Oy(h:p.tp)(to:Nat)(e:Int):(p.ew to e).tp:=by unfold Nod.ew;split<;>exact h
theorem XI(h:p.tp)(j:Nat)(v:Vt):(p.count j v).tp:=by
 unfold Nod.count;split
 .exact h
 .split<;>exact h
theorem Sq(h:p.tp)(l:List Cmd):(p.dT l).tp:=by unfold Nod.dT;split<;>exact h
theorem Ix(h:p.tp){k:Int}(c:0<=k):(p.ib k).tp/\(p.ib k).up=false/\(p.ib k).done=0/\(p.ib k).ae=[]:=by
 have a:Gn p.d p.sy k=0:=by unfold Gn;rw[if_neg (λe=>e h),if_neg (by omega)]
 unfold Nod.ib;rw[if_neg (λe=>e a)];refine⟨?_,rfl,rfl,rfl⟩;show AR (Kx p.d p.sy k) (Ky p.d p.sy k);unfold Kx Ky;rw[if_pos a,if_pos a];unfold Nod.tp AR at h;have b:0<=Gp p.d p.sy k/\Gp p.d p.sy k<=(p.d.length:Int):=by unfold Gp;split<;>omega
 unfold AR;rw[j'];omega
theorem GD(h:p.tp):p.start.tp/\p.start.up=true/\p.start.done=0/\p.start.ae=[]:=by
 have b:Db p.d p.sy=0:=if_pos h;have c:=Y5 p.d p.d.length;unfold Nod.start;rw[if_neg (λe=>e b)];split
 .refine⟨?_,rfl,rfl,rfl⟩;show AR (J9 p.d p.sy) (Mf p.d p.sy);unfold J9 Mf;have a:AR p.d p.sy:=h;rw[if_pos a,if_pos a];unfold Nod.tp AR at h;unfold AR;rw[j'];unfold Er;split<;>omega
 .exact⟨h,rfl,rfl,rfl⟩
theorem jc(A:Alw)(i:Nat):NInv A i (λ_=>True) (λ_=>True) Nod.tp where
 take:=λ_ p l h _ _ _=>by
  unfold Nod.take;split
  .split
   .exact Oy h _ _
   .exact LW h l.fv
  .simp only;split<;>exact h
  .exact h
  .split
   .exact Oy h _ _
   .exact PJ h l.bN
  .exact XI h _ _
  .split<;>exact h
  .simp only;split<;>exact Sq h l.fm
  .exact h
 one:=λp c h _ _ _=>by unfold Nod.fu;split<;>exact h
 ask:=λp h _=>⟨by
  unfold Nod.hU;split
  .exact h
  .split
   .unfold Nod.dT;split<;>exact h
   .exact h,λ_ _=>trivial⟩
 prop:=λp h _=>by
  unfold Nod.cl;split
  .exact h
  .split
   .exact h
   .split
    .exact h
    .exact PJ h _
 qJ:=λp h _=>by
  unfold Nod.qJ;split
  .show AR (Hm p.d p.sy) (Ik p.d p.sy);unfold Hm Ik;have b:AR p.d p.sy:=h;rw[if_pos b,if_pos b];unfold Nod.tp AR at h;unfold AR;omega
  .exact h
 run:=λp q l h _ _ _=>⟨by
  have a:=DI p i q;show AR (p.hZ i q).d (p.hZ i q).sy;rw[a.2.2.1,a.2.2.2];exact h,λ_ _=>trivial⟩
 qA:=λp h _ _=>⟨h,λ_ _=>trivial⟩
 lead:=λ_ p h _=>by
  unfold Nod.lead;simp only;split
  .exact h
  .exact LW h _
 sub:=λp d e h _ _=>by
  unfold Nod.qK Nod.qY;split
  .exact h
  .split
   .exact h
   .split
    .exact h
    .show(Nod.want _ _).tp;unfold Nod.want;split<;>exact h
 ib:=λ_ p k h a _=>(Ix h a).1
 start:=λ_ p h _=>(GD h).1
def jr:Alw:=⟨true,true,true,true⟩
theorem bI(x:Lac):jr.Ok x:=⟨λ_=>rfl,λ_=>rfl,λ_=>rfl,λ_=>rfl⟩
theorem bG(L:List Lac)(h:∀ x∈L,LacOk x)(c:L.length<=100000){i:Nat}(a:i<5):((As.dc L).ab i).tp :=
 (GInv.dc (R:=λ_=>True) (D:=λ_ _=>True) (Q:=λ_=>True) (P:=λ_=>Nod.tp) (λi _=>jc jr i) (λi _=>TInv.all i _ _) L MOk.zero (by omega) ⟨λ_ _=>(by show AR [] 0;decide),λ_ _=>trivial⟩ trivial λx b=>⟨h x b,bI x,λ_=>trivial⟩).1.ab i a
theorem Vj(M:Meet){i:Nat}(b:i<5)(a:(M.ab i).tp)(j:Nat):((M.act (acN 9 (i:Int))).ab j).up=if j=i then true else(M.ab j).up:=by
 show(upN M.ab (i:Int).toNat _ j).up=_;unfold upN;rw[mM];split
 .split
  .assumption
  .exact(GD a).2.1
 .rfl
theorem fY(M:Meet){x:Lac}(c:x.k≠8){j:Nat}(a:(M.ab j).up=true):((M.act x).ab j).up=true:=by
 by_cases b:x.k=1
 .have:=congrArg Prod.fst (iV M b j);split at this
  .exact this.trans a
  .exact this.trans a
 .by_cases h9:x.k=9
  .unfold Meet.act;simp only;rw[if_neg b,if_neg (by omega),if_neg (by omega),if_neg (by omega),if_neg (by omega),if_neg (by omega),if_pos h9,IS];split
   .rename_i e;rw[<- e,if_pos a];exact a
   .exact a
  .exact(congrArg Prod.fst (Xn M b c h9 j)).trans a
theorem bH(L:List Lac)(a:∀ x∈L,x.k≠8)(M:Meet){j:Nat}(b:(M.ab j).up=true):((M.dc L).ab j).up=true:=by
 induction L generalizing M with
 | nil=>exact b
 | cons x L ih=>exact ih (λy c=>a y (I' _ c)) _ (fY M (a x M') b)
theorem AH(M:Meet)(L K:List Lac):M.dc (L++K)=(M.dc L).dc K:=oS
theorem D9{n:Int}(h:(k=2\/k=3\/k=9)/\0<=n/\n<=4):LacOk (acN k n):=by
 rw[<- DO];rcases h with⟨rfl|rfl|rfl,h1,h2⟩<;>simp[dj,acN,Gf,In,Io]<;>omega
theorem LG(h:∀ n:Nat,n<5->P (acN k (n:Int))){j:Nat}(c:j<=5):∀ x∈AC k j,P x:=by
 intro x b;obtain⟨n,a,rfl⟩:=mB.1 b;exact h n (by have:=oJ.1 a;omega)
theorem Lv(b:∀ n:Nat,n<5->P (acN 3 (n:Int)))(c:P (acN 7 0))(m:Nat):∀ x∈Am m,P x:=by
 induction m with
 | zero=>intro x a;cases a
 | succ m ih =>
  intro x a;rcases Q'.1 a with h|h
  .exact ih x h
  .rcases Q'.1 h with h|h
   .exact LG b (A' _) x h
   .rw[D'.1 h];exact c
theorem Mi(c:∀ n:Nat,n<5->P (acN 9 (n:Int)))(a:∀ n:Nat,n<5->P (acN 3 (n:Int)))(b:P (acN 7 0))(m:Nat):∀ x∈Dr m,P x:=by
 intro x d;rcases Q'.1 d with h|h
 .exact LG c (A' _) x h
 .exact Lv a b m x h
theorem P0(m:Nat):∀ x∈Dr m,LacOk x:=Mi (λn a=>D9 ⟨.inr (.inr rfl),by omega,by omega⟩) (λn a=>D9 ⟨.inr (.inl rfl),by omega,by omega⟩) (by rw[<- DO];decide) m
theorem iL(L:List Lac)(h:∀ x∈L,LacOk x)(m:Nat)(o:L.length+6*m+5<=100000){j:Nat}(b:j<5):((As.dc (L++Dr m)).ab j).up=true:=by
 unfold Dr;rw[<- mm,AH];refine bH _ (Lv (λ_ _=>by show(3:Int)≠8;decide) (by decide) m) _ ?_;have d:∀ k,k<=5->j<k->((As.dc (L++AC 9 k)).ab j).up=true:=by
  intro k;induction k with
  | zero=>intro _ h;omega
  | succ k ih =>
   intro l c;have a:∀ x∈L++AC 9 k,LacOk x:=λx g=>(Q'.1 g).elim (h x) λe=>LG (λn p=>D9 ⟨.inr (.inr rfl),by omega,by omega⟩) (by omega) x e;have f:=bG (L++AC 9 k) a (by rw[E',YB];omega) (i:=k) (by omega);rw[BS,<- mm,AJ,Vj _ (by omega) f];split
   .rfl
   .exact ih (by omega) (by omega)
 exact d 5 (A' _) b
theorem NdI.mk'(b:p.up=true)(h:UpI σ i p rs)(a:AgL σ p.ae 0):NdI σ i p:=⟨λ_=>⟨rs,h⟩,λe=>(by rw[b]at e;cases e),a⟩
theorem AgL.nil(σ:Gs)(k:Nat):AgL σ [] k:=λs c e=>by simp at e
theorem AgL.drop{l:List Cmd}(h:AgL σ l 0)(k:Nat):AgL σ (l.drop k) k:=λs c e=>by
 rw[ng]at e
 have:=h _ c e
 rwa [mU]at this
theorem UpI.wait(h:UpI σ i p rs){x:Pend}(a:PnI σ rs p.av x):UpI σ i (p.wait x) rs :=
 h.jv rfl rfl rfl h.rd rfl λy b=>(Q'.1 b).imp id λe=>by rw[D'.1 e];exact a
theorem UpI.ew(h:UpI σ i p rs)(to:Nat)(e:Int):UpI σ i (p.ew to e) rs:=by
 unfold Nod.ew;split
 .exact h.wait (by show Ao p.vo.p/\p.vo.p.key<=_;rw[h.tp.vo];exact⟨h.tp.ok.acc.1,mf _⟩)
 .exact h
theorem Ox(p:Nod)(to:Nat)(e:Int):(p.ew to e).ae=p.ae:=by unfold Nod.ew;split<;>rfl
theorem UpI.wrote{τ:Gs}{q:Nod}{a:List Rk}(h:UpI σ i p rs)(j:σ.le τ)(l:GsI τ)(f:τ.dr i=σ.dr i)(b:TpU q (σ.dr i) a)(m:rs <+: a)(o:∀ v,Rk.vt v∈a->τ.rj v){r:Rnd}(n:RdI τ i r)(c:p.av.fv.key<=r.fv.key)(e:r.fv.key<=q.vo.p.key){x:Pend}(s:PnI τ a r x)(k:q.br=p.br):UpI τ i (Nod.wait { q with av:=r } x) a :=
 ⟨by rw[f];exact⟨b.ok,b.pre,b.d,b.sy,b.vo,b.len⟩,o,n,e,λy t=>by
  rcases Q'.1 t with g|g
  .have g:y∈q.br:=g;rw[k]at g
   exact(h.pe y g).mono j l m b.ok c
  .rw[D'.1 g];exact s⟩
theorem FC(h:UpI σ i p rs)(l:List Cmd):UpI σ i (p.dT l) rs/\(p.dT l).ae=p.ae:=by
 unfold Nod.dT;split
 .exact⟨h.jv rfl rfl rfl ⟨h.rd.fv,h.rd.next,h.rd.own,h.rd.al,h.rd.prom,h.rd.acc⟩ rfl λx a=>.inl a,rfl⟩
 .exact⟨h,rfl⟩
theorem Q6(h:UpI σ i p rs)(a:AgL σ p.ae 0):UpI σ i p.qv rs/\AgL σ p.qv.ae 0:=⟨h.jv rfl rfl rfl h.rd rfl λx d=>.inl d,U6 (λj b v c=>(h.rd.al j b v c).1) 41 a⟩
theorem NdI.take(C:GsI σ){i:Nat}{p:Nod}(h:NdI σ i p)(D:p.up=true){l:Let}(u:LtI σ l)(G:l.src<5):NdI σ i (p.take l):=by
 obtain⟨f,k⟩:=h.up D;have c:=h.ag
 suffices g:∃ b,UpI σ i (p.take l) b/\AgL σ (p.take l).ae 0 by
  obtain⟨b,w,o⟩:=g;exact NdI.mk' ((congrArg Prod.fst (PD p l)).trans D) w o
 unfold Nod.take;split
 .rename_i hk
  rcases k.tp.an l.fv with⟨e,he⟩|⟨e,he,hvs,b,hp,ht,hm,hpb,hpv,d,a,hq⟩
  .rw[if_pos e];exact⟨f,k.ew _ _,by rw[Ox];exact c⟩
  .rw[if_neg (λg=>g e)];have m:=Co he;refine⟨b,?_,?_⟩
   .refine k.wrote (q:=(p.an l.fv).1) (r:=(p.an l.fv).1.av) (.refl σ) C rfl ht hp (λv B=>k.rj v ((hm v).1 B)) ?_ ?_ ?_ ⟨PrmOk.of ht.ok hpb (hpv.trans hvs.symm),u.k0 hk⟩ (by rw[hq];rfl)
    .rw[hq];exact k.rd
    .rw[hq];exact mf _
    .rw[ht.vo,hpb,hq];exact mC k.bp (Bp m.2.1.pr m.1.1 m.2.2)
   .show AgL σ (p.an l.fv).1.ae 0;rw[hq];exact c
 .rename_i hk
  obtain⟨w,o,E⟩:=u.k1 hk;have y:AgL σ (p.ia 0 l.fm).ae 0:=Q7 c E (mL _);have s:UpI σ i (p.ia 0 l.fm) f:=k.jv rfl rfl rfl k.rd rfl λx j=>.inl j;generalize p.ia 0 l.fm=K at y s ⊢;simp only;split
  .exact⟨f,s,y⟩
  .rename_i hc
   have A:K.leads=true:=by cases hh:K.leads with|true=>rfl|false=>exact absurd (.inl hh) hc
   have t:l.fv=K.av.fv:=mh.1 λe=>hc (.inr (.inl e));have z:K.av.fv≠Be:=(mN A).1;rw[t]at w o
   have F:=(s.rd.fv.resolve_left z).2;rw[F,mM]at o
   have n:=s.rd.qQ w o;exact⟨f,Q6 (p:={ K with av:={ K.av.qQ l.src l.ic with bu:=upN K.av.bu l.src l.fm.length } }) (s.jv rfl rfl rfl ⟨n.fv,n.next,n.own,n.al,n.prom,n.acc⟩ rfl λx j=>.inl j) y⟩
 .exact⟨f,k.jv rfl rfl rfl k.rd rfl λx j=>.inl j,c⟩
 .rename_i hk
  rcases k.tp.bN l.bN with⟨e,he⟩|⟨e,he,b,hp,ht,hm,hpb,d,a,hq⟩
  .rw[if_pos e];exact⟨f,k.ew _ _,by rw[Ox];exact c⟩
  .rw[if_neg (λg=>g e)];have m:=Ap he;refine⟨b,?_,?_⟩
   .refine k.wrote (q:=(p.bN l.bN).1) (r:=(p.bN l.bN).1.av) (.refl σ) C rfl ht hp (λv B=>((hm v).1 B).elim (λe=>by rw[e];exact u.k3 hk) (k.rj v)) ?_ ?_ ?_ ((hm _).2 (.inl rfl)) (by rw[hq];rfl)
    .rw[hq];exact k.rd
    .rw[hq];exact mf _
    .rw[ht.vo,hpb,hq];exact mC k.bp (Bp m.2.1.2.1.pr m.1.1 m.2.2)
   .show AgL σ (p.bN l.bN).1.ae 0;rw[hq];exact c
 .rename_i hk
  exact⟨f,k.count c (u.k4 hk)⟩
 .rename_i hk
  split
  .exact⟨f,k.wait trivial,c⟩
  .rename_i hlt;exact⟨f,k.jv rfl rfl rfl k.rd rfl λx j=>.inl j,Q7 c (u.k5 hk) (by omega)⟩
 .have:=FC k l.fm;simp only;split
  .exact⟨f,this.1.wait trivial,by show AgL σ (p.dT l.fm).ae 0;rw[this.2];exact c⟩
  .exact⟨f,this.1,by rw[this.2];exact c⟩
 .exact⟨f,k,c⟩
theorem Wr(W:GsI σ){i:Nat}{p:Nod}(h:RdI σ i p.av)(X:Ab p.av.fv)(Y:p.av.qD=true){s:Nat}(hs:p.av.next<=s){c:Cmd}(t:p.mv s=some c):Ez σ.H σ.P s p.av.fv.key c:=by
 have h5:5<2*Jp p.av.nn:=mN Y;have m:∀ j,j<5->∀ v∈(p.av.al j).vs,v.bn=(s:Int)->v∈Ae (p.av.gC.map (·.vs)).flatten (s:Int):=λj F v M e=>by
  refine AL.2 ⟨nT.2 ⟨(p.av.al j).vs,mB.2 ⟨p.av.al j,?_,rfl⟩,M⟩,e⟩;unfold Rnd.gC;rcases qk F with rfl|rfl|rfl|rfl|rfl<;>simp
 refine⟨p.av.nn,by omega,λq n o=>(h.prom q n o).1,?_⟩;unfold Nod.mv at t;split at t
 .cases t
 .rename_i d
  have d:=mh.1 d;have D:DZ (p.av.gC.map (·.vs)) (s:Int)=(Eh (p.av.gC.map (·.vs)) (s:Int)).isSome:=if_pos d;have S:G1 (p.av.gC.map (·.vs)) (s:Int)=((Eh (p.av.gC.map (·.vs)) (s:Int)).map (·.w)).getD ⟨0,0,0,0,0⟩:=if_pos d;have r:∀ l∈p.av.gC.map (·.vs),∀ v∈l,Ah v:=by
   unfold BY at d;split at d
   .cases d
   .split at d
    .assumption
    .cases d
  have L:∀ v∈Ae (p.av.gC.map (·.vs)).flatten (s:Int),Ao v.b:=λv M=>by
   obtain⟨l,k,f⟩:=nT.1 (AL.1 M).1;exact(r l k v f).2.1.pr
  rcases Lc _ L with⟨h0,E⟩|⟨x,E,hx,hmax⟩
  .left;intro q n o U V ⟨v,g,R,Z,k3⟩;refine Int.not_lt.1 λz=>?_;obtain⟨u,k,f,_⟩:=(h.prom q n o).2 v g (by omega);have:=m q n u k (f.trans R);rw[h0]at this;cases this
  .right;have E:Eh (p.av.gC.map (·.vs)) (s:Int)=some x:=E;rw[E]at D S
   have D:DZ (p.av.gC.map (·.vs)) (s:Int)=true:=D;rw[if_pos D]at t
   have G:c=x.w:=(mT t).symm.trans S;obtain⟨O,Q⟩:=AL.1 hx;obtain⟨j,F,N⟩:∃ j,j<5/\x∈(p.av.al j).vs:=by
    obtain⟨l,k,f⟩:=nT.1 O;obtain⟨a,C,rfl⟩:=mB.1 k;unfold Rnd.gC at C;simp only[mp,O',or_false]at C;rcases C with rfl|rfl|rfl|rfl|rfl
    .exact⟨0,by omega,f⟩
    .exact⟨1,by omega,f⟩
    .exact⟨2,by omega,f⟩
    .exact⟨3,by omega,f⟩
    .exact⟨4,by omega,f⟩
   obtain⟨y,I,J⟩:=h.al j F x N;have B:=W.hv j x y;have A:x.b≠p.av.fv:=λe=>by
    have k:=B.2;rw[e]at k
    have:=h.next _ _ k;omega
   have z:x.b.key<p.av.fv.key:=by
    rcases Int.lt_or_eq_of_le I with g|g
    .exact g
    .exact absurd (DN B.1.2.1.pr X.pr g) A
   have K:p.av.nn j=true:=by
    cases hh:p.av.nn j with
    | true=>rfl
    | false=>exact absurd (J hh) A
   refine⟨x.b.key,z,⟨j,F,K,x,y,Q,rfl,G.symm⟩,λq n o U V ⟨v,g,R,Z,k3⟩ T=>?_⟩;obtain⟨u,k,f,C⟩:=(h.prom q n o).2 v g (by omega);have:=hmax u (m q n u k (f.trans R));omega
def Gs.prop(σ:Gs)(b:Bal)(s:Nat)(c:Cmd):Gs:=⟨σ.dr,λb' s' c'=>σ.W b' s' c'\/(b'=b/\s'=s/\c'=c)⟩
theorem GsI.prop(h:GsI σ){b:Bal}{s:Nat}{c:Cmd}(e:Ab b)(d:Ez σ.H σ.P s b.key c)(f:b.key<=σ.P b.n.toNat)(a:∀ c',¬ σ.W b s c'):GsI (σ.prop b s c):=by
 refine⟨h.ok,h.rY,?_,?_,?_,λn v g=>⟨(h.hv n v g).1,.inl (h.hv n v g).2⟩⟩
 .rintro b' s' c1 c2 (g|⟨rfl,rfl,rfl⟩) (k|⟨e1,e2,e3⟩)
  .exact h.w1 _ _ _ _ g k
  .subst e1 e2;exact absurd g (a _)
  .exact absurd k (a _)
  .exact e3.symm
 .rintro b' s' c' (g|⟨rfl,rfl,rfl⟩)
  .exact h.w2 _ _ _ g
  .exact⟨e,d⟩
 .rintro b' s' c' (g|⟨rfl,rfl,rfl⟩)
  .exact h.w3 _ _ _ g
  .exact f
theorem NdI.cl(x:GsI σ){i:Nat}{p:Nod}(h:NdI σ i p)(E:p.up=true):∃ τ ex,Gs.sf i σ τ/\GsI τ/\NdI τ i p.cl/\(∀ b s c,τ.W b s c->σ.W b s c\/ex=some (b,s))/\∀ b s,ex=some (b,s)->s<40/\b=p.av.fv/\s=p.ae.length/\∀ c,τ.W b s c->p.mv s=some c:=by
 obtain⟨rs,k⟩:=h.up E;have f:∃ τ ex,Gs.sf i σ τ/\GsI τ/\NdI τ i p/\(∀ b s c,τ.W b s c->σ.W b s c\/ex=some (b,s))/\∀ b s,ex=some (b,s)->s<40/\b=p.av.fv/\s=p.ae.length/\∀ c,τ.W b s c->p.mv s=some c:=⟨σ,none,.refl i σ,x,h,λ_ _ _ h=>.inl h,λ_ _ e=>by cases e⟩;have o:=(ED p).trans E
 revert o
 unfold Nod.cl;split
 .exact λ_=>f
 .rename_i hc
  have z:p.leads=true:=by cases hh:p.leads with|true=>rfl|false=>exact absurd (.inl hh) hc
  have n:p.av.qD=true:=by cases hh:p.av.qD with|true=>rfl|false=>exact absurd (.inr (.inl hh)) hc
  have A:p.av.next<=p.ae.length:=Nat.not_lt.1 λe=>hc (.inr (.inr e));cases hn:p.mv p.ae.length with
  | none=>exact λ_=>f
  | some c =>
   simp only;rcases k.tp.bN ⟨(p.ae.length:Int),p.av.fv,c⟩with⟨e,he⟩|⟨e,he,rs',hp,ht,hm,hpb,d,a,w⟩
   .rw[if_pos e];exact λ_=>f
   .rw[if_neg (λg=>g e)];intro o;have F:=Ap he;have y:p.av.fv≠Be:=(mN z).1;obtain⟨D,t⟩:=k.rd.fv.resolve_left y;have H:=Wr x k.rd D n A hn;have C:∀ l,¬ σ.W p.av.fv p.ae.length l:=λl g=>by have:=k.rd.next _ _ g;omega
    have I:p.av.fv.key<=σ.P i:=by
     obtain⟨q,w,G,_⟩:=Gy p.av.nn p.av.nn (by have:5<2*Jp p.av.nn:=mN n;omega) (by have:5<2*Jp p.av.nn:=mN n;omega);exact k.rd.own q w G
    have m:=x.prop D H (by rw[t,mM];exact I) C;have j:Gs.sf i σ (σ.prop p.av.fv p.ae.length c):=⟨⟨λ_=>mi _,λ_ _ _ g=>.inl g⟩,λb s l g=>g.imp id λe=>by rw[e.1];exact t,λ_ _=>rfl⟩;have B:(σ.prop p.av.fv p.ae.length c).rj ⟨(p.ae.length:Int),p.av.fv,c⟩:=⟨F.2.1,.inr ⟨rfl,mM _,rfl⟩⟩;have K:=k.rd.mono (τ:=σ.prop p.av.fv p.ae.length c) (r:=p.av) j.le m;refine⟨_,some (p.av.fv,p.ae.length),j,m,NdI.mk' (rs:=rs') o ?_ ?_,λb s l g=>g.imp id λe=>by rw[e.1,e.2.1],λb s e=>?_⟩
    .refine k.wrote (q:=(p.bN ⟨(p.ae.length:Int),p.av.fv,c⟩).1) (r:={ p.av with next:=p.ae.length+1 }) j.le m rfl ht hp (λv J=>((hm v).1 J).elim (λe=>by rw[e];exact B) λg=>j.le.rj (k.rj v g)) ?_ (mf _) ?_ ((hm _).2 (.inl rfl)) (by rw[w];rfl)
     .have g:=k.rd;refine RdI.mono (σ:=σ) j.le m (r:={ p.av with next:=p.ae.length+1 }) ⟨g.fv,λs l u=>Z' (g.next s l u) (by show p.av.next<=p.ae.length+1;omega),g.own,g.al,g.prom,g.acc⟩ λs l u=>?_;rcases u with u|⟨_,rfl,_⟩
      .exact Z' (g.next s l u) (by show p.av.next<=p.ae.length+1;omega)
      .exact Nat.lt_succ_self _
     .rw[ht.vo,hpb];exact mf _
    .show AgL _ (p.bN ⟨(p.ae.length:Int),p.av.fv,c⟩).1.ae 0;rw[w];exact h.ag.mono j.le
    .cases e;have:=F.2.1.1.2;exact⟨by simp only at this;omega,rfl,rfl,λl g=>by
      rcases g with g|⟨_,_,g⟩
      .exact absurd g (C l)
      .rw[g];exact hn⟩
theorem LtI.none(h:l.kind=6):LtI σ l:=⟨λe=>by omega,λe=>by omega,λe=>by omega,λe=>by omega,λe=>by omega,λe=>by omega⟩
theorem LtI.news(h:l.kind=5)(a:AgL σ l.fm l.bn):LtI σ l:=⟨λe=>by omega,λe=>by omega,λe=>by omega,λe=>by omega,λe=>by omega,λ_=>a⟩
theorem NdI.run(C:GsI σ){i:Nat}(H:i<5){p:Nod}(h:NdI σ i p)(j:p.up=true){q:Pend}{l:List Pend}(A:p.br=q::l)(E:¬ p.sy<(p.d.length:Int)):NdI σ i { p.hZ i q with br:=l }/\∀ m∈p.pd i q,LtI σ m:=by
 obtain⟨B,k⟩:=h.up j;have f:=k.tp.all E;have c:=k.pe q (by rw[A];exact M');have t:∀ x∈l,x∈p.br:=λx u=>by rw[A];exact I' _ u
 have o:∀ {p':Nod},UpI σ i p' B->p'.br=p.br->UpI σ i { p' with br:=l } B:=λ{p'} g e=>g.jv rfl rfl rfl g.rd rfl λx u=>.inl (by rw[e];exact t x u);cases q with
 | began b vs =>
  unfold Nod.hZ Nod.pd;simp only;split
  .exact⟨NdI.mk' j (o k rfl) h.ag,λm a=>by cases a⟩
  .rename_i e
   have e:=mh.1 e;obtain⟨w,G⟩:=c;have r:=k.tp.ok.acc;rw[<- k.tp.vo]at r
   have z:=k.bp;have y:p.av.fv=b:=by
    rw[<- e];refine DN ?_ r.1 (by rw[e]at z ⊢;omega);rcases k.rd.fv with g|g
    .rw[g];exact .inr ⟨rfl,rfl⟩
    .exact g.1.pr
   have s:b.key<=σ.P i:=by have:=w.le;rw[<- f]at this;exact this
   rw[<- f,<- y]at w
   rw[<- y]at s
   refine⟨NdI.mk' j (o (p':={ p with av:=p.av.qQ i vs }) (k.jv rfl rfl rfl (k.rd.qQ w s) rfl λx u=>.inl u) rfl) h.ag,λm a=>?_⟩;obtain⟨to,_,rfl⟩:=CH a;refine⟨λ_=>?_,λe=>(by cases e),λe=>(by cases e),λe=>(by cases e),λe=>(by cases e),λe=>(by cases e)⟩;show b.key<=σ.P b.n.toNat;rw[<- y];rcases k.rd.fv with g|g
   .rw[g];have F:=(C.ok (Be.n.toNat)).acc.1;have:0<=σ.P (Be.n.toNat):=by
     unfold Ao Ab at F;unfold Gs.P Bal.key;omega
    exact this
   .rw[g.2,mM];exact s
 | prom to b vs =>
  refine⟨NdI.mk' j (o k rfl) h.ag,λm a=>?_⟩;rw[D'.1 a];refine⟨λe=>(by cases e),λ_=>⟨?_,c.2,h.ag⟩,λe=>(by cases e),λe=>(by cases e),λe=>(by cases e),λe=>(by cases e)⟩;show PrmOk (σ.dr i) b vs;rw[f];exact c.1
 | voted to v =>
  refine⟨NdI.mk' j (o k rfl) h.ag,λm a=>?_⟩;rw[D'.1 a];refine⟨λe=>(by cases e),λe=>(by cases e),λe=>(by cases e),λe=>(by cases e),λ_=>?_,λe=>(by cases e)⟩;show Rk.vt v∈σ.dr i;rw[f];exact c
 | ew to b =>
  refine⟨NdI.mk' j (o k rfl) h.ag,λm a=>?_⟩;rw[D'.1 a];refine⟨λe=>(by cases e),λe=>(by cases e),λ_=>?_,λe=>(by cases e),λe=>(by cases e),λe=>(by cases e)⟩;show Ao b/\b.key<=(B1 (σ.dr i)).p.key;rw[f];exact c
 | prop v =>
  have D:σ.held i v:=by show Rk.vt v∈σ.dr i;rw[f];exact c
  have g:=k.count h.ag D;refine⟨NdI.mk' ((congrArg Prod.fst (Lp p i v)).trans j) (o g.1 (DI p i (.prop v)).1) g.2,λm a=>?_⟩;obtain⟨to,_,rfl⟩:=CH a;exact⟨λe=>(by cases e),λe=>(by cases e),λe=>(by cases e),λ_=>k.rj v c,λe=>(by cases e),λe=>(by cases e)⟩
 | askNews to=>exact⟨NdI.mk' j (o k rfl) h.ag,λm a=>by rw[D'.1 a];exact LtI.none rfl⟩
 | start=>exact⟨NdI.mk' j (o k rfl) h.ag,λm a=>by obtain⟨to,_,rfl⟩:=CH a;exact LtI.none rfl⟩
 | tell to bn=>exact⟨NdI.mk' j (o k rfl) h.ag,λm a=>by rw[D'.1 a];exact LtI.news rfl (h.ag.drop bn)⟩
theorem NdI.lead(w:GsI σ){i:Nat}(E:i<5){p:Nod}(h:NdI σ i p)(y:p.up=true):NdI σ i (p.lead i):=by
 obtain⟨rs,k⟩:=h.up y;have f:(p.lead i).up=true:=(congrArg Prod.fst (Uz p i)).trans y
 revert f
 unfold Nod.lead;simp only;generalize m:(⟨max p.cF p.vo.p.r+1,(i:Int)⟩:Bal)=b;rcases k.tp.an b with⟨e,he⟩|⟨e,he,hvs,rs',hp,ht,hm,hpb,hpv,d,a,hq⟩
 .rw[if_pos e];exact λ_=>h
 .rw[if_neg (λg=>g e)];intro f;have A:=Co he;have C:p.vo.p.key<b.key:=by
   have:=A.1.1;rw[<- m];unfold Ao Ab at this;show 5*p.vo.p.r+p.vo.p.n<5*(max p.cF p.vo.p.r+1)+(i:Int);omega
  refine NdI.mk' (rs:=rs') f ?_ ?_
  .refine k.wrote (q:=(p.an b).1) (r:=⟨b,λ_=>false,λ_=>El,λ_=>p.ae.length,0,[]⟩) (.refl σ) w rfl ht hp (λv o=>k.rj v ((hm v).1 o)) ?_ ?_ ?_ ⟨PrmOk.of ht.ok hpb (hpv.trans hvs.symm),mf _⟩ (by rw[hq];rfl)
   .refine⟨.inr ⟨A.2.1,by rw[<- m]⟩,λs c B=>?_,λj _ e=>(by cases e),λj _ v o=>(by cases o),λj _ e=>(by cases e),λj _=>⟨KK,λe=>(by cases e)⟩⟩;have l:=w.w3 _ _ _ B;rw[show b.n.toNat=i by rw[<- m];exact mM i]at l
    obtain⟨x,z⟩:=k.tp.pre;have t:=k.tp.ok;rw[<- z]at t
    have u:=(DH t).1;rw[z,<- k.tp.vo]at u
    have D:σ.P i<=p.vo.p.key:=u;have l:b.key<=σ.P i:=l;omega
   .have:=k.bp;show _<=b.key;omega
   .rw[ht.vo,hpb];exact mf _
  .show AgL σ (p.an b).1.ae 0;rw[hq];exact h.ag
theorem JL(k:Nat):∀ m∈Ds p i k,m.kind=5/\m.fm=p.ae.drop m.bn:=by
 induction k with
 | zero=>intro m hm;cases hm
 | succ k ih =>
  intro m hm;rw[Ds]at hm
  rcases Q'.1 hm with hm|hm
  .exact ih m hm
  .split at hm
   .rw[D'.1 hm];exact⟨rfl,rfl⟩
   .cases hm
theorem AgI.sj(h:AgI σ M)(s:Stp D n M N):∃ τ ex,σ.le τ/\AgI τ N/\(∀ b s c,τ.W b s c->σ.W b s c\/ex=some (b,s))/\∀ b s,ex=some (b,s)->n=1/\s<40/\∃ i,i<5/\b=(M.ab i).av.fv/\(M.ab i).up=true/\s=(M.ab i).ae.length/\∀ c,τ.W b s c->(M.ab i).mv s=some c:=by
 have r:=h.gs;have done:∀ {i:Nat} {p:Nod} {G:List Let} {O:List Tol},NdI σ i p->(∀ l∈G,l∈M.bm\/LtI σ l)->∃ τ ex,σ.le τ/\AgI τ (M.set i p G O)/\(∀ b s c,τ.W b s c->σ.W b s c\/ex=some (b,s))/\∀ b s,ex=some (b,s)->n=1/\s<40/\∃ i,i<5/\b=(M.ab i).av.fv/\(M.ab i).up=true/\s=(M.ab i).ae.length/\∀ c,τ.W b s c->(M.ab i).mv s=some c:=λ{i p G O} E f=>⟨σ,none,.refl σ,h.set (.refl _ σ) r E f O,λ_ _ _ h=>.inl h,λ_ _ e=>by cases e⟩;have same:∀ l∈M.bm,l∈M.bm\/LtI σ l:=λl f=>.inl f;have app:∀ {ms:List Let},(∀ m∈ms,LtI σ m)->∀ l∈M.bm++ms,l∈M.bm\/LtI σ l:=λg l f=>(Q'.1 f).imp id (g l);cases s with
 | take _ l f hd hu _=>exact done ((h.nd _ hd.2).take r hu (h.lt l f) hd.1) same
 | bm _ G f _=>exact⟨σ,none,.refl σ,⟨r,h.nd,λl g=>h.lt l (f l g)⟩,λ_ _ _ h=>.inl h,λ_ _ e=>by cases e⟩
 | one _ i c hi hu hc he =>
  refine done ?_ same;obtain⟨rs,k⟩:=(h.nd i hi).up hu;have Q:=Eb { M.ab i with ie:=doS (M.ab i).ie c,done:=(M.ab i).done+1 } c;refine NdI.mk' (Q.1.trans hu) (rs:=rs) ?_ (by rw[Q.2.1];exact(h.nd i hi).ag);unfold Nod.fu;split<;>exact k.jv rfl rfl rfl k.rd rfl λx a=>.inl a
 | ask _ i hi hu =>
  obtain⟨rs,k⟩:=(h.nd i hi).up hu;have z:=(h.nd i hi).ag;have C:=(Is (M.ab i) i).trans hu;generalize E:M.ab i=p at k z C ⊢;refine done (NdI.mk' (rs:=rs) C ?_ ?_) (app ?_)
  .unfold Nod.hU;split
   .exact k.jv rfl rfl rfl k.rd rfl λx a=>.inl a
   .split
    .exact(FC (p:={ p with bw:=(Bb p.vo.p p.bw (p.au.take 40)).2 }) (k.jv rfl rfl rfl k.rd rfl λx a=>.inl a) _).1
    .exact k.jv rfl rfl rfl k.rd rfl λx a=>.inl a
  .unfold Nod.hU;split
   .exact z
   .split
    .show AgL σ (Nod.dT _ _).ae 0;rw[(FC (p:={ p with bw:=(Bb p.vo.p p.bw (p.au.take 40)).2 }) (k.jv rfl rfl rfl k.rd rfl λx a=>.inl a) _).2];exact z
    .exact z
  .intro m u;unfold Nod.hU at u;split at u
   .cases u
   .split at u
    .cases u
    .rw[D'.1 u];exact LtI.none rfl
 | prop _ i hi hu =>
  obtain⟨τ,ex,o,w,V,X,H⟩:=(h.nd i hi).cl r hu;exact⟨τ,ex,o.le,h.set o w V (λl f=>.inl f) _,X,λb s e=>⟨rfl,(H b s e).1,i,hi,(H b s e).2.1,hu,(H b s e).2.2⟩⟩
 | qJ _ i hi hu hlt I =>
  obtain⟨rs,k⟩:=(h.nd i hi).up hu;obtain⟨x,a⟩:=k.tp.pre;have w:=r.ext (i:=i) x (by rw[a];exact k.tp.ok) λv t=>k.rj v (by rw[<- a];exact mj _ t);have o:=OZ σ i x;refine⟨σ.ext i x,none,o.le,h.set o w (NdI.mk' (p:={ M.ab i with sy:=((M.ab i).d.length:Int) }) (rs:=rs) hu ⟨?_,λv t=>o.le.rj (k.rj v t),k.rd.mono o.le w λs c J=>k.rd.next s c J,k.bp,λq F=>(k.pe q F).mono o.le w (mi _) k.tp.ok (mf _)⟩ ((h.nd i hi).ag.mono o.le)) (λl f=>.inl f) _,λ_ _ _ h=>.inl h,λ_ _ e=>by cases e⟩;rw[H7,a];exact k.tp.qJ
 | run _ i hi hu q l E hs =>
  have g:=(h.nd i hi).run r hi hu E hs;exact done g.1 (app g.2)
 | qA _ i hi hu hL =>
  obtain⟨rs,k⟩:=(h.nd i hi).up hu;refine done (NdI.mk' (rs:=rs) hu (k.jv rfl rfl rfl ⟨k.rd.fv,k.rd.next,k.rd.own,k.rd.al,k.rd.prom,k.rd.acc⟩ rfl λx a=>.inl a) (h.nd i hi).ag) (app λm u=>?_);obtain⟨T,U⟩:=JL 5 m u;exact LtI.news T (by rw[U];exact(h.nd i hi).ag.drop _)
 | lead _ i hi hu _=>exact done ((h.nd i hi).lead r hi hu) same
 | sub _ i d hi hu P =>
  obtain⟨rs,k⟩:=(h.nd i hi).up hu;have z:=(h.nd i hi).ag;refine done ?_ same;unfold Nod.qK Nod.qY;split
  .exact h.nd i hi
  .split
   .exact NdI.mk' (rs:=rs) hu (k.jv rfl rfl rfl k.rd rfl λx a=>.inl a) z
   .split
    .exact h.nd i hi
    .show NdI σ i (Nod.want _ _);unfold Nod.want;split
     .exact h.nd i hi
     .exact NdI.mk' (rs:=rs) hu (k.jv rfl rfl rfl k.rd rfl λx a=>.inl a) z
 | ib _ i c hi hu hc _ =>
  obtain⟨rs,k⟩:=(h.nd i hi).up hu;obtain⟨S,⟨x,a⟩,⟨y,R⟩,P⟩:=k.tp.ib hc;have w:=r.ext (i:=i) x (k.tp.ok.pre ⟨y,by rw[a];exact R⟩) λv t=>k.rj v (by rw[<- R,<- a];exact mn _ (mj _ t));have o:=OZ σ i x;have A:=Ix (p:=M.ab i) k.tp.rG hc;exact⟨σ.ext i x,none,o.le,h.set o w ⟨λe=>(by rw[A.2.1]at e;cases e),λ_=>(by rw[H7,a];exact P),by rw[A.2.2.2];exact AgL.nil _ _⟩ (λl f=>.inl f) _,λ_ _ _ h=>.inl h,λ_ _ e=>by cases e⟩
 | start _ i hi hu _ =>
  have k:=(h.nd i hi).dn hu;have I:AR (M.ab i).d (M.ab i).sy:=⟨k.len,by rw[k.sy];omega,by rw[k.sy];omega⟩;have B:=GD (p:=M.ab i) I;have L:=k.start;have K:(M.ab i).start.av=eh/\(M.ab i).start.br=[.start]:=by
   unfold Nod.start;rw[if_neg (λe=>e (if_pos I))];split<;>exact⟨rfl,rfl⟩
  refine done (NdI.mk' (rs:=σ.dr i) B.2.1 ⟨L,λv t=>r.hv i v t,?_,?_,λq F=>?_⟩ (by rw[B.2.2.2];exact AgL.nil _ _)) same
  .rw[K.1];exact⟨.inl rfl,λs c J=>absurd (r.w2 _ _ _ J).1 (by decide),λj _ e=>(by cases e),λj _ v t=>(by cases t),λj _ e=>(by cases e),λj _=>⟨KK,λe=>(by cases e)⟩⟩
  .rw[K.1,L.vo];have Y:=L.ok.acc.1;show(0:Int)<=_;unfold Ao Ab at Y;unfold Bal.key;omega
  .rw[K.2]at F
   rw[D'.1 F];trivial
theorem AgI.step(h:AgI σ M)(s:Stp D n M N):∃ τ ex,σ.le τ/\AgI τ N/\(∀ b s c,τ.W b s c->σ.W b s c\/ex=some (b,s))/\∀ b s,ex=some (b,s)->n=1/\s<40/\∃ i,i<5/\b=(M.ab i).av.fv:=by
 obtain⟨τ,ex,a,d,f,g⟩:=h.sj s;exact⟨τ,ex,a,d,f,λb s e=>by
  obtain⟨j,k,i,l,m,_⟩:=g b s e;exact⟨j,k,i,l,m⟩⟩
theorem AgI.zero:AgI ⟨λ_=>[],λ_ _ _=>False⟩ As :=
 ⟨⟨λ_=>AQ.nil,⟨λn s b c ⟨v,g,_⟩=>(by cases g),λn k s b c h ⟨v,g,_⟩=>(by cases g),λn s b c ⟨v,g,_⟩=>(by cases g)⟩,λ_ _ _ _ g=>g.elim,λ_ _ _ g=>g.elim,λ_ _ _ g=>g.elim,λn v g=>(by cases g)⟩,
  λi _=>NdI.mk' (rs:=[]) rfl ⟨TpU.zero,λv g=>(by cases g),⟨.inl rfl,λ_ _ g=>g.elim,λj _ e=>(by cases e),λj _ v f=>(by cases f),λj _ e=>(by cases e),λj _=>⟨KK,λe=>(by cases e)⟩⟩,mf _,λq d=>(by cases d)⟩ (AgL.nil _ _),λl a=>by cases a⟩
end
end
section
open Go.RowKit
section
variable{P:Program}{fn:Func}{R:Ending->World->Prop}{w0:World}{Φ:List Fa}{g:Gh}{w:World}
def jB(g:Gh)(r b k:Nat):Gh:=⟨λc=>if c=b then .n 60 r else g.t c,λc=>if c=b then k else g.k c⟩
theorem lV{s:Xs}(i r b I n:Nat)(o:List Value)(e:TypeId){v:Bool}(Ψ:List Fa)(E:∀ g',(∀ c,g.t c=.z->g'.t c=.z)->AllF g w Φ->AllF g' w Ψ)
  (M:∀ g',GT P fn R w0 (Fa.ow r e I ⟨some ⟨b,0,none⟩,n,n⟩ o::Ψ) ⟨s.K,s.f,s.L.eraseIdx i⟩ g' w)
  (D:o.length=n*I)(N:n<=maxLen)(H:s.L[i]?=some ⟨b,.cells o.toArray e,.l,v⟩:=by kernel_rfl):GT P fn R w0 Φ s g w:=by
 refine⟨λF C=>⟨λm=>?_⟩⟩;obtain⟨G,J,B,S⟩:=m.row _ (mD H);have B:w0.heap.size<=b:=B rfl;have T:b<w.heap.size:=rl G;have Q:∀ c,g.t c=.z->(jB g r b o.length).t c=.z:=λc h=>by
  show(if c=b then _ else _)=_;rw[if_neg (λe=>by rw[e,J]at h;cases h)];exact h
 have ne:∀ c,c<w0.heap.size->c≠b:=λc h e=>by subst e;exact absurd B (by omega)
 refine((M (jB g r b o.length)).ex ⟨⟨D,.inr ⟨b,o.toArray,rfl,G,A' _,N,by simpa using D,by simp[<- D],if_pos rfl,if_pos rfl⟩⟩,E _ Q F⟩ ⟨C.os,C.tape,C.output,C.size,λc h=>?_,λc h=>?_,λc h a d=>?_,C.same,λc h=>C.rp c h⟩).ex ⟨λx O=>?_,?_,λc h=>?_,m.base⟩
 .show(if c=b then _ else _)=_\/_/\_/\(if c=b then _ else _)=_;rw[if_neg (ne c h)];exact C.rE c h
 .show _<=(if c=b then _ else _);rw[if_neg (ne c h)];exact C.ry c h
 .show(if c=b then _ else _)=_;rw[if_neg (ne c h)];exact C.rV c h a d
 .obtain⟨j,hj,hx2⟩:=List.mem_eraseIdx_iff_getElem?.1 O;have A:x.g≠b:=λe=>by
   obtain⟨u,y⟩:=V'.1 hx2;obtain⟨p,k⟩:=V'.1 H;rcases Nat.lt_or_gt_of_ne hj with q|q
   .have:=(m8.1 m.rH j i u p q (by rw[y,k];exact e)).2.1;rw[k]at this;cases this
   .have:=(m8.1 m.rH i j p u q (by rw[y,k];exact e.symm)).1.1;rw[k]at this;cases this
  have:=m.row x (mD hx2);show _/\(if _ then _ else _)=_/\_/\(_->(if _ then _ else _)=_);rw[if_neg A,if_neg A];exact this
 .exact m.rH.sublist (List.eraseIdx_sublist _ _)
 .show(if _ then _ else _)=_/\(if _ then _ else _)=_;have e:c≠b:=by omega
  rw[if_neg e,if_neg e];exact m.new c h
end
theorem FSl.og{g b:Gh}{w:World}{x:S3}{l:List Int}(h:FSl g w x l)(f:∀ c,g.t c=.z->b.t c=.z):FSl b w x l:=⟨h.s,λe a d=>f _ (h.z e a d)⟩
end
section
section
theorem KO{α:Type}[DecidableEq α]{l m:List α}(f:l.Nodup)(h:∀ x∈l,x∈m):l.length<=m.length:=by
 induction l generalizing m with
 | nil=>exact mL _
 | cons x l ih =>
  obtain⟨c,d⟩:=oz.1 f;have a:=h x M';have:=ih d (m:=m.erase x) λy b=>(List.mem_erase_of_ne (λe=>c (by rw[<- e];exact b))).2 (h y (I' _ b));rw[List.length_erase_of_mem a]at this
  have:=List.length_pos_of_mem a;rw[mJ];omega
def prc:List Rk->Nat
 | []=>0
 | .pr _::l=>prc l+1
 | .vt _::l=>prc l
def vts:List Rk->List Vt
 | []=>[]
 | .pr _::l=>vts l
 | .vt v::l=>v::vts l
theorem dO(l m:List Rk):prc (l++m)=prc l+prc m:=by
 induction l with
 | nil=>simp[prc]
 | cons r l ih=>cases r<;>simp[prc,ih];omega
theorem fd(l m:List Rk):vts (l++m)=vts l++vts m:=by
 induction l with
 | nil=>rfl
 | cons r l ih=>cases r<;>simp[vts,ih]
theorem Vc{l:List Rk}{v:Vt}:v∈vts l↔Rk.vt v∈l:=by
 induction l with
 | nil=>simp[vts]
 | cons r l ih=>cases r<;>simp[vts,ih]
theorem cK(a:List Rk):(fl a).length=14*prc a+38*(vts a).length:=by
 induction a with
 | nil=>rfl
 | cons r l ih =>
  have e:fl (r::l)=AN r.body++fl l:=rfl;rw[e,E',Bg,ih];cases r with
  | pr b=>show(Bu b).length+5+_=14*(prc l+1)+38*(vts l).length;rw[Kf];omega
  | vt v=>show(Bk v).length+5+_=14*prc l+38*((vts l).length+1);rw[GM];omega
variable{K R:Int}{M N:Meet}{b:Bal}{c i j:Nat}{p:Nod}{q:Pend}{rs:List Rk}{σ:Gs}
theorem i5(h:AQ rs):(prc rs:Int)<=(B1 rs).p.key:=h.ind (P:=λrs=>(prc rs:Int)<=(B1 rs).p.key) (by decide) λrs r f a g=>by
 have c:=Rk.rO f.acc a.err;rw[dO,BU];cases r with
 | pr b =>
  have d:=Co a.1;have:(B1 rs).p.key≠b.key:=λe=>a.2 (DN d.1.1 d.2.1.pr e);have c:(B1 rs).p.key<=b.key:=c;show((prc rs+1:Nat):Int)<=b.key;omega
 | vt v=>show((prc rs+0:Nat):Int)<=_;exact mC (by omega) c
theorem Xe(s:GsI σ){a:List Rk}(h:AQ a)(c:∀ v,Rk.vt v∈a->σ.rj v):(vts a).Nodup:=by
 revert c
 refine h.ind (P:=λa=>(∀ v,Rk.vt v∈a->σ.rj v)->(vts a).Nodup) (λ_=>nM) λa r i m j c=>?_;have j:=j λv g=>c v (mn _ g);rw[fd];cases r with
 | pr b=>show(vts a++[]).Nodup;rw[mI];exact j
 | vt v =>
  show(vts a++[v]).Nodup;refine ou.2 ⟨j,oz.2 ⟨O',nM⟩,λx z y A e=>?_⟩;rw[D'.1 A]at e
  subst e;obtain⟨B,u,f,l,C⟩:=Rh i x (Vc.1 z);have p:=Ap m.1;have w:=i.acc.le f;have t:=Bp p.2.1.2.1.pr i.acc.1 p.2.2;have n:=c u (mn _ (IQ i u f));have d:=c x (mj _ M');have k:u.b=x.b:=DN n.1.2.1.pr d.1.2.1.pr (by omega);have o:=n.2;rw[k,l]at o
  have q:=s.w1 _ _ _ _ o d.2;have:u=x:=(Vt.eq_iff u x).1 ⟨l,k,q⟩;rw[this]at f
  exact m.2 f
theorem fe(r:GsI σ){d:List Rk}(h:AQ d)(i:∀ v,Rk.vt v∈d->σ.rj v){a:List (Bal × Nat)}(B:∀ b s c,σ.W b s c->(b,s)∈a):(vts d).length<=a.length:=by
 have t:=Xe r h i;have j:∀ v∈vts d,σ.rj v:=λv g=>i v (Vc.1 g);have:((vts d).map λv=>(v.b,v.bn.toNat)).Nodup:=by
  clear h i;generalize vts d=q at t j ⊢;induction q with
  | nil=>exact nM
  | cons v l ih =>
   obtain⟨z,A⟩:=oz.1 t;refine oz.2 ⟨λg=>?_,ih A λu f=>j u (I' _ f)⟩;obtain⟨u,f,e⟩:=mB.1 g;have n:=j u (I' _ f);have o:=j v M';have k:u.b=v.b:=congrArg Prod.fst e;have w:u.bn.toNat=v.bn.toNat:=congrArg Prod.snd e;have p:=n.2;rw[k,w]at p
   have y:=r.w1 _ _ _ _ p o.2;have:u=v:=(Vt.eq_iff u v).1 ⟨by have:=n.1.1;have:=o.1.1;omega,k,y⟩;rw[this]at f;exact z f
 have:=KO this (m:=a) λx C=>by
  obtain⟨v,i,rfl⟩:=mB.1 C;exact B _ _ _ (j v i).2
 rwa [mF]at this
theorem aS(h:AgI σ M){a:List (Bal × Nat)}(e:∀ b s c,σ.W b s c->(b,s)∈a){j:Nat}(f:j<5)(g:(M.ab j).up=true):((M.ab j).d.length:Int)<=14*(M.ab j).vo.p.key+38*(a.length:Int):=by
 obtain⟨m,k⟩:=(h.nd j f).up g;have i:=fe h.gs k.tp.ok k.rj e;have l:=i5 k.tp.ok;rw[k.tp.d,cK,k.tp.vo];omega
def Nod.pk(p:Nod):Int:=if p.up then p.vo.p.key else(Er p.d).2.p.key
def KbI(K R:Int)(M:Meet):Prop:=∀ j,j<5->(M.ab j).pk<=K/\5*(M.ab j).cF<=R
theorem NdI.rI(h:NdI σ j p):σ.P j<=p.pk:=by
 unfold Nod.pk;split
 .rename_i hu
  obtain⟨c,k⟩:=h.up hu;obtain⟨x,b⟩:=k.tp.pre;have a:=k.tp.ok;rw[<- b]at a
  have:=(DH a).1;rw[b,<- k.tp.vo]at this
  exact this
 .rename_i hu
  rw[(h.dn (by simpa using hu)).se];exact mf _
theorem AgI.rI(h:AgI σ M){K R:Int}(c:KbI K R M){b:Bal}(d:Ab b)(e:b.key<=σ.P b.n.toNat):b.key<=K:=by
 have a:b.n.toNat<5:=by unfold Ab at d;omega
 exact mC e (mC (h.nd _ a).rI (c _ a).1)
theorem Y9(h:Ao b):5*b.r<=b.key:=by unfold Ao Ab at h;unfold Bal.key;omega
theorem KbI.set(h:KbI K R M){i:Nat}{p:Nod}(b:p.pk<=K/\5*p.cF<=R)(ls:List Let)(ts:List Tol):KbI K R (M.set i p ls ts):=λj a=>by
 show(upN M.ab i p j).pk<=K/\5*(upN M.ab i p j).cF<=R;unfold upN;split
 .exact b
 .exact h j a
theorem KbI.step{D:Wh}(P:¬ D.ld){n:Nat}{σ:Gs}{M N:Meet}(h:AgI σ M)(s:Stp D n M N){K R:Int}(Q:K<=R)(m:KbI K R M):KbI K R N:=by
 have jv:∀ {i:Nat} {p:Nod},i<5->(M.ab i).up=true->p.up=true->p.vo.p.key<=(M.ab i).vo.p.key\/p.vo.p.key<=K->p.cF=(M.ab i).cF->p.pk<=K/\5*p.cF<=R:=λ{i p} j f z S A=>by
  have o:=m i j;unfold Nod.pk at o ⊢;rw[if_pos f]at o
  rw[if_pos z,A];exact⟨S.elim (λg=>mC g o.1) id,o.2⟩
 cases s with
 | take _ l hl hd f _ =>
  have w:=h.lt l hl;obtain⟨O,k⟩:=(h.nd _ hd.2).up f;have b:=(congrArg Prod.fst (PD (M.ab l.dst) l)).trans f;refine m.set ?_ _ _
  revert b
  unfold Nod.take;split
  .rename_i u
   rcases k.tp.an l.fv with⟨e,he⟩|⟨e,he,hvs,rs',z,v,hm,hpb,hpv,d,a,hq⟩
   .rw[if_pos e];intro b;refine jv hd.2 f b (.inl ?_) ?_<;>(unfold Nod.ew;split)<;>first|exact mf _|rfl
   .rw[if_neg (λg=>g e)];intro b;refine jv hd.2 f b (.inr ?_) (by show((M.ab l.dst).an l.fv).1.cF=_;rw[hq];rfl);show((M.ab l.dst).an l.fv).1.vo.p.key<=K;rw[v.vo,hpb];exact h.rI m (Co he).2.1 (w.k0 u)
  .simp only;split<;>exact λb=>jv hd.2 f b (.inl (mf _)) rfl
  .rename_i u
   intro b;have o:=jv (p:=M.ab l.dst) hd.2 f f (.inl (mf _)) rfl;refine⟨o.1,?_⟩;have B:=mC (w.k2 u).2 (mC (h.nd _ hd.1).rI (m _ hd.1).1);have J:5*l.fv.r<=K:=mC (Y9 (w.k2 u).1) B;show 5*max (M.ab l.dst).cF l.fv.r<=R;have:=o.2;omega
  .rename_i u
   rcases k.tp.bN l.bN with⟨e,he⟩|⟨e,he,rs',z,v,hm,hpb,d,a,hq⟩
   .rw[if_pos e];intro b;refine jv hd.2 f b (.inl ?_) ?_<;>(unfold Nod.ew;split)<;>first|exact mf _|rfl
   .rw[if_neg (λg=>g e)];intro b;refine jv hd.2 f b (.inr ?_) (by show((M.ab l.dst).bN l.bN).1.cF=_;rw[hq];rfl);show((M.ab l.dst).bN l.bN).1.vo.p.key<=K;rw[v.vo,hpb];exact h.rI m (Ap he).2.1.2.1 (h.gs.w3 _ _ _ (w.k3 u).2)
  .unfold Nod.count;split
   .exact λb=>jv hd.2 f b (.inl (mf _)) rfl
   .split<;>exact λb=>jv hd.2 f b (.inl (mf _)) rfl
  .split<;>exact λb=>jv hd.2 f b (.inl (mf _)) rfl
  .simp only;unfold Nod.dT;split<;>split<;>exact λb=>jv hd.2 f b (.inl (mf _)) rfl
  .exact λb=>jv hd.2 f b (.inl (mf _)) rfl
 | bm _ ls hl _=>exact m
 | one _ i c j f hc he =>
  refine m.set (jv j f ((Eb { M.ab i with ie:=doS (M.ab i).ie c,done:=(M.ab i).done+1 } c).1.trans f) (.inl ?_) ?_) _ _<;>(unfold Nod.fu;split)<;>first|exact mf _|rfl
 | ask _ i j f =>
  refine m.set (jv j f ((Is _ i).trans f) (.inl ?_) ?_) _ _<;>(unfold Nod.hU;split)<;>first|exact mf _|rfl|(split<;>first|exact mf _|rfl|(unfold Nod.dT;split<;>first|exact mf _|rfl))
 | prop _ i j f =>
  refine m.set (jv j f ((ED _).trans f) (.inl ?_) ?_) _ _
  .obtain⟨O,k⟩:=(h.nd i j).up f;unfold Nod.cl;split
   .exact mf _
   .rename_i hc
    have G:(M.ab i).leads=true:=by cases hh:(M.ab i).leads with|true=>rfl|false=>exact absurd (.inl hh) hc
    cases hn:(M.ab i).mv (M.ab i).ae.length with
    | none=>exact mf _
    | some c =>
     simp only;rcases k.tp.bN ⟨((M.ab i).ae.length:Int),(M.ab i).av.fv,c⟩with⟨e,he⟩|⟨e,he,rs',z,v,hm,hpb,d,a,hq⟩
     .rw[if_pos e];exact mf _
     .rw[if_neg (λg=>g e)];show((M.ab i).bN _).1.vo.p.key<=_;rw[v.vo,hpb,(mN G).2];exact mf _
  .unfold Nod.cl;split
   .rfl
   .split
    .rfl
    .split
     .rfl
     .show((M.ab i).bN _).1.cF=_;unfold Nod.bN;split
      .rfl
      .split
       .rfl
       .split<;>rfl
 | qJ _ i j f hlt E=>exact m.set (jv (p:={ M.ab i with sy:=((M.ab i).d.length:Int) }) j f f (.inl (mf _)) rfl) _ _
 | run _ i j f q l z hs =>
  have u:=DI (M.ab i) i q;refine m.set (jv (p:={ (M.ab i).hZ i q with br:=l }) j f (u.2.1.trans f) (.inl ?_) ?_) _ _<;>(cases q<;>first|exact mf _|rfl|(simp only[Nod.hZ];split<;>first|exact mf _|rfl)|(simp only[Nod.hZ,Nod.count];split<;>first|exact mf _|rfl|(split<;>first|exact mf _|rfl)))
 | qA _ i j f w=>exact m.set (jv (p:=EH (M.ab i) i 5) j f f (.inl (mf _)) rfl) _ _
 | lead _ i j f w=>exact absurd w P
 | sub _ i d j f hd =>
  have b:((M.ab i).qK i d M.eb).1.up=true:=by
   unfold Nod.qK Nod.qY;split
   .exact f
   .split
    .exact f
    .split
     .exact f
     .show(Nod.want _ _).up=true;unfold Nod.want;split<;>exact f
  refine m.set (jv j f b (.inl ?_) ?_) _ _<;>(unfold Nod.qK Nod.qY;split)<;>first|exact mf _|rfl|(split<;>first|exact mf _|rfl|(split<;>first|exact mf _|rfl|(simp only[Nod.want];split<;>first|exact mf _|rfl)))
 | ib _ i c j f hc hC =>
  obtain⟨O,k⟩:=(h.nd i j).up f;obtain⟨x,_,⟨y,L⟩,C⟩:=k.tp.ib hc;have F:=Ix (p:=M.ab i) k.tp.rG hc;have A:((M.ab i).ib c).cF=0:=by
   unfold Nod.ib;rw[if_neg]
   .rfl
   .intro e;exact e (by unfold Gn;rw[if_neg (λe=>e k.tp.rG),if_neg (by omega)])
  have t:=(m i j).1;unfold Nod.pk at t;rw[if_pos f]at t
  have o:=k.tp.ok;rw[<- L]at o
  have B:=(DH o).1;rw[L,<- k.tp.vo]at B
  have I:=(AQ.left o).acc.1;have J:0<=(B1 x).p.key:=by unfold Ao Ab at I;unfold Bal.key;omega
  refine m.set ⟨?_,by rw[A];omega⟩ _ _;unfold Nod.pk;rw[if_neg (by rw[F.2.1];decide),C.se];show(B1 x).p.key<=K;omega
 | start _ i j f _ =>
  have k:=(h.nd i j).dn f;have v:=k.start;have E:AR (M.ab i).d (M.ab i).sy:=⟨k.len,by rw[k.sy];omega,by rw[k.sy];omega⟩;have H:=GD (p:=M.ab i) E;have A:(M.ab i).start.cF=0:=by
   unfold Nod.start;rw[if_neg (λe=>e (if_pos E))];split<;>rfl
  have t:=(m i j).1;unfold Nod.pk at t;rw[if_neg (by rw[f];decide),k.se]at t
  have t:(B1 (σ.dr i)).p.key<=K:=t;have I:=v.ok.acc.1;have J:0<=(B1 (σ.dr i)).p.key:=by unfold Ao Ab at I;unfold Bal.key;omega
  refine m.set ⟨?_,by rw[A];omega⟩ _ _;unfold Nod.pk;rw[if_pos H.2.1,v.vo];exact t
def wh1:Wh:=⟨λ_ _=>False,False,False,False,False,False⟩
def wh0:Wh:=⟨λ_ _=>False,False,False,False,True,False⟩
theorem Stp.calm(h:Stp wh1 c M N):Stp wh0 c M N:=by
 cases h with
 | take _ l hl hd hu ht=>exact .take M l hl hd hu trivial
 | bm _ ls h hd=>exact False.elim hd
 | one _ i c hi hu hc he=>exact .one M i c hi hu hc he
 | ask _ i hi hu=>exact .ask M i hi hu
 | prop _ i hi hu=>exact .prop M i hi hu
 | qJ _ i hi hu h hT=>exact .qJ M i hi hu h hT
 | run _ i hi hu q l hp hs=>exact .run M i hi hu q l hp hs
 | qA _ i hi hu hL=>exact .qA M i hi hu hL
 | lead _ i hi hu hL=>exact False.elim hL
 | sub _ i d hi hu hD=>exact False.elim hD
 | ib _ i k hi hu hk hC=>exact False.elim hC
 | start _ i hi hu hs=>exact False.elim hs
theorem Kj{to:Nat}{e:Int}(a:q∈p.br):q∈(p.ew to e).br:=by
 unfold Nod.ew;split
 .exact mn _ a
 .exact a
theorem Hh{l:Let}(a:q∈p.br):q∈(p.take l).br:=by
 unfold Nod.take;split
 .split
  .exact Kj a
  .exact mn _ (by rw[FP];exact a)
 .simp only;split<;>exact a
 .exact a
 .split
  .exact Kj a
  .exact mn _ (by rw[Hi];exact a)
 .unfold Nod.count;split
  .exact a
  .split<;>exact a
 .split
  .exact mn _ a
  .exact a
 .simp only;unfold Nod.dT;split<;>split<;>first|exact a|exact mn _ a
 .exact a
theorem Pt(a:q∈p.br):q∈p.cl.br:=by
 unfold Nod.cl;split
 .exact a
 .split
  .exact a
  .split
   .exact a
   .exact mn _ (by rw[Hi];exact a)
theorem Jl(p:Nod)(i:Nat):(p.hU i).1.br=p.br/\(p.hU i).1.d=p.d/\(p.hU i).1.sy=p.sy:=by
 unfold Nod.hU;split
 .exact⟨rfl,rfl,rfl⟩
 .split
  .unfold Nod.dT;split<;>exact⟨rfl,rfl,rfl⟩
  .exact⟨rfl,rfl,rfl⟩
theorem GH(p:Nod)(c:Cmd):(p.fu c).br=p.br/\(p.fu c).d=p.d/\(p.fu c).sy=p.sy:=by unfold Nod.fu;split<;>exact⟨rfl,rfl,rfl⟩
theorem XT(i:Nat)(l:List Cmd)(p:Nod)(a:List Tol):(qL i l p a).1.d=p.d/\(qL i l p a).1.sy=p.sy:=by
 induction l generalizing p a with
 | nil=>exact⟨rfl,rfl⟩
 | cons c l ih =>
  rw[qL];split
  .exact⟨rfl,rfl⟩
  .have h1:=ih (Nod.fu { p with ie:=doS p.ie c,done:=p.done+1 } c) (if(p.bw c).isSome=true then a++[⟨i,c.c,c.s,doC p.ie c,doA p.ie c⟩]else a);have b:=GH { p with ie:=doS p.ie c,done:=p.done+1 } c;exact⟨h1.1.trans b.2.1,h1.2.trans b.2.2⟩
theorem Sj(i:Nat)(l:List Pend)(p:Nod)(a:List Let):(lr i l p a).1.br=p.br:=by
 induction l generalizing p a with
 | nil=>rfl
 | cons q l ih=>rw[lr,ih];exact(DI p i q).1
theorem Id(h:AR p.d p.sy)(i:Nat)(k:List Let)(l:List Tol):(p.piece i k l).1.br=[]:=by
 unfold Nod.piece;simp only;have g:=XT i (p.ae.drop p.done) p l;generalize qL i (p.ae.drop p.done) p l=a at g ⊢;have j:=Jl a.1 i;generalize a.1.hU i=b at j ⊢;have c:b.1.tp:=by show AR b.1.d b.1.sy;rw[j.2.1,j.2.2,g.1,g.2];exact h
 have m:b.1.cl.tp:=by
  unfold Nod.cl;split
  .exact c
  .split
   .exact c
   .split
    .exact c
    .exact PJ c _
 generalize b.1.cl=r at m ⊢;have n:(r.ln i (k++b.2)).1.br=[]:=by
  unfold Nod.ln;rw[if_neg (λe=>e.2 (if_pos m)),Sj]
 generalize r.ln i (k++b.2)=f at n ⊢;unfold Nod.bu;split<;>exact n
theorem Aj(M:Meet)(i:Nat)(p:Nod)(a:List Let)(b:List Tol)(j:Nat):(M.set i p a b).ab j=if j=i then p else M.ab j:=rfl
theorem Oq(s:Stp wh0 c M N){i:Nat}{q:Pend}(hq:q∈(M.ab i).br):q∈(N.ab i).br\/∃ l,(M.ab i).br=q::l/\N=M.set i { (M.ab i).hZ i q with br:=l } (M.bm++(M.ab i).pd i q) M.eb:=by
 have put:∀ {j:Nat} {p:Nod} {a:List Let} {b:List Tol},(j=i->q∈p.br)->q∈((M.set j p a b).ab i).br:=λ{j p a b} h=>by
  rw[Aj];split
  .rename_i e;exact h e.symm
  .exact hq
 cases s with
 | take _ l hl hd hu ht=>exact .inl (put λe=>Hh (by rw[e];exact hq))
 | bm _ a h hd=>exact False.elim hd
 | one _ j c hi hu hc he=>exact .inl (put λe=>by rw[(GH _ c).1,e];exact hq)
 | ask _ j hi hu=>exact .inl (put λe=>by rw[(Jl _ j).1,e];exact hq)
 | prop _ j hi hu=>exact .inl (put λe=>Pt (by rw[e];exact hq))
 | qJ _ j hi hu h hT=>exact .inl (put λe=>by subst e;exact hq)
 | run _ j hi hu x l hp hs =>
  by_cases e:j=i
  .subst e;rw[hp]at hq
   rcases mp.1 hq with rfl|hq
   .exact .inr ⟨l,hp,rfl⟩
   .exact .inl (by rw[Aj,if_pos rfl];exact hq)
  .exact .inl (put λf=>absurd f e)
 | qA _ j hi hu hL=>exact .inl (put λe=>by subst e;exact hq)
 | lead _ j hi hu hL=>exact False.elim hL
 | sub _ j d hi hu hD=>exact False.elim hD
 | ib _ j k hi hu hk hC=>exact False.elim hC
 | start _ j hi hu hs=>exact False.elim hs
theorem Hg(a:(M.ab i).up=true):M.act (acN 3 (i:Int))=M.set i ((M.ab i).piece i M.bm M.eb).1 ((M.ab i).piece i M.bm M.eb).2.1 ((M.ab i).piece i M.bm M.eb).2.2:=by
 unfold Meet.act;simp[acN,a]
theorem FU(a:i<5):LacOk (acN 3 (i:Int)):=D9 ⟨.inr (.inl rfl),by omega,by omega⟩
theorem ar(i:Nat):wh1.may (acN 3 (i:Int)):=⟨λe=>absurd e (by show(3:Int)≠1;decide),λe=>absurd e (by show(3:Int)≠2;decide),λe=>absurd e (by show(3:Int)≠8;decide),λe=>absurd e (by show ¬ ((3:Int)=4\/(3:Int)=5\/(3:Int)=6\/(3:Int)=7);decide),λe=>absurd e (by show(3:Int)≠9;decide)⟩
end
section
variable{I J:Meet->Prop}
theorem CB(a:∀ c M N,Stp wh1 c M N->I M->I N){n:Nat}{M:Meet}(b:MOk n M){i:Nat}(d:i<5)(h:I M):I (M.act (acN 3 (i:Int))):=(OK (D:=wh1) b (FU d) (ar i)).inv a h
theorem WG(a:∀ c M N,Stp wh1 c M N->I M->I N)(b:∀ c M N,Stp wh1 c M N->I M->J M->J N){n:Nat}{M:Meet}(e:MOk n M){i:Nat}(f:i<5)(p:(M.ab i).up=true)(o:AR (M.ab i).d (M.ab i).sy){q:Pend}(j:q∈(M.ab i).br)(h:I M)
  (m:∀ N l,I N->(N.ab i).br=q::l->J (N.set i { (N.ab i).hZ i q with br:=l } (N.bm++(N.ab i).pd i q) N.eb)):J (M.act (acN 3 (i:Int))):=by
 have k:=CB (I:=λN=>I N/\(q∈(N.ab i).br\/J N)) (λc A B s g=>⟨a c A B s g.1,by
  rcases g.2 with g2|g2
  .rcases Oq s.calm g2 with g3|⟨l,g3,rfl⟩
   .exact .inl g3
   .exact .inr (m A l g.1 g3)
  .exact .inr (b c A B s g.1 g2)⟩) e f ⟨h,.inl j⟩
 refine k.2.resolve_left λg=>?_;rw[Hg p,Aj,if_pos rfl,Id o]at g
 cases g
def TkS(M N:Meet):Prop:=∃ l,l∈M.bm/\(l.src<5/\l.dst<5)/\(M.ab l.dst).up=true/\N=M.set l.dst ((M.ab l.dst).take l) M.bm M.eb
theorem TkS.ri{M N:Meet}(h:TkS M N):Stp wh0 0 M N:=by obtain⟨l,a,b,c,rfl⟩:=h;exact .take M l a b c trivial
theorem Jr(e:∀ M N,TkS M N->I M->I N)(l:List Let){M:Meet}(a:∀ m∈l,m∈M.bm/\m.src<5/\m.dst<5)(h:I M):I (l.foldl (λM l=>M.lp l) M)/\(l.foldl (λM l=>M.lp l) M).bm=M.bm:=by
 induction l generalizing M with
 | nil=>exact⟨h,rfl⟩
 | cons x l ih =>
  obtain⟨b,c⟩:=a x M';have d:I (M.lp x):=by
   unfold Meet.lp;split
   .rename_i hu;exact e M _ ⟨x,b,c,hu,rfl⟩ h
   .exact h
  have:=ih (M:=M.lp x) (λm f=>by rw[Et];exact a m (I' _ f)) d;exact⟨this.1,this.2.trans (Et M x)⟩
theorem DS(f:∀ M N,TkS M N->I M->I N)(t:∀ M N,TkS M N->I M->J M->J N){n:Nat}{M:Meet}(o:MOk n M)(h:I M){l:Let}(k:l∈M.bm)(q:∀ N,I N->(N.ab l.dst).up=true)
  (u:∀ N,I N->N.bm=M.bm->J (N.set l.dst ((N.ab l.dst).take l) N.bm N.eb)):∃ N,M.act (acN 7 0)={ N with bm:=[] }/\I N/\J N/\N.bm=M.bm:=by
 have j:∀ m∈M.bm,m.src<5/\m.dst<5:=λm d=>⟨(o.bm m d).src,(o.bm m d).dst⟩;obtain⟨a,b,e⟩:=List.append_of_mem k;have r:M.act (acN 7 0)={ M.bm.foldl (λM l=>M.lp l) M with bm:=[] }:=by
  show M.qH=_;unfold Meet.qH;rw[H4]
 refine⟨_,r,?_⟩;have c:=Jr f a (M:=M) (λm d=>by have:m∈M.bm:=(by rw[e];exact mn _ d);exact⟨this,j m this⟩) h;rw[show M.bm.foldl (λM l=>M.lp l) M=b.foldl (λM l=>M.lp l) ((a.foldl (λM l=>M.lp l) M).lp l)by rw[e,oS];rfl];generalize a.foldl (λM l=>M.lp l) M=A at c ⊢;have p:A.lp l=A.set l.dst ((A.ab l.dst).take l) A.bm A.eb:=by unfold Meet.lp;rw[if_pos (q A c.1)];rfl
 have s:TkS A (A.lp l):=⟨l,by rw[c.2];exact k,j l k,q A c.1,p⟩;have i:=Jr (I:=λN=>I N/\J N) (λA B s g=>⟨f A B s g.1,t A B s g.1 g.2⟩) b (M:=A.lp l) (λm d=>by
  have:m∈M.bm:=by rw[e];exact mj _ (I' _ d)
  exact⟨by rw[Et,c.2];exact this,j m this⟩) ⟨f _ _ s c.1,by rw[p];exact u A c.1 c.2⟩
 exact⟨i.1.1,i.1.2,by rw[i.2,Et,c.2]⟩
end
theorem KbI.mono{K R a b:Int}{M:Meet}(h:KbI K R M)(d:K<=a)(e:R<=b):KbI a b M:=λj c=>⟨mC (h j c).1 d,mC (h j c).2 e⟩
theorem T2{D:Wh}(l:¬ D.ld){n:Nat}{M N:Meet}(s:Sts D n M N){σ:Gs}(h:AgI σ M){K R:Int}(a:K<=R)(f:KbI K R M):∃ (τ:Gs) (ex:List (Bal × Nat)),σ.le τ/\AgI τ N/\KbI K R N/\ex.length<=n/\∀ b s c,τ.W b s c->σ.W b s c\/(b,s)∈ex:=by
 induction s with
 | nil=>exact⟨σ,[],.refl σ,h,f,mL _,λ_ _ _ g=>.inl g⟩
 | snoc _ s hm ih =>
  obtain⟨τ,ex,i,d,j,r,k⟩:=ih h f;obtain⟨υ,e,m,o,p,q⟩:=d.step s;refine⟨υ,ex++e.toList,i.trans m,o,j.step l d s a,?_,λb s c g=>?_⟩
  .cases e with
   | none=>simp;omega
   | some x=>have:=(q x.1 x.2 rfl).1;simp;omega
  .rcases p b s c g with g|g
   .exact(k b s c g).imp id λg=>mn _ g
   .exact .inr (mj _ (by rw[g];exact D'.2 rfl))
theorem KbI.lead{σ:Gs}{M:Meet}(h:AgI σ M){R:Int}(l:KbI R R M){i:Nat}(m:i<5)(j:(M.ab i).up=true)(o:List Let)(q:List Tol):KbI (R+9) (R+9) (M.set i ((M.ab i).lead i) o q):=by
 obtain⟨t,k⟩:=(h.nd i m).up j;have f:=l i m;have c:=f.1;unfold Nod.pk at c;rw[if_pos j]at c
 have s:=Y9 (b:=(M.ab i).vo.p) (by rw[k.tp.vo];exact k.tp.ok.acc.1);refine(l.mono (by omega) (by omega)).set ?_ _ _;unfold Nod.lead;simp only;generalize n:(⟨max (M.ab i).cF (M.ab i).vo.p.r+1,(i:Int)⟩:Bal)=b;rcases k.tp.an b with⟨e,he⟩|⟨e,he,hvs,rs',hp,ht,hm,hpb,hpv,d,a,hq⟩
 .rw[if_pos e];exact⟨by have:=f.1;omega,by have:=f.2;omega⟩
 .rw[if_neg (λg=>g e)];refine⟨?_,?_⟩
  .show(if((M.ab i).an b).1.up=true then((M.ab i).an b).1.vo.p.key else(Er ((M.ab i).an b).1.d).2.p.key)<=_;rw[if_pos (by rw[hq];exact j),ht.vo,hpb,<- n];show 5*(max (M.ab i).cF (M.ab i).vo.p.r+1)+(i:Int)<=_;omega
  .show 5*((M.ab i).an b).1.cF<=_;rw[hq];show 5*(M.ab i).cF<=_;omega
def whL:Wh:=⟨λ_ _=>True,False,True,True,True,True⟩
def lds(L:List Lac):Nat:=L.countP λx=>decide (x.k=2)
theorem W7(L:List Lac){n:Nat}{M:Meet}(w:MOk n M)(B:n+L.length<=1000000)(v:∀ x∈L,LacOk x){σ:Gs}(h:AgI σ M){R:Int}(l:KbI R R M){cov:List (Bal × Nat)}(m:∀ b s c,σ.W b s c->(b,s)∈cov) :
  ∃ (τ:Gs) (cov':List (Bal × Nat)),σ.le τ/\AgI τ (M.dc L)/\KbI (R+9*(lds L:Int)) (R+9*(lds L:Int)) (M.dc L)/\cov'.length<=cov.length+L.length/\∀ b s c,τ.W b s c->(b,s)∈cov':=by
 induction L generalizing n M σ R cov with
 | nil=>exact⟨σ,cov,.refl σ,h,l.mono (by simp[lds]) (by simp[lds]),A' _,m⟩
 | cons x L ih =>
  rw[mJ]at B
  have t:=v x M';have r:lds (x::L)=lds L+if x.k=2 then 1 else 0:=by unfold lds;rw[pI];simp
  have one:∃ (τ:Gs) (cov':List (Bal × Nat)),σ.le τ/\AgI τ (M.act x)/\KbI (R+if x.k=2 then 9 else 0) (R+if x.k=2 then 9 else 0) (M.act x)/\cov'.length<=cov.length+1/\∀ b s c,τ.W b s c->(b,s)∈cov':=by
   by_cases d:x.k=2
   .rw[if_pos d];have z:x.n.toNat<5:=by have:=t.n (by rw[d];rfl);omega
    have e:M.act x=M.set x.n.toNat (if(M.ab x.n.toNat).up then(M.ab x.n.toNat).lead x.n.toNat else M.ab x.n.toNat) M.bm M.eb:=by
     unfold Meet.act;simp only;rw[if_neg (by omega),if_pos d]
    by_cases o:(M.ab x.n.toNat).up=true
    .rw[if_pos o]at e
     obtain⟨τ,u,f,i,j,p⟩:=h.step (D:=whT) (.lead M _ z o trivial);refine⟨τ,cov,f,by rw[e];exact i,by rw[e];exact l.lead h z o _ _,by omega,λb s c g=>?_⟩;rcases j b s c g with g|g
     .exact m b s c g
     .exact absurd (p b s g).1 (by decide)
    .rw[if_neg o,EU]at e
     rw[e];exact⟨σ,cov,.refl σ,h,l.mono (by omega) (by omega),by omega,m⟩
   .rw[if_neg d,Int.add_zero];obtain⟨τ,u,f,i,j,p,q⟩:=T2 (D:=whL) (λe=>e) (OK w t ⟨λ_=>trivial,λe=>d e,λ_=>trivial,λ_=>⟨trivial,trivial⟩,λ_=>trivial⟩) h (mf R) l;refine⟨τ,cov++u,f,i,j,by rw[E'];omega,λb s c g=>?_⟩;exact(q b s c g).elim (λg=>mn _ (m b s c g)) λg=>mj _ g
  obtain⟨τ,cov',f,i,j,p,q⟩:=one;obtain⟨υ,a,E,F,A,H,G⟩:=ih (w.act (by omega) t) (by omega) (λy C=>v y (I' _ C)) i j q;have e:R+(if x.k=2 then 9 else 0)+9*(lds L:Int)=R+9*(lds (x::L):Int):=by
   rw[r];split<;>omega
  rw[e]at A
  exact⟨υ,a,f.trans E,F,A,by rw[mJ];omega,G⟩
theorem KbI.zero:KbI 0 0 As:=λj a=>⟨by show Cz.pk<=0;decide,by show 5*Cz.cF<=0;decide⟩
section
variable{S:Cmd->Prop}
section
def VsS(S:Cmd->Prop)(l:List Vt):Prop:=∀ v∈l,S v.w
def RsS(S:Cmd->Prop)(rs:List Rk):Prop:=∀ v,Rk.vt v∈rs->S v.w
def PnS(S:Cmd->Prop):Pend->Prop
 | .began _ vs=>VsS S vs
 | .prom _ _ vs=>VsS S vs
 | .voted _ v=>S v.w
 | .prop v=>S v.w
 | _=>True
structure NdS(S:Cmd->Prop)(p:Nod):Prop where
 up:p.up=true->∃ dr rs,TpU p dr rs/\RsS S rs
 dn:p.up=false->∃ dr,TpD p dr/\RsS S dr
 ag:∀ c∈p.ae,S c
 wa:∀ c∈p.au,S c
 qu:∀ c∈p.av.fa,S c
 he:∀ j,j<5->VsS S (p.av.al j).vs
 pe:∀ q∈p.br,PnS S q
structure LtS(S:Cmd->Prop)(l:Let):Prop where
 vs:VsS S l.ic
 wh:∀ c∈l.fm,S c
 vt:l.kind=3\/l.kind=4->S l.bN.w
variable{M:Meet}{dr:List Rk}{i:Nat}{p q:Nod}{r:Rnd}
theorem NdS.tape(h:NdS S p){q:Nod}(i:q.up=p.up)(a:q.d=p.d)(f:q.sy=p.sy)(n:q.vo=p.vo)(l:∀ c∈q.ae,S c)(t:∀ c∈q.au,S c)(r:∀ c∈q.av.fa,S c)(m:∀ j,j<5->VsS S (q.av.al j).vs)(o:∀ x∈q.br,PnS S x):NdS S q :=
 ⟨λe=>by
  obtain⟨b,s,k,g⟩:=h.up (i▸e);exact⟨b,s,⟨k.ok,k.pre,a.trans k.d,f.trans k.sy,n.trans k.vo,by rw[a];exact k.len⟩,g⟩,λe=>by
  obtain⟨b,k,g⟩:=h.dn (i▸e);exact⟨b,⟨k.ok,by rw[a];exact k.se,by rw[a];exact k.tk,by rw[f,a];exact k.sy,by rw[a];exact k.len⟩,g⟩,l,t,r,m,o⟩
theorem NdS.wait(h:NdS S p){x:Pend}(a:PnS S x):NdS S (p.wait x) :=
 h.tape rfl rfl rfl rfl h.ag h.wa h.qu h.he λy b=>(Q'.1 b).elim (h.pe y) λe=>by rw[D'.1 e];exact a
theorem NdS.ew(h:NdS S p)(to:Nat)(e:Int):NdS S (p.ew to e):=by
 unfold Nod.ew;split
 .exact h.wait trivial
 .exact h
theorem NdS.wrote(h:NdS S p){f b:List Rk}(j:TpU q f b)(i:RsS S b)(k:p.up=true){d:List Int}{a:Acc}(g:q=p.tv d p.sy a)(l:∀ c∈q.ae,S c):NdS S q:=by
 subst g;exact⟨λ_=>⟨f,b,j,i⟩,λe=>(by rw[show(p.tv d p.sy a).up=p.up from rfl,k]at e;cases e),h.ag,h.wa,h.qu,h.he,h.pe⟩
theorem fX(h:∀ j,j<5->VsS S (r.al j).vs){a:Acc}(b:a∈r.gC):VsS S a.vs:=by
 unfold Rnd.gC at b;simp only[mp,O',or_false]at b;rcases b with rfl|rfl|rfl|rfl|rfl
 .exact h 0 (by omega)
 .exact h 1 (by omega)
 .exact h 2 (by omega)
 .exact h 3 (by omega)
 .exact h 4 (by omega)
theorem Ym(h:∀ j,j<5->VsS S (r.al j).vs){s:Int}{v:Vt}(e:v∈Ae (r.gC.map (·.vs)).flatten s):S v.w:=by
 obtain⟨l,b,c⟩:=nT.1 (AL.1 e).1;obtain⟨a,d,rfl⟩:=mB.1 b;exact fX h d v c
theorem gu(h:∀ j,j<5->VsS S (r.al j).vs){s:Int}(a:CZ r.gC s=0):S (CR r.gC s):=by
 have c:CR r.gC s=((Hj (D2 r.gC s) r.gC.length).map (·.w)).getD ⟨0,0,0,0,0⟩:=if_pos a;unfold CZ at a;split at a
 .cases a
 .split at a
  .cases a
  .split at a
   .rename_i hO
    obtain⟨v,b⟩:=nm.1 hO;rw[c,b];exact Ym h (pX b)
   .cases a
theorem hY(h:∀ j,j<5->VsS S (r.al j).vs)(k:Nat){l:List Cmd}(a:∀ c∈l,S c):∀ c∈FG k r l,S c:=by
 induction k generalizing l with
 | zero=>exact a
 | succ k ih =>
  rw[FG];split
  .rename_i he;exact ih λc b=>(Q'.1 b).elim (a c) λe=>by rw[D'.1 e];exact gu h he
  .exact a
theorem NdS.qv(h:NdS S p):NdS S p.qv:=h.tape rfl rfl rfl rfl (hY h.he 41 h.ag) h.wa h.qu h.he h.pe
theorem cU(a:Acc)(l:List Vt)(d:VsS S a.vs)(e:VsS S l):VsS S (Dh a l).vs:=by
 induction l generalizing a with
 | nil=>exact d
 | cons u l ih =>
  rw[Dh];refine ih _ ?_ λv b=>e v (I' _ b);by_cases c:Ba a u=0
  .rw[if_pos c];intro v b;have b:v∈Br a u:=b;rw[(DM c).2]at b
   rcases(BB (Ap c).1.2.2).1 b with rfl|⟨b,_⟩
   .exact e v M'
   .exact d v b
  .rw[if_neg c];exact d
theorem Yy(h:∀ j,j<5->VsS S (r.al j).vs)(j:Nat)(b:j<5){a:List Vt}(d:VsS S a):∀ k,k<5->VsS S ((r.qQ j a).al k).vs:=λk c=>by
 show VsS S (upN r.al j _ k).vs;unfold upN;split
 .exact cU ⟨r.fv,a⟩ _ d (h j b)
 .exact h k c
theorem NdS.count(h:NdS S p){j:Nat}(c:j<5){v:Vt}(e:S v.w):NdS S (p.count j v):=by
 unfold Nod.count;split
 .exact h
 .split
  .exact h
  .rename_i b
   have b:=mh.1 b;refine NdS.qv (h.tape rfl rfl rfl rfl h.ag h.wa h.qu (λk d=>?_) h.pe);show VsS S (upN p.av.al j _ k).vs;unfold upN;split
   .intro u a;have a:u∈Br (p.av.al j) v:=a;rw[(DM b).2]at a
    rcases(BB (Ap b).1.2.2).1 a with rfl|⟨a,_⟩
    .exact e
    .exact h.he j c u a
   .exact h.he k d
theorem gH(q l:List Cmd)(b:∀ c∈q,S c)(f:∀ c∈l,S c):∀ c∈Hk q l,S c:=by
 induction l generalizing q with
 | nil=>exact b
 | cons d l ih =>
  rw[Hk];refine ih _ ?_ λc a=>f c (I' _ a);split
  .exact λc a=>(Q'.1 a).elim (b c) λe=>by rw[D'.1 e];exact f d M'
  .exact b
theorem NdS.dT(h:NdS S p){l:List Cmd}(a:∀ c∈l,S c):NdS S (p.dT l):=by
 unfold Nod.dT;split
 .exact h.tape rfl rfl rfl rfl h.ag h.wa (gH _ _ h.qu a) h.he h.pe
 .exact h
theorem NdS.ia(h:NdS S p)(bn:Nat){l:List Cmd}(b:∀ c∈l,S c):NdS S (p.ia bn l) :=
 h.tape rfl rfl rfl rfl (λc a=>(Q'.1 a).elim (h.ag c) λg=>b c (nU g)) h.wa h.qu h.he h.pe
theorem TpU.tg{a:List Rk}(h:TpU p dr a)(b:RsS S a):VsS S p.vo.vs:=λv c=>b v (IQ h.ok v (by rw[<- h.vo];exact c))
theorem NdS.take(h:NdS S p)(f:p.up=true){l:Let}(b:LtS S l)(j:l.src<5):NdS S (p.take l):=by
 obtain⟨m,n,k,c⟩:=h.up f;unfold Nod.take;split
 .rcases k.an l.fv with⟨e,he⟩|⟨e,he,hvs,rs',hp,ht,hm,hpb,hpv,d,a,hq⟩
  .rw[if_pos e];exact h.ew _ _
  .rw[if_neg (λg=>g e)];exact(h.wrote ht (λv i=>c v ((hm v).1 i)) f hq (by rw[hq];exact h.ag)).wait (by show VsS S _;rw[hvs];exact k.tg c)
 .have hL:=h.ia 0 b.wh;generalize p.ia 0 l.fm=K at hL ⊢;simp only;split
  .exact hL
  .exact NdS.qv (hL.tape rfl rfl rfl rfl hL.ag hL.wa hL.qu (Yy hL.he _ j b.vs) hL.pe)
 .exact h.tape rfl rfl rfl rfl h.ag h.wa h.qu h.he h.pe
 .rename_i hk
  rcases k.bN l.bN with⟨e,he⟩|⟨e,he,rs',hp,ht,hm,hpb,d,a,hq⟩
  .rw[if_pos e];exact h.ew _ _
  .rw[if_neg (λg=>g e)];exact(h.wrote ht (λv i=>((hm v).1 i).elim (λe=>by rw[e];exact b.vt (.inl hk)) (c v)) f hq (by rw[hq];exact h.ag)).wait (b.vt (.inl hk))
 .rename_i hk;exact h.count j (b.vt (.inr hk))
 .split
  .exact h.wait trivial
  .exact h.ia _ b.wh
 .simp only;split
  .exact(h.dT b.wh).wait trivial
  .exact h.dT b.wh
 .exact h
theorem KP(h:NdS S p){s:Nat}{c:Cmd}(b:p.mv s=some c):S c:=by
 unfold Nod.mv at b;split at b
 .cases b
 .rename_i a
  have a:=mh.1 a;split at b
  .rename_i hF
   have f:G1 (p.av.gC.map (·.vs)) (s:Int)=((Eh (p.av.gC.map (·.vs)) (s:Int)).map (·.w)).getD ⟨0,0,0,0,0⟩:=if_pos a;have d:DZ (p.av.gC.map (·.vs)) (s:Int)=(Eh (p.av.gC.map (·.vs)) (s:Int)).isSome:=if_pos a;rw[hF]at d
   obtain⟨x,i⟩:=nm.1 d.symm;rw[i]at f
   rw[<- mT b,f];refine Ym h.he (s:=(s:Int)) ?_;have:∀ (l:List Vt) (o:Option Vt) (x:Vt),BR l o=some x->x∈l\/o=some x:=by
    intro l;induction l with
    | nil=>intro o x e;exact .inr e
    | cons v l ih =>
     intro o x e;cases o with
     | none =>
      rw[BR]at e
      rcases ih _ _ e with g|g
      .exact .inl (I' _ g)
      .left;cases g;exact M'
     | some u =>
      rw[BR]at e
      split at e
      .rcases ih _ _ e with g|g
       .exact .inl (I' _ g)
       .left;cases g;exact M'
      .rcases ih _ _ e with g|g
       .exact .inl (I' _ g)
       .exact .inr g
   exact(this _ _ _ i).resolve_right λe=>by cases e
  .exact h.qu c (pX b)
theorem NdS.cl(h:NdS S p)(f:p.up=true):NdS S p.cl:=by
 obtain⟨l,m,k,i⟩:=h.up f;unfold Nod.cl;split
 .exact h
 .cases hn:p.mv p.ae.length with
  | none=>exact h
  | some c =>
   have b:=KP h hn;simp only;rcases k.bN ⟨(p.ae.length:Int),p.av.fv,c⟩with⟨e,he⟩|⟨e,he,rs',hp,ht,hm,hpb,d,a,hq⟩
   .rw[if_pos e];exact h
   .rw[if_neg (λg=>g e)];have g:=h.wrote ht (λv j=>((hm v).1 j).elim (λe=>by rw[e];exact b) (i v)) f hq (by rw[hq];exact h.ag);exact NdS.wait (p:={ (p.bN ⟨(p.ae.length:Int),p.av.fv,c⟩).1 with av:={ p.av with next:=p.ae.length+1 } }) (g.tape rfl rfl rfl rfl g.ag g.wa h.qu h.he g.pe) b
theorem NdS.run(n:i<5){p:Nod}(h:NdS S p){q:Pend}{l:List Pend}(o:p.br=q::l):NdS S { p.hZ i q with br:=l }/\∀ m∈p.pd i q,LtS S m:=by
 have f:=h.pe q (by rw[o];exact M');have j:∀ {p':Nod},NdS S p'->p'.br=p.br->NdS S { p' with br:=l }:=λ{p'} g e=>g.tape rfl rfl rfl rfl g.ag g.wa g.qu g.he λx r=>g.pe x (by rw[e,o];exact I' _ r);have none:∀ c∈([]:List Cmd),S c:=λc k=>by cases k
 have a:VsS S []:=λc k=>by cases k
 cases q with
 | began b vs =>
  unfold Nod.hZ Nod.pd;simp only;split
  .exact⟨j h rfl,λm d=>(by cases d)⟩
  .refine⟨j (p':={ p with av:=p.av.qQ i vs }) (h.tape rfl rfl rfl rfl h.ag h.wa h.qu (Yy h.he i n f) h.pe) rfl,λm d=>?_⟩;obtain⟨to,_,rfl⟩:=CH d;exact⟨a,none,λe=>e.elim (λg=>by cases g) λg=>(by cases g)⟩
 | prom to b vs=>exact⟨j h rfl,λm d=>by rw[D'.1 d];exact⟨f,h.ag,λe=>e.elim (λg=>by cases g) λg=>(by cases g)⟩⟩
 | voted to v=>exact⟨j h rfl,λm d=>by rw[D'.1 d];exact⟨a,none,λ_=>f⟩⟩
 | ew to b=>exact⟨j h rfl,λm d=>by rw[D'.1 d];exact⟨a,none,λe=>e.elim (λg=>by cases g) λg=>(by cases g)⟩⟩
 | prop v =>
  refine⟨j (h.count n f) (DI p i (.prop v)).1,λm d=>?_⟩;obtain⟨to,_,rfl⟩:=CH d;exact⟨a,none,λ_=>f⟩
 | askNews to=>exact⟨j h rfl,λm d=>by rw[D'.1 d];exact⟨a,none,λe=>e.elim (λg=>by cases g) λg=>(by cases g)⟩⟩
 | start =>
  refine⟨j h rfl,λm d=>?_⟩;obtain⟨to,_,rfl⟩:=CH d;exact⟨a,none,λe=>e.elim (λg=>by cases g) λg=>(by cases g)⟩
 | tell to bn=>exact⟨j h rfl,λm d=>by rw[D'.1 d];exact⟨a,λc k=>h.ag c (nU k),λe=>e.elim (λg=>by cases g) λg=>(by cases g)⟩⟩
theorem NdS.lead(h:NdS S p)(m:p.up=true):NdS S (p.lead i):=by
 obtain⟨o,q,k,l⟩:=h.up m;unfold Nod.lead;simp only;generalize (⟨max p.cF p.vo.p.r+1,(i:Int)⟩:Bal)=b;rcases k.an b with⟨e,he⟩|⟨e,he,hvs,rs',hp,ht,hm,hpb,hpv,d,a,hq⟩
 .rw[if_pos e];exact h
 .rw[if_neg (λg=>g e)];have g:=h.wrote ht (λv f=>l v ((hm v).1 f)) m hq (by rw[hq];exact h.ag);exact NdS.wait (p:={ (p.an b).1 with av:=⟨b,λ_=>false,λ_=>El,λ_=>p.ae.length,0,[]⟩ }) (x:=.began b (p.an b).2.1) (g.tape rfl rfl rfl rfl g.ag g.wa (λc n=>by cases n) (λj _ v f=>by cases f) g.pe) (by show VsS S _;rw[hvs];exact k.tg l)
theorem gi(b:Bal)(f:Cmd->Option Bal)(l:List Cmd)(h:∀ c∈l,S c):∀ c∈(Bb b f l).1,S c:=by
 induction l generalizing f with
 | nil=>intro c a;cases a
 | cons d l g =>
  have g:=λf=>g f λc a=>h c (I' _ a);rw[Bb];split
  .exact λc a=>(mp.1 a).elim (λe=>by rw[e];exact h d M') (g _ c)
  .exact g f
structure MtS(S:Cmd->Prop)(M:Meet):Prop where
 nd:∀ i,i<5->NdS S (M.ab i)
 lt:∀ l∈M.bm,LtS S l
theorem MtS.set(h:MtS S M){i:Nat}{p:Nod}(d:NdS S p){ls:List Let}(b:∀ l∈ls,l∈M.bm\/LtS S l)(ts:List Tol):MtS S (M.set i p ls ts) :=
 ⟨λj a=>by
  show NdS S (upN M.ab i p j);unfold upN;split
  .exact d
  .exact h.nd j a,λl c=>(b l c).elim (h.lt l) id⟩
theorem MtS.step{D:Wh}(x:∀ i d,D.d i d->∀ now:Nat,opE d (now:Int)=0->S (E9 d (now:Int))){n:Nat}{M N:Meet}(s:Stp D n M N)(h:MtS S M):MtS S N:=by
 have same:∀ l∈M.bm,l∈M.bm\/LtS S l:=λl o=>.inl o;have app:∀ {ms:List Let},(∀ m∈ms,LtS S m)->∀ l∈M.bm++ms,l∈M.bm\/LtS S l:=λg l o=>(Q'.1 o).imp id (g l);cases s with
 | take _ l o hd hu _=>exact h.set ((h.nd _ hd.2).take hu (h.lt l o) hd.1) same _
 | bm _ ls o _=>exact⟨h.nd,λl g=>h.lt l (o l g)⟩
 | one _ i c hi hu a he =>
  refine h.set ?_ same _;have k:=h.nd i hi;unfold Nod.fu;split
  .exact k.tape rfl rfl rfl rfl k.ag (λc a=>k.wa c (List.mem_of_mem_erase a)) k.qu k.he k.pe
  .exact k.tape rfl rfl rfl rfl k.ag k.wa k.qu k.he k.pe
 | ask _ i hi hu =>
  have k:=h.nd i hi;have E:=gi (M.ab i).vo.p (M.ab i).bw ((M.ab i).au.take 40) λc a=>k.wa c (mx a);have B:NdS S { M.ab i with bw:=(Bb (M.ab i).vo.p (M.ab i).bw ((M.ab i).au.take 40)).2 }:=k.tape rfl rfl rfl rfl k.ag k.wa k.qu k.he k.pe;refine h.set ?_ (app ?_) _
  .unfold Nod.hU;split
   .exact B
   .split
    .exact B.dT E
    .exact B
  .intro m hm;unfold Nod.hU at hm;split at hm
   .cases hm
   .split at hm
    .cases hm
    .rw[D'.1 hm];exact⟨λv f=>(by cases f),E,λe=>e.elim (λg=>by cases g) λg=>(by cases g)⟩
 | prop _ i hi hu=>exact h.set ((h.nd i hi).cl hu) same _
 | qJ _ i hi hu hlt y =>
  have k:=h.nd i hi;obtain⟨u,C,g,r⟩:=k.up hu;exact h.set (p:={ M.ab i with sy:=((M.ab i).d.length:Int) }) ⟨λ_=>⟨C,C,g.qJ,r⟩,λe=>(by rw[show _=(M.ab i).up from rfl,hu]at e;cases e),k.ag,k.wa,k.qu,k.he,k.pe⟩ same _
 | run _ i hi hu q l hp hs =>
  have g:=(h.nd i hi).run hi hp;exact h.set g.1 (app g.2) _
 | qA _ i hi hu hL =>
  have k:=h.nd i hi;refine h.set (p:=EH (M.ab i) i 5) (k.tape rfl rfl rfl rfl k.ag k.wa k.qu k.he k.pe) (app ?_) _;have:∀ n,∀ m∈Ds (M.ab i) i n,LtS S m:=by
   intro n;induction n with
   | zero=>intro m hm;cases hm
   | succ n ih =>
    intro m hm;rw[Ds]at hm
    rcases Q'.1 hm with hm|hm
    .exact ih m hm
    .split at hm
     .rw[D'.1 hm];exact⟨λv f=>(by cases f),λc a=>k.ag c (nU a),λe=>e.elim (λg=>by cases g) λg=>(by cases g)⟩
     .cases hm
  exact this 5
 | lead _ i hi hu _=>exact h.set ((h.nd i hi).lead hu) same _
 | sub _ i d hi hu hd =>
  have k:=h.nd i hi;refine h.set ?_ same _;unfold Nod.qK Nod.qY;split
  .exact k
  .split
   .exact k.tape rfl rfl rfl rfl k.ag k.wa k.qu k.he k.pe
   .rename_i he
    split
    .exact k
    .show NdS S (Nod.want _ _);unfold Nod.want;split
     .exact k
     .exact k.tape rfl rfl rfl rfl k.ag (λc a=>(Q'.1 a).elim (k.wa c) λe=>by rw[D'.1 e];exact x i d hd _ (mh.1 he)) k.qu k.he k.pe
 | ib _ i c hi hu a _ =>
  have k:=h.nd i hi;obtain⟨u,C,g,r⟩:=k.up hu;obtain⟨w,_,G,x⟩:=g.ib a;have z:Gn (M.ab i).d (M.ab i).sy c=0:=by unfold Gn;rw[if_neg (λe=>e g.rG),if_neg (by omega)]
  have A:=Ix (p:=M.ab i) g.rG a;refine h.set ⟨λe=>(by rw[A.2.1]at e;cases e),λ_=>⟨w,x,λv f=>r v (G.subset f)⟩,?_,?_,?_,?_,?_⟩ same _<;>(unfold Nod.ib;rw[if_neg (λe=>e z)])
  .exact λc a=>by cases a
  .exact λc a=>by cases a
  .exact λc a=>by cases a
  .exact λj _ v f=>by cases f
  .exact λc a=>by cases a
 | start _ i hi hu _ =>
  obtain⟨u,g,r⟩:=(h.nd i hi).dn hu;have y:AR (M.ab i).d (M.ab i).sy:=⟨g.len,by rw[g.sy];omega,by rw[g.sy];omega⟩;have t:=GD (p:=M.ab i) y;have b:(M.ab i).start.av=eh/\(M.ab i).start.br=[.start]/\(M.ab i).start.au=[]:=by
   unfold Nod.start;rw[if_neg (λe=>e (if_pos y))];split<;>exact⟨rfl,rfl,rfl⟩
  refine h.set ⟨λ_=>⟨u,u,g.start,r⟩,λe=>(by rw[t.2.1]at e;cases e),?_,?_,?_,?_,?_⟩ same _
  .rw[t.2.2.2];exact λc a=>by cases a
  .rw[b.2.2];exact λc a=>by cases a
  .rw[b.1];exact λc a=>by cases a
  .rw[b.1];exact λj _ v f=>by cases f
  .rw[b.2.1];exact λq F=>by rw[D'.1 F];trivial
theorem MtS.zero:MtS S As:=⟨λi _=>⟨λ_=>⟨[],[],TpU.zero,λv b=>(by cases b)⟩,λe=>(by cases e),λc a=>(by cases a),λc a=>(by cases a),λc a=>(by cases a),λj _ v b=>(by cases b),λc a=>(by cases a)⟩,λl d=>(by cases d)⟩
theorem fZ(L:List Lac)(f:∀ x∈L,LacOk x)(n:L.length<=100000)(j:∀ x∈L,x.k=1->∀ now:Nat,opE x.d (now:Int)=0->S (E9 x.d (now:Int))):MtS S (As.dc L):=by
 have s:Sts ⟨λ_ d=>∃ x∈L,x.k=1/\x.d=d,True,True,True,True,True⟩ L.length As (As.dc L):=Ir L MOk.zero (by omega) λx a=>⟨f x a,λe=>⟨x,a,e,rfl⟩,λ_=>trivial,λ_=>trivial,λ_=>⟨trivial,trivial⟩,λ_=>trivial⟩;exact s.inv (λ_ M N h g=>g.step (λi d l now m=>by obtain⟨x,b,c,rfl⟩:=l;exact j x b c now m) h) MtS.zero
end
end
structure Ev(p q:Nod):Prop where
 up:q.up=p.up
 fv:q.av.fv=p.av.fv
 vo:p.vo.p.key<=q.vo.p.key
 cF:p.cF<=q.cF
 ag:p.ae <+: q.ae
 nn:∀ j,p.av.nn j=true->q.av.nn j=true
 next:p.av.next<=q.av.next
 qu:p.av.fa <+: q.av.fa
 wa:∀ c∈q.au,c∈p.au
 dn:p.done<=q.done
theorem Ev.refl(p:Nod):Ev p p:=⟨rfl,rfl,mf _,mf _,mi _,λ_ h=>h,A' _,mi _,λ_ h=>h,A' _⟩
theorem Ev.trans{p q r:Nod}(h:Ev p q)(k:Ev q r):Ev p r:=⟨k.up.trans h.up,k.fv.trans h.fv,mC h.vo k.vo,mC h.cF k.cF,h.ag.trans k.ag,λj g=>k.nn j (h.nn j g),mg h.next k.next,h.qu.trans k.qu,λc g=>h.wa c (k.wa c g),mg h.dn k.dn⟩
theorem IB(k:Nat)(r:Rnd)(l:List Cmd):l <+: FG k r l:=by
 induction k generalizing l with
 | zero=>exact mi _
 | succ k ih =>
  rw[FG];split
  .exact(nA _ _).trans (ih _)
  .exact mi _
theorem Qn(l q:List Cmd):q <+: Hk q l:=by
 induction l generalizing q with
 | nil=>exact mi _
 | cons c l ih =>
  rw[Hk];split
  .exact(nA _ _).trans (ih _)
  .exact ih _
theorem Ev.an(p:Nod)(b:Bal):Ev p (p.an b).1:=by
 unfold Nod.an;split
 .exact .refl p
 .rename_i h
  have a:=Co (mh.1 h);have c:p.vo.p.key<=b.key:=Bp a.2.1.pr a.1.1 a.2.2;split
  .exact⟨rfl,rfl,c,mf _,mi _,λ_ h=>h,A' _,mi _,λ_ h=>h,A' _⟩
  .split
   .exact .refl p
   .exact⟨rfl,rfl,c,mf _,mi _,λ_ h=>h,A' _,mi _,λ_ h=>h,A' _⟩
theorem Ev.bN(p:Nod)(v:Vt):Ev p (p.bN v).1:=by
 unfold Nod.bN;split
 .exact .refl p
 .rename_i h
  have a:=Ap (mh.1 h);have c:p.vo.p.key<=v.b.key:=Bp a.2.1.2.1.pr a.1.1 a.2.2;split
  .exact⟨rfl,rfl,c,mf _,mi _,λ_ h=>h,A' _,mi _,λ_ h=>h,A' _⟩
  .split
   .exact .refl p
   .exact⟨rfl,rfl,c,mf _,mi _,λ_ h=>h,A' _,mi _,λ_ h=>h,A' _⟩
theorem Ev.br{p q:Nod}(h:Ev p q)(x:List Pend):Ev p { q with br:=x }:=⟨h.up,h.fv,h.vo,h.cF,h.ag,h.nn,h.next,h.qu,h.wa,h.dn⟩
theorem Ev.sZ(p:Nod){l:List Cmd}(h:p.ae <+: l):Ev p { p with ae:=l }:=⟨rfl,rfl,mf _,mf _,h,λ_ h=>h,A' _,mi _,λ_ h=>h,A' _⟩
theorem Ev.ew(p:Nod)(to:Nat)(e:Int):Ev p (p.ew to e):=by
 unfold Nod.ew;split
 .exact(Ev.refl p).br _
 .exact .refl p
theorem Ev.count(p:Nod)(j:Nat)(v:Vt):Ev p (p.count j v):=by
 unfold Nod.count;split
 .exact .refl p
 .split
  .exact .refl p
  .exact⟨rfl,rfl,mf _,mf _,IB _ _ _,λ_ h=>h,A' _,mi _,λ_ h=>h,A' _⟩
theorem Ev.sS(p:Nod)(l:List Cmd):Ev p (p.dT l):=by
 unfold Nod.dT;split
 .exact⟨rfl,rfl,mf _,mf _,mi _,λ_ h=>h,A' _,Qn _ _,λ_ h=>h,A' _⟩
 .exact .refl p
theorem UT{f:Nat->Bool}{i j:Nat}(h:f j=true):upN f i true j=true:=by unfold upN;split<;>first|rfl|exact h
theorem Ev.take(p:Nod)(l:Let):Ev p (p.take l):=by
 unfold Nod.take;split
 .split
  .exact .ew p _ _
  .exact(Ev.an p l.fv).br _
 .simp only;have a:Ev p (p.ia 0 l.fm):=.sZ p (nA _ _);split
  .exact a
  .exact⟨rfl,rfl,mf _,mf _,a.ag.trans (IB _ _ _),λ_ h=>UT h,A' _,mi _,λ_ h=>h,A' _⟩
 .exact⟨rfl,rfl,mf _,Int.le_max_left _ _,mi _,λ_ h=>h,A' _,mi _,λ_ h=>h,A' _⟩
 .split
  .exact .ew p _ _
  .exact(Ev.bN p l.bN).br _
 .exact .count p _ _
 .split
  .exact(Ev.refl p).br _
  .exact .sZ p (nA _ _)
 .simp only;split
  .exact(Ev.sS p l.fm).br _
  .exact .sS p l.fm
 .exact .refl p
theorem Ev.cl(p:Nod):Ev p p.cl:=by
 unfold Nod.cl;split
 .exact .refl p
 .rename_i hc
  have a:p.av.next<=p.ae.length:=by omega
  split
  .exact .refl p
  .split
   .exact .refl p
   .have h1:=Ev.bN p ⟨(p.ae.length:Int),p.av.fv,‹Cmd›⟩;exact⟨h1.up,rfl,h1.vo,h1.cF,h1.ag,λ_ h=>h,mg a (nh _),mi _,h1.wa,h1.dn⟩
theorem Ev.fu(p:Nod)(c:Cmd):Ev p (p.fu c):=by
 unfold Nod.fu;split
 .exact⟨rfl,rfl,mf _,mf _,mi _,λ_ h=>h,A' _,mi _,λ_ h=>List.mem_of_mem_erase h,A' _⟩
 .exact .refl p
theorem Ev.hU(p:Nod)(i:Nat):Ev p (p.hU i).1:=by
 have a:Ev p { p with bw:=(Bb p.vo.p p.bw (p.au.take 40)).2 }:=⟨rfl,rfl,mf _,mf _,mi _,λ_ h=>h,A' _,mi _,λ_ h=>h,A' _⟩;unfold Nod.hU;split
 .exact a
 .split
  .exact a.trans (.sS _ _)
  .exact a
theorem Ev.hZ(p:Nod)(i:Nat)(q:Pend):Ev p (p.hZ i q):=by
 cases q with
 | began b vs =>
  simp only[Nod.hZ];split
  .exact .refl p
  .exact⟨rfl,rfl,mf _,mf _,mi _,λ_ h=>UT h,A' _,mi _,λ_ h=>h,A' _⟩
 | prop v=>exact .count p i v
 | _=>exact .refl p
theorem Stp.ev{c:Nat}{M N:Meet}(s:Stp wh0 c M N)(j:Nat):Ev (M.ab j) (N.ab j):=by
 have put:∀ {i:Nat} {p:Nod} {a:List Let} {b:List Tol},Ev (M.ab i) p->Ev (M.ab j) ((M.set i p a b).ab j):=λ{i p a b} h=>by
  rw[Aj];split
  .rename_i e;rw[e];exact h
  .exact .refl _
 cases s with
 | take _ l hl hd hu ht=>exact put (.take _ l)
 | bm _ a h hd=>exact False.elim hd
 | one _ i c hi hu hc he =>
  refine put (Ev.trans (q:={ M.ab i with ie:=doS (M.ab i).ie c,done:=(M.ab i).done+1 }) ?_ (.fu _ c));exact⟨rfl,rfl,mf _,mf _,mi _,λ_ h=>h,A' _,mi _,λ_ h=>h,nh _⟩
 | ask _ i hi hu=>exact put (.hU _ i)
 | prop _ i hi hu=>exact put (.cl _)
 | qJ _ i hi hu h hT=>exact put ⟨rfl,rfl,mf _,mf _,mi _,λ_ h=>h,A' _,mi _,λ_ h=>h,A' _⟩
 | run _ i hi hu q l hp hs=>exact put ((Ev.hZ _ i q).br l)
 | qA _ i hi hu hL=>exact put ⟨rfl,rfl,mf _,mf _,mi _,λ_ h=>h,A' _,mi _,λ_ h=>h,A' _⟩
 | lead _ i hi hu hL=>exact False.elim hL
 | sub _ i d hi hu hD=>exact False.elim hD
 | ib _ i k hi hu hk hC=>exact False.elim hC
 | start _ i hi hu hs=>exact False.elim hs
theorem Stp.qX{c:Nat}{M N:Meet}(s:Stp wh0 c M N){l:Let}(a:l∈M.bm):l∈N.bm:=by
 cases s with
 | bm _ ls h hd=>exact False.elim hd
 | ask _ i hi hu=>exact mn _ a
 | run _ i hi hu q l hp hs=>exact mn _ a
 | qA _ i hi hu hL=>exact mn _ a
 | _=>exact a
structure Cm(S:Cmd->Prop)(K:Int)(B:Nat->Bal)(cov:List (Bal × Nat))(M:Meet):Prop where
 ex:∃ σ,AgI σ M/\∀ b s c,σ.W b s c->(b,s)∈cov
 kb:K<=3600/\KbI K 3600 M
 up:∀ j,j<5->(M.ab j).up=true
 fv:∀ j,j<5->(M.ab j).av.fv=B j
 s:MtS S M
section
variable{S:Cmd->Prop}{K:Int}{B:Nat->Bal}{cov:List (Bal × Nat)}
theorem Cm.step(n:∀ j,j<5->∀ s,s<40->(B j,s)∈cov){c:Nat}{M N:Meet}(s:Stp wh0 c M N)(h:Cm S K B cov M):Cm S K B cov N:=by
 obtain⟨σ,d,f⟩:=h.ex;obtain⟨τ,o,p,k,l,m⟩:=d.step s;refine⟨⟨τ,k,λb t c g=>?_⟩,⟨h.kb.1,h.kb.2.step (λe=>e) d s h.kb.1⟩,λj a=>(s.ev j).up.trans (h.up j a),λj a=>(s.ev j).fv.trans (h.fv j a),h.s.step (λ_ _ e=>False.elim e) s⟩;rcases l b t c g with g|g
 .exact f b t c g
 .obtain⟨_,h7,i,hi,e⟩:=m b t g;rw[e,h.fv i hi];exact n i hi t h7
theorem Cm.rG{M:Meet}(h:Cm S K B cov M){j:Nat}(a:j<5):AR (M.ab j).d (M.ab j).sy:=by
 obtain⟨σ,b,_⟩:=h.ex;obtain⟨c,k⟩:=(b.nd j a).up (h.up j a);exact k.tp.rG
theorem Cm.le{M:Meet}(h:Cm S K B cov M){j:Nat}(a:j<5):(M.ab j).vo.p.key<=K:=by
 have:=(h.kb.2 j a).1;unfold Nod.pk at this
 rwa [if_pos (h.up j a)]at this
theorem Cm.len{M:Meet}(h:Cm S K B cov M){j:Nat}(a:j<5):((M.ab j).d.length:Int)<=14*K+38*(cov.length:Int):=by
 obtain⟨σ,b,c⟩:=h.ex;have e:=aS b c a (h.up j a);have:=h.le a;omega
end
section
variable{S:Cmd->Prop}{K:Int}{B:Nat->Bal}{cov:List (Bal × Nat)}{M:Meet}
theorem Cm.acc(h:Cm S K B cov M){j:Nat}(a:j<5):Ag (M.ab j).vo:=by
 obtain⟨σ,b,_⟩:=h.ex;obtain⟨c,k⟩:=(b.nd j a).up (h.up j a);rw[k.tp.vo];exact k.tp.ok.acc
theorem Cm.prom(h:Cm S K B cov M)(k:14*K+38*(cov.length:Int)<=99000){j:Nat}(a:j<5){b:Bal}(c:Ab b)(i:¬ b.lt (M.ab j).vo.p):((M.ab j).an b).2.2=0/\((M.ab j).an b).1.vo.p=b:=by
 have e:Cl (M.ab j).vo b=0:=by unfold Cl;rw[if_neg (λg=>g (h.acc a)),if_neg (λg=>g c),if_neg i]
 have f:CK (M.ab j).d (M.ab j).sy (Ab b) (Bu b)=0:=by
  have:=h.len a;unfold CK;rw[UL (h.rG a) (by rw[Kf];omega),if_neg (λg=>g rfl),if_pos c]
 unfold Nod.an;rw[if_neg (λg=>g e)];split
 .exact⟨rfl,rfl⟩
 .rw[if_neg (λg=>g f)];exact⟨rfl,rfl⟩
theorem Cm.sC(h:Cm S K B cov M)(k:14*K+38*(cov.length:Int)<=99000){j:Nat}(a:j<5){v:Vt}(c:Ah v)(i:¬ v.b.lt (M.ab j).vo.p):((M.ab j).bN v).2=0/\((M.ab j).bN v).1.vo.p=v.b:=by
 have e:Ba (M.ab j).vo v=0:=by unfold Ba;rw[if_neg (λg=>g (h.acc a)),if_neg (λg=>g c),if_neg i]
 have f:CK (M.ab j).d (M.ab j).sy (Ah v) (Bk v)=0:=by
  have:=h.len a;unfold CK;rw[UL (h.rG a) (by rw[GM];omega),if_neg (λg=>g rfl),if_pos c]
 unfold Nod.bN;rw[if_neg (λg=>g e)];split
 .exact⟨rfl,rfl⟩
 .rw[if_neg (λg=>g f)];exact⟨rfl,rfl⟩
end
section
variable{I J:Meet->Prop}
theorem EF(M:Meet){i j:Nat}(h:j≠i):(M.act (acN 3 (i:Int))).ab j=M.ab j:=by
 unfold Meet.act;simp only[acN];rw[if_neg (by decide),if_neg (by decide),if_pos trivial,Aj,if_neg (by rw[mM];exact h)]
theorem Ft(i:∀ c M N,Stp wh1 c M N->I M->I N)(r:∀ c M N,Stp wh1 c M N->I M->J M->J N)(z:∀ M j,I M->j<5->(M.ab j).up=true/\AR (M.ab j).d (M.ab j).sy){n:Nat}{M:Meet}(v:MOk n M)(D:n+5<=1000000)(h:I M){j:Nat}(m:j<5){q:Pend}(w:q∈(M.ab j).br)
  (x:∀ N l,I N->Ev (M.ab j) (N.ab j)->(N.ab j).br=q::l->J (N.set j { (N.ab j).hZ j q with br:=l } (N.bm++(N.ab j).pd j q) N.eb)):J (M.dc (AC 3 5)):=by
 have y:∀ k,k<=5->MOk (n+k) (M.dc (AC 3 k))/\I (M.dc (AC 3 k))/\(k<=j->(M.dc (AC 3 k)).ab j=M.ab j)/\(j<k->J (M.dc (AC 3 k))):=by
  intro k;induction k with
  | zero=>exact λ_=>⟨v,h,λ_=>rfl,λe=>absurd e (nW _)⟩
  | succ k ih =>
   intro C;obtain⟨b,f,p,u⟩:=ih (by omega);rw[BS,AJ];refine⟨b.act (by omega) (FU (by omega)),CB i b (by omega) f,λe=>by rw[EF _ (by omega)];exact p (by omega),λe=>?_⟩;by_cases t:j<k
   .exact(CB (I:=λN=>I N/\J N) (λc A B s g=>⟨i c A B s g.1,r c A B s g.1 g.2⟩) b (by omega) ⟨f,u t⟩).2
   .obtain rfl:k=j:=by omega
    have o:=p (A' _);have a:=z _ k f m;exact WG (I:=λN=>I N/\Ev (M.ab k) (N.ab k)) (λc A B s g=>⟨i c A B s g.1,g.2.trans (s.calm.ev k)⟩) (λc A B s g=>r c A B s g.1) b m a.1 a.2 (by rw[o];exact w) ⟨f,by rw[o];exact .refl _⟩ λN l g=>x N l g.1 g.2
 exact(y 5 (A' _)).2.2.2 m
theorem Bm(d:∀ c M N,Stp wh1 c M N->I M->I N){n:Nat}{M:Meet}(e:MOk n M)(i:n+5<=1000000)(h:I M):MOk (n+5) (M.dc (AC 3 5))/\I (M.dc (AC 3 5)):=by
 have f:∀ k,k<=5->MOk (n+k) (M.dc (AC 3 k))/\I (M.dc (AC 3 k)):=by
  intro k;induction k with
  | zero=>exact λ_=>⟨e,h⟩
  | succ k ih =>
   intro g;obtain⟨a,b⟩:=ih (by omega);rw[BS,AJ];exact⟨a.act (by omega) (FU (by omega)),CB d a (by omega) b⟩
 exact f 5 (A' _)
theorem Cu(d:∀ M N,TkS M N->I M->I N){n:Nat}{M:Meet}(b:MOk n M)(h:I M):∃ N,M.act (acN 7 0)={ N with bm:=[] }/\I N/\N.bm=M.bm:=by
 have c:M.act (acN 7 0)={ M.bm.foldl (λM l=>M.lp l) M with bm:=[] }:=by
  show M.qH=_;unfold Meet.qH;rw[H4]
 have:=Jr d M.bm (M:=M) (λm a=>⟨a,(b.bm m a).src,(b.bm m a).dst⟩) h;exact⟨_,c,this⟩
end
theorem Stp.sA{c:Nat}{M N:Meet}(s:Stp wh1 c M N)(j:Nat):(N.ab j).vo.p=(M.ab j).vo.p:=by
 have put:∀ {i:Nat} {p:Nod} {b:List Let} {f:List Tol},p.vo.p=(M.ab i).vo.p->((M.set i p b f).ab j).vo.p=(M.ab j).vo.p:=λ{i p b f} h=>by
  rw[Aj];split
  .rename_i e;rw[e];exact h
  .rfl
 cases s with
 | take _ l a hd hu ht=>exact False.elim ht
 | bm _ b h hd=>exact False.elim hd
 | one _ i c hi hu hc he=>exact put (by unfold Nod.fu;split<;>rfl)
 | ask _ i hi hu=>exact put (by
   unfold Nod.hU;split
   .rfl
   .split
    .unfold Nod.dT;split<;>rfl
    .rfl)
 | prop _ i hi hu=>exact put (by
   unfold Nod.cl;split
   .rfl
   .rename_i hc
    have a:(M.ab i).av.fv=(M.ab i).vo.p:=by
     have:(M.ab i).leads=true:=by cases hh:(M.ab i).leads with|true=>rfl|false=>exact absurd (.inl hh) hc
     exact(mN this).2
    split
    .rfl
    .split
     .rfl
     .show((M.ab i).bN _).1.vo.p=_;unfold Nod.bN;split
      .rfl
      .split
       .exact a
       .split
        .rfl
        .exact a)
 | qJ _ i hi hu h hT=>exact put rfl
 | run _ i hi hu q l hp hs=>exact put (by
   show((M.ab i).hZ i q).vo.p=_;cases q<;>first|rfl|(simp only[Nod.hZ];split<;>rfl)|(simp only[Nod.hZ,Nod.count];split<;>first|rfl|(split<;>rfl)))
 | qA _ i hi hu hL=>exact put rfl
 | lead _ i hi hu hL=>exact False.elim hL
 | sub _ i d hi hu hD=>exact False.elim hD
 | ib _ i k hi hu hk hC=>exact False.elim hC
 | start _ i hi hu hs=>exact False.elim hs
theorem Mk{i:Nat}(l:Let){j k:Nat}(a:j<k)(h:j≠i):{ l with src:=i,dst:=j }∈BV i l k:=mB.2 ⟨j,oL.2 ⟨oJ.2 a,P' h⟩,rfl⟩
section
variable{S:Cmd->Prop}{K:Int}{B:Nat->Bal}{cov:List (Bal × Nat)}
theorem Cm.drop{M:Meet}(h:Cm S K B cov M):Cm S K B cov { M with bm:=[] }:=by
 obtain⟨σ,b,c⟩:=h.ex;exact⟨⟨σ,⟨b.gs,b.nd,λl a=>by cases a⟩,c⟩,h.kb,h.up,h.fv,⟨h.s.nd,λl a=>by cases a⟩⟩
def Gr8(K:Int)(p:Nod):Prop:=K<=5*p.cF+4\/K<=p.vo.p.key
theorem Gr8.ev{p q:Nod}(h:Gr8 K p)(e:Ev p q):Gr8 K q:=by
 have:=e.cF;have:=e.vo;unfold Gr8 at *;omega
theorem iz(Q:∀ j,j<5->∀ s,s<40->(B j,s)∈cov){n:Nat}{M:Meet}(C:MOk n M)(hn:n+12<=1000000)(h:Cm S K B cov M){i:Nat}(R:i<5){j:Nat}(f:j<5)(O:(M.ab j).vo.p.key=K){b:Bal}{vs:List Vt}(P:(M.ab i).vo.p=b)(u:Ab b)(hq:.began b vs∈(M.ab i).br) :
  Gr8 K ((M.dc (An++An)).ab i):=by
 have X:∀ A:Meet,A.dc (An++An)=(((A.dc (AC 3 5)).act (acN 7 0)).dc (AC 3 5)).act (acN 7 0):=λA=>by
  rw[AH,show An=AC 3 5++[acN 7 0]from rfl,AJ,AJ]
 have a:∀ c A N,Stp wh1 c A N->Cm S K B cov A->Cm S K B cov N:=λc A N s g=>g.step Q s.calm;have d:∀ A N,TkS A N->Cm S K B cov A->Cm S K B cov N:=λA N s g=>g.step Q s.ri;have m:LacOk (acN 7 0):=by rw[<- DO];decide
 rw[X];by_cases D:Gr8 K (M.ab i)
 .-- it knows already
  have z:=Bm (I:=λN=>Cm S K B cov N/\Gr8 K (N.ab i)) (λc A N s g=>⟨a c A N s g.1,g.2.ev (s.calm.ev i)⟩) C (by omega) ⟨h,D⟩;obtain⟨N,F,x,_⟩:=Cu (I:=λN=>Cm S K B cov N/\Gr8 K (N.ab i)) (λA N s g=>⟨d A N s g.1,g.2.ev (s.ri.ev i)⟩) z.1 z.2;have t:=z.1.act (by omega) m;rw[F]at t ⊢
  have L:=Bm (I:=λN=>Cm S K B cov N/\Gr8 K (N.ab i)) (λc A N s g=>⟨a c A N s g.1,g.2.ev (s.calm.ev i)⟩) t (by omega) ⟨x.1.drop,x.2⟩;obtain⟨U,G,T,_⟩:=Cu (I:=λN=>Cm S K B cov N/\Gr8 K (N.ab i)) (λA N s g=>⟨d A N s g.1,g.2.ev (s.ri.ev i)⟩) L.1 L.2;rw[G];exact T.2
 .have hij:i≠j:=λe=>D (.inr (by rw[e,O];exact mf _));have a0:b.key<K:=by rw[<- P];unfold Gr8 at D;omega
  obtain⟨b0,o⟩:∃ b0,(M.ab j).vo.p=b0:=⟨_,rfl⟩;rw[o]at O
  have w:Ao b0:=by rw[<- o];exact(h.acc f).1
  have E:∀ A N,TkS A N->Cm S K B cov A->(A.ab j).vo.p=b0->(N.ab j).vo.p=b0:=λA N s g e=>by
   have Y:=(s.ri.ev j).vo;have h2:=(d A N s g).le f;rw[e]at Y
   exact DN ((d A N s g).acc f).1 w (by omega)
  have y:=Bm (I:=λN=>Cm S K B cov N/\(N.ab j).vo.p=b0) (λc A N s g=>⟨a c A N s g.1,(s.sA j).trans g.2⟩) C (by omega) ⟨h,o⟩;have V:=Ft (I:=λN=>Cm S K B cov N/\(N.ab i).vo.p=b) (J:=λN=>({ BD 0 with fv:=b,src:=i,dst:=j }:Let)∈N.bm) (λc A N s g=>⟨a c A N s g.1,(s.sA i).trans g.2⟩) (λc A N s _ g=>s.calm.qX g) (λA k g v=>⟨g.1.up k v,g.1.rG v⟩) C (by omega) ⟨h,P⟩ R hq (λN l g _ _=>by
   refine mj _ ?_;simp only[Nod.pd];rw[if_neg (λe=>e g.2)];exact Mk { BD 0 with fv:=b } f (Ne.symm hij))
  obtain⟨N,F,x,G,T⟩:=DS (I:=λN=>Cm S K B cov N/\(N.ab j).vo.p=b0) (J:=λN=>Pend.ew i b0∈(N.ab j).br) (λA N s g=>⟨d A N s g.1,E A N s g.1 g.2⟩) (λA N s _ g=>by
   obtain⟨l,_,_,_,rfl⟩:=s;rw[Aj];split
   .rename_i e;rw[<- e];exact Hh g
   .exact g) y.1 y.2 V (λN g=>g.1.up j f) (λN g _=>by
   rw[Aj,if_pos rfl];have Z:Cl (N.ab j).vo b=7:=by
    unfold Cl;rw[if_neg (λe=>e (g.1.acc f)),if_neg (λe=>e u),if_pos (by rw[Fb u.pr (g.1.acc f).1,g.2];omega)]
   have h8:(N.ab j).an b=(N.ab j,[],7):=by unfold Nod.an;rw[Z,if_pos (by decide)]
   show Pend.ew i b0∈(if((N.ab j).an b).2.2≠0 then(N.ab j).ew i ((N.ab j).an b).2.2 else _).br;rw[h8,if_pos (show(7:Int)≠0 by decide)];unfold Nod.ew;rw[if_pos rfl,<- g.2];exact mj _ (D'.2 rfl))
  have t:=y.1.act (by omega) m;rw[F]at t ⊢
  have H:=Bm (I:=Cm S K B cov) a t (by omega) x.1.drop;have W:=Ft (I:=Cm S K B cov) (J:=λN=>({ BD 2 with fv:=b0,src:=j,dst:=i }:Let)∈N.bm) a (λc A N s _ g=>s.calm.qX g) (λA k g v=>⟨g.up k v,g.rG v⟩) t (by omega) x.1.drop f (q:=.ew i b0) G (λN l g _ _=>mj _ (D'.2 rfl));obtain⟨U,k5,k6,k7,_⟩:=DS (I:=Cm S K B cov) (J:=λN=>Gr8 K (N.ab i)) d (λA N s _ g=>g.ev (s.ri.ev i)) H.1 H.2 W (λN g=>g.up i R) (λN g _=>by
   rw[Aj,if_pos rfl];refine .inl ?_;show K<=5*max (N.ab i).cF b0.r+4;have:b0.key<=5*b0.r+4:=by unfold Ao Ab at w;unfold Bal.key;omega
   omega)
  rw[k5];exact k7
end
def P1(i:Nat)(p:Nod):Prop:=p.av.next=0/\∀ j,j≠i->p.av.nn j=false
theorem P1.ti{i:Nat}{p:Nod}(h:P1 i p):p.av.qD=false:=by
 unfold Rnd.qD Jp;have k:=h.2;have g:∀ j,(p.av.nn j).toNat<=if j=i then 1 else 0:=λj=>by
  split
  .cases p.av.nn j<;>decide
  .rename_i e;rw[k j e];decide
 have a:=g 0;have b:=g 1;have c:=g 2;have d:=g 3;have f:=g 4;refine G' ?_;split at a<;>split at b<;>split at c<;>split at d<;>split at f<;>omega
theorem Stp.p1{c:Nat}{M N:Meet}(s:Stp wh1 c M N){i:Nat}(h:P1 i (M.ab i)):P1 i (N.ab i):=by
 have put:∀ {k:Nat} {p:Nod} {a:List Let} {m:List Tol},(i=k->P1 i p)->P1 i ((M.set k p a m).ab i):=λ{k p a m} g=>by
  rw[Aj];split
  .rename_i e;exact g e
  .exact h
 cases s with
 | take _ l hl hd hu ht=>exact False.elim ht
 | bm _ a h hd=>exact False.elim hd
 | one _ k c hi hu hc he=>exact put λe=>by subst e;unfold Nod.fu;split<;>exact h
 | ask _ k hi hu =>
  exact put λe=>by
   subst e;unfold Nod.hU;split
   .exact h
   .split
    .unfold Nod.dT;split<;>exact h
    .exact h
 | prop _ k hi hu =>
  exact put λe=>by
   subst e;unfold Nod.cl;rw[if_pos (.inr (.inl h.ti))];exact h
 | qJ _ k hi hu hs hT=>exact put λe=>by subst e;exact h
 | run _ k hi hu q l hp hs =>
  exact put λe=>by
   subst e;show P1 i ((M.ab i).hZ i q);cases q with
   | began b vs =>
    simp only[Nod.hZ];split
    .exact h
    .exact⟨h.1,λj f=>by show upN (M.ab i).av.nn i true j=false;rw[Dz _ _ f];exact h.2 j f⟩
   | prop v =>
    simp only[Nod.hZ,Nod.count];split
    .exact h
    .split<;>exact h
   | _=>exact h
 | qA _ k hi hu hL=>exact put λe=>by subst e;exact h
 | lead _ k hi hu hL=>exact False.elim hL
 | sub _ k d hi hu hD=>exact False.elim hD
 | ib _ k x hi hu hk hC=>exact False.elim hC
 | start _ k hi hu hs=>exact False.elim hs
theorem eI{i:Nat}{p:Nod}(h:P1 i p){l:Let}(c:l.kind=1->l.src≠i->l.fv≠p.av.fv):P1 i (p.take l):=by
 have f:∀ v,P1 i (p.bN v).1:=λv=>by
  unfold Nod.bN;split
  .exact h
  .split
   .exact h
   .split<;>exact h
 unfold Nod.take;split
 .split
  .unfold Nod.ew;split<;>exact h
  .show P1 i (p.an l.fv).1;unfold Nod.an;split
   .exact h
   .split
    .exact h
    .split<;>exact h
 .rename_i hk
  simp only;split
  .exact h
  .rename_i hc
   have b:l.fv=p.av.fv:=mV λe=>hc (.inr (.inl e));have d:l.src=i:=mV λe=>c hk e b;exact⟨h.1,λj a=>by show upN p.av.nn l.src true j=false;rw[Dz _ _ (by rw[d];exact a)];exact h.2 j a⟩
 .exact h
 .split
  .unfold Nod.ew;split<;>exact h
  .exact f _
 .unfold Nod.count;split
  .exact h
  .split<;>exact h
 .split<;>exact h
 .simp only;unfold Nod.dT;split<;>split<;>exact h
 .exact h
section
variable{S:Cmd->Prop}{K:Int}{B:Nat->Bal}{cov:List (Bal × Nat)}
theorem Cm.top(a:∀ j,j<5->∀ s,s<40->(B j,s)∈cov){c:Nat}{A N:Meet}(s:Stp wh0 c A N)(g:Cm S K B cov A){b:Bal}(h:Ao b)(k:b.key=K){j:Nat}(d:j<5)(e:(A.ab j).vo.p=b):(N.ab j).vo.p=b:=by
 have f:=(s.ev j).vo;have i:=(g.step a s).le d;rw[e]at f
 exact DN ((g.step a s).acc d).1 h (by omega)
theorem dM(D:∀ j,j<5->∀ s,s<40->(B j,s)∈cov)(hQ:14*K+38*(cov.length:Int)<=99000){n:Nat}{M:Meet}(Y:MOk n M)(hn:n+12<=1000000)(h:Cm S K B cov M){i:Nat}(L:i<5){b:Bal}(o:Ab b)(X:b.key=K)(hB:B i=b)(hv:(M.ab i).vo.p=b)(R:∀ j,j<5->j≠i->(M.ab j).vo.p.key<K){d:List Vt}(hq:.began b d∈(M.ab i).br)(T:P1 i (M.ab i)) :
  Cm S K B cov (M.dc An)/\(∀ j,j<5->((M.dc An).ab j).vo.p=b)/\((M.dc An).ab i).av.nn i=true/\(∀ j,j<5->j≠i->∃ d,Pend.prom i b d∈((M.dc An).ab j).br)/\P1 i ((M.dc An).ab i)/\(M.dc An).bm=[]/\MOk (n+6) (M.dc An):=by
 have v:LacOk (acN 7 0):=by rw[<- DO];decide
 have t:∀ c A N,Stp wh1 c A N->Cm S K B cov A->Cm S K B cov N:=λc A N s g=>g.step D s.calm;have u:∀ A N,TkS A N->Cm S K B cov A->Cm S K B cov N:=λA N s g=>g.step D s.ri;have U:=Bm (I:=λN=>Cm S K B cov N/\(∀ j,(N.ab j).vo.p=(M.ab j).vo.p)/\P1 i (N.ab i)) (λc A N s g=>⟨t c A N s g.1,λj=>(s.sA j).trans (g.2.1 j),s.p1 g.2.2⟩) Y (by omega) ⟨h,λ_=>rfl,T⟩;have F:=Ft (I:=λN=>Cm S K B cov N/\(N.ab i).vo.p=b) (J:=λN=>(∀ j,j<5->j≠i->({ BD 0 with fv:=b,src:=i,dst:=j }:Let)∈N.bm)/\(N.ab i).av.nn i=true) (λc A N s g=>⟨t c A N s g.1,(s.sA i).trans g.2⟩) (λc A N s _ g=>⟨λj a e=>s.calm.qX (g.1 j a e),(s.calm.ev i).nn i g.2⟩) (λA k g E=>⟨g.1.up k E,g.1.rG E⟩) Y (by omega) ⟨h,hv⟩ L hq (λN l g _ _=>by
  refine⟨λj a e=>mj _ ?_,?_⟩
  .simp only[Nod.pd];rw[if_neg (λe=>e g.2)];exact Mk { BD 0 with fv:=b } a e
  .rw[Aj,if_pos rfl];show((N.ab i).hZ i (.began b d)).av.nn i=true;simp only[Nod.hZ];rw[if_neg (λe=>e g.2)];exact Dd _ _ _)
 rw[show An=AC 3 5++[acN 7 0]from rfl,AJ];generalize M.dc (AC 3 5)=A at U F ⊢;obtain⟨z,f,r,H⟩:=U;have Q:∀ m∈A.bm,m.kind=1->m.src≠i->m.fv≠b:=λm Z E hs e=>by
  obtain⟨σ,y,_⟩:=f.ex;have q:=(z.bm m Z).src;have G:=((y.lt m Z).k1 E).1.le;have W:=(y.nd _ q).rI;unfold Nod.pk at W;rw[if_pos (f.up _ q),r]at W
  have h4:=R _ q hs;have h6:m.fv.key<=σ.P m.src:=G;rw[e]at h6
  omega
 obtain⟨N,k1,⟨k2,k3,k4,k5,k6⟩,k7⟩:=Cu (I:=λN=>Cm S K B cov N/\(N.ab i).vo.p=b/\P1 i (N.ab i)/\(N.ab i).av.nn i=true/\N.bm=A.bm) (λC N s g=>by
  refine⟨u C N s g.1,g.1.top D s.ri o.pr X L g.2.1,?_,(s.ri.ev i).nn i g.2.2.2.1,?_⟩
  .obtain⟨l,hl,_,_,rfl⟩:=s;rw[Aj];split
   .rename_i e
    rw[<- e];exact eI g.2.2.1 λy G=>by rw[g.1.fv i L,hB];exact Q l (by rw[<- g.2.2.2.2];exact hl) y G
   .exact g.2.2.1
  .obtain⟨l,hl,_,_,rfl⟩:=s;exact g.2.2.2.2) z ⟨f,(r i).trans hv,H,F.2,rfl⟩
 have a:∀ j,j<5->j≠i->((A.act (acN 7 0)).ab j).vo.p=b/\∃ d,Pend.prom i b d∈((A.act (acN 7 0)).ab j).br:=λj a O=>by
  obtain⟨N',q1,q2,q3,_⟩:=DS (I:=Cm S K B cov) (J:=λN=>(N.ab j).vo.p=b/\∃ d,Pend.prom i b d∈(N.ab j).br) u (λC N s g e=>⟨g.top D s.ri o.pr X a e.1,by
   obtain⟨d,V⟩:=e.2;refine⟨d,?_⟩;obtain⟨l,_,_,_,rfl⟩:=s;rw[Aj];split
   .rename_i e3;rw[<- e3];exact Hh V
   .exact V⟩) z f (F.1 j a O) (λN g=>g.up j a) (λN g _=>by
   rw[Aj,if_pos rfl];have a0:=g.le a;have x:=g.prom hQ a o (by rw[Fb o.pr (g.acc a).1];omega);have e:(N.ab j).take ({ BD 0 with fv:=b,src:=i,dst:=j }:Let)=((N.ab j).an b).1.wait (.prom i b ((N.ab j).an b).2.1):=by
    show(if((N.ab j).an b).2.2≠0 then _ else _)=_;rw[if_neg (λg=>g x.1)]
   rw[e];exact⟨x.2,_,mj _ (D'.2 rfl)⟩)
  rw[q1];exact q3
 have w:=z.act (by omega) v;rw[k1]at a w ⊢
 exact⟨k2.drop,λj q=>by
  by_cases e:j=i
  .rw[e];exact k3
  .exact(a j q e).1,k5,λj q e=>(a j q e).2,k4,rfl,w⟩
end
section
theorem eN(f:Cmd->Option Bal)(c:Cmd)(b:Option Bal):BW f c b c=b:=if_pos rfl
theorem UV(f:Cmd->Option Bal){c d:Cmd}(b:Option Bal)(h:d≠c):BW f c b d=f d:=if_neg h
theorem La{b:Bal}(p:b≠Be)(l:List Cmd)(f:Cmd->Option Bal):(∀ c,c∉l->(Bb b f l).2 c=f c)/\(∀ c∈l,(Bb b f l).2 c=some b)/\(∀ c∈l,f c=some b\/c∈(Bb b f l).1)/\∀ c∈(Bb b f l).1,c∈l:=by
 induction l generalizing f with
 | nil=>exact⟨λ_ _=>rfl,λ_ h=>(by cases h),λ_ h=>(by cases h),λ_ h=>(by cases h)⟩
 | cons c l ih =>
  rw[Bb];split
  .rename_i hc
   obtain⟨j,k,m,n⟩:=ih (BW f c (some b));refine⟨λd a=>?_,λd a=>?_,λd a=>?_,λd a=>?_⟩
   .show(Bb b (BW f c (some b)) l).2 d=f d;rw[j d λe=>a (I' _ e),UV _ _ λe=>a (by rw[e];exact M')]
   .show(Bb b (BW f c (some b)) l).2 d=some b;by_cases i:d∈l
    .exact k d i
    .rcases mp.1 a with rfl|e
     .rw[j d i,eN]
     .exact absurd e i
   .rcases mp.1 a with rfl|e
    .exact .inr M'
    .by_cases e2:d=c
     .rw[e2];exact .inr M'
     .rcases m d e with g|g
      .rw[UV _ _ e2]at g;exact .inl g
      .exact .inr (I' _ g)
   .rcases mp.1 a with rfl|e
    .exact M'
    .exact I' _ (n d e)
  .rename_i hc
   have o:f c=some b:=by
    have:=mh.1 hc;cases hh:f c with
    | none=>rw[hh]at this;exact absurd this.symm p
    | some x=>rw[hh]at this;exact congrArg some this
   obtain⟨j,k,m,n⟩:=ih f;refine⟨λd a=>j d λe=>a (I' _ e),λd a=>?_,λd a=>?_,λd a=>I' _ (n d a)⟩
   .by_cases i:d∈l
    .exact k d i
    .rcases mp.1 a with rfl|e
     .rw[j d i];exact o
     .exact absurd e i
   .rcases mp.1 a with rfl|e
    .exact .inl o
    .exact m d e
theorem H6(l q:List Cmd)(h:q.Nodup):(Hk q l).Nodup:=by
 induction l generalizing q with
 | nil=>exact h
 | cons c l ih =>
  rw[Hk];refine ih _ ?_;split
  .rename_i hc
   exact ou.2 ⟨h,oz.2 ⟨O',nM⟩,λx a y b e=>hc.2 (by rw[<- D'.1 b,<- e];exact a)⟩
  .exact h
theorem Qm{C:List Cmd}(j:C.length<40)(l q:List Cmd)(g:q.Nodup)(a:∀ c∈q,c∈C)(b:∀ c∈l,c∈C):∀ c∈l,c∈Hk q l:=by
 induction l generalizing q with
 | nil=>exact λc hc=>by cases hc
 | cons d l ih =>
  have f:=KO g a;have i:=b d M';intro c hc;rw[Hk];have h:d∈(if q.length<40/\d∉q then q++[d]else q):=by
   by_cases e:d∈q
   .split
    .exact mn _ e
    .exact e
   .rw[if_pos ⟨by omega,e⟩];exact mj _ (D'.2 rfl)
  rcases mp.1 hc with rfl|hc
  .exact(Qn l _).subset h
  .refine ih _ ?_ (λx hx=>?_) (λx hx=>b x (I' _ hx)) c hc
   .exact H6 [d] q g
   .split at hx
    .rcases Q'.1 hx with hx|hx
     .exact a x hx
     .rw[D'.1 hx];exact i
    .exact a x hx
structure AskI(p:Nod):Prop where
 nd:p.au.Nodup
 wa:∀ c,c∈p.au↔(p.bw c).isSome=true
 le:∀ c x,p.bw c=some x->x.key<=p.vo.p.key
 un:∀ c∈p.au,c∉p.ae.take p.done
 qn:p.av.fa.Nodup
 dn:p.done<=p.ae.length
theorem Mz{α:Type}{l m:List α}{k:Nat}(h:l <+: m)(a:k<=l.length):m.take k=l.take k:=by obtain⟨x,rfl⟩:=h;exact mA a
variable{M N:Meet}{p:Nod}
theorem AskI.jv{q:Nod}(h:AskI p)(e:Ev p q)(i:q.au=p.au/\q.bw=p.bw/\q.done=p.done)(f:q.av.fa.Nodup):AskI q:=by
 obtain⟨a,b,d⟩:=i;refine⟨by rw[a];exact h.nd,by rw[a,b];exact h.wa,λc x g=>mC (h.le c x (by rw[<- b];exact g)) e.vo,?_,f,by rw[d];exact mg h.dn e.ag.length_le⟩;rw[a,d,Mz e.ag h.dn];exact h.un
theorem AY(p:Nod)(b:Bal):((p.an b).1.au=p.au/\(p.an b).1.bw=p.bw/\(p.an b).1.done=p.done)/\(p.an b).1.av=p.av:=by
 unfold Nod.an;split
 .exact⟨⟨rfl,rfl,rfl⟩,rfl⟩
 .split
  .exact⟨⟨rfl,rfl,rfl⟩,rfl⟩
  .split<;>exact⟨⟨rfl,rfl,rfl⟩,rfl⟩
theorem Cn(p:Nod)(v:Vt):((p.bN v).1.au=p.au/\(p.bN v).1.bw=p.bw/\(p.bN v).1.done=p.done)/\(p.bN v).1.av=p.av:=by
 unfold Nod.bN;split
 .exact⟨⟨rfl,rfl,rfl⟩,rfl⟩
 .split
  .exact⟨⟨rfl,rfl,rfl⟩,rfl⟩
  .split<;>exact⟨⟨rfl,rfl,rfl⟩,rfl⟩
theorem My(p:Nod)(l:Let)(a:p.av.fa.Nodup):((p.take l).au=p.au/\(p.take l).bw=p.bw/\(p.take l).done=p.done)/\(p.take l).av.fa.Nodup:=by
 unfold Nod.take;split
 .split
  .unfold Nod.ew;split<;>exact⟨⟨rfl,rfl,rfl⟩,a⟩
  .have:=AY p l.fv;exact⟨this.1,by show(p.an l.fv).1.av.fa.Nodup;rw[this.2];exact a⟩
 .simp only;split<;>exact⟨⟨rfl,rfl,rfl⟩,a⟩
 .exact⟨⟨rfl,rfl,rfl⟩,a⟩
 .split
  .unfold Nod.ew;split<;>exact⟨⟨rfl,rfl,rfl⟩,a⟩
  .have:=Cn p l.bN;exact⟨this.1,by show(p.bN l.bN).1.av.fa.Nodup;rw[this.2];exact a⟩
 .unfold Nod.count;split
  .exact⟨⟨rfl,rfl,rfl⟩,a⟩
  .split<;>exact⟨⟨rfl,rfl,rfl⟩,a⟩
 .split<;>exact⟨⟨rfl,rfl,rfl⟩,a⟩
 .simp only;unfold Nod.dT;split<;>split<;>first|exact⟨⟨rfl,rfl,rfl⟩,a⟩|exact⟨⟨rfl,rfl,rfl⟩,H6 _ _ a⟩
 .exact⟨⟨rfl,rfl,rfl⟩,a⟩
theorem AskI.hU(h:AskI p)(i:Nat)(q:0<=p.vo.p.key):AskI (p.hU i).1:=by
 have key:∀ (l:List Cmd) (f:Cmd->Option Bal),(∀ c,c∈l->(f c).isSome=true)->(∀ c,((Bb p.vo.p f l).2 c).isSome=(f c).isSome)/\∀ c x,(Bb p.vo.p f l).2 c=some x->f c=some x\/x=p.vo.p:=by
  intro l;induction l with
  | nil=>exact λf _=>⟨λ_=>rfl,λ_ _ g=>.inl g⟩
  | cons c l ih =>
   intro f j;rw[Bb];split
   .have hu:∀ d,(BW f c (some p.vo.p) d).isSome=(f d).isSome:=λd=>by
     unfold BW;split
     .rename_i e;rw[e,j c M'];rfl
     .rfl
    obtain⟨a,k⟩:=ih (BW f c (some p.vo.p)) λd b=>by rw[hu];exact j d (I' _ b)
    refine⟨λd=>(a d).trans (hu d),λd x g=>?_⟩;rcases k d x g with g|g
    .unfold BW at g;split at g
     .exact .inr (mT g).symm
     .exact .inl g
    .exact .inr g
   .exact ih f λd b=>j d (I' _ b)
 obtain⟨n,o⟩:=key (p.au.take 40) p.bw λc m=>(h.wa c).1 (mx m);have a:AskI { p with bw:=(Bb p.vo.p p.bw (p.au.take 40)).2 }:=⟨h.nd,λc=>by show _↔((Bb p.vo.p p.bw (p.au.take 40)).2 c).isSome=true;rw[n];exact h.wa c,λc x g=>by
  rcases o c x g with g|g
  .exact h.le c x g
  .rw[g];exact mf _,h.un,h.qn,h.dn⟩
 unfold Nod.hU;split
 .exact a
 .split
  .refine a.jv (.sS _ _) ?_ ?_
   .unfold Nod.dT;split<;>exact⟨rfl,rfl,rfl⟩
   .unfold Nod.dT;split
    .exact H6 _ _ h.qn
    .exact h.qn
  .exact a
theorem AskI.one(h:AskI p){c:Cmd}(b:p.ae[p.done]?=some c)(s:Sto):AskI (Nod.fu { p with ie:=s,done:=p.done+1 } c):=by
 have f:=(V'.1 b).1;have i:p.ae.take (p.done+1)=p.ae.take p.done++[c]:=by rw[oQ,b];rfl
 unfold Nod.fu;split
 .refine⟨h.nd.erase c,λd=>?_,λd x g=>?_,λd a=>?_,h.qn,f⟩
  .show d∈p.au.erase c↔(BW p.bw c none d).isSome=true;rw[h.nd.mem_erase_iff];unfold BW;split
   .rename_i e;simp[e]
   .rename_i e;rw[h.wa d];simp[e]
  .have g:BW p.bw c none d=some x:=g;unfold BW at g;split at g
   .cases g
   .exact h.le d x g
  .have a:d∈p.au.erase c:=a;rw[h.nd.mem_erase_iff]at a
   show d∉p.ae.take (p.done+1);rw[i];intro e;rcases Q'.1 e with e|e
   .exact h.un d a.2 e
   .exact a.1 (D'.1 e)
 .rename_i hn
  refine⟨h.nd,h.wa,h.le,λd a=>?_,h.qn,f⟩;show d∉p.ae.take (p.done+1);rw[i];intro e;rcases Q'.1 e with e|e
  .exact h.un d a e
  .rw[D'.1 e]at a
   exact hn ((h.wa c).1 a)
theorem AskI.want(h:AskI p){c:Cmd}(b:c∉p.ae.take p.done)(a:0<=p.vo.p.key):AskI (p.want c):=by
 unfold Nod.want;split
 .exact h
 .rename_i hn
  have f:c∉p.au:=λe=>hn ((h.wa c).1 e);refine⟨ou.2 ⟨h.nd,oz.2 ⟨O',nM⟩,λx i y j e=>f (by rw[<- D'.1 j,<- e];exact i)⟩,λd=>?_,λd x g=>?_,λd hd=>?_,h.qn,h.dn⟩
  .show d∈p.au++[c]↔(BW p.bw c (some Be) d).isSome=true;unfold BW;split
   .rename_i e;simp[e]
   .rename_i e;rw[<- h.wa d];simp[e]
  .have g:BW p.bw c (some Be) d=some x:=g;unfold BW at g;split at g
   .rw[<- mT g];exact a
   .exact h.le d x g
  .rcases Q'.1 hd with hd|hd
   .exact h.un d hd
   .rw[D'.1 hd];exact b
theorem AskI.bare(p:Nod)(u:Bool)(d:List Int)(s:Int)(a:Acc)(x:List Pend):AskI (p.bare u d s a x):=⟨nM,λc=>⟨λe=>(by cases e),λe=>(by cases e)⟩,λc x e=>(by cases e),λc e=>(by cases e),nM,A' _⟩
theorem AskI.step{D:Wh}{c:Nat}(s:Stp D c M N){σ:Gs}(g:AgI σ M)(h:∀ j,j<5->AskI (M.ab j)):∀ j,j<5->AskI (N.ab j):=by
 intro j i;have put:∀ {k:Nat} {p:Nod} {f:List Let} {o:List Tol},(k<5->AskI p)->AskI ((M.set k p f o).ab j):=λ{k p f o} e=>by
  rw[Aj];split
  .rename_i e2;exact e (by omega)
  .exact h j i
 have pos:∀ {k:Nat},k<5->(M.ab k).up=true->0<=(M.ab k).vo.p.key:=λ{k} m a=>by
  obtain⟨t,q⟩:=(g.nd k m).up a;have n:=q.tp.ok.acc.1;rw[<- q.tp.vo]at n
  unfold Ao Ab at n;unfold Bal.key;omega
 cases s with
 | take _ l hl hd a ht =>
  have:=My (M.ab l.dst) l (h _ hd.2).qn;exact put λ_=>(h _ hd.2).jv (.take _ l) this.1 this.2
 | bm _ f hl hd=>exact h j i
 | one _ k c hi a hc he=>exact put λ_=>(h k hi).one hc _
 | ask _ k hi a=>exact put λ_=>(h k hi).hU k (pos hi a)
 | prop _ k hi a =>
  refine put λ_=>(h k hi).jv (.cl _) ?_ ?_
  .unfold Nod.cl;split
   .exact⟨rfl,rfl,rfl⟩
   .split
    .exact⟨rfl,rfl,rfl⟩
    .split
     .exact⟨rfl,rfl,rfl⟩
     .exact(Cn (M.ab k) _).1
  .unfold Nod.cl;split
   .exact(h k hi).qn
   .split
    .exact(h k hi).qn
    .split<;>exact(h k hi).qn
 | qJ _ k hi a hs hT=>exact put λ_=>⟨(h k hi).nd,(h k hi).wa,(h k hi).le,(h k hi).un,(h k hi).qn,(h k hi).dn⟩
 | run _ k hi a q l hp hs =>
  refine put λ_=>(h k hi).jv ((Ev.hZ _ k q).br l) ?_ ?_
  .show((M.ab k).hZ k q).au=_/\((M.ab k).hZ k q).bw=_/\((M.ab k).hZ k q).done=_;cases q<;>first|exact⟨rfl,rfl,rfl⟩|(simp only[Nod.hZ];split<;>exact⟨rfl,rfl,rfl⟩)|(simp only[Nod.hZ,Nod.count];split<;>first|exact⟨rfl,rfl,rfl⟩|(split<;>exact⟨rfl,rfl,rfl⟩))
  .show((M.ab k).hZ k q).av.fa.Nodup;have:=(h k hi).qn;cases q<;>first|exact this|(simp only[Nod.hZ];split<;>exact this)|(simp only[Nod.hZ,Nod.count];split<;>first|exact this|(split<;>exact this))
 | qA _ k hi a hL=>exact put λ_=>⟨(h k hi).nd,(h k hi).wa,(h k hi).le,(h k hi).un,(h k hi).qn,(h k hi).dn⟩
 | lead _ k hi a hL =>
  refine put λ_=>?_;unfold Nod.lead;simp only;split
  .exact h k hi
  .generalize (⟨max (M.ab k).cF (M.ab k).vo.p.r+1,(k:Int)⟩:Bal)=b;have e:=AY (M.ab k) b;have q:=(h k hi).jv (.an _ b) e.1 (by rw[e.2];exact(h k hi).qn);exact⟨q.nd,q.wa,q.le,q.un,nM,q.dn⟩
 | sub _ k d hi a hD =>
  refine put λ_=>?_;unfold Nod.qK Nod.qY;split
  .exact h k hi
  .split
   .exact⟨(h k hi).nd,(h k hi).wa,(h k hi).le,(h k hi).un,(h k hi).qn,(h k hi).dn⟩
   .split
    .exact h k hi
    .rename_i hc;exact(h k hi).want hc (pos hi a)
 | ib _ k x hi a m hC =>
  refine put λ_=>?_;unfold Nod.ib;split
  .exact h k hi
  .exact .bare _ _ _ _ _ _
 | start _ k hi a hs =>
  refine put λ_=>?_;unfold Nod.start;split
  .exact h k hi
  .split<;>exact .bare _ _ _ _ _ _
theorem AskI.zero:∀ j,j<5->AskI (As.ab j):=λj _=>AskI.bare Cz true [] 0 El []
theorem Stp.bw{n:Nat}(s:Stp wh0 n M N){j:Nat}{c:Cmd}{x:Bal}(h:(N.ab j).bw c=some x):(M.ab j).bw c=some x\/(j<5/\N=M.set j ((M.ab j).hU j).1 (M.bm++((M.ab j).hU j).2) M.eb):=by
 have put:∀ {k:Nat} {p:Nod} {a:List Let} {b:List Tol},((M.set k p a b).ab j).bw c=some x->(p.bw c=some x->(M.ab k).bw c=some x)->(M.ab j).bw c=some x:=λ{k p a b} g e=>by
  rw[Aj]at g
  split at g
  .rename_i e2;rw[e2];exact e g
  .exact g
 cases s with
 | take _ l hl hd hu ht =>
  refine .inl (put h λg=>?_);rw[show((M.ab l.dst).take l).bw=(M.ab l.dst).bw from ?_]at g
  .exact g
  .unfold Nod.take;split
   .split
    .unfold Nod.ew;split<;>rfl
    .exact(AY _ _).1.2.1
   .simp only;split<;>rfl
   .rfl
   .split
    .unfold Nod.ew;split<;>rfl
    .exact(Cn _ _).1.2.1
   .unfold Nod.count;split
    .rfl
    .split<;>rfl
   .split<;>rfl
   .simp only;unfold Nod.dT;split<;>split<;>rfl
   .rfl
 | bm _ a hl hd=>exact False.elim hd
 | one _ k d hi hu hc he =>
  refine .inl (put h λg=>?_);unfold Nod.fu at g;split at g
  .have g:BW (M.ab k).bw d none c=some x:=g;unfold BW at g;split at g
   .cases g
   .exact g
  .exact g
 | ask _ k hi hu =>
  by_cases e:j=k
  .subst e;exact .inr ⟨hi,rfl⟩
  .rw[Aj,if_neg e]at h;exact .inl h
 | prop _ k hi hu =>
  refine .inl (put h λg=>?_);unfold Nod.cl at g;split at g
  .exact g
  .split at g
   .exact g
   .split at g
    .exact g
    .have g:((M.ab k).bN _).1.bw c=some x:=g;rw[(Cn _ _).1.2.1]at g;exact g
 | qJ _ k hi hu hs hT=>exact .inl (put h λg=>g)
 | run _ k hi hu q l hp hs =>
  refine .inl (put h λg=>?_);have g:((M.ab k).hZ k q).bw c=some x:=g;rw[show((M.ab k).hZ k q).bw=(M.ab k).bw from ?_]at g
  .exact g
  .cases q<;>first|rfl|(simp only[Nod.hZ];split<;>rfl)|(simp only[Nod.hZ,Nod.count];split<;>first|rfl|(split<;>rfl))
 | qA _ k hi hu hL=>exact .inl (put h λg=>g)
 | lead _ k hi hu hL=>exact False.elim hL
 | sub _ k d hi hu hD=>exact False.elim hD
 | ib _ k y hi hu hk hC=>exact False.elim hC
 | start _ k hi hu hs=>exact False.elim hs
end
section
variable{C:List Cmd}{K:Int}{B:Nat->Bal}{cov:List (Bal × Nat)}{i:Nat}{b:Bal}
structure PhB(C:List Cmd)(K:Int)(B:Nat->Bal)(cov:List (Bal × Nat))(i:Nat)(b:Bal)(M:Meet):Prop where
 cm:Cm (λc=>c∈C) K B cov M
 ak:∀ j,j<5->AskI (M.ab j)
 vi:(M.ab i).vo.p=b
structure PhC(C:List Cmd)(K:Int)(B:Nat->Bal)(cov:List (Bal × Nat))(i:Nat)(b:Bal):Prop where
 hc:∀ j,j<5->∀ s,s<40->(B j,s)∈cov
 hC:C.length<40
 hi:i<5
 hb:Ab b
 hn:b.n=(i:Int)
 hB:B i=b
 hK:b.key=K
theorem PhB.step(a:PhC C K B cov i b){n:Nat}{M N:Meet}(s:Stp wh0 n M N)(h:PhB C K B cov i b M):PhB C K B cov i b N:=by
 obtain⟨σ,g,_⟩:=h.cm.ex;exact⟨h.cm.step a.hc s,AskI.step s g h.ak,h.cm.top a.hc s a.hb.pr a.hK a.hi h.vi⟩
theorem PhB.leads(a:PhC C K B cov i b){M:Meet}(h:PhB C K B cov i b M):(M.ab i).leads=true:=by
 have c:=a.hb;unfold Nod.leads;refine P' ⟨?_,?_⟩
 .rw[h.cm.fv i a.hi,a.hB];intro e;rw[e]at c
  exact absurd c (by decide)
 .rw[h.cm.fv i a.hi,a.hB,h.vi]
def QA(i:Nat)(b:Bal)(M:Meet):Prop:=∀ j,j<5->∀ c,(M.ab j).bw c=some b->c∈(M.ab i).av.fa\/∃ m∈M.bm,m.kind=6/\m.dst=i/\c∈m.fm
theorem QA.step(t:PhC C K B cov i b){n:Nat}{M N:Meet}(s:Stp wh0 n M N)(h:PhB C K B cov i b M)(q:QA i b M):QA i b N:=by
 intro j x c a;have z:b≠Be:=λe=>by have:=t.hb;rw[e]at this;exact absurd this (by decide)
 by_cases e:(M.ab j).bw c=some b
 .rcases q j x c e with g|⟨m,g1,g2⟩
  .exact .inl ((s.ev i).qu.subset g)
  .exact .inr ⟨m,s.qX g1,g2⟩
 .rcases s.bw a with g|⟨_,rfl⟩
  .exact absurd g e
  .rw[Aj,if_pos rfl]at a
   have E:=h.ak j x;have y:(Bb (M.ab j).vo.p (M.ab j).bw ((M.ab j).au.take 40)).2 c=some b:=by
    unfold Nod.hU at a;split at a
    .exact a
    .split at a
     .unfold Nod.dT at a;split at a<;>exact a
     .exact a
   have r:(M.ab j).vo.p=b/\c∈(M.ab j).au.take 40:=by
    have key:∀ (l:List Cmd) (f:Cmd->Option Bal) (p:Bal),(Bb p f l).2 c=some b->f c=some b\/(p=b/\c∈l):=by
     intro l;induction l with
     | nil=>exact λf p g=>.inl g
     | cons d l ih =>
      intro f p g;rw[Bb]at g
      split at g
      .rcases ih _ p g with k|k
       .unfold BW at k;split at k
        .rename_i e;exact .inr ⟨mT k,by rw[e];exact M'⟩
        .exact .inl k
       .exact .inr ⟨k.1,I' _ k.2⟩
      .exact(ih f p g).imp id λk=>⟨k.1,I' _ k.2⟩
    exact(key _ _ _ y).resolve_left e
   obtain⟨r,H⟩:=r;have D:=La z ((M.ab j).au.take 40) (M.ab j).bw;have o:c∈(Bb (M.ab j).vo.p (M.ab j).bw ((M.ab j).au.take 40)).1:=by rw[r];exact(D.2.2.1 c H).resolve_left e
   have u:¬ (Bb (M.ab j).vo.p (M.ab j).bw ((M.ab j).au.take 40)).1=[]:=λg=>by rw[g]at o;cases o
   have v:∀ d∈(Bb (M.ab j).vo.p (M.ab j).bw ((M.ab j).au.take 40)).1,d∈C:=λd w=>by
    rw[r]at w
    exact(h.cm.s.nd j x).wa d (mx (D.2.2.2 d w))
   by_cases A:j=i
   .subst A;refine .inl ?_;rw[Aj,if_pos rfl];unfold Nod.hU;rw[if_neg u,if_pos (by rw[r];exact t.hn)];have F:({ M.ab j with bw:=(Bb (M.ab j).vo.p (M.ab j).bw ((M.ab j).au.take 40)).2 }:Nod).leads=true:=h.leads t;unfold Nod.dT;rw[if_pos F];exact Qm t.hC _ _ E.qn (λd w=>(h.cm.s.nd j x).qu d w) v c o
   .refine .inr ?_;have G:¬ (M.ab j).vo.p.n=(j:Int):=by rw[r,t.hn];omega
    unfold Nod.hU;rw[if_neg u,if_neg G];refine⟨_,mj _ (D'.2 rfl),rfl,?_,o⟩;show(M.ab j).vo.p.n.toNat=i;rw[r,t.hn];exact mM i
theorem QZ(a:PhC C K B cov i b){n:Nat}{M:Meet}(E:MOk n M)(L:n+6<=1000000)(h:PhB C K B cov i b M)(q:QA i b M):PhB C K B cov i b (M.dc An)/\(∀ j,j<5->∀ c,((M.dc An).ab j).bw c=some b->c∈((M.dc An).ab i).av.fa)/\(M.dc An).bm=[]/\MOk (n+6) (M.dc An):=by
 have v:∀ A N,TkS A N->PhB C K B cov i b A->PhB C K B cov i b N:=λA N s g=>g.step a s.ri;have z:=Bm (I:=λN=>PhB C K B cov i b N/\QA i b N) (λc A N s g=>⟨g.1.step a s.calm,g.2.step a s.calm g.1⟩) E (by omega) ⟨h,q⟩;rw[show An=AC 3 5++[acN 7 0]from rfl,AJ];generalize M.dc (AC 3 5)=A at z ⊢;obtain⟨p,k,u⟩:=z;have y:=p.act (by omega) (x:=acN 7 0) (by rw[<- DO];decide);have t:∀ j,j<5->∀ c,((A.act (acN 7 0)).ab j).bw c=some b->c∈((A.act (acN 7 0)).ab i).av.fa:=λj G c r=>by
  obtain⟨N,f,o,_⟩:=Cu (I:=λN=>PhB C K B cov i b N/\(N.ab j).bw c=(A.ab j).bw c) (λD N s g=>⟨v D N s g.1,by
   obtain⟨l,_,w,_,rfl⟩:=s;rw[Aj];split
   .rename_i e
    rw[(My (D.ab l.dst) l (g.1.ak _ w.2).qn).1.2.1,<- e];exact g.2
   .exact g.2⟩) p ⟨k,rfl⟩
  rw[f]at r
  have r:(N.ab j).bw c=some b:=r;rw[o.2]at r
  rcases u j G c r with g|⟨m,g1,g2,g3,g4⟩
  .obtain⟨N,f,o,_⟩:=Cu (I:=λN=>c∈(N.ab i).av.fa) (λD N s g=>(s.ri.ev i).qu.subset g) p g;rw[f];exact o
  .obtain⟨N,f,_,k3,_⟩:=DS (I:=PhB C K B cov i b) (J:=λN=>c∈(N.ab i).av.fa) v (λD N s _ g=>(s.ri.ev i).qu.subset g) p k g1 (λN g=>g.cm.up _ (by rw[g3];exact a.hi)) (λN g e=>by
    have F:=(g.cm.s.lt m (by rw[e];exact g1)).wh;rw[g3,Aj,if_pos rfl];have H:c∈((N.ab i).dT m.fm).av.fa:=by
     unfold Nod.dT;rw[if_pos (g.leads a)];exact Qm a.hC _ _ (g.ak i a.hi).qn (λd w=>(g.cm.s.nd i a.hi).qu d w) F c g4
    unfold Nod.take;rw[g2];simp only;split<;>exact H)
   rw[f];exact k3
 obtain⟨N,f,o,_⟩:=Cu (I:=PhB C K B cov i b) v p k;refine⟨?_,t,by rw[f],y⟩;rw[f];exact⟨o.cm.drop,o.ak,o.vi⟩
theorem Wq(a:PhC C K B cov i b){n:Nat}{M:Meet}(t:MOk n M)(I:n+6<=1000000)(h:PhB C K B cov i b M){j:Nat}(y:j<5){H:List Vt}(E:Pend.prom i b H∈(M.ab j).br):((M.dc An).ab i).av.nn j=true:=by
 have x:∀ A N,TkS A N->PhB C K B cov i b A->PhB C K B cov i b N:=λA N s g=>g.step a s.ri;have d:∀ c A N,Stp wh1 c A N->PhB C K B cov i b A->PhB C K B cov i b N:=λc A N s g=>g.step a s.calm;have f:=Bm d t (by omega) h;have q:=Ft (J:=λN=>∃ m∈N.bm,m.kind=1/\m.src=j/\m.dst=i/\m.fv=b) d (λc A N s _ ⟨m,o,p⟩=>⟨m,s.calm.qX o,p⟩) (λA k g u=>⟨g.cm.up k u,g.cm.rG u⟩) t (by omega) h y E (λN l g _ _=>⟨_,mj _ (D'.2 rfl),rfl,rfl,rfl,rfl⟩);rw[show An=AC 3 5++[acN 7 0]from rfl,AJ];generalize M.dc (AC 3 5)=A at f q ⊢;obtain⟨m,o,p,v,r,w⟩:=q;obtain⟨N,F,_,G,_⟩:=DS (J:=λN=>(N.ab i).av.nn j=true) x (λD N s _ g=>(s.ri.ev i).nn j g) f.1 f.2 o (λN g=>g.cm.up _ (by rw[r];exact a.hi)) (λN g e=>by
  rw[r,Aj,if_pos rfl];have z:((N.ab i).ia 0 m.fm).leads=true:=g.leads a;unfold Nod.take;rw[p];simp only;rw[v,w];split
  .rename_i hc
   rcases hc with hc|hc|hc
   .rw[z]at hc;cases hc
   .exact absurd (show b=(N.ab i).av.fv by rw[g.cm.fv i a.hi,a.hB]) hc
   .exact hc
  .exact Dd _ _ _)
 rw[F];exact G
end
theorem Ul(i:Nat)(l:List Cmd)(p:Nod)(a:List Tol):(qL i l p a).1.av=p.av/\(qL i l p a).1.ae=p.ae:=by
 induction l generalizing p a with
 | nil=>exact⟨rfl,rfl⟩
 | cons c l ih =>
  rw[qL];split
  .exact⟨rfl,rfl⟩
  .have h1:=ih (Nod.fu { p with ie:=doS p.ie c,done:=p.done+1 } c) (if(p.bw c).isSome=true then a++[⟨i,c.c,c.s,doC p.ie c,doA p.ie c⟩]else a);have b:(Nod.fu { p with ie:=doS p.ie c,done:=p.done+1 } c).av=p.av/\(Nod.fu { p with ie:=doS p.ie c,done:=p.done+1 } c).ae=p.ae:=by unfold Nod.fu;split<;>exact⟨rfl,rfl⟩
   exact⟨h1.1.trans b.1,h1.2.trans b.2⟩
theorem Ih{D:Wh}{i:Nat}(c:i<5){M:Meet}(t:(M.ab i).up=true):∃ M0,Sts D 0 M M0/\(M0.ab i).up=true/\(M0.ab i).av=(M.ab i).av/\(M0.ab i).ae=(M.ab i).ae /\
  ∃ M1,M1=M0.set i ((M0.ab i).hU i).1 (M0.bm++((M0.ab i).hU i).2) M0.eb/\(M1.ab i).up=true/\Sts D 0 M0 M1/\Sts D 0 (M1.set i (M1.ab i).cl M1.bm M1.eb) (M.act (acN 3 (i:Int))):=by
 rw[Hg t];have w:Sts D 0 M (M.set i (M.ab i) M.bm M.eb):=by rw[EU];exact .nil 0 M
 obtain⟨p,h⟩:=Sts.qL c _ (M.ab i) w t rfl;have q:=Ul i ((M.ab i).ae.drop (M.ab i).done) (M.ab i) M.eb;unfold Nod.piece;simp only;generalize Go.Proofs.YtdjfdfpkkenjbacGreatDoor.qL i ((M.ab i).ae.drop (M.ab i).done) (M.ab i) M.eb=a at p h q ⊢;refine⟨_,p,by rw[Bi];exact h,by rw[Bi];exact q.1,by rw[Bi];exact q.2,?_⟩;have e:=Bi M i a.1 M.bm a.2;have s:=Stp.ask (D:=D) (M.set i a.1 M.bm a.2) i c (by rw[e];exact h);have l:=(Is a.1 i).trans h;rw[e,Cj]at s
 refine⟨M.set i (a.1.hU i).1 (M.bm++(a.1.hU i).2) a.2,by rw[e,Cj];rfl,by rw[Bi];exact l,s.s,?_⟩;show Sts D 0 ((M.set i (a.1.hU i).1 (M.bm++(a.1.hU i).2) a.2).set i ((M.set i (a.1.hU i).1 (M.bm++(a.1.hU i).2) a.2).ab i).cl (M.bm++(a.1.hU i).2) a.2) _;clear e s p;generalize (a.1.hU i)=b at l ⊢;rw[Bi,Cj];have g:=(ED b.1).trans l;show Sts D 0 (M.set i b.1.cl (M.bm++b.2) a.2) _;generalize b.1.cl=r at g ⊢;generalize M.bm++b.2=k at ⊢;have j:Sts D 0 (M.set i r k a.2) (M.set i (r.ln i k).1 (r.ln i k).2 a.2)/\(r.ln i k).1.up=true:=by
  unfold Nod.ln;split
  .exact⟨.nil 0 _,g⟩
  .rename_i hn
   have e:=Bi M i r k a.2;unfold Nod.qJ;split
   .rename_i h1
    have m:Db r.d r.sy=0:=mh.1 λe=>hn ⟨h1,e⟩;have o:AR r.d r.sy:=by
     unfold Db at m;split at m
     .assumption
     .cases m
    have s:=Stp.qJ (D:=D) (M.set i r k a.2) i c (by rw[e];exact g) (by rw[e];exact h1) (by rw[e];exact o);rw[e,Cj]at s
    have u:Hm r.d r.sy=r.d:=if_pos o;have v:Ik r.d r.sy=(r.d.length:Int):=if_pos o;rw[u,v];have:=Sts.lr (D:=D) (n:=0) (M:=M.set i r k a.2) (ls:=k) (ts:=a.2) c r.br { r with sy:=(r.d.length:Int),br:=[] } (by rw[Cj];exact(Sts.nil 0 _).s0 s) g rfl (qb _);rw[Cj]at this
    exact this
   .rename_i h1
    have:=Sts.lr (D:=D) (n:=0) (M:=M.set i r k a.2) (ls:=k) (ts:=a.2) c r.br { r with br:=[] } (by rw[Cj];exact .nil 0 _) g rfl h1;rw[Cj]at this
    exact this
 generalize r.ln i k=f at j ⊢;unfold Nod.bu;split
 .rename_i hL
  have e:=Bi M i f.1 f.2 a.2;have s:=Stp.qA (D:=D) (M.set i f.1 f.2 a.2) i c (by rw[e];exact j.2) (by rw[e];exact hL);rw[e,Cj]at s
  exact j.1.s0 s
 .exact j.1
section
variable{C:List Cmd}{K:Int}{B:Nat->Bal}{cov:List (Bal × Nat)}{i:Nat}{b:Bal}
theorem dS(a:PhC C K B cov i b)(d:14*K+38*(cov.length:Int)<=99000){M:Meet}(h:PhB C K B cov i b M)(j:(M.ab i).av.qD=true)(n:(M.ab i).av.next<=(M.ab i).ae.length){c:Cmd}(f:(M.ab i).mv (M.ab i).ae.length=some c)(l:Ah ⟨((M.ab i).ae.length:Int),b,c⟩) :
  (M.ab i).cl.av.next=(M.ab i).ae.length+1/\Pend.prop ⟨((M.ab i).ae.length:Int),b,c⟩∈(M.ab i).cl.br:=by
 have e:(M.ab i).av.fv=b:=(h.cm.fv i a.hi).trans a.hB;have k:=h.leads a;have m:=h.cm.sC d a.hi l (λg=>by
  have:b.lt (M.ab i).vo.p:=g;rw[h.vi]at this
  unfold Bal.lt at this;omega)
 unfold Nod.cl;rw[if_neg (λg=>by
  rcases g with g|g|g
  .rw[k]at g;cases g
  .rw[j]at g;cases g
  .omega),f]
 simp only;rw[e,if_neg (λg=>g m.1)];exact⟨rfl,mj _ (D'.2 rfl)⟩
theorem Xd(f:PhC C K B cov i b)(e:14*K+38*(cov.length:Int)<=99000){M:Meet}(h:PhB C K B cov i b M){j:Nat}(a:j<5){v:Vt}(c:Ah v)(o:v.b=b){l:Let}(k:l.kind=3)(m:l.bN=v):Pend.voted l.src v∈((M.ab j).take l).br:=by
 have n:=h.cm.le a;have d:=h.cm.sC e a c (by rw[Fb c.2.1.pr (h.cm.acc a).1,o,f.hK];omega);unfold Nod.take;rw[k];simp only;rw[m,if_neg (λg=>g d.1)];exact mj _ (D'.2 rfl)
end
end
end Go.Proofs.YtdjfdfpkkenjbacGreatDoor
