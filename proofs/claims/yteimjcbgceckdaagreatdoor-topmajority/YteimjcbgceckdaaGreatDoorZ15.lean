/- Part 15 of the walk. -/
import Derived.Deep.Slices
import Derived.Test.YteimjcbgceckdaaGreatDoorZ14
set_option maxRecDepth 100000
set_option maxHeartbeats 4000000
open Go.Proofs.Tryz
set_option linter.unusedVariables false
namespace Go.Proofs.YteimjcbgceckdaaGreatDoor
section
section
def Kz(n:Nat)(d:List Int):Lac:=⟨1,(n:Int),0,0,d⟩
variable{M:Meet}{P:Lac->Prop}{k l n x y:Nat}
theorem dW(b:n<5){d:List Int}(a:d.length<=2000):LacOk (Kz n d):=by
 rw[<- Ez];simp[Kz,Yv,FM,GU,GV];omega
def lef(x y j:Nat):Bool:=decide (j≠x/\j≠y)
def OE(x y k:Nat):List Nat:=(List.range k).filter (lef x y)
theorem j4(a:x<5)(b:y<5)(h:x≠y):3<=FJ (lef x y)/\(OE x y 5).length=3:=by
 rcases qm a with rfl|rfl|rfl|rfl|rfl<;>rcases qm b with rfl|rfl|rfl|rfl|rfl<;>first|exact absurd rfl h|decide
def ER(x y k:Nat):List Lac:=(OE x y k).map λn:Nat=>acN 3 (n:Int)
theorem dU(h:(M.ab k).up=false):M.act (acN 3 (k:Int))=M:=by
 unfold Meet.act;simp only[acN];rw[if_neg (by decide),if_neg (by decide),if_pos trivial];show M.set k (if(M.ab k).up=true then _ else M.ab k) (if(M.ab k).up=true then _ else M.br) (if(M.ab k).up=true then _ else M.ed)=M;rw[if_neg (by rw[h];decide),if_neg (by rw[h];decide),if_neg (by rw[h];decide),E7]
theorem Ws{U:Nat->Bool}(l:List Nat){M:Meet}(h:∀ j,U j=false->(M.ab j).up=false) :
  M.ew (l.map λk:Nat=>acN 3 (k:Int))=M.ew ((l.filter U).map λk:Nat=>acN 3 (k:Int)):=by
 induction l generalizing M with
 | nil=>rfl
 | cons k l ih =>
  cases e:U k with
  | false =>
   rw[List.filter_cons_of_neg (by rw[e];decide)];show(M.act _).ew _=_;rw[dU (h k e)];exact ih h
  | true =>
   rw[List.filter_cons_of_pos e];exact ih (M:=M.act _) λj a=>by rw[Ia M _ (h j a) λg=>absurd g.1 (by show(3:Int)≠9;decide)];exact h j a
theorem UU{L:List Lac}(c:∀ a∈L,a.k≠9){M:Meet}{j:Nat}(h:(M.ab j).up=false):(M.ew L).ab j=M.ab j:=by
 induction L generalizing M with
 | nil=>rfl
 | cons a L ih =>
  have e:=Ia M a h λg=>c a M' g.1;exact(ih (λb d=>c b (I' _ d)) (M:=M.act a) (by rw[e];exact h)).trans e
def mjR(x y:Nat):Nat->List Lac
 | 0=>[]
 | k+1=>mjR x y k++(ER x y 5++[acN 7 0])
theorem XS:∀ a∈Am,a.k≠9:=by decide
theorem XT(k:Nat):∀ a∈Au k,a.k≠9:=by
 induction k with
 | zero=>intro a b;cases b
 | succ k ih=>intro a b;exact(U'.1 b).elim (ih a) (XS a)
theorem VK(k:Nat){M:Meet}(h:∀ j,lef x y j=false->(M.ab j).up=false):M.ew (mjR x y k)=M.ew (Au k):=by
 induction k with
 | zero=>rfl
 | succ k ih =>
  show M.ew (mjR x y k++(ER x y 5++[acN 7 0]))=M.ew (Au k++Am);rw[AU _ (mjR x y k),AU _ (Au k),ih];unfold Am;rw[AU _ (ER x y 5),AU _ (List.map _ _),Ws (U:=lef x y) (List.range 5) λj a=>by rw[UU (XT k) (h j a)];exact h j a];rfl
def mjH(x y l k:Nat):List Lac:=[acN 2 (l:Int)]++mjR x y k
def mjQ(x y l:Nat):Nat->List Lac
 | 0=>[]
 | k+1=>mjQ x y l k++((if k%200=0 then[acN 2 (l:Int)]else[])++(ER x y 5++[acN 7 0]))
theorem Su(x y l:Nat):mjQ x y l 400=mjH x y l 200++mjH x y l 200:=by
 have b:∀ k,k<200->mjQ x y l (k+1)=mjH x y l (k+1):=by
  intro k;induction k with
  | zero=>intro _;rfl
  | succ k ih =>
   intro a;rw[mjQ,ih (by omega),if_neg (by omega)];show([acN 2 (l:Int)]++mjR x y (k+1))++([]++_)=[acN 2 (l:Int)]++(mjR x y (k+1)++_);rw[m7,lY]
 have c:∀ k,k<200->mjQ x y l (200+(k+1))=mjH x y l 200++mjH x y l (k+1):=by
  intro k;induction k with
  | zero =>
   intro _;show mjQ x y l 200++((if 200%200=0 then _ else _)++_)=_;rw[b 199 (by omega),if_pos (by omega)];rfl
  | succ k ih =>
   intro a;show mjQ x y l (200+(k+1))++((if(200+(k+1))%200=0 then _ else _)++_)=_;rw[ih (by omega),if_neg (by omega)];show(mjH x y l 200++([acN 2 (l:Int)]++mjR x y (k+1)))++([]++_)=mjH x y l 200++([acN 2 (l:Int)]++(mjR x y (k+1)++_));rw[m7,lY,lY]
 exact c 199 (by omega)
theorem OF(h:n∈OE x y k):n<k/\lef x y n=true:=⟨oE.1 (nW.1 h).1,(nW.1 h).2⟩
theorem cT(b:∀ n:Nat,n<5->P (acN 3 (n:Int)))(c:P (acN 7 0)):∀ a∈ER x y 5++[acN 7 0],P a:=λa d=>by
 rcases U'.1 d with e|e
 .obtain⟨n,hn,rfl⟩:=mt.1 e;exact b n (OF hn).1
 .rw[D'.1 e];exact c
theorem OH(c:P (acN 2 (l:Int)))(d:∀ n:Nat,n<5->P (acN 3 (n:Int)))(f:P (acN 7 0))(k:Nat):∀ a∈mjQ x y l k,P a:=by
 induction k with
 | zero=>intro a b;cases b
 | succ k ih =>
  intro a b;rcases U'.1 b with e|e
  .exact ih a e
  .rcases U'.1 e with e|e
   .split at e
    .rw[D'.1 e];exact c
    .cases e
   .exact cT d f a e
theorem cU(a:(OE x y 5).length=3)(k:Nat):(mjQ x y l k).length<=5*k:=by
 induction k with
 | zero=>exact A' 0
 | succ k ih =>
  have:(ER x y 5).length=3:=by unfold ER;rw[mm,a]
  rw[mjQ,H',H',H',this];simp only[mB];split<;>simp only[mB,List.length_nil]<;>omega
theorem Nt(l:MOk n M){m:Nat}(o:n+6*m+20<=990000){i:Nat}(f:i<5)(b:(M.ab i).up=true) :
  (∀ j,((((M.act (acN 2 (i:Int))).ew (Au m)).ab j).up=(M.ab j).up)/\(M.ab j).ae <+: (((M.act (acN 2 (i:Int))).ew (Au m)).ab j).ae/\(M.ab j).done<=(((M.act (acN 2 (i:Int))).ew (Au m)).ab j).done)/\M.ed <+: ((M.act (acN 2 (i:Int))).ew (Au m)).ed:=by
 have a:=l.act (x:=acN 2 (i:Int)) (by omega) (KN ⟨.inl rfl,by omega,by omega⟩);rw[Qb b]at a ⊢
 have h:∀ j,((M.set i ((M.ab i).lead i) M.br M.ed).ab j).up=(M.ab j).up/\(M.ab j).ae <+: ((M.set i ((M.ab i).lead i) M.br M.ed).ab j).ae/\(M.ab j).done<=((M.set i ((M.ab i).lead i) M.br M.ed).ab j).done:=λj=>by
  rw[Al];split
  .rename_i e
   rw[e];have e:=AF (M.ab i) ⟨max (M.ab i).dc (M.ab i).vo.p.r+1,(i:Int)⟩;have v:=Ev.av (M.ab i) ⟨max (M.ab i).dc (M.ab i).vo.p.r+1,(i:Int)⟩;unfold Nod.lead;simp only;split
   .exact⟨rfl,lR _,A' _⟩
   .exact⟨v.up,v.ag,pH e.1.2.2.symm⟩
  .exact⟨rfl,lR _,A' _⟩
 have k:=(Eb (I:=λX=>(∀ j,(X.ab j).up=(M.ab j).up/\(M.ab j).ae <+: (X.ab j).ae/\(M.ab j).done<=(X.ab j).done)/\M.ed <+: X.ed) (λc X Y s g=>⟨λj=>⟨(s.ev j).up.trans (g.1 j).1,(g.1 j).2.1.trans (s.ev j).ag,lS (g.1 j).2.2 (s.ev j).dn⟩,by
  refine g.2.trans ?_;cases s with
  | one _ k c f b hc he =>
   show X.ed <+: ite _ _ _;split
   .exact mZ _ _
   .exact lR _
  | sub _ k d f b hD=>exact False.elim hD
  | _=>exact lR _⟩) (λX g=>g) m a (by omega) ⟨h,lR _⟩).1
 exact k
theorem cR{t:Nat}(hx:x<5)(hy:y<5)(a4:x≠y)(D:Up (lef x y) t)(L:Up (lef x y) l){d:List Int}{c:Cmd}(ho:opE d 0=0)(hc:Hq d 0=c)(hd:d.length<=2000){N:Meet}(K:At.ew ([acN 8 (x:Int),acN 8 (y:Int),Kz t d]++mjQ x y l 400)=N)(B:∀ a∈[acN 8 (x:Int),acN 8 (y:Int),Kz t d]++mjQ x y l 400,LacOk a)(w:([acN 8 (x:Int),acN 8 (y:Int),Kz t d]++mjQ x y l 400).length<=100000) :
  N.ed.length=1/\(∀ j,j<5->(N.ab j).up=lef x y j)/\∀ j,Up (lef x y) j->c∈N.log j:=by
 obtain⟨P,hP⟩:∃ P,[acN 8 (x:Int),acN 8 (y:Int),Kz t d]=P:=⟨_,rfl⟩;have b9:P.length=3:=by rw[<- hP];rfl
 have a8:P.countP (λa=>decide (a.k=1))=1:=by rw[<- hP];rfl
 have a7:lds P=0:=by rw[<- hP];rfl
 have e0:At.ew P=((At.act (acN 8 (x:Int))).act (acN 8 (y:Int))).act (Kz t d):=by rw[<- hP];rfl
 rw[hP]at K B w
 have p:∀ a∈P,LacOk a:=λa r=>B a (lT _ r);have eC:∀ (X:Meet) (k:Nat),X.act (acN 8 (k:Int))=X.set k (if(X.ab k).up=true then(X.ab k).lr 0 else X.ab k) X.br X.ed:=λX k=>by
  unfold Meet.act;simp only[acN];rw[if_neg (by decide),if_neg (by decide),if_neg (by decide),if_neg (by decide),if_neg (by decide),if_pos trivial];rfl
 have c2:t≠x/\t≠y:=my D.up;have a3:Cc.lr 0=Cc.bare false [] 0 DA []:=by
  unfold Nod.lr;rw[if_neg (by decide)];rfl
 obtain⟨X,hX⟩:∃ X,(At.act (acN 8 (x:Int))).act (acN 8 (y:Int))=X:=⟨_,rfl⟩;have Q:∀ j,X.ab j=if lef x y j=true then Cc else Cc.bare false [] 0 DA []:=λj=>by
  have u1:∀ j,(At.act (acN 8 (x:Int))).ab j=if j=x then Cc.lr 0 else Cc:=λj=>by rw[eC,Al];split<;>rfl
  rw[<- hX,eC,Al];by_cases e1:j=y
  .have e2:lef x y j=false:=E' (by omega);rw[if_pos e1,u1,if_neg (show y≠x from λg=>a4 g.symm),e2];exact a3
  .rw[if_neg e1,u1];by_cases e2:j=x
   .have e3:lef x y j=false:=E' (by omega);rw[if_pos e2,e3,if_neg (by decide)];exact a3
   .have e3:lef x y j=true:=O' ⟨e2,e1⟩;rw[if_neg e2,e3,if_pos rfl]
 have a9:X.br=[]:=by rw[<- hX,eC,eC];rfl
 rw[hX]at e0
 have G:X.ab t=Cc:=by rw[Q,if_pos D.up]
 have eS:X.act (Kz t d)=X.set t ((X.ab t).qx t d X.ed).1 X.br ((X.ab t).qx t d X.ed).2:=by
  unfold Meet.act Kz;simp only;rw[if_pos trivial];rfl
 obtain⟨M,o⟩:∃ M,At.ew P=M:=⟨_,rfl⟩;have a6:M.br=[]:=by rw[<- o,e0,eS];exact a9
 have F:∀ j,j<5->(M.ab j).up=lef x y j:=λj i=>by
  rw[<- o,e0];cases e:lef x y j with
  | false =>
   have hd:(X.ab j).up=false:=by rw[Q,if_neg (by rw[e];decide)];rfl
   rw[Ia X _ hd λg=>absurd g.1 (by show(1:Int)≠9;decide)];exact hd
  | true=>exact fM _ (by show(1:Int)≠8;decide) (by rw[Q,if_pos e];rfl)
 have hM:=FN P p (by omega);have T:=KO P p (by omega);have hS:∀ a∈P,a.k=1->∀ W:Nat,opE a.d (W:Int)=0->Hq a.d (W:Int)∈QO P:=λa r J W h=>dX r J h;have O:=fN (S:=λc=>c∈QO P) P p (by omega) hS;obtain⟨τ,cov,_,hg,hk,b2,b3⟩:=Wk P MOk.zero (by omega) p AgI.zero KbI.zero (cov:=[]) (λb s c h=>h.elim);have c0:=ZL P;rw[a7]at hk
 have b6:SvI t c M:=by
  rw[<- o,e0];have r:AskI (X.ab t):=by rw[G];exact AskI.zero t D.lt
  exact SvI.sub rfl rfl (by rw[G];rfl) r (by rw[G];exact ho) (by rw[G];exact hc)
 rw[o]at hM T O hg hk
 obtain⟨Z,v⟩:∃ Z,cov++(If (M.ab 0).bn.jv++(If (M.ab 1).bn.jv++(If (M.ab 2).bn.jv++(If (M.ab 3).bn.jv++If (M.ab 4).bn.jv))))=Z:=⟨_,rfl⟩;have b8:Z.length<=203:=by
  rw[<- v];simp only[H',If,mm,oX];simp only[List.length_nil]at b2;omega
 have b1:∀ j,j<5->∀ s,s<40->((M.ab j).bn.jv,s)∈Z:=λj i s hs=>by
  rw[<- v];refine lV _ ?_;simp only[U'];rcases qm i with rfl|rfl|rfl|rfl|rfl
  .exact .inl (GA _ hs)
  .exact .inr (.inl (GA _ hs))
  .exact .inr (.inr (.inl (GA _ hs)))
  .exact .inr (.inr (.inr (.inl (GA _ hs))))
  .exact .inr (.inr (.inr (.inr (GA _ hs))))
 have U:KbI 0 0 M:=by simpa using hk
 have hU:Um (lef x y) (λc=>c∈QO P) 0 (λj=>(M.ab j).bn.jv) Z M:=⟨⟨τ,hg,λb s c h=>by rw[<- v];exact lT _ (b3 b s c h)⟩,⟨by omega,U.mono (by omega) (by omega)⟩,F,λ_ _=>rfl,O,λm hm=>by rw[a6]at hm;cases hm⟩;obtain⟨l1,l2⟩:=j4 hx hy a4;obtain⟨K',B',b7,b,A,hh,E⟩:=eo (iG P) (by omega) hM (m:=200) (by omega) (by omega) b1 hU (.inl (by have:=(hM.ab l L).ro.1;omega)) U (lU _) (by omega) (by omega) L T.1 T.2 l1 λj i _=>(U j i).1;have a2:∀ j,lef x y j=false->j<5:=λj i=>by
  have:=of_decide_eq_false i;omega
 have a0:∀ j,lef x y j=false->(M.ab j).up=false:=λj i=>(F j (a2 j i)).trans i;have b4:=λ{Y:Meet} (hY:∀ j,lef x y j=false->(Y.ab j).up=false)=>show ∀ j,lef x y j=false->((Y.act (acN 2 (l:Int))).ab j).up=false from λj i=>by
  rw[Ia Y _ (hY j i) λg=>absurd g.1 (by show(2:Int)≠9;decide)];exact hY j i
 have eH:∀ {Y:Meet},(∀ j,lef x y j=false->(Y.ab j).up=false)->Y.ew (mjH x y l 200)=(Y.act (acN 2 (l:Int))).ew (Au 200):=λ{Y} hY=>by
  unfold mjH;rw[AU];exact VK 200 (b4 hY)
 have g1:=Nt hM (m:=200) (by omega) L.lt ((F l L.lt).trans L.up);rw[Su,<- lY]at K B w
 have C:∀ a∈P++mjH x y l 200,LacOk a:=λa r=>B a (lT _ r);have b5:(P++mjH x y l 200).length<=1300:=by
  have:∀ k,(mjR x y k).length=4*k:=by
   intro k;induction k with
   | zero=>rfl
   | succ k ih =>
    have:(ER x y 5).length=3:=by unfold ER;rw[mm,l2]
    rw[mjR,H',H',ih,this];simp only[mB];omega
  rw[H',mjH,H',this];simp only[mB];omega
 have h8:∀ a∈mjH x y l 200,¬ (a.k=8/\a.n=(t:Int)):=λa r g=>by
  have:∀ a∈mjQ x y l 400,a.k≠8:=OH (by show(2:Int)≠8;decide) (λn _=>by show(3:Int)≠8;decide) (by decide) 400;exact this a (by rw[Su];exact lT _ r) g.1
 have s1:=(o▸b6:SvI t c (At.ew P)).ew D.lt (mjH x y l 200) C (by omega) h8;have tw:=ei _ B w;have b0:∀ a∈mjH x y l 200,¬ (decide (a.k=1)=true):=λa r g=>by
  have:∀ a∈mjQ x y l 400,a.k≠1:=OH (by show(2:Int)≠1;decide) (λn _=>by show(3:Int)≠1;decide) (by decide) 400;exact this a (by rw[Su];exact lT _ r) (my g)
 rw[nP,nP,a8,List.countP_eq_zero.2 b0,K]at tw
 have V:=FN _ C (by omega);have I:=Ou C (by omega) D.lt;rw[AU]at K
 rw[AU,o,eH a0]at s1 V I
 rw[AU,o,eH a0]at K
 generalize (M.act (acN 2 (l:Int))).ew (Au 200)=Y at E s1 V I K g1;have R:∀ j,j<5->(Y.ab j).up=lef x y j:=λj i=>(g1.1 j).1.trans (F j i);have g2:=Nt V (m:=200) (by omega) L.lt ((R l L.lt).trans L.up);rw[eH λj i=>(R j (a2 j i)).trans i]at K
 rw[K]at g2
 have H:=E.z.a t D;have a5:A.length<40:=by
  rw[H]at I
  have:=KE I (m:=QO P) λq hq=>(E.z.l.pe.pb.cm.s.nd t D.lt).ag q (by rw[H];exact hq);omega
 have hw:(Y.ab t).au=[]:=oc.2 λq hq=>by
  have J:=(E.z.l.pe.pb.ak t D.lt).un q hq;rw[H,E.d t D,ng]at J
  exact J (E.z.f.qu a5 q (E.z.l.pe.qw t D q hq))
 have a1:c∈A/\Ro t c Y.ed:=by
  rcases s1.2 with g|⟨k1,k2⟩
  .rw[hw]at g;cases g
  .rw[H,E.d t D,ng]at k1
   exact⟨k1,k2⟩
 have c1:1<=N.ed.length:=by
  obtain⟨u,hu,_⟩:=a1.2;have J:=ou hu;have h2:=g2.2.length_le;omega
 refine⟨?_,λj i=>(g2.1 j).1.trans (R j i),λj i=>?_⟩
 .unfold twM at tw;omega
 .have J:=(g2.1 j).2;rw[E.z.a j i,E.d j i]at J
  unfold Meet.log;exact(List.prefix_take_iff.2 J).subset a1.1
end
end
section
open Go.RowKit
section
variable{a:Lac}{b off:Nat}{c k n s v:Int}{g:Gh}{l:List Int}{w:World}{x:S3}
theorem H6{a:Int}(h:I64 n)(d:pick n a=c)(f:0<a:=by decide)(b:a<=9223372036854775807:=by decide) :
  Calls prog 4 #[iv n,iv a] w λe w'=>e=.returned (iv c)/\Bw w w':=by subst d;exact US h a f b
theorem jG{g i j m:Int}(h:paE n g i j k c s m v=0){now:Int}(o:Et g i j k c s m v now=0):opE (paL n g i j k c s m v) now=0/\Hq (paL n g i j k c s m v) now=⟨k,c,s,m,v⟩:=by
 have p:=dp h now;have r:=p.1.trans o;refine⟨r,?_⟩;have l:=p.2;rw[if_pos o,YS]at l
 simp only[cmC,cmA,Array.mk.injEq,nV,Value.int.injEq,true_and,and_true]at l;obtain⟨a,b,d,e,f⟩:=l;generalize Hq (paL n g i j k c s m v) now=q at a b d e f;obtain⟨u,t,x,w,y⟩:=q;simp only at a b d e f;subst a b d e f;rfl
theorem df{d:S3}(k:FSl g w d a.d):Dat g w [(a,d)]:=λp b=>by rw[D'.1 b];exact k
theorem Uq{W:World}(c:x.a=some ⟨b,off,none⟩){j:Int}(f:0<=j)(d:j<(x.n:Int)):(Instr.indexAt 25 x.v (iv j)).run prog W=.ok (pt b (off+j.toNat)) W:=by
 obtain⟨k,rfl⟩:∃ k:Nat,j=(k:Int):=⟨j.toNat,by omega⟩;obtain⟨h,g,i⟩:=x;simp only at c d;subst c;rw[mC];exact MR (P:=prog) (e:=3) (z:=1) underlying25 (by kernel_rfl) (by kernel_rfl) (show k<g by omega) _ (by rw[pO])
theorem Io(h:RdV w x 1 (l.map iv))(d:0<x.n):∃ b off,x.a=some ⟨b,off,none⟩:=by
 obtain⟨b,off,c,_⟩:=h.spot (i:=0) d;exact⟨b,off,c⟩
theorem KD(h:RdV w x 1 (l.map iv)){b c:Nat}(m:x.a=some ⟨b,c,none⟩){j:Int}(k:0<=j)(q:j<(x.n:Int)):w.cell? ⟨b,c+j.toNat,none⟩=some (iv (l.getD j.toNat 0)):=by
 have r:x.n=l.length:=by have:=h.len;rw[mm]at this;omega
 obtain⟨o,f,d,p,g⟩:=h.spot (i:=0) (by omega);rw[m]at d;cases d
 have e:j.toNat<l.length:=by omega
 have:=g j.toNat (iv (l.getD j.toNat 0)) (by rw[qd,mJ,mD,G' e,mo,G' e];rfl)
 rwa [qd,nO]at this
theorem jo(b:a.d=[]:=by rfl):Dat g w [(a,s30)]:=by
 intro p c;rw[D'.1 c];show FSl g w s30 a.d;rw[b];exact XZ g w
theorem Nn{n:Nat}(a:n<5):LacOk (acN 8 (n:Int)):=by
 rw[<- Ez];simp[Yv,acN,FM,GU,GV];omega
def lfV(x y k:Nat):List Int:=(OE x y k).map λn:Nat=>(n:Int)
theorem L5(x y k:Nat):lfV x y (k+1)=lfV x y k++if k≠x/\k≠y then[(k:Int)]else[]:=by
 unfold lfV OE;rw[nK,nE,mz]
 congr 1
 by_cases h:k≠x/\k≠y
 .rw[if_pos h,List.filter_cons_of_pos (show lef x y k=true from O' h)];rfl
 .rw[if_neg h,List.filter_cons_of_neg (show ¬ lef x y k=true from λe=>h (my e))];rfl
theorem cN(x y k:Nat):(lfV x y k).length<=k:=by unfold lfV OE;rw[mm];exact lS (List.length_filter_le _ _) (by rw[oX];omega)
theorem iV{K C S N V:Int}(i:I64 k)(h:I64 c)(l:I64 s)(j:I64 n)(m:I64 v)(a:wK k=K)(b:pick c 4=C)(d:pick s 6=S)(f:pick n 4=N)(g:wV k v=V) :
  Calls prog 5 #[.agg #[iv k,iv c,iv s,iv n,iv v]] w λe w'=>e=.returned (.agg #[iv K,iv C,iv S,iv N,iv V])/\Bw w w':=by subst a b d f g;exact Rl i h l j m
theorem J8{ck cc cs cn cv wa wb ld to_:Int}(hk:I64 ck)(hc:I64 cc)(hs:I64 cs)(hn:I64 cn)(hv:I64 cv)(f6:I64 wa)(f7:I64 wb)(e6:I64 ld)(f4:I64 to_)(hT:UT w) :
  Calls prog 3 #[.agg #[iv ck,iv cc,iv cs,iv cn,iv cv],iv wa,iv wb,iv ld,iv to_] w λe w'=>e=.returned (.bool true)/\Bw w w':=by
 have f1:=BF cc 4 (by omega);have l1:=BF cs 6 (by omega);have f2:=Ri ck;have hr:=BF wa 5 (by omega);have l4:=BF wb 4 (by omega);have rl:=BF ld 3 (by omega);have rt:=BF to_ 3 (by omega);obtain⟨x,hx,H⟩:∃ n:Nat,pick wa 5=(n:Int)/\n<5:=⟨(pick wa 5).toNat,by omega,by omega⟩;obtain⟨q,hq,l2⟩:∃ n:Nat,pick wb 4=(n:Int)/\n<4:=⟨(pick wb 4).toNat,by omega,by omega⟩;obtain⟨y,hy,I⟩:∃ n:Nat,((x:Int)+1+(q:Int))%5=(n:Int)/\n<5:=⟨((x:Int)+1+(q:Int)).toNat%5,by omega,by omega⟩;have d3:x≠y:=by omega
 obtain⟨a,e2,c1⟩:∃ n:Nat,pick ld 3=(n:Int)/\n<3:=⟨(pick ld 3).toNat,by omega,by omega⟩;obtain⟨b,e3,c2⟩:∃ n:Nat,pick to_ 3=(n:Int)/\n<3:=⟨(pick to_ 3).toNat,by omega,by omega⟩;obtain⟨k7,b1⟩:=j4 H I d3;obtain⟨o,f0⟩:∃ o:Nat->Nat,∀ k,o k=(OE x y 5).getD k 0:=⟨_,λ_=>rfl⟩;have X:∀ k,k<3->(OE x y 5)[k]?=some (o k):=λk hk=>by rw[f0,mo,G' (by omega)];rfl
 have b2:∀ k,k<3->Up (lef x y) (o k):=λk hk=>⟨(OF (ml (X k hk))).1,(OF (ml (X k hk))).2⟩;have Y:∀ k:Nat,k<3->(lfV x y 5).getD (k:Int).toNat 0=(o k:Int):=λk hk=>by
  rw[mC,mo];unfold lfV;rw[mD,X k hk];rfl
 have e1:(lfV x y 5).length=3:=by unfold lfV;rw[mm,b1]
 have k1:Bb (wK ck) (pick cc 4) (pick cs 6) (pick cn 4) (wV ck cv)=0:=eO ck cn cv (pick cc 4) (pick cs 6) (by omega) (by omega);obtain⟨K1,a7⟩:∃ x,wK ck=x:=⟨_,rfl⟩;obtain⟨E,a6⟩:∃ x,pick cc 4=x:=⟨_,rfl⟩;obtain⟨M,b9⟩:∃ x,pick cs 6=x:=⟨_,rfl⟩;obtain⟨L,b8⟩:∃ x,pick cn 4=x:=⟨_,rfl⟩;obtain⟨O,c0⟩:∃ x,wV ck cv=x:=⟨_,rfl⟩;rw[a7,a6,b9,b8,c0]at k1
 rw[a7]at f2
 rw[a6]at f1
 have t1:Dg E 7 9:=by unfold Dg;omega
 have r1:KK K1 7:=by unfold KK;omega
 have p1:paE 1 E 7 9 K1 E M L O=0:=by rw[gZ ⟨by omega,by omega⟩ (IK t1)];exact k1
 obtain⟨o1,q1⟩:=jG p1 (now:=0) (T6 t1 k1 ⟨r1,rfl⟩ ⟨by decide,by decide⟩);have d1:=SK p1;generalize e4:paL 1 E 7 9 K1 E M L O=dx at o1 q1 d1;obtain⟨c,c3⟩:∃ c,(⟨K1,E,M,L,O⟩:Cmd)=c:=⟨_,rfl⟩;rw[c3]at q1
 obtain⟨t,f5⟩:∃ t,o b=t:=⟨_,rfl⟩;obtain⟨l,e8⟩:∃ l,o a=l:=⟨_,rfl⟩;have b5:=b2 b c2;have W:=b2 a c1;have c9:=Y b c2;have c5:=Y a c1;rw[f5]at b5 c9
 rw[e8]at W c5
 obtain⟨P0,G⟩:∃ P,[acN 8 (x:Int),acN 8 (y:Int),Kz t dx]=P:=⟨_,rfl⟩;have b3:∀ a∈P0++mjQ x y l 400,LacOk a:=λu hu=>by
  rcases U'.1 hu with e|e
  .rw[<- G]at e
   simp only[ma,P',or_false]at e;rcases e with rfl|rfl|rfl
   .exact Nn H
   .exact Nn I
   .exact dW b5.lt (by omega)
  .exact OH (P:=LacOk) (KN ⟨.inl rfl,by have:=W.lt;omega,by have:=W.lt;omega⟩) (λn hn=>KN ⟨.inr (.inl rfl),by omega,by omega⟩) (by rw[<- Ez];decide) 400 u e
 have c7:=λk=>cU (l:=l) b1 k;have R:(P0++mjQ x y l 400).length<=100000:=by
  have:=c7 400;rw[H',<- G];show 3+_<=_;omega
 obtain⟨N,hN⟩:∃ N,At.ew (P0++mjQ x y l 400)=N:=⟨_,rfl⟩;obtain⟨z1,z2,z3⟩:=cR (N:=N) H I d3 b5 W o1 q1 (by omega) (by rw[G];exact hN) (by rw[G];exact b3) (by rw[G];exact R);have zx:(N.ab x).up=false:=(z2 x H).trans (E' (by omega));have zy:(N.ab y).up=false:=(z2 y I).trans (E' (by omega));refine tIn [] func3 trivial (tR 8 [1,0] λa0 _ _=>tC1 1 (λF C=>H6 f6 hx) λ_=>tR 5 [] λm3 _ _=>tV 1 (iv ((x:Int)+1)) (λF C=>(Bd 26 (x:Int) underlying3 (by omega))) (tR 1 [] λm4 _ _=>tC1 3 (λF C=>H6 f7 hq) λ_=>tV 4 (iv ((x:Int)+1+(q:Int))) (λF C=>(Q8 (x:=(.tmp 27)) (y:=(.tmp 29)) ((x:Int)+1) (q:Int) underlying3 (by omega))) (tV 5 (iv (y:Int)) (λF C=>(hy▸Us (x:=(.tmp 30)) (y:=(.const (iv 5))) ((x:Int)+1+(q:Int)) 5 underlying3 (by omega) (by omega) (by decide) (by decide))) (tR 21 [1,0] λS _ _=>lJ (v:=true) 1 0 (S 0) 5 2 [iv 8,iv (x:Int),iv 0,iv 0,sn,iv 8,iv (y:Int),iv 0,iv 0,sn] 28 [] (λ_ _ _=>trivial) (λg'=>?_) rfl (by unfold maxLen;omega)))));refine tCv [Fa.oa 0 (⟨some ⟨(S 0),0,none⟩,2,2⟩:S3) [(acN 8 (x:Int),s30),(acN 8 (y:Int),s30)],Fa.ow 1 3 1 s30 ((lfV x y 0).map iv)] (λF=>⟨⟨F.1,Dat.app jo jo⟩,OwnS.nil _ _ _ _ _ _,trivial⟩) (EY 149 [(3,iv ld),(4,iv to_),(5,pt (a0 0) 0),(11,iv (x:Int)),(12,iv (y:Int)),(13,sn),(14,.slice (some ⟨(S 0),0,none⟩) 2 2),(15,iv 0)] [true] [⟨(a0 0),.cells #[iv ck,iv cc,iv cs,iv cn,iv cv] 23,.l,false⟩] [Fa.oa 0 (⟨some ⟨(S 0),0,none⟩,2,2⟩:S3) [(acN 8 (x:Int),s30),(acN 8 (y:Int),s30)],Fa.ow 1 3 1 s30 ((lfV x y 0).map iv)] (λkk U T f=>∃ (n:Nat) (s zl:S3),kk=5-n/\U=[(3,iv ld),(4,iv to_),(5,pt (a0 0) 0),(11,iv (x:Int)),(12,iv (y:Int)),(13,S3.v zl),(14,S3.v s),(15,iv (n:Int))]/\T=[⟨(a0 0),.cells #[iv ck,iv cc,iv cs,iv cn,iv cv] 23,.l,false⟩]/\f=[Fa.oa 0 s [(acN 8 (x:Int),s30),(acN 8 (y:Int),s30)],Fa.ow 1 3 1 zl ((lfV x y n).map iv)]/\n<=5/\s.n=2/\zl.n=(lfV x y n).length) (5) ⟨0,(⟨some ⟨(S 0),0,none⟩,2,2⟩:S3),s30,rfl,rfl,rfl,rfl,by omega,rfl,rfl⟩ (λF=>F) ?_);rintro k _ _ _ ⟨n,s,zl,rfl,rfl,rfl,rfl,k9,b4,b6⟩ _ _ _ J hJ;refine tR 6 [] λm5 _ _=>?_;by_cases h1:n<5
 .refine tI ((decide ((n:Int)<5))) true (O' (by omega)) ?_;have l0:=cN x y n;refine tR 7 [] λg2 _ _=>?_;by_cases h2:n≠x
  .refine tV 2 (.bool true) (λF C=>(F6 (t:=3) (m:=(n:Int)) (n:=(x:Int)) (x:=(.tmp 41)) (y:=(.tmp 42)) (by simp;omega))) (tR 3 [] λg3 _ _=>?_);by_cases h3:n≠y
   .refine tV 6 (.bool true) (λF C=>(F6 (t:=3) (m:=(n:Int)) (n:=(y:Int)) (x:=(.tmp 45)) (y:=(.tmp 46)) (by simp;omega))) (tR 7 [0,0] λa1 _ _=>Tp 3 1 (x:=zl) 25 25 3 1 8 (iv 0) ⟨(a1 0),0,none⟩ 1 1 [iv (n:Int)] (λF=>F.2.1) [Fa.oa 0 s [(acN 8 (x:Int),s30),(acN 8 (y:Int),s30)]] (λF=>⟨F.1,trivial⟩) rfl (by simp[TQ]) rfl (by simp[Value.oneCell']) (λF K=>CO K 1 (a1 0) [iv (n:Int)] 3 .z true (by kernel_rfl)) (by unfold maxLen;omega) (by omega) λf8 _ _ l8=>tR 5 [] λg4 _ _=>tV 1 (iv ((n:Int)+1)) (λF C=>(Bd 39 (n:Int) underlying3 (by omega))) (tR 2 [] λg5 _ _=>?_));have A:lfV x y (n+1)=lfV x y n++[(n:Int)]:=by rw[L5,if_pos (by omega)]
    exact tB hJ (5-(n+1)) (by omega) [true,false] ⟨n+1,s,f8,rfl,rfl,rfl,rfl,by omega,b4,(by rw[A,H',mB];omega)⟩ (λF=>by rw[A,mz];exact⟨F.2.1,F.1,trivial⟩)
   .refine tV 6 (.bool false) (λF C=>(F6 (t:=3) (m:=(n:Int)) (n:=(y:Int)) (x:=(.tmp 45)) (y:=(.tmp 46)) (by simp;omega))) (tR 7 [] λg6 _ _=>tV 1 (iv ((n:Int)+1)) (λF C=>(Bd 39 (n:Int) underlying3 (by omega))) (tR 2 [] λg7 _ _=>?_));have A:lfV x y (n+1)=lfV x y n:=by rw[L5,if_neg (by omega),mx]
    exact tB hJ (5-(n+1)) (by omega) [true] ⟨n+1,s,zl,rfl,rfl,rfl,rfl,by omega,b4,(by rw[A];exact b6)⟩ (λF=>by rw[A];exact F)
  .refine tV 2 (.bool false) (λF C=>(F6 (t:=3) (m:=(n:Int)) (n:=(x:Int)) (x:=(.tmp 41)) (y:=(.tmp 42)) (by simp;omega))) (tR 11 [] λg8 _ _=>tV 1 (iv ((n:Int)+1)) (λF C=>(Bd 39 (n:Int) underlying3 (by omega))) (tR 2 [] λg9 _ _=>?_));have A:lfV x y (n+1)=lfV x y n:=by rw[L5,if_neg (by omega),mx]
   exact tB hJ (5-(n+1)) (by omega) [true] ⟨n+1,s,zl,rfl,rfl,rfl,rfl,by omega,b4,(by rw[A];exact b6)⟩ (λF=>by rw[A];exact F)
 .refine tI ((decide ((n:Int)<5))) false (E' (by omega)) ?_;obtain rfl:n=5:=by omega
  rw[e1]at b6
  refine tR 4 [0] λh0 _ _=>tC1 1 (λF C=>iV hk hc hs hn hv a7 a6 b9 b8 c0) λ_=>tR 9 [1,0,1,0,1,1] λd _ _=>tC 4 (λF C=>dq p1 (tbA hT.1 C)) λNz=>?_;rintro _ _ ⟨xv,rfl,d0,d2,d4⟩;refine⟨_,Fa.sl xv dx::_,rfl,d4,λF=>⟨by rw[e4]at d0 d2;exact Dy d0 d2 Nz,F⟩,?_⟩;refine tR 11 [] λh8 _ _=>tC1 3 (λF C=>H6 f4 e3) λ_=>tF λF _=>?_;obtain⟨bl,fl,h⟩:=Io F.2.2.1.rv (by omega);refine tV 4 (pt bl (fl+(b:Int).toNat)) (λF C=>(Uq h (by omega) (by omega))) (tF λF _=>tV 5 (iv (t:Int)) (λF C=>(CQ underlying3 rfl (by have:=KD F.2.2.1.rv h (j:=(b:Int)) (by omega) (by omega);rw[c9]at this;exact this))) (tR 3 [0,0] λa2 _ _=>Tp 9 0 (x:=s) 29 29 28 5 56 zLa ⟨(a2 0),0,none⟩ 1 1 [iv 1,iv (t:Int),iv 0,iv 0,S3.v xv] (λF=>F.2.1.1) [Fa.ow 1 3 1 zl ((lfV x y 5).map iv),Fa.dt ([(acN 8 (x:Int),s30),(acN 8 (y:Int),s30)]++[(Kz t dx,xv)])] (λF=>⟨F.2.2.1,Dat.app F.2.1.2 (df F.1),trivial⟩) rfl (by simp[TQ]) rfl (by simp[Value.oneCell']) (λF K=>CO K 2 (a2 0) [iv 1,iv (t:Int),iv 0,iv 0,S3.v xv] 28 .z true (by kernel_rfl)) (by unfold maxLen;omega) (by omega) λZ _ _ l9=>?_));obtain⟨p,a8⟩:∃ p,([(acN 8 (x:Int),s30),(acN 8 (y:Int),s30)]++[(Kz t dx,xv)])=p:=⟨_,rfl⟩;have e0:p.map (·.1)=P0:=by rw[<- a8,<- G];rfl
  have k5:p.length=3:=by rw[<- a8];rfl
  refine tCv [Fa.oa 0 Z (p++rnP (mjQ x y l 0)),Fa.ow 1 3 1 zl ((lfV x y 5).map iv)] (λF=>⟨by rw[show rnP (mjQ x y l 0)=[]from rfl,mx,<- a8];exact⟨(by rw[H8];exact F.1),F.2.2.1⟩,F.2.1,trivial⟩) (tR 8 [] λh9 _ _=>EY 149 [(3,iv ld),(11,iv (x:Int)),(12,iv (y:Int)),(13,S3.v zl),(14,S3.v Z),(16,pt (d 0) 0),(18,iv 0),(19,iv 0)] [false,true,false] [⟨(d 0),.cells #[iv K1,iv E,iv M,iv L,iv O] 30,.l,false⟩] [Fa.oa 0 Z (p++rnP (mjQ x y l 0)),Fa.ow 1 3 1 zl ((lfV x y 5).map iv)] (λkk U T f=>∃ (i:Nat) (s2:S3),kk=400-i/\U=[(3,iv ld),(11,iv (x:Int)),(12,iv (y:Int)),(13,S3.v zl),(14,S3.v s2),(16,pt (d 0) 0),(18,iv 0),(19,iv (i:Int))]/\T=[⟨(d 0),.cells #[iv K1,iv E,iv M,iv L,iv O] 30,.l,false⟩]/\f=[Fa.oa 0 s2 (p++rnP (mjQ x y l i)),Fa.ow 1 3 1 zl ((lfV x y 5).map iv)]/\i<=400/\s2.n=3+(mjQ x y l i).length) (400) ⟨0,Z,rfl,rfl,rfl,rfl,by omega,(by show _=3+0;omega)⟩ (λF=>F) ?_);rintro k _ _ _ ⟨i,s2,rfl,rfl,rfl,rfl,hi,l5⟩ _ _ _ Jb d6;refine tR 6 [] λi0 _ _=>?_;by_cases h4:i<400
  .refine tI ((decide ((i:Int)<400))) true (O' (by omega)) ?_;have l3:=c7 i;obtain⟨D,V⟩:∃ D,(if i%200=0 then[acN 2 (l:Int)]else[])=D:=⟨_,rfl⟩;have k6:D.length<=1:=by rw[<- V];split<;>simp
   have e9:mjQ x y l (i+1)=mjQ x y l i++(D++(ER x y 5++[acN 7 0])):=by rw[mjQ,V]
   refine tR 7 [] λi1 _ _=>tV 1 (iv ((i:Int)%200)) (λF C=>(Us (x:=(.tmp 77)) (y:=(.const (iv 200))) (i:Int) 200 underlying3 (by omega) (by omega) (by decide) (by decide))) (tR 2 [] λi2 _ _=>Jy 149 (λU T f=>∃ (s3:S3),U=[(3,iv ld),(11,iv (x:Int)),(12,iv (y:Int)),(13,S3.v zl),(14,S3.v s3),(16,pt (d 0) 0),(18,iv 0),(19,iv (i:Int))]/\T=[⟨(d 0),.cells #[iv K1,iv E,iv M,iv L,iv O] 30,.l,false⟩]/\f=[Fa.oa 0 s3 (p++rnP (mjQ x y l i++D)),Fa.ow 1 3 1 zl ((lfV x y 5).map iv)]/\s3.n=3+(mjQ x y l i).length+D.length) (λJ hJ=>?_) ?_)
   .by_cases h5:i%200=0
    .refine tI ((((i:Int)%200)==0)) true (by rw[show((i:Int)%200)=0 by omega];rfl) (tR 4 [] λi3 _ _=>tC1 3 (λF C=>H6 e6 e2) λ_=>tF λF _=>?_);obtain⟨bl,fl,h⟩:=Io F.2.1.rv (by omega);refine tV 4 (pt bl (fl+(a:Int).toNat)) (λF C=>(Uq h (by omega) (by omega))) (tF λF _=>tV 5 (iv (l:Int)) (λF C=>(CQ underlying3 rfl (by have:=KD F.2.1.rv h (j:=(a:Int)) (by omega) (by omega);rw[c5]at this;exact this))) (tR 2 [0,0] λa3 _ _=>Tp 8 0 (x:=s2) 29 29 28 5 56 zLa ⟨(a3 0),0,none⟩ 1 1 [iv 2,iv (l:Int),iv 0,iv 0,sn] (λF=>F.1.1) [Fa.ow 1 3 1 zl ((lfV x y 5).map iv),Fa.dt ((p++rnP (mjQ x y l i))++[(acN 2 (l:Int),s30)])] (λF=>⟨F.2.1,Dat.snoc F.1.2 (XZ _ _),trivial⟩) rfl (by simp[TQ]) rfl (by simp[Value.oneCell']) (λF K=>CO K 1 (a3 0) [iv 2,iv (l:Int),iv 0,iv 0,sn] 28 .z true (by kernel_rfl)) (by unfold maxLen;omega) (by omega) λf9 _ _ m0=>tR 2 [] λi4 _ _=>?_));have Q:D=[acN 2 (l:Int)]:=by rw[<- V,if_pos h5]
     exact tD hJ [true,false] ⟨f9,rfl,rfl,rfl,(by rw[Q];show _=_+1;omega)⟩ (λF=>by rw[Q,LX,<- lY p];exact⟨⟨(by rw[H8];exact F.1),F.2.2.1⟩,F.2.1,trivial⟩)
    .refine tI ((((i:Int)%200)==0)) false (beq_false_of_ne (by omega)) (tR 1 [] λi5 _ _=>?_);have Q:D=[]:=by rw[<- V,if_neg h5]
     exact tD hJ [true] ⟨s2,rfl,rfl,rfl,(by rw[Q];show _=_+0;omega)⟩ (λF=>by rw[Q,mx];exact⟨F.1,F.2.1,trivial⟩)
   rintro _ _ _ ⟨s3,rfl,rfl,rfl,l6⟩ _ _ _;refine tR 6 [] λi6 _ _=>EY 149 [(3,iv ld),(11,iv (x:Int)),(12,iv (y:Int)),(13,S3.v zl),(14,S3.v s3),(16,pt (d 0) 0),(18,iv 0),(19,iv (i:Int)),(20,iv 0)] [true] [⟨(d 0),.cells #[iv K1,iv E,iv M,iv L,iv O] 30,.l,false⟩] [Fa.oa 0 s3 (p++rnP (mjQ x y l i++D++(ER x y 5).take 0)),Fa.ow 1 3 1 zl ((lfV x y 5).map iv)] (λkk U T f=>∃ (k:Nat) (s4:S3),kk=3-k/\U=[(3,iv ld),(11,iv (x:Int)),(12,iv (y:Int)),(13,S3.v zl),(14,S3.v s4),(16,pt (d 0) 0),(18,iv 0),(19,iv (i:Int)),(20,iv (k:Int))]/\T=[⟨(d 0),.cells #[iv K1,iv E,iv M,iv L,iv O] 30,.l,false⟩]/\f=[Fa.oa 0 s4 (p++rnP (mjQ x y l i++D++(ER x y 5).take k)),Fa.ow 1 3 1 zl ((lfV x y 5).map iv)]/\k<=3/\s4.n=3+(mjQ x y l i).length+D.length+k) (3) ⟨0,s3,rfl,rfl,rfl,rfl,by omega,by omega⟩ (λF=>by rw[nc,mx];exact F) ?_;rintro k _ _ _ ⟨k,s4,rfl,rfl,rfl,rfl,e5,l7⟩ _ _ _ Jc d7;refine tR 6 [] λi7 _ _=>?_;by_cases h6:k<3
   .refine tI ((decide ((k:Int)<3))) true (O' (by omega)) (tR 7 [] λi8 _ _=>?_);have b0:=Y k (by omega);have f3:(ER x y 5).take (k+1)=(ER x y 5).take k++[acN 3 (o k:Int)]:=by rw[nA];unfold ER;rw[mD,X k (by omega)];rfl
    refine tF λF _=>?_;obtain⟨bl,fl,h⟩:=Io F.2.1.rv (by omega);refine tV 3 (pt bl (fl+(k:Int).toNat)) (λF C=>(Uq h (by omega) (by omega))) (tF λF _=>tV 4 (iv (o k:Int)) (λF C=>(CQ underlying3 rfl (by have:=KD F.2.1.rv h (j:=(k:Int)) (by omega) (by omega);rw[b0]at this;exact this))) (tR 2 [0,0] λa4 _ _=>Tp 7 0 (x:=s4) 29 29 28 5 56 zLa ⟨(a4 0),0,none⟩ 1 1 [iv 3,iv (o k:Int),iv 0,iv 0,sn] (λF=>F.1.1) [Fa.ow 1 3 1 zl ((lfV x y 5).map iv),Fa.dt ((p++rnP (mjQ x y l i++D++(ER x y 5).take k))++[(acN 3 (o k:Int),s30)])] (λF=>⟨F.2.1,Dat.snoc F.1.2 (XZ _ _),trivial⟩) rfl (by simp[TQ]) rfl (by simp[Value.oneCell']) (λF K=>CO K 1 (a4 0) [iv 3,iv (o k:Int),iv 0,iv 0,sn] 28 .z true (by kernel_rfl)) (by unfold maxLen;omega) (by omega) λg0 _ _ m1=>tR 5 [] λi9 _ _=>tV 1 (iv ((k:Int)+1)) (λF C=>(Bd 91 (k:Int) underlying3 (by omega))) (tR 2 [] λj0 _ _=>tB d7 (3-(k+1)) (by omega) [true,false] ⟨k+1,g0,rfl,rfl,rfl,rfl,by omega,by omega⟩ (λF=>by rw[f3,<- lY (mjQ x y l i++D),LX,<- lY p];exact⟨⟨(by rw[H8];exact F.1),F.2.2.1⟩,F.2.1,trivial⟩))))
   .refine tI ((decide ((k:Int)<3))) false (E' (by omega)) ?_;obtain rfl:k=3:=by omega
    have b7:(ER x y 5).length=3:=by unfold ER;rw[mm,b1]
    rw[mc (pH b7)];refine tR 5 [0,0] λa5 _ _=>Tp 3 0 (x:=s4) 29 29 28 5 56 zLa ⟨(a5 0),0,none⟩ 1 1 [iv 7,iv 0,iv 0,iv 0,sn] (λF=>F.1.1) [Fa.ow 1 3 1 zl ((lfV x y 5).map iv),Fa.dt ((p++rnP (mjQ x y l i++D++ER x y 5))++[(acN 7 0,s30)])] (λF=>⟨F.2.1,Dat.snoc F.1.2 (XZ _ _),trivial⟩) rfl (by simp[TQ]) rfl (by simp[Value.oneCell']) (λF K=>CO K 1 (a5 0) [iv 7,iv 0,iv 0,iv 0,sn] 28 .z true (by kernel_rfl)) (by unfold maxLen;omega) (by omega) λg1 _ _ m2=>tR 5 [] λj1 _ _=>tV 1 (iv ((i:Int)+1)) (λF C=>(Bd 75 (i:Int) underlying3 (by omega))) (tR 2 [] λj2 _ _=>?_);have c6:mjQ x y l (i+1)=mjQ x y l i++D++ER x y 5++[acN 7 0]:=by rw[e9,lY,lY]
    exact tB d6 (400-(i+1)) (by omega) [true,false] ⟨i+1,g1,rfl,rfl,rfl,rfl,by omega,(by rw[c6,H',H',H',b7,mB];omega)⟩ (λF=>by rw[c6,LX,<- lY p];exact⟨⟨(by rw[H8];exact F.1),F.2.2.1⟩,F.2.1,trivial⟩)
  .refine tI ((decide ((i:Int)<400))) false (E' (by omega)) ?_;obtain rfl:i=400:=by omega
   have d9:(p++rnP (mjQ x y l 400)).map (·.1)=P0++mjQ x y l 400:=by rw[mz,e0,dG]
   refine tR 4 [] λj3 _ _=>tC 1 (λF C=>iy (AcR.oo F.1 d9) b3 R (tb5 hT C) hN) λNz=>?_;rintro _ _ ⟨ly,tv,ys,rfl,hW,hO,d5⟩;refine⟨_,[Fa.ot ly tv ys N,Fa.ow 1 3 1 zl ((lfV x y 5).map iv)],rfl,d5,λF=>⟨Ul hW hO Nz,F.2.1,trivial⟩,?_⟩;refine tF λF _=>?_;have c8:=kD F.1.ed.rd;rw[z1]at c8
   have k8:=(Un F.1).n5;obtain⟨bm,fm,am,_⟩:=F.1.qW.rd.spot (i:=0) (by omega);refine tR 19 [1,0,1,0] λg _ _=>tV 9 (pt (g 0) (1+x)) (λF C=>(Zk H)) (tW 10 (.bool false) (λF K=>CQ underlying4 rfl (ko K 1 (g 0) (Jo N ly tv).toList 42 .l true (by kernel_rfl) (fg H zx))) (tR 4 [] λj5 _ _=>tV 15 (pt (g 0) (1+y)) (λF C=>(Zk I)) (tW 16 (.bool false) (λF K=>CQ underlying4 rfl (ko K 1 (g 0) (Jo N ly tv).toList 42 .l false (by kernel_rfl) (fg I zy))) (tR 5 [1] λj6 _ _=>tV 22 (.bool false) (λF C=>(F6 (t:=3) (m:=(tv.n:Int)) (n:=1) (x:=(.tmp 131)) (y:=(.const (iv 1))) (by rw[c8];rfl))) (tR 10 [] λj7 _ _=>?_)))));have e7:∀ j,j<5->(N.log j).length<=40:=λj hj=>by rw[<- hN];exact gH b3 R hj
   refine EY 149 [(13,S3.v zl),(16,pt (d 0) 0),(21,pt (g 0) 0),(23,iv 0)] [true,true] [⟨(d 0),.cells #[iv K1,iv E,iv M,iv L,iv O] 30,.l,false⟩,⟨(g 0),.cells #[iv (N.br.length:Int),.bool (N.ab 0).up,.bool (N.ab 1).up,.bool (N.ab 2).up,.bool (N.ab 3).up,.bool (N.ab 4).up,S3.v ly,iv ((N.ab 0).bad:Int),iv ((N.ab 1).bad:Int),iv ((N.ab 2).bad:Int),iv ((N.ab 3).bad:Int),iv ((N.ab 4).bad:Int),S3.v tv] 42,.l,false⟩] [Fa.ot ly tv ys N,Fa.ow 1 3 1 zl ((lfV x y 5).map iv)] (λkk U T f=>∃ (k:Nat),kk=3-k/\U=[(13,S3.v zl),(16,pt (d 0) 0),(21,pt (g 0) 0),(23,iv (k:Int))]/\T=[⟨(d 0),.cells #[iv K1,iv E,iv M,iv L,iv O] 30,.l,false⟩,⟨(g 0),.cells #[iv (N.br.length:Int),.bool (N.ab 0).up,.bool (N.ab 1).up,.bool (N.ab 2).up,.bool (N.ab 3).up,.bool (N.ab 4).up,S3.v ly,iv ((N.ab 0).bad:Int),iv ((N.ab 1).bad:Int),iv ((N.ab 2).bad:Int),iv ((N.ab 3).bad:Int),iv ((N.ab 4).bad:Int),S3.v tv] 42,.l,false⟩]/\f=[Fa.ot ly tv ys N,Fa.ow 1 3 1 zl ((lfV x y 5).map iv)]/\k<=3) (3) ⟨0,rfl,rfl,rfl,rfl,by omega⟩ (λF=>⟨F.1,F.2.1,trivial⟩) ?_;rintro k _ _ _ ⟨k,rfl,rfl,rfl,rfl,e5⟩ _ _ _ Jd d8;refine tR 6 [] λj8 _ _=>?_;by_cases h7:k<3
   .refine tI ((decide ((k:Int)<3))) true (O' (by omega)) ?_;have b0:=Y k (by omega);have c4:=b2 k (by omega);have a9:=c4.lt;refine tF λF _=>?_;obtain⟨bl,fl,h⟩:=Io F.2.1.rv (by omega);refine tR 9 [9,0,2,1,4,6] λj9 _ _=>tT 4 (pt bl (fl+(k:Int).toNat)) (λ_=>(Uq h (by omega) (by omega))) (tR 1 [16,0] λk0 _ _=>tV 5 (iv (o k:Int)) (λF C=>(CQ underlying3 rfl (by have:=KD F.2.1.rv h (j:=(k:Int)) (by omega) (by omega);rw[b0]at this;exact this))) (tT 6 (pt bm (fm+o k)) (λ_=>(jO am (o k) (by omega))) (tV 7 (S3.v (ys (o k))) (λF C=>(CQ underlying46 rfl (cP F.1.qW.rd am a9))) (tC1 9 (λF C=>gv (c:=⟨K1,E,M,L,O⟩) (F.1.log (o k) a9).rd (oS (e7 (o k) a9) (by decide)) (r:=true) (by rw[c3];exact O' (z3 (o k) c4))) λ_=>tR 7 [20] λk2 _ _=>tV 1 (iv ((k:Int)+1)) (λF C=>(Bd 136 (k:Int) underlying3 (by omega))) (tR 2 [] λk3 _ _=>tB d8 (3-(k+1)) (by omega) [true,true] ⟨k+1,rfl,rfl,rfl,rfl,by omega⟩ (λF=>F))))))
   .refine tI ((decide ((k:Int)<3))) false (E' (by omega)) (tR 5 [] λk4 _ _=>tE (.bool true) λ_ B=>⟨rfl,B⟩)
end
end
section
open Go.RowKit Go.ChangeShapes Go.WideShapes Go.ChangeAt
section
variable{H:Type}{f0 f1 f2 f3 f4:Field}{t:TypeId}
theorem Pj{P:Program}{c:TypeId × Value->H}{w:World}{b:Nat}{a:Nat->Bool}{held:Bool}{e:Nat}{d:List Value}{x:DataW H × List MemPlace}(j:P.underlying t=some (.struct #[f0,f1,f2,f3,f4]))(h:DataW.trod c P w b a held e t d=some x) :
  ∃ y0 y1 y2 y3 y4 n,x=(.agg [y0.1,y1.1,y2.1,y3.1,y4.1],y0.2++(y1.2++(y2.2++(y3.2++y4.2))))/\d.length=P.cellsOf t/\DataW.trod c P w b a held n f0.type ((d.drop f0.offset).take (P.cellsOf f0.type))=some y0 /\
   DataW.trod c P w b a held n f1.type ((d.drop f1.offset).take (P.cellsOf f1.type))=some y1/\DataW.trod c P w b a held n f2.type ((d.drop f2.offset).take (P.cellsOf f2.type))=some y2 /\
   DataW.trod c P w b a held n f3.type ((d.drop f3.offset).take (P.cellsOf f3.type))=some y3/\DataW.trod c P w b a held n f4.type ((d.drop f4.offset).take (P.cellsOf f4.type))=some y4:=by
 obtain⟨k,n,_,rfl,i,g,f⟩:=DataW.trod_struct j h
 match k,g with
 | [y0,y1,y2,y3,y4],_=>exact⟨y0,y1,y2,y3,y4,n,by simp,i,by simpa using f 0 f0 rfl,by simpa using f 1 f1 rfl,by simpa using f 2 f2 rfl,by simpa using f 3 f3 rfl,by simpa using f 4 f4 rfl⟩
theorem aU{α:Type}{a:Array α}(h:a.size=5):∃ c0 c1 c2 c3 c4,a=#[c0,c1,c2,c3,c4]:=by
 obtain⟨l⟩:=a
 match l,h with
 | [c0,c1,c2,c3,c4],_=>exact⟨c0,c1,c2,c3,c4,rfl⟩
theorem KX:prog.cellsOf 3=1:=by kernel_rfl
theorem Lz{n:Int}(h:(Lit.int .i64 n).wf=true):I64 n:=by have:=bounds_i64 h;unfold I64;omega
theorem PN{e:TypeId × Value->H}{W:World}{b0:Nat}{v:Value}{d:DataW H}{p:List MemPlace}(y:prog.underlying t=some (.struct #[f0,f1,f2,f3,f4]))(D:prog.cellsOf t=5)(L:f0.type=3)(M:f1.type=3)(N:f2.type=3)(O:f3.type=3)(P:f4.type=3)(F:f0.offset=0)(G:f1.offset=1)(I:f2.offset=2)(J:f3.offset=3)(K:f4.offset=4)(b:Value.okWide prog W .any b0 t v)(h:DataW.Trod e prog W 0 (λ_=>true) true t v d p) :
  ∃ k c s n x:Int,v=.agg (cmA k c s n x)/\I64 k/\I64 c/\I64 s/\I64 n/\I64 x:=by
 obtain⟨cs,rfl,a⟩:=okWide_struct y b;rw[D]at a
 obtain⟨V,X,Y,Z,c4,rfl⟩:=aU a;obtain⟨m,E⟩:=h;obtain⟨y0,y1,y2,y3,y4,n,_,_,o,q,r,u,w⟩:=Pj y E;rw[L,F,KX]at o
 rw[M,G,KX]at q
 rw[N,I,KX]at r
 rw[O,J,KX]at u
 rw[P,K,KX]at w
 obtain⟨a0,f,_,Q⟩:=DataW.trod_int underlying3 o;obtain⟨z,g,_,R⟩:=DataW.trod_int underlying3 q;obtain⟨A,i,_,S⟩:=DataW.trod_int underlying3 r;obtain⟨B,j,_,T⟩:=DataW.trod_int underlying3 u;obtain⟨C,l,_,U⟩:=DataW.trod_int underlying3 w;simp[Value.cells]at f g i j l
 subst f g i j l;exact⟨a0,z,A,B,C,rfl,Lz Q,Lz R,Lz S,Lz T,Lz U⟩
end
end
section
open Go.ChangeShapes Go.WideShapes Go.ChangeAt Go.RowKit
section
theorem Gt(H:Type)(d:TypeId × Value->H)(W:World)(g:Nat)(a:Array Value)(l w:List (DataW H))(c:List MemPlace)(b:∀ (j:Nat) t v,f3.params[j]?=some t->a[j]?=some v->Value.okWide prog W .any g t v)(A:DataW.Whole d prog f3.params.toList Rows.topMajoritySpec.vars false W a.toList l w c)(r:(DataW.weightsEach prog (f3.params.toList++Rows.topMajoritySpec.plain.varTypes prog) (l++w)).all (·<=reachBytes)=true)(hL:laidMetH prog Rows.topMajorityRow.laid W) :
  Calls prog 3 a W λe W'=>∃ v,e=.returned v/\Rows.topMajoritySpec.post d prog f3 false true false false W a v W':=by
 have n:=A;obtain⟨p,q,k,hV,rfl,a0,a5⟩:=A;have z:DataW.TrodAll d prog W 0 (λ_=>true) true f3.params.toList a.toList l p:=k;rw[params3]at z b r
 obtain⟨C,a6,d0,Q,p0,q0,o,rfl,rfl,y,r0⟩:=trodAll_cons z;obtain⟨D,a7,d1,R,p1,q1,rfl,rfl,rfl,V,r1⟩:=trodAll_cons r0;obtain⟨E,a8,d2,S,p2,q2,rfl,rfl,rfl,X,r2⟩:=trodAll_cons r1;obtain⟨F,a9,d3,T,p3,q3,rfl,rfl,rfl,Y,r3⟩:=trodAll_cons r2;obtain⟨G,b0,d4,U,p4,q4,rfl,rfl,rfl,Z,r4⟩:=trodAll_cons r3;obtain⟨rfl,rfl,rfl⟩:=trodAll_nil r4;obtain rfl:a=#[C,D,E,F,G]:=by cases a;simp_all
 obtain⟨rfl,rfl⟩:=trodVars_none hV;have B:=y;have u:∀ x∈p0,x.block<W.heap.size:=by obtain⟨m,hm⟩:=B;exact DataW.trod_lt m _ _ _ hm
 obtain⟨ka,kb,kc,kd,ke,rfl,ia,ib,ic,s,ie⟩:=PN underlying23 (by kernel_rfl) rfl rfl rfl rfl rfl rfl rfl rfl rfl rfl (b 0 23 C rfl rfl) y;obtain⟨M,rfl,rfl,rfl,I⟩:=open_int underlying3 (b 1 3 D rfl rfl) V;have b1:=bounds_i64 I;obtain⟨N,rfl,rfl,rfl,J⟩:=open_int underlying3 (b 2 3 E rfl rfl) X;have b2:=bounds_i64 J;obtain⟨O,rfl,rfl,rfl,K⟩:=open_int underlying3 (b 3 3 F rfl rfl) Y;have b3:=bounds_i64 K;obtain⟨P,rfl,rfl,rfl,L⟩:=open_int underlying3 (b 4 3 G rfl rfl) Z;have b4:=bounds_i64 L;clear k;refine(J8 (ck:=ka) (cc:=kb) (cs:=kc) (cn:=kd) (cv:=ke) (wa:=M) (wb:=N) (ld:=O) (to_:=P) ia ib ic s ie ⟨by omega,by omega⟩ ⟨by omega,by omega⟩ ⟨by omega,by omega⟩ ⟨by omega,by omega⟩ (lK hL)).mono λe W' ⟨he,i⟩=>?_;subst he;exact⟨_,rfl,_,_,_,[],_,[],n,trodAll_mk1 (shut_bool underlying4 _),(trodAll_cons_mk (Below.trod cM (by kernel_rfl) (my (by kernel_rfl)) B i u) (trodAll_cons_mk (shut_int underlying3 I) (trodAll_cons_mk (shut_int underlying3 J) (trodAll_cons_mk (shut_int underlying3 K) (trodAll_cons_mk (shut_int underlying3 L) trodAll_mk0))))),rfl,i.frame _,λh=>by cases h⟩
variable{W:World}{os:Os}
theorem K7(h:IT os W):laidMet prog Rows.topMajorityRow.laid (W.forCall (λ_ _=>0) ⟨#[],#[.agg zV5,.int .i64 0,.int .i64 0,.int .i64 0,.int .i64 0],[]⟩).memory:=by
 unfold IT at h;subst h;exact laidMet_of_run' 8 (by kernel_rfl) (by kernel_rfl)
theorem IN(h:IT os W){H:Type}(a:TypeId × Value->H):∃ places,DataW.whole a prog (W.forCall (λ_ _=>0) ⟨#[],#[.agg zV5,.int .i64 0,.int .i64 0,.int .i64 0,.int .i64 0],[]⟩).memory f3.params.toList Rows.topMajoritySpec.vars false (#[.agg zV5,.int .i64 0,.int .i64 0,.int .i64 0,.int .i64 0]:Array Value).toList 8=some ([.agg [.lit (.int .i64 0),.lit (.int .i64 0),.lit (.int .i64 0),.lit (.int .i64 0),.lit (.int .i64 0)],.lit (.int .i64 0),.lit (.int .i64 0),.lit (.int .i64 0),.lit (.int .i64 0)],[],places):=by
 unfold IT at h;subst h;exact⟨[],by kernel_rfl⟩
theorem H4(d:Os)(a:d.Started)(H:Type)(enc:TypeId × Value->H)(F:Stop.Interp) :
  ReturnsInHanded {} Tryz.checked d 3 .any ((OpenSpec.ofChange Rows.topMajoritySpec).preRow enc prog f3 Rows.topMajorityRow.domain false Rows.topMajorityRow.laid) (((OpenSpec.ofChange Rows.topMajoritySpec).at F).post enc prog f3 false true false false):=by
 obtain⟨i,b⟩:=bL d;obtain⟨c,h⟩:=IN b enc;have g:=K7 b;refine returnsInHanded_of_row (C:=Tryz.checked) (s:=OpenSpec.ofChange Rows.topMajoritySpec) own a (by kernel_rfl) func3 ?_ ?_
 .unfold IT at b;subst b;exact witness_row_at (enc:=enc) (C:=Tryz.checked) false _ #[.agg zV5,.int .i64 0,.int .i64 0,.int .i64 0,.int .i64 0] rfl (by kernel_rfl) (by kernel_rfl) (by kernel_rfl)
   (OpenSpec.preRow_of_cond 8 h (by kernel_rfl) (λk e=>by cases e) (by kernel_rfl) g)
 .intro W base args ds gs before hval hW _ _ hsz hL _ _;exact Gt H enc W base args ds gs before hval hW hsz hL
theorem J7:Rows.TopMajoritySaid :=
 OpenClaim.holds_of_cond 3 f3 rfl rfl rfl rfl rfl rfl rfl ⟨rfl,rfl,rfl,rfl,rfl⟩ rfl rfl rfl rfl rfl (by kernel_rfl) func3 (by kernel_rfl)
  (my (by kernel_rfl)) (by unfold Func.isWrapper;first|(rw[if_pos (by decide +kernel)];kernel_rfl)|(rw[if_neg (by decide +kernel)];exact⟨rfl,rfl⟩))
  (λc a H b _ F=>by rw[OpenClaim.pre_eq_preRow];exact H4 c a H b F)
theorem IM(f : FuncId)(b : Func)(e : Tryz.pinned.checked.prog.funcNamed "conclave/conclavetop.TopMajority" = some f)(c : Tryz.pinned.checked.prog.funcs[f]? = some b) :
  false=Tryz.pinned.checked.prog.looks []/\∀ (j:Nat) t,b.params[j]?=some t->Tryz.pinned.checked.prog.wantsStandIn t=false:=by
 obtain rfl : f = 3 := Option.some.inj ((show prog.funcNamed "conclave/conclavetop.TopMajority" = some 3 by kernel_rfl).symm.trans e) |>.symm
 obtain rfl:b=f3:=(mI (func3.symm.trans c)).symm;refine⟨by kernel_rfl,λj t d=>?_⟩;rw[params3]at d
 have a:=Array.mem_of_getElem? d;simp only[List.mem_toArray,ma,P',or_false]at a;rcases a with rfl|rfl|rfl|rfl|rfl
 .exact(show prog.wantsStandIn 23=false by kernel_rfl)
 .exact(show prog.wantsStandIn 3=false by kernel_rfl)
 .exact(show prog.wantsStandIn 3=false by kernel_rfl)
 .exact(show prog.wantsStandIn 3=false by kernel_rfl)
 .exact(show prog.wantsStandIn 3=false by kernel_rfl)
theorem topMajority_card:Rows.TopMajorityCardSaid :=
 Claim7.holds_tied_plain_at .later [] _ _ _ _ J7 (λ_ h=>by cases h) (by kernel_rfl) (λ_ h=>by cases h) topMajority_row_tie rfl ⟨rfl,rfl⟩ (by kernel_rfl) rfl IM (by kernel_rfl)
#print axioms topMajority_card
end
end
end Go.Proofs.YteimjcbgceckdaaGreatDoor
