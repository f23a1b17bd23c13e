/- Part 15 of the walk. -/
import Derived.Lib.AppendZeros
import Derived.Test.YtdjfdfpkkenjbacGreatDoorZ14
set_option maxRecDepth 100000
set_option maxHeartbeats 4000000
open Go.Proofs.Tryz
set_option linter.unusedVariables false
namespace Go.Proofs.YtdjfdfpkkenjbacGreatDoor
section
def I64(n:Int):Prop:=-9223372036854775808<=n/\n<=9223372036854775807
end
section
open Go.RowKit
section
variable{B b i j off sz:Nat}{L:List Lac}{M:Meet}{P:Program}{T:List Tg}{W w w' w0:World}{a:Lac}{c k s tc tr tu v:Int}{e:TypeId}{g g':Gh}{l:List (Lac × S3)}{ly tv x y:S3}{ys:Nat->S3}{α:Type}
theorem tbA(h:Tabs w0)(C:Cg w0.heap.size TQ gS w0 g w):Tabs w:=⟨h.t.af (CgQ.af C),h.n.af (CgQ.af C),h.q.af h.q.pos (CgQ.af C)⟩
def Vi(w:World):Prop:=Tabs w/\LWTab w/\LBTab w
theorem tb5(h:Vi w0)(C:Cg w0.heap.size TQ gS w0 g w):Vi w:=⟨tbA h.1 C,h.2.1.af (CgQ.af C),h.2.2.af (CgQ.af C)⟩
theorem Pa{f:α->List Value}(d:∀ a,(f a).length=sz)(l:List α){i j:Nat}{a:α}{u:Value}(b:l[i]?=some a)(e:(f a)[j]?=some u):(l.flatMap f)[sz*i+j]?=some u:=by
 have g:j<sz:=by rw[<- d a];exact(V'.1 e).1
 induction l generalizing i with
 | nil=>cases b
 | cons c l ih =>
  rw[om];cases i with
  | zero =>
   simp only[ny,X']at b;subst b;rw[mt (by rw[d];omega),Nat.mul_zero,mU];exact e
  | succ i =>
   rw[my (by rw[d,Nat.mul_succ];omega),d,show sz*(i+1)+j-sz=sz*i+j by rw[Nat.mul_succ];omega];exact ih (by simpa using b)
theorem Qt{f:α->List Value}(b:∀ a,(f a).length=sz)(l:List α):(l.flatMap f).length=l.length*sz:=by
 induction l with
 | nil=>simp
 | cons c l ih=>rw[om,E',b,ih,mJ,px];omega
theorem j4{l:List Cmd}(h:RdV w x 5 (cmL l)):x.n=l.length:=h.rc.len
def acV(l:List (Lac × S3)):List Value:=l.flatMap λp=>laV p.1 p.2.v
theorem Gg(l:List (Lac × S3))(x:Lac)(y:S3):acV (l++[(x,y)])=acV l++laV x y.v:=by simp[acV]
theorem KJ(l:List (Lac × S3)):(acV l).length=l.length*5:=Qt (f:=λp:Lac × S3=>laV p.1 p.2.v) (λ_=>rfl) l
theorem OI(l:List (Lac × S3)):∀ u∈acV l,u.oneCell'=true:=by
 intro u b;obtain⟨p,_,a⟩:=oU.1 b;simp[laV]at a
 rcases a with rfl|rfl|rfl|rfl|rfl<;>rfl
def Dat(g:Gh)(w:World)(l:List (Lac × S3)):Prop:=∀ p∈l,FSl g w p.2 p.1.d
theorem Dat.ch(h:Dat g w l)(c:Cg B T g w g' w')(b:Tg.z∉T:=by simp):Dat g' w' l:=λp a=>(h p a).ch c b
theorem Dat.snoc(h:Dat g w l){x:Lac}{y:S3}(k:FSl g w y x.d):Dat g w (l++[(x,y)]):=λp a=>(Q'.1 a).elim (h p) λe=>by rw[D'.1 e];exact k
theorem Dat.app{m:List (Lac × S3)}(h:Dat g w l)(k:Dat g w m):Dat g w (l++m):=λp a=>(Q'.1 a).elim (h p) (k p)
def Fa.ac(x:S3)(l:List (Lac × S3)):Fa:=⟨none,λg w=>FzV g w x 5 (acV l)/\Dat g w l,λhz _ c h=>⟨h.1.ch c hz,h.2.ch c hz⟩⟩
def Fa.oa(r:Nat)(x:S3)(l:List (Lac × S3)):Fa:=⟨some r,λg w=>OwnS g w (.n 60 r) true 36 5 x (acV l)/\Dat g w l,λhz hr c h=>⟨h.1.ch c (hr r rfl) (by simp),h.2.ch c hz⟩⟩
def Fa.dt(l:List (Lac × S3)):Fa:=⟨none,λg w=>Dat g w l,λhz _ c h=>h.ch c hz⟩
structure AcR(w:World)(x:S3)(L:List Lac)(l:List (Lac × S3)):Prop where
 e:l.map (·.1)=L
 r:RdV w x 5 (acV l)
 d:∀ p∈l,Sl w p.2.v p.1.d
theorem AcR.of(h:(Fa.ac x l).p g w){L:List Lac}(e:l.map (·.1)=L):AcR w x L l:=⟨e,h.1.rd,λp a=>(h.2 p a).s⟩
theorem AcR.oo{r:Nat}(h:(Fa.oa r x l).p g w){L:List Lac}(e:l.map (·.1)=L):AcR w x L l:=⟨e,h.1.rv,λp a=>(h.2 p a).s⟩
theorem AcR.n(h:AcR w x L l):x.n=L.length:=by
 have:=h.r.len;rw[KJ]at this
 rw[<- h.e,mF];omega
theorem AcR.sk(h:AcR w x L l)(q:L.length<=1000000):Sk w x.v (laF L) L.length:=by
 have o:=h.n;refine⟨⟨x.a,x.c,by rw[<- o],?_⟩,by omega⟩;rcases h.r.ex with h1|⟨b,off,h1,h2,h3⟩
 .exact .inl (by omega)
 .refine .inr ⟨b,off,h1,h2,λi k=>?_⟩;have g:i<l.length:=by rw[<- h.e,mF]at k;exact k
  refine⟨l[i].2.v,λj u m=>?_,?_⟩
  .rw[nc];refine h3 _ u (Pa (f:=λp:Lac × S3=>laV p.1 p.2.v) (λ_=>rfl) l (H' g) ?_);have:laF L i=l[i].1:=by rw[Pf k];simp[<- h.e]
   rw[this]at m;exact m
  .have:laF L i=l[i].1:=by rw[Pf k];simp[<- h.e]
   rw[this];exact h.d _ (mP g)
theorem AcR.spot(h:AcR w x L l){i:Nat}{a:Lac}(g:L[i]?=some a):∃ b off y,x.a=some ⟨b,off,none⟩/\w.rangeAt b (off+5*i) (laV a (S3.v y))/\Sl w y.v a.d/\i<x.n:=by
 have t:=h.n;have k:=(V'.1 g).1;have c:i<l.length:=by rw[<- h.e,mF]at k;exact k
 have e:l[i].1=a:=by
  have:=(V'.1 g).2;rw[<- this];simp[<- h.e]
 obtain⟨b,off,m,s,o⟩:=h.r.spot (i:=i) (by omega);refine⟨b,off,l[i].2,m,λj u q=>?_,?_,by omega⟩
 .refine o j u (Pa (f:=λp:Lac × S3=>laV p.1 p.2.v) (λ_=>rfl) l (H' c) ?_);rw[e];exact q
 .rw[<- e];exact h.d _ (mP c)
theorem Xk(L:List Lac):Jk (laF L) L.length=L:=by
 apply oG
 .simp[Jk]
 .intro i h1 h2;simp[Jk,Pf h2]
def Meet.log(M:Meet)(j:Nat):List Cmd:=(M.ab j).ae.take (M.ab j).done
structure OutF(g:Gh)(w:World)(ly tv:S3)(ys:Nat->S3)(M:Meet):Prop where
 qP:FzV g w ly 1 [S3.v (ys 0),S3.v (ys 1),S3.v (ys 2),S3.v (ys 3),S3.v (ys 4)]
 log:∀ j,j<5->FzV g w (ys j) 5 (cmL (M.log j))
 eb:FzV g w tv 5 (M.eb.flatMap Es)
theorem OutF.ch(h:OutF g w ly tv ys M)(c:Cg B T g w g' w')(a:Tg.z∉T:=by simp):OutF g' w' ly tv ys M:=⟨h.qP.ch c a,λj b=>(h.log j b).ch c a,h.eb.ch c a⟩
def Fa.ot(ly tv:S3)(ys:Nat->S3)(M:Meet):Fa:=⟨none,λg w=>OutF g w ly tv ys M,λhz _ c h=>h.ch c hz⟩
theorem Pm(h:OutW w M ly tv ys)(n:OutN B M ly tv ys)(G:∀ b,B<=b->g.t b=.z):OutF g w ly tv ys M :=
 ⟨⟨h.qP,λ_ a c=>G _ (n.qP a c)⟩,λj e=>⟨(h.log j e).rv,λd a c=>G _ (n.log j e d a c)⟩,⟨h.eb,λd a c=>G _ (n.eb d a c)⟩⟩
theorem OutW.n5(h:OutW w M ly tv ys):ly.n=5:=by have:=h.qP.len;simp at this;omega
def rnP(l:List Lac):List (Lac × S3):=l.map λa=>(a,s30)
theorem eg(l:List Lac):(rnP l).map (·.1)=l:=by simp[rnP,Function.comp_def]
theorem Pz(g:Gh)(w:World){l:List Lac}(h:∀ a∈l,a.d=[]):Dat g w (rnP l):=by
 intro p c;obtain⟨a,b,rfl⟩:=mB.1 c;show FSl g w s30 a.d;rw[h a b];exact V9 g w
theorem IP(l:List Lac)(a:Lac):rnP (l++[a])=rnP l++[(a,s30)]:=by simp[rnP]
theorem UK(l m:List Lac):rnP (l++m)=rnP l++rnP m:=by simp[rnP]
theorem KR(l:List Lac):(rnP l).length=l.length:=by simp[rnP]
theorem H8(m:Nat):(Am m).length=6*m:=by
 induction m with
 | zero=>rfl
 | succ m ih=>rw[Am,E',ih];show _+6=_;omega
def AC(k:Int)(j:Nat):List Lac:=(List.range j).map λn:Nat=>acN k (n:Int)
theorem BS(k:Int)(j:Nat):AC k (j+1)=AC k j++[acN k (j:Int)]:=by simp[AC,List.range_succ]
theorem YB(k:Int)(j:Nat):(AC k j).length=j:=by simp[AC]
theorem O2{many:Nat}(h:RdV w x 5 (acV l))(P:∀ p∈l,Sl w p.2.v p.1.d)(hm:l.length+6*many<=1000000) :
  Calls prog 16 #[x.v,iv (many:Int)] w λe w'=>∃ y:S3,e=.returned y.v/\OwN w.heap.size w' 36 5 y (acV (l++rnP (Dr many)))/\Bw w w':=by
 have t:x.n=l.length:=by have:=h.len;rw[KJ]at this;omega
 refine tIn [Fa.ac x l] func16 ⟨⟨h.fz,λp R=>⟨P p R,λ_ _ _=>rfl⟩⟩,trivial⟩ (tR 7 [] λV _ _=>aH 1 0 x (acV l) 33 33 36 5 56 zLa (λF=>F.1.1.rd) [Fa.dt l] (λF=>⟨F.1.2,trivial⟩) rfl (by simp[TQ]) (OI l) (by rw[t];unfold maxLen;omega) (by omega) λu _ _ n0=>tR 8 [] λW _ _=>Fu 39 [(1,iv (many:Int)),(5,S3.v u),(6,iv 0)] [] [] [Fa.oa 0 u (l++rnP (AC 9 0))] (λo g f a=>∃ (j:Nat) (y:S3),o=5-j/\g=[(1,iv (many:Int)),(5,S3.v y),(6,iv (j:Int))]/\f=[]/\a=[Fa.oa 0 y (l++rnP (AC 9 j))]/\j<=5/\y.n=l.length+j) (5) ⟨0,u,rfl,rfl,rfl,rfl,by omega,by omega⟩ (λF=>⟨by rw[show rnP (AC 9 0)=[]from rfl,mI];exact⟨F.1,F.2.1⟩,trivial⟩) ?_);rintro k _ _ _ ⟨j,y,rfl,rfl,rfl,rfl,Q,m⟩ _ _ _ J O;refine tR 6 [] λX _ _=>?_;by_cases h1:j<5
 .refine tI ((decide ((j:Int)<5))) true (P' (by omega)) (tR 8 [0,0] λq _ _=>Rv 4 0 (x:=y) 33 33 36 5 56 zLa ⟨(q 0),0,none⟩ 1 1 [iv 9,iv (j:Int),iv 0,iv 0,sn] (λF=>F.1.1) [Fa.dt ((l++rnP (AC 9 j))++[(acN 9 (j:Int),s30)])] (λF=>⟨Dat.snoc F.1.2 (V9 _ _),trivial⟩) rfl (by simp[TQ]) rfl (by simp[Value.oneCell']) (λF K=>Dx K 0 (q 0) [iv 9,iv (j:Int),iv 0,iv 0,sn] 36 .z true (by kernel_rfl)) (by unfold maxLen;omega) (by omega) λU _ _ n6=>tR 5 [] λY _ _=>tV 1 (iv ((j:Int)+1)) (λF C=>(Bj 13 (j:Int) underlying3 (by omega))) (tR 2 [] λZ _ _=>tB O (5-(j+1)) (by omega) [false] ⟨j+1,U,rfl,rfl,rfl,rfl,by omega,by omega⟩ (λF=>by rw[BS,IP,<- mm];exact⟨⟨(by rw[Gg];exact F.1),F.2.1⟩,trivial⟩)))
 .refine tI ((decide ((j:Int)<5))) false (G' (by omega)) ?_;obtain rfl:j=5:=by omega
  refine tR 7 [] λa0 _ _=>Fu 39 [(1,iv (many:Int)),(5,S3.v y),(7,iv 0)] [] [] [Fa.oa 0 y (l++rnP (Ax++Am 0))] (λo g f a=>∃ (i:Nat) (y:S3),o=many-i/\g=[(1,iv (many:Int)),(5,S3.v y),(7,iv (i:Int))]/\f=[]/\a=[Fa.oa 0 y (l++rnP (Ax++Am i))]/\i<=many/\y.n=l.length+(5+6*i)) (many) ⟨0,y,rfl,rfl,rfl,rfl,by omega,by omega⟩ (λF=>⟨F.1,trivial⟩) ?_;rintro k _ _ _ ⟨i,y,rfl,rfl,rfl,rfl,hi,m⟩ _ _ _ Jb r;refine tR 7 [] λD _ _=>?_;by_cases h2:i<many
  .refine tI ((decide ((i:Int)<(many:Int)))) true (P' (by omega)) (tR 9 [] λE _ _=>Fu 39 [(1,iv (many:Int)),(5,S3.v y),(7,iv (i:Int)),(8,iv 0)] [] [] [Fa.oa 0 y (l++rnP (Ax++Am i++AC 3 0))] (λo g f a=>∃ (j:Nat) (y:S3),o=5-j/\g=[(1,iv (many:Int)),(5,S3.v y),(7,iv (i:Int)),(8,iv (j:Int))]/\f=[]/\a=[Fa.oa 0 y (l++rnP (Ax++Am i++AC 3 j))]/\j<=5/\y.n=l.length+(5+6*i+j)) (5) ⟨0,y,rfl,rfl,rfl,rfl,by omega,by omega⟩ (λF=>⟨by rw[show AC 3 0=[]from rfl,mI];exact F.1,trivial⟩) ?_);rintro k _ _ _ ⟨j,y,rfl,rfl,rfl,rfl,Q,m⟩ _ _ _ Jc s;refine tR 6 [] λG _ _=>?_;by_cases h3:j<5
   .refine tI ((decide ((j:Int)<5))) true (P' (by omega)) (tR 8 [0,0] λb _ _=>Rv 4 0 (x:=y) 33 33 36 5 56 zLa ⟨(b 0),0,none⟩ 1 1 [iv 3,iv (j:Int),iv 0,iv 0,sn] (λF=>F.1.1) [Fa.dt ((l++rnP (Ax++Am i++AC 3 j))++[(acN 3 (j:Int),s30)])] (λF=>⟨Dat.snoc F.1.2 (V9 _ _),trivial⟩) rfl (by simp[TQ]) rfl (by simp[Value.oneCell']) (λF K=>Dx K 0 (b 0) [iv 3,iv (j:Int),iv 0,iv 0,sn] 36 .z true (by kernel_rfl)) (by unfold maxLen;omega) (by omega) λA _ _ S=>tR 5 [] λH _ _=>tV 1 (iv ((j:Int)+1)) (λF C=>(Bj 27 (j:Int) underlying3 (by omega))) (tR 2 [] λI _ _=>tB s (5-(j+1)) (by omega) [false] ⟨j+1,A,rfl,rfl,rfl,rfl,by omega,by omega⟩ (λF=>by rw[BS,<- mm (Ax++Am i),IP,<- mm l];exact⟨⟨(by rw[Gg];exact F.1),F.2.1⟩,trivial⟩)))
   .refine tI ((decide ((j:Int)<5))) false (G' (by omega)) ?_;obtain rfl:j=5:=by omega
    refine tR 5 [0,0] λc _ _=>Rv 3 0 (x:=y) 33 33 36 5 56 zLa ⟨(c 0),0,none⟩ 1 1 [iv 7,iv 0,iv 0,iv 0,sn] (λF=>F.1.1) [Fa.dt ((l++rnP (Ax++Am i++AC 3 5))++[(acN 7 0,s30)])] (λF=>⟨Dat.snoc F.1.2 (V9 _ _),trivial⟩) rfl (by simp[TQ]) rfl (by simp[Value.oneCell']) (λF K=>Dx K 0 (c 0) [iv 7,iv 0,iv 0,iv 0,sn] 36 .z true (by kernel_rfl)) (by unfold maxLen;omega) (by omega) λB _ _ T=>tR 5 [] λL _ _=>tV 1 (iv ((i:Int)+1)) (λF C=>(Bj 23 (i:Int) underlying3 (by omega))) (tR 2 [] λM _ _=>tB r (many-(i+1)) (by omega) [false] ⟨i+1,B,rfl,rfl,rfl,rfl,by omega,by omega⟩ (λF=>by rw[show Ax++Am (i+1)=Ax++Am i++AC 3 5++[acN 7 0]by rw[Am,<- mm,mm _ (AC 3 5)];rfl,IP,<- mm l];exact⟨⟨(by rw[Gg];exact F.1),F.2.1⟩,trivial⟩))
  .refine tI ((decide ((i:Int)<(many:Int)))) false (G' (by omega)) ?_;obtain rfl:i=many:=by omega
   refine tR 6 [] λN _ _=>tX λF C=>qE (S3.v y) λ_=>⟨y,rfl,F.1.1.own C,CgQ.af C⟩
theorem YA(k:Int)(j:Nat):∀ a∈AC k j,a.d=[]:=by
 intro a b;obtain⟨n,_,rfl⟩:=mB.1 b;rfl
theorem Yi(m:Nat):∀ a∈Am m,a.d=[]:=by
 induction m with
 | zero=>intro a b;cases b
 | succ m ih =>
  intro a b;rcases Q'.1 b with h|h
  .exact ih a h
  .rcases Q'.1 h with h|h
   .exact YA 3 5 a h
   .rw[D'.1 h];rfl
theorem ZK(m:Nat):∀ a∈Dr m,a.d=[]:=by
 intro a b;rcases Q'.1 b with h|h
 .exact YA 9 5 a h
 .exact Yi m a h
theorem G8(m:Nat):(Dr m).length=5+6*m:=by unfold Dr;rw[E',H8];rfl
theorem l9(h:AcR w x L l)(g:x.a=some ⟨b,off,none⟩)(f:L[i]?=some a):w.cell? ⟨b,off+5*i,none⟩=some (iv a.k):=by
 obtain⟨j,d,y,c,e,_,_⟩:=h.spot f;rw[g]at c
 cases c;exact e 0 _ rfl
theorem VW(h:L[i]?=some a):Fo (L.take (i+1))=if hvy a then Fo (L.take i)+20 else Fo (L.take i):=by
 unfold Fo;rw[oQ,h,nP];cases hh:hvy a<;>simp[hh];omega
theorem U7(L:List Lac):Fo L<=100+20*L.length:=by
 unfold Fo;have:=oN hvy L;omega
theorem Yw(m:Nat)(n:Int):(Cx m n).length=11+6*m:=by unfold Cx;rw[E',E',G8,G8,mQ];omega
theorem T8{n:Int}(h:AcR w x L l)(hm:L.length<=2000) :
  Calls prog 7 #[x.v,iv n] w λe w'=>∃ y:S3,e=.returned y.v/\OwN w.heap.size w' 36 5 y (acV (l++rnP (D6 L n)))/\Bw w w':=by
 have U:x.n=L.length:=h.n;have c4:l.length=L.length:=by rw[<- h.e,mF]
 refine tIn [Fa.ac x l] func7 ⟨⟨h.r.fz,λp hp=>⟨h.d p hp,λ_ _ _=>rfl⟩⟩,trivial⟩ (tR 14 [] λc6 _ _=>Fu 44 [(0,S3.v x),(1,iv n),(5,iv 100),(6,iv 0)] [] [] [Fa.ac x l] (λV D B f=>∃ (i m:Nat),V=L.length-i/\D=[(0,S3.v x),(1,iv n),(5,iv (m:Int)),(6,iv (i:Int))]/\B=[]/\f=[Fa.ac x l]/\i<=L.length/\m=Fo (L.take i)) (L.length) ⟨0,100,rfl,rfl,rfl,rfl,by omega,rfl⟩ (λF=>⟨F.1,trivial⟩) ?_);rintro k _ _ _ ⟨i,m,rfl,rfl,rfl,rfl,hi,g⟩ _ _ _ J o;refine tR 8 [] λc7 _ _=>?_;by_cases h1:i<L.length
 .refine tI ((decide ((i:Int)<(x.n:Int)))) true (P' (by omega)) ?_;have s:=U7 (L.take i);rw[<- g,j']at s
  obtain⟨a,S⟩:∃ a,L[i]?=some a:=⟨_,H' (by omega)⟩;refine tF λF _=>?_;obtain⟨b,W,yd,I,_,_,hin⟩:=(AcR.of F.1 h.e).spot S;refine tR 7 [] λc8 _ _=>tV 2 (pt b (W+5*i)) (λF C=>(ZC (c:=x.c) I i hin)) (tR 1 [] λc9 _ _=>tV 4 (iv a.k) (λF C=>(BT underlying3 rfl (l9 (AcR.of F.1 h.e) I S))) (tR 1 [] λd0 _ _=>KE 44 (λD B f=>∃ (N:Nat),D=[(0,S3.v x),(1,iv n),(5,iv (N:Int)),(6,iv (i:Int))]/\B=[]/\f=[Fa.ac x l]/\N=(if hvy a then m+20 else m)) (λJ o=>?_) ?_))
  .refine tR 7 [] λd1 _ _=>?_;by_cases A:a.k=1
   .refine tI ((a.k==1)) true (by simpa using A) (tR 1 [] λd2 _ _=>tI ((a.k==1)) true (by simpa using A) (tR 2 [] λd3 _ _=>tV 1 (iv ((m:Int)+20)) (λF C=>(Mb (x:=(.tmp 25)) (y:=(.const (iv 20))) (m:Int) 20 underlying3 (by omega))) (tR 3 [] λd4 _ _=>tD o [] ⟨m+20,rfl,rfl,rfl,(if_pos (by simp[hvy,A])).symm⟩ (λF=>⟨F.1,trivial⟩))))
   .refine tI ((a.k==1)) false (by simpa using A) (tR 5 [] λa1 _ _=>?_);by_cases E:a.k=2
    .refine tI ((a.k==2)) true (by simpa using E) (tR 1 [] λa2 _ _=>tI ((a.k==2)) true (by simpa using E) (tR 2 [] λa3 _ _=>tV 1 (iv ((m:Int)+20)) (λF C=>(Mb (x:=(.tmp 25)) (y:=(.const (iv 20))) (m:Int) 20 underlying3 (by omega))) (tR 3 [] λa4 _ _=>tD o [] ⟨m+20,rfl,rfl,rfl,(if_pos (by simp[hvy,E])).symm⟩ (λF=>⟨F.1,trivial⟩))))
    .refine tI ((a.k==2)) false (by simpa using E) (tR 5 [] λa5 _ _=>?_);by_cases G:a.k=6
     .refine tI ((a.k==6)) true (by simpa using G) (tR 1 [] λa6 _ _=>tI ((a.k==6)) true (by simpa using G) (tR 2 [] λa7 _ _=>tV 1 (iv ((m:Int)+20)) (λF C=>(Mb (x:=(.tmp 25)) (y:=(.const (iv 20))) (m:Int) 20 underlying3 (by omega))) (tR 3 [] λa8 _ _=>tD o [] ⟨m+20,rfl,rfl,rfl,(if_pos (by simp[hvy,G])).symm⟩ (λF=>⟨F.1,trivial⟩))))
     .refine tI ((a.k==6)) false (by simpa using G) (tR 4 [] λa9 _ _=>?_);by_cases M:a.k=8
      .refine tI ((a.k==8)) true (by simpa using M) (tR 2 [] λb0 _ _=>tV 1 (iv ((m:Int)+20)) (λF C=>(Mb (x:=(.tmp 25)) (y:=(.const (iv 20))) (m:Int) 20 underlying3 (by omega))) (tR 3 [] λb1 _ _=>tD o [] ⟨m+20,rfl,rfl,rfl,(if_pos (by simp[hvy,M])).symm⟩ (λF=>⟨F.1,trivial⟩)))
      .refine tI ((a.k==8)) false (by simpa using M) (tR 2 [] λb2 _ _=>tD o [] ⟨m,rfl,rfl,rfl,(if_neg (by simp[hvy,A,E,G,M])).symm⟩ (λF=>⟨F.1,trivial⟩))
  rintro _ _ _ ⟨N,rfl,rfl,rfl,T⟩ _ _ _;refine tR 3 [] λb3 _ _=>tV 1 (iv ((i:Int)+1)) (λF C=>(Bj 13 (i:Int) underlying3 (by omega))) (tR 2 [] λb4 _ _=>tB o (L.length-(i+1)) (by omega) [] ⟨i+1,N,rfl,rfl,rfl,rfl,by omega,(by rw[T,VW S,<- g])⟩ (λF=>⟨F.1,trivial⟩))
 .refine tI ((decide ((i:Int)<(x.n:Int)))) false (G' (by omega)) ?_;rw[show L.take i=L from mr (by omega)]at g
  have s:=U7 L;rw[<- g]at s
  refine tR 4 [] λb5 _ _=>aH 1 0 x (acV l) 33 33 36 5 56 zLa (λF=>F.1.1.rd) [Fa.dt l] (λF=>⟨F.1.2,trivial⟩) rfl (by simp[TQ]) (OI l) (by rw[U];unfold maxLen;omega) (by omega) λZ _ _ n0=>tR 8 [] λb6 _ _=>Fu 44 [(1,iv n),(5,iv (m:Int)),(7,S3.v Z),(8,iv 0)] [] [] [Fa.oa 0 Z (l++rnP [])] (λV D B f=>∃ (j:Nat) (y:S3) (Q:List Lac),V=2-j/\D=[(1,iv n),(5,iv (m:Int)),(7,S3.v y),(8,iv (j:Int))]/\B=[]/\f=[Fa.oa 0 y (l++rnP Q)]/\j<=2/\Q.length<=j*300000/\Q=(List.replicate j (Cx m n)).flatten) (2) ⟨0,Z,[],rfl,rfl,rfl,rfl,by omega,by simp,by simp⟩ (λF=>⟨by rw[show rnP []=[]from rfl,mI];exact⟨F.1,F.2.1⟩,trivial⟩) ?_;rintro k _ _ _ ⟨j,y,Q,rfl,rfl,rfl,rfl,hj,c3,hQ⟩ _ _ _ J o;refine tR 6 [] λb7 _ _=>?_;by_cases A:j<2
  .refine tI ((decide ((j:Int)<2))) true (P' (by omega)) (tR 6 [] λb8 _ _=>tG 1 [] 0 (λF C=>O2 (many:=0) (AcR.oo F.1 rfl).r (AcR.oo F.1 rfl).d (by rw[E',KR];omega)) λNz=>?_);rintro _ _ ⟨X,rfl,H,O⟩;have t:X.n=((l++rnP Q)++rnP (Dr 0)).length:=by have:=H.len;rw[KJ]at this;omega
   simp only[E',KR,G8]at t;refine⟨_,[Fa.oa 0 X ((l++rnP Q)++rnP (Dr 0))],_,_,_,_,rfl,O,H,λ_=>⟨λF R _=>⟨⟨R,Dat.app F.1.2 (Pz _ _ (ZK _))⟩,trivial⟩,?_⟩⟩;refine tR 8 [0,0] λq _ _=>Rv 4 0 (x:=X) 33 33 36 5 56 zLa ⟨(q 0),0,none⟩ 1 1 [iv 2,iv n,iv 0,iv 0,sn] (λF=>F.1.1) [Fa.dt ((l++rnP Q++rnP (Dr 0))++[(acN 2 n,s30)])] (λF=>⟨Dat.snoc F.1.2 (V9 _ _),trivial⟩) rfl (by simp[TQ]) rfl (by simp[Value.oneCell']) (λF K=>Dx K 0 (q 0) [iv 2,iv n,iv 0,iv 0,sn] 36 .z true (by kernel_rfl)) (by unfold maxLen;omega) (by omega) λa0 _ _ c5=>tCv [Fa.oa 0 a0 (l++rnP (Q++Dr 0++[acN 2 n]))] (λF=>by rw[IP,UK,<- mm l,<- mm l];exact⟨⟨(by rw[Gg];exact F.1),F.2.1⟩,trivial⟩) (tR 5 [] λb9 _ _=>tG 2 [false] 0 (λF C=>O2 (many:=m) (AcR.oo F.1 rfl).r (AcR.oo F.1 rfl).d (by rw[E',KR,E',E',G8,mQ];omega)) λNz=>?_);rintro _ _ ⟨Y,rfl,H,P⟩;have u:Y.n=((l++rnP (Q++Dr 0++[acN 2 n]))++rnP (Dr m)).length:=by have:=H.len;rw[KJ]at this;omega
   simp only[E',KR,G8,mQ]at u;refine⟨_,[Fa.oa 0 Y ((l++rnP (Q++Dr 0++[acN 2 n]))++rnP (Dr m))],_,_,_,_,rfl,P,H,λ_=>⟨λF R _=>⟨⟨R,Dat.app F.1.2 (Pz _ _ (ZK _))⟩,trivial⟩,?_⟩⟩;refine tR 5 [] λc0 _ _=>tV 1 (iv ((j:Int)+1)) (λF C=>(Bj 31 (j:Int) underlying3 (by omega))) (tR 2 [] λc1 _ _=>?_);exact tB o (2-(j+1)) (by omega) [] ⟨j+1,Y,Q++Cx m n,rfl,rfl,rfl,rfl,by omega,(by rw[E',Yw];omega),(by rw[hQ];rcases(show j=0\/j=1 by omega)with rfl|rfl<;>simp)⟩ (λF=>by rw[show Q++Cx m n=Q++Dr 0++[acN 2 n]++Dr m by simp[Cx,List.append_assoc],UK _ (Dr m),<- mm l];exact F)
  .refine tI ((decide ((j:Int)<2))) false (G' (by omega)) ?_;obtain rfl:j=2:=by omega
   refine tR 6 [] λc2 _ _=>?_;have hS:Q=D6 L n:=by rw[hQ,g];simp[D6]
   rw[<- hS];exact tX λF C=>qE (S3.v y) λ_=>⟨y,rfl,F.1.1.own C,CgQ.af C⟩
theorem Pn(h:OutF g w ly tv ys M):OutW w M ly tv ys:=⟨h.qP.rd,λj a=>(h.log j a).rd.rc,h.eb.rd⟩
theorem iO(h:Sk w x.v (laF L) L.length)(m:∀ a∈L,LacOk a)(l:L.length<=100000)(b:Vi w){M:Meet}(j:As.dc L=M) :
  Calls prog 17 #[x.v] w λe w'=>∃ (ly tv:S3) (ys:Nat->S3),e=.returned (.tuple #[.agg (Nk M ly tv),iv 0])/\OutW w' M ly tv ys/\OutN w.heap.size M ly tv ys/\Bw w w':=by
 subst j;refine(eo h (λi c=>by rw[Pf c];exact m _ (mP c)) l b.1 b.2.1 b.2.2).mono ?_;rw[Xk];rintro e w' ⟨k,ly,tv,ys,d,f,g⟩;exact⟨ly,tv,ys,d,f,g,k⟩
theorem iI(h:Sk w x.v (laF L) L.length)(y:∀ a∈L,LacOk a)(t:L.length<=100000)(s:Vi w){M:Meet}(r:As.dc L=M) :
  Calls prog 8 #[x.v] w λe w'=>∃ (ly tv:S3) (ys:Nat->S3),e=.returned (.tuple #[.agg (Nk M ly tv),.bool true])/\OutW w' M ly tv ys/\OutN w.heap.size M ly tv ys/\Bw w w':=by
 refine tIn [] func8 trivial (tR 8 [1,0] λb _ _=>tF λ_ k=>?_);have d:=k.size;refine tC 1 (λF C=>iO (h.af (CgQ.af C)) y t (tb5 s C) r) λo=>?_;rintro _ _ ⟨ly,tv,ys,rfl,j,i,p⟩;refine⟨_,Fa.ot ly tv ys M::_,rfl,p,λF=>⟨Pm j i o,F⟩,?_⟩;refine tR 14 [0,0,1,0,9,0,1,2,4,6,8] λf _ _=>KE 20 (λq m c=>∃ (_:Unit),q=[(2,pt (b 0) 0),(3,.bool ((ly.n:Int)==5))]/\m=[⟨(b 0),.cells (Nk M ly tv) 42,.l,false⟩,⟨(f 0),.cells (Nk M ly tv) 42,.z,false⟩]/\c=[Fa.ot ly tv ys M]) (λJ g=>?_) ?_
 .refine Fv 5 9 ?_ ?_
  .refine tR 7 [1,12,14,16,19,0,0,20] λA _ _=>tD g [true,true] ⟨(),rfl,rfl,rfl⟩ (λF=>⟨F.1,trivial⟩)
  .refine tR 7 [0,0,11,1,12,14,16,20] λB _ _=>tD g [true,true] ⟨(),rfl,rfl,rfl⟩ (λF=>⟨F.1,trivial⟩)
 rintro _ _ _ ⟨_,rfl,rfl,rfl⟩ _ _ _;have u:(((ly.n:Nat):Int)==5)=true:=by rw[j.n5];rfl
 exact tX λF C=>qE2 2 3 42 0 (b 0) (Nk M ly tv) (.bool ((ly.n:Int)==5)) λ_=>⟨ly,tv,ys,by rw[u],Pn F.1,i.mono d,CgQ.af C⟩
theorem ZG(h:AcR w x L l)(f:∀ a∈L,LacOk a)(d:L.length<=100000)(c:Vi w){M:Meet}(b:As.dc L=M) :
  Calls prog 8 #[x.v] w λe w'=>∃ (ly tv:S3) (ys:Nat->S3),e=.returned (.tuple #[.agg (Nk M ly tv),.bool true])/\OutW w' M ly tv ys/\OutN w.heap.size M ly tv ys/\Bw w w':=iI (h.sk (by omega)) f d c b
theorem Kh(c:x.a=some ⟨b,off,none⟩)(j:Nat)(d:j<x.n):(Instr.indexAt 38 x.v (iv (j:Int))).run prog W=.ok (pt b (off+j)) W:=by
 obtain⟨f,h,g⟩:=x;simp only at c d;subst c;exact Nn (P:=prog) (e:=49) (z:=1) underlying38 (by kernel_rfl) (by kernel_rfl) d _ (by rw[qz])
theorem BN(h:RdV w ly 1 [S3.v (ys 0),S3.v (ys 1),S3.v (ys 2),S3.v (ys 3),S3.v (ys 4)])(c:ly.a=some ⟨b,off,none⟩)(d:j<5):w.cell? ⟨b,off+j,none⟩=some (S3.v (ys j)):=by
 rcases h.ex with h1|⟨b',off',h1,h2,h3⟩
 .have:=h.len;simp at this;omega
 .rw[c]at h1;cases h1
  refine h3 j _ ?_;rcases qk d with rfl|rfl|rfl|rfl|rfl<;>rfl
theorem aW{l:List Tol}(h:RdV w x 5 (l.flatMap Es)):x.n=l.length:=by
 have:=h.len;rw[Qt (f:=Es) (sz:=5) (λ_=>rfl)]at this
 omega
theorem NQ(a:List (List Int))(j:Nat)(h:j<a.length):(a.take (j+1)).flatten=(a.take j).flatten++a.getD j []:=by
 rw[mz h,List.flatten_append];simp[List.getD,List.getElem?_eq_getElem h]
theorem Ur(a:List (List Int))(h:∀ l∈a,l.length<=1000):a.flatten.length<=1000*a.length:=by
 induction a with
 | nil=>simp
 | cons x r ih =>
  have c:=h x (by simp);have d:=ih (λl b=>h l (by simp[b]));simp only[List.flatten_cons,E',mJ];omega
theorem MW(n:Nat):(Builtin.zeroCells (Value.int .u8 0).cells n).size=n:=by
 simp[Builtin.zeroCells,Value.cells]
theorem Yv(n:Nat)(w:World)(o:0<n)(t:n<=20000) :
  Calls prog 27 #[.slice none 0 0,.int .i64 (n:Int)] w λe w'=>∃ v',e=.returned v'/\w'.ownsRow w.heap.size 5 1 v' 0 []/\Bw w w':=by
 obtain⟨r,l,d,f,g⟩:=info_parts Av;have i:=λs=>Lib.run_append_nil_zeros (P:=prog) w 27 3 s 5 r (.int .u8 0) .i64 .i64 underlying27 underlying3 l d n o (by rw[f];decide) (by omega) (by rw[g];omega);have c:=grownCap_ge w n 0 5;have b:=grownCap_le_maxLen w n 0 5 (by unfold maxLen;omega);have a:(Builtin.zeroCells (Value.int .u8 0).cells n++Builtin.zeroCells (Value.int .u8 0).cells (grownCap w n 0 5-n)).size=grownCap w n 0 5*1:=by rw[Array.size_append,MW,MW];omega
 generalize Builtin.zeroCells (Value.int .u8 0).cells n++Builtin.zeroCells (Value.int .u8 0).cells (grownCap w n 0 5-n)=Z at i a;generalize grownCap w n 0 5=cap at i a c b;have k:Bw w (w.drew.alloc (.cells Z 5)):=((Below.refl w.heap.size w).drew).alloc (by exact A' _) _;have j:(w.drew.alloc (.cells Z 5)).heap[w.heap.size]?=some (.cells Z 5):=heap_alloc_new _ _;generalize w.drew.alloc (.cells Z 5)=W at i k j;have p:W.ownsRow w.heap.size 5 1 (.slice (some ⟨w.heap.size,0,none⟩) 0 cap) 0 []:=⟨by simp,.inr ⟨w.heap.size,cap,Z,rfl,A' _,j,by omega,b,a,by simp⟩⟩;have q:∀ h,(Instr.slice 27 (.slice (some ⟨w.heap.size,0,none⟩) n cap) none (some (.int .i64 0)) none).run prog h=.ok (.slice (some ⟨w.heap.size,0,none⟩) 0 cap) h:=λh=>by
  rw[run_slice_h (P:=prog) h 27 (some ⟨w.heap.size,0,none⟩) n cap underlying27 .i64 0 (by omega) (by omega)];have e:prog.elem 27=5:=by kernel_rfl
  rw[e,GC];simp[Result.andThen,sliced,Addr.add_mid]
 have m:(0:Int)<(n:Int):=by omega
 clear j a b c l d f g;go_enter func27,ntmps27
 go_wp2_with (at_builtin;refine Lib.wpList_append_run _ rfl _ _ _ _ rfl _ _ rfl rfl _ _ (i _) ?_)
 go_ret;exact⟨_,rfl,p,k⟩
theorem RW(g n M:Nat)(K:List Value)(a:List (List Int))(w:World)(hg:g<w.heap.size)(hn:n<=10)(C:a.length=n)(R:∀ i,i<n->w.cell? ⟨g,i,none⟩=some (K.getD i undef))(U:∀ i,i<n->Sl w (K.getD i undef) (a.getD i []))(y:∀ l∈a,l.length<=1000)(T:0<a.flatten.length) :
  Calls prog 15 #[.slice (some ⟨g,0,none⟩) n M] w λe w'=>∃ v',e=.returned v'/\w'.ownsRow w.heap.size 5 1 v' a.flatten.length (a.flatten.map (Value.int .u8))/\Bw w w':=by
 have c:Hid (a.length=n):=C;have O:Hid _:=R;have P:Hid _:=U;have I:Hid _:=y;have X:Hid _:=T;clear C R U y T;go_enter func15,ntmps15
 go_wp2_with fail
 go_loopw [3,11] (λsv i wr=>∃ j:Nat,j<=n/\i=.int .i64 j/\sv=.int .i64 ((a.take j).flatten.length:Int)/\w=wr) (λ_ i _=>n-(intOf i).toNat)
 case atStart=>exact⟨0,by omega,rfl,by simp,rfl⟩
 case round =>
  obtain⟨j,hj,rfl,rfl,rfl⟩:=hrel;have d:=Ur (a.take j) (λl y=>I.out l (mx y));by_cases m:j<n
  .have t:(a.take j).flatten.length<=10000:=by rw[j']at d;omega
   have r:Hid ((a.take (j+1)).flatten.length=(a.take j).flatten.length+(a.getD j []).length):=by unfold Hid;rw[NQ a j (by rw[c.out];exact m),E']
   have q:=P.out j m;have J:=O.out j m;have u:(a.getD j []).length<=1000:=by
    have f:j<a.length:=by rw[c.out];exact m
    have:a.getD j []=a[j]:=by simp[List.getD,List.getElem?_eq_getElem f]
    rw[this];exact I.out _ (mP f)
   generalize K.getD j undef=vj at q J;generalize a.getD j []=lj at q r u;generalize (a.take j).flatten.length=pre at r t;clear d;obtain⟨⟨aj,kj,rfl,_,_,_⟩,_,_⟩:=q;generalize lj.length=nj at *;go_wp2
   go_roundw
   case rel=>exact⟨j+1,by omega,by go_num,by rw[r.out];go_num,by simp⟩
   case measure=>simp[intOf];omega
  .obtain rfl:j=n:=by omega
   have Q:Hid (a.take j=a):=mr (by rw[c.out];exact A' _);have V:a.flatten.length<=10000:=by rw[Q.out,c.out]at d;omega
   rw[Q.out];clear d;have L:=X.out;generalize G:a.flatten.length=Z at V L;have Y:Hid (a.flatten.length=Z):=G;clear G;go_wp2_with fail
   refine(Yv Z w L (by omega)).mono ?_;rintro e w1 ⟨v1,rfl,x,A⟩;clear L V;obtain⟨g1,c1,rfl⟩:=EV x;have z:Hid (w1.ownsRow w.heap.size 5 1 (.slice g1 0 c1) (a.take 0).flatten.length ((a.take 0).flatten.map (Value.int .u8))):=by unfold Hid;simpa using x
   clear x;go_wp2_with fail
   go_loopw [6,27] (λv i wr=>∃ k:Nat,k<=j/\i=.int .i64 k/\Hid (wr.ownsRow w.heap.size 5 1 v (a.take k).flatten.length ((a.take k).flatten.map (Value.int .u8)))/\Bw w wr) (λ_ i _=>j-(intOf i).toNat)
   case atStart=>exact⟨0,by omega,rfl,z,A⟩
   case round =>
    obtain⟨k,S,rfl,h,s⟩:=hrel;have b:=h.out;clear h z A;have D:=b.lt;by_cases o:k<j
    .have d:=Ur (a.take k) (λl y=>I.out l (mx y));have t:(a.take k).flatten.length<=10000:=by rw[j']at d;omega
     have r:Hid ((a.take (k+1)).flatten=(a.take k).flatten++a.getD k []):=NQ a k (by rw[c.out];exact o);have q:=(P.out k o).af s;have J:=(s.cell (p:=⟨g,k,none⟩) hg).trans (O.out k o);have u:(a.getD k []).length<=1000:=by
      have f:k<a.length:=by rw[c.out];exact o
      have:a.getD k []=a[k]:=by simp[List.getD,List.getElem?_eq_getElem f]
      rw[this];exact I.out _ (mP f)
     generalize K.getD k undef=vj at q J;generalize a.getD k []=lj at q r u;generalize (a.take k).flatten=pre at b r t;clear d;have H:=q;obtain⟨⟨aj,kj,rfl,_,_,_⟩,_,_⟩:=q;go_wp2_with (at_builtin;refine Aa _ rfl _ _ 27 rfl w.heap.size 5 underlying27 Av _ _ rfl rfl pre lj b H (by omega) s.size ?_)
     intro v2 W E B;have F:W.ownsRow w.heap.size 5 1 v2 (pre++lj).length ((pre++lj).map (Value.int .u8)):=by simpa using E
     have N:Bw w W:=s.grown B s.size (λk S=>(D k S).1);clear E B b D s H J;go_wp2
     go_roundw
     case rel=>exact⟨k+1,by omega,by go_num,by rw[r.out];exact F,N⟩
     case measure=>simp[intOf];omega
    .have HJ:Hid (a.take k=a):=by unfold Hid;exact mr (by rw[c.out];omega)
     go_wp2
     go_ret;refine⟨u6,rfl,?_,s⟩;rw[HJ.out]at b
     exact b
theorem bY{c d:Value}{a b:List Int}{g:Nat}(f:w.heap[g]?=some (.cells #[c,d] e))(h:Sl w c a)(j:Sl w d b)(k:a.length<=1000)(m:b.length<=1000)(n:0<a.length) :
  Calls prog 15 #[.slice (some ⟨g,0,none⟩) 2 2] w λe w'=>∃ v',e=.returned v'/\w'.ownsRow w.heap.size 5 1 v' (a++b).length ((a++b).map (Value.int .u8))/\Bw w w':=by
 refine(RW g 2 2 [c,d] [a,b] w (U'.1 f).1 (by omega) rfl ?_ ?_ ?_ ?_).mono ?_
 .intro i hi;rw[cell_of_row _ _ i _ _ _ f];obtain rfl|rfl:i=0\/i=1:=by omega
  all_goals rfl
 .intro i hi;obtain rfl|rfl:i=0\/i=1:=by omega
  .exact h
  .exact j
 .intro l hl;simp only[mp,O',or_false]at hl;rcases hl with rfl|rfl
  .exact k
  .exact m
 .simp;omega
 .rintro e w2 ⟨v2,rfl,ho,hb⟩;exact⟨v2,rfl,by simpa using ho,hb⟩
theorem Yu(d:Sl w x.v Fk)(f:AK w)(h:Dt tc tr tu) :
  Calls prog 10 #[x.v,.agg #[iv tc,iv tr,iv tu]] w λe w'=>∃ y:S3,e=.returned (.tuple #[y.v,iv 0])/\Sl w' y.v (EI Fk tc tr tu)/\Bw w w':=by
 refine(VF x.v Fk tc tr tu w d f).mono ?_;have a:Nf Fk tc tr tu=0:=by rw[Qy Gw];exact Ja h
 rintro e w' ⟨v,rfl,b,c⟩;rw[show Qz Fk tc tr tu=EI Fk tc tr tu from if_pos a]at b
 rw[a];obtain⟨y,rfl,g⟩:=Po b (by rw[BH];decide) (OA _ h);exact⟨y,rfl,g,c⟩
theorem X3{l m:List Int}{g:Nat}(j:w.heap[g]?=some (.cells #[x.v,y.v] e))(b:Sl w x.v l)(c:Sl w y.v m)(n:l.length<=1000)(o:m.length<=1000)(p:0<l.length) :
  Calls prog 15 #[.slice (some ⟨g,0,none⟩) 2 2] w λe w'=>∃ z:S3,e=.returned z.v/\Sl w' z.v (l++m)/\Nb w.heap.size z (l++m)/\Bw w w':=by
 refine(bY j b c n o p).mono ?_;rintro e w' ⟨v,rfl,i,f⟩;obtain⟨z,rfl,k,h⟩:=J6 i (by rw[E'];omega) (λa d=>(Q'.1 d).elim (b.byte a) (c.byte a));exact⟨z,rfl,k,h,f⟩
theorem dL{n m:Int}(h:paE n tc tr tu k c s m v=0)(o:Tabs w) :
  Calls prog 6 #[iv n,.agg #[iv tc,iv tr,iv tu],.agg #[iv k,iv c,iv s,iv m,iv v]] w λe w'=>∃ y:S3,e=.returned (.tuple #[y.v,iv 0])/\Sl w' y.v (paL n tc tr tu k c s m v)/\Nb w.heap.size y (paL n tc tr tu k c s m v)/\Bw w w':=by
 obtain⟨Y,hB,X⟩:=II h;have hc:=(Dg X).2;unfold InC at hc;rw[Pp h];refine kIn func6 (kR 11 [0,0,0,0] λb4 w1 b1=>kV 1 (.bool false) (rLt (x:=(.tmp 14)) (y:=(.const (iv 0))) (t:=3) (m:=n) (n:=0) (G' (by omega))) (kR 2 [] λb6 w2 b2=>kV 4 (.bool false) (rGe (x:=(.tmp 17)) (y:=(.const (iv 1073741824))) (t:=3) (m:=n) (n:=1073741824) (G' (by omega))) (kR 7 [8,2,0] λb7 w3 b3=>?_)));have S:=(btr (btr b1 b2) b3);refine kC 0 (Jw (o.t.af S)) ?_;rintro _ w5 ⟨yi,rfl,M,_,U⟩;refine⟨_,rfl,U,?_⟩;have T:=(btr S U);refine kC 2 (Yu M (o.t.af T) hB) ?_;rintro _ w8 ⟨yt,rfl,Q,V⟩;refine⟨_,rfl,V,?_⟩;refine kR 17 [6,8,10,12,14,1] λc0 w9 W=>?_;have p:=(btr (btr T V) W);refine kC 1 (Yd (m:=⟨k,c,s,m,v⟩) (o.n.af p) X) ?_;rintro _ a2 ⟨yc,rfl,L,g⟩;refine⟨_,rfl,g,?_⟩;refine kR 18 [1] λZ a3 i=>?_;have r:=(btr (btr p g) i);refine kC 2 (Y8 (c:=c) (by omega) (by omega) (o.t.af r)) ?_;rintro _ a4 ⟨yk,rfl,N,_,d⟩;refine⟨_,rfl,d,?_⟩;refine kR 22 [0,0] λH a5 f=>Af λK=>kC 6 (X3 (K.sU 2 (H 0) _ 27 .z true (by kernel_rfl)) (((((Q.af W).af g).af i).af d).af f) (((L.af i).af d).af f) (by rw[BH];decide) (by rw[DU];decide) (by rw[BH];decide)) ?_;rintro _ a6 ⟨yp,rfl,O,_,j⟩;refine⟨_,rfl,j,?_⟩;have A:=(btr (btr (btr r d) f) j);refine kC 7 (ey ((N.af f).af j) (Cy c) O (mg (Nat.le_of_eq (DG tc tr tu k c s m v)) (by decide)) ⟨Y.1,Y.2⟩ (o.q.af o.q.pos A)) ?_;rintro _ a7 ⟨u,z,rfl,hz,_,C⟩;refine⟨_,rfl,C,?_⟩;refine kR 21 [0,0,3,0,1] λa0 a8 D=>kV 2 (.int .u8 c) (fJ (P:=prog) (src:=3) (dst:=5) (k:=.i64) (n:=c) (by kernel_rfl) underlying5 (by kernel_rfl) (by rw[IntKind.wrap_u8];omega)) (kR 3 [0,0,0,0] λb R E=>Af λK=>?_);have J:Sl R (S3.v ⟨some ⟨(b 0),0,none⟩,1,1⟩) [c]:=Sl.ofRow (l:=[c]) (K.sU 4 (b 0) _ 5 .z true (by kernel_rfl)) (by show 1<=_;decide) (λa ha=>by rw[D'.1 ha];omega);have B:=(btr (btr (btr A C) D) E);refine kC 6 (X3 (x:=⟨some ⟨(b 0),0,none⟩,1,1⟩) (K.sU 5 (b 1) _ 27 .z true (by kernel_rfl)) J ((hz.af D).af E) (by show 1<=1000;decide) (by rw[Dn];show(paP tc tr tu k c s m v).length+20<=1000;rw[DG];decide) (by show 0<1;decide)) ?_;rintro _ a9 ⟨y,rfl,hy,hw,F⟩;refine⟨_,rfl,F,?_⟩;refine kR 3 [] λa1 b0 G=>?_;have I:=(btr (btr B F) G);exact kE (.tuple #[S3.v y,iv 0]) ⟨y,rfl,(hy.af G),hw.mono B.size,I⟩
theorem kq(a:Int)(h:-9223372036854775808<=-a/\-a<=9223372036854775807):(Op.unary .neg (iv a)).run P W=.ok (iv (-a)) W:=by
 simp[go_sem];rw[IntKind.wrap_i64];omega
theorem fP{x y:Operand}(a b:Int)(i:P.underlying 3=some (.int .i64))(f:0<=a)(g:a<=9223372036854775807)(j:0<b)(h:b<=9223372036854775807):(do Go.eqGuard .rem 3 x y (iv a) (iv b);Go.binOp .rem 3 (iv a) (iv b):Sem Value).run P W=.ok (iv (a%b)) W:=by
 have e:=kr (P:=P) (W:=W) (x:=x) (y:=y) a.toNat b.toNat i (by omega) (by omega) (by omega);have c:((a.toNat:Nat):Int)=a:=oF f;have d:((b.toNat:Nat):Int)=b:=oF (by omega);rw[c,d]at e
 rw[e,qe,c,d]
theorem fO{x y:Operand}(a:Int)(e:P.underlying 3=some (.int .i64))(b:0<=a)(c:a<=1000):(do Go.eqGuard .quo 3 x y (iv a) (iv 2);Go.binOp .quo 3 (iv a) (iv 2):Sem Value).run P W=.ok (iv (a/2)) W:=by
 have d:a.tdiv 2=a/2:=pQ b;simp only[Go.eqGuard,go_sem,Op.intDiv];simp[d];rw[IntKind.wrap_i64];omega
theorem AV{n:Int}(h:I64 n)(a:Int)(d:0<a:=by decide)(b:a<=9223372036854775807:=by decide) :
  Calls prog 9 #[iv n,iv a] w λe w'=>e=.returned (iv (pick n a))/\Bw w w':=by
 unfold I64 at h;refine tIn [] func9 trivial (tR 10 [] λf _ _=>?_);by_cases c:n<0
 .refine tI ((decide (n<0))) true (P' c) (tR 2 [] λg _ _=>tV 1 (iv (n+1)) (λF C=>(Bj 7 n underlying3 (by omega))) (tV 2 (iv (-(n+1))) (λF C=>(kq (n+1) (by omega))) (tR 6 [] λi _ _=>tV 2 (iv (-(n+1)%a)) (λF C=>(fP (x:=(.tmp 10)) (y:=(.tmp 11)) (-(n+1)) a underlying3 (by omega) (by omega) d b)) (tR 2 [] λj _ _=>tE (iv (-(n+1)%a)) λ_ B=>⟨by rw[show pick n a=_ from if_pos c],B⟩))))
 .refine tI ((decide (n<0))) false (G' c) (tR 5 [] λk _ _=>tV 2 (iv (n%a)) (λF C=>(fP (x:=(.tmp 10)) (y:=(.tmp 11)) n a underlying3 (by omega) (by omega) d b)) (tR 2 [] λl _ _=>tE (iv (n%a)) λ_ B=>⟨by rw[show pick n a=_ from if_neg c],B⟩))
theorem Vh{n:Int}(h:I64 n)(a:Int)(c:0<a:=by decide)(b:a<=9223372036854775807:=by decide) :
  Calls prog 5 #[iv n,iv a] w λe w'=>e=.returned (iv (pick n a))/\Bw w w':=by
 refine tIn [] func5 trivial (tR 8 [] λd _ _=>tC1 2 (λF C=>AV h a c b) λ_=>tR 2 [] λf _ _=>tE (iv (pick n a)) λ_ B=>⟨rfl,B⟩)
theorem RB{n:Int}(t:I64 k)(r:I64 c)(q:I64 s)(f:I64 n)(M:I64 v) :
  Calls prog 4 #[.agg #[iv k,iv c,iv s,iv n,iv v]] w λe w'=>e=.returned (.agg #[iv (wK k),iv (pick c 4),iv (pick s 6),iv (pick n 4),iv (wV k v)])/\Bw w w':=by
 have O:=CA k 5 (by omega);refine tIn [] func4 trivial (tR 15 [0,0,1,0,17,0,2,0,10,12,0,16,18,0,22,24,0] λa _ _=>KE 27 (λL K g=>∃ (b:Nat),L=[(1,pt (a 0) 0),(2,pt (a 1) 0),(3,pt b 0)]/\K=[⟨(a 0),.cells #[iv k,iv c,iv s,iv n,iv v] 23,.z,false⟩,⟨(a 1),.cells #[iv 0,iv 0,iv 0,iv 0,iv 0] 24,.l,false⟩,⟨b,.cells #[iv (wK k),iv (pick c 4),iv (pick s 6),iv (pick n 4),iv 0] 24,.l,false⟩]/\g=[]) (λJ d=>?_) ?_)
 .refine Fv 2 15 ?_ ?_
  .refine tC 2 (λF C=>AV t 5) λN=>?_;rintro _ _ ⟨rfl,b⟩;refine⟨_,_,rfl,b,id,?_⟩;refine tT 3 (iv (pick k 5/2)) (λ_=>(fO (x:=(.tmp 6)) (y:=(.const (iv 2))) (pick k 5) underlying3 (by omega) (by omega))) (tT 4 (iv (wK k)) (λ_=>(Mb (x:=(.const (iv 1))) (y:=(.tmp 7)) 1 (pick k 5/2) underlying3 (by omega))) (Fv 7 15 ?_ ?_))
   .refine tC1 7 (λF C=>AV r 4) λ_=>Fv 10 15 ?_ ?_
    .refine tC1 10 (λF C=>AV q 6) λ_=>Fv 13 15 ?_ ?_
     .refine tC1 13 (λF C=>AV f 4) λ_=>tR 4 [28,31,1,0,33,2,0] λh _ _=>tD d [true,true,true] ⟨(h 0),rfl,rfl,rfl⟩ (λF=>trivial)
     .refine tR 1 [1,0] λi _ _=>tC1 13 (λF C=>AV f 4) λ_=>tR 3 [28,33,2,0] λu _ _=>tD d [true,true,true] ⟨(i 0),rfl,rfl,rfl⟩ (λF=>trivial)
    .refine tR 1 [1,0] λj _ _=>tC1 10 (λF C=>AV q 6) λ_=>tC1 13 (λF C=>AV f 4) λ_=>tR 3 [28,33,2,0] λA _ _=>tD d [true,true,true] ⟨(j 0),rfl,rfl,rfl⟩ (λF=>trivial)
   .refine tR 1 [1,0] λm _ _=>tC1 7 (λF C=>AV r 4) λ_=>tC1 10 (λF C=>AV q 6) λ_=>tC1 13 (λF C=>AV f 4) λ_=>tR 3 [28,33,2,0] λB _ _=>tD d [true,true,true] ⟨(m 0),rfl,rfl,rfl⟩ (λF=>trivial)
  .refine tR 1 [1,0] λo _ _=>tC1 2 (λF C=>AV t 5) λ_=>tT 3 (iv (pick k 5/2)) (λ_=>(fO (x:=(.tmp 6)) (y:=(.const (iv 2))) (pick k 5) underlying3 (by omega) (by omega))) (tT 4 (iv (wK k)) (λ_=>(Mb (x:=(.const (iv 1))) (y:=(.tmp 7)) 1 (pick k 5/2) underlying3 (by omega))) (tC1 7 (λF C=>AV r 4) λ_=>tC1 10 (λF C=>AV q 6) λ_=>tC1 13 (λF C=>AV f 4) λ_=>tR 3 [28,33,2,0] λD _ _=>tD d [true,true,true] ⟨(o 0),rfl,rfl,rfl⟩ (λF=>trivial)))
 rintro _ _ _ ⟨b,rfl,rfl,rfl⟩ _ _ _;refine tR 7 [2] λE _ _=>?_;by_cases p:wK k=1
 .refine tI (((wK k)==1)) true (by simpa using p) (tR 3 [0] λG _ _=>tC1 2 (λF C=>AV M 1000) λ_=>tR 8 [2,0,2,1,0] λH _ _=>tX λF C=>qE1 2 24 1 (a 1) #[iv (wK k),iv (pick c 4),iv (pick s 6),iv (pick n 4),iv (pick v 1000)] λ_=>⟨by rw[show wV k v=_ from if_pos p],CgQ.af C⟩)
 .refine tI (((wK k)==1)) false (by simpa using p) (tR 6 [2,1,0] λI _ _=>tX λF C=>qE1 2 24 1 (a 1) #[iv (wK k),iv (pick c 4),iv (pick s 6),iv (pick n 4),iv 0] λ_=>⟨by rw[show wV k v=_ from if_neg p],CgQ.af C⟩)
end
end
section
structure Alw where
 ca:Bool
 ld:Bool
 cr:Bool
 st:Bool
structure NInv(A:Alw)(i:Nat)(D:List Int->Prop)(Q:Let->Prop)(P:Nod->Prop):Prop where
 take:A.ca=true->∀ p l,P p->Q l->l.dst=i->p.up=true->P (p.take l)
 one:∀ p c,P p->p.up=true->p.ae[p.done]?=some c->doE p.ie c=0->P (Nod.fu { p with ie:=doS p.ie c,done:=p.done+1 } c)
 ask:∀ p,P p->p.up=true->P (p.hU i).1/\∀ l∈(p.hU i).2,Q l
 prop:∀ p,P p->p.up=true->P p.cl
 qJ:∀ p,P p->p.up=true->P p.qJ
 run:∀ p q l,P p->p.up=true->p.br=q::l->¬ p.sy<(p.d.length:Int)->P { p.hZ i q with br:=l }/\∀ m∈p.pd i q,Q m
 qA:∀ p,P p->p.up=true->p.leads=true->P (EH p i 5)/\∀ l∈Ds p i 5,Q l
 lead:A.ld=true->∀ p,P p->p.up=true->P (p.lead i)
 sub:∀ p d ts,P p->D d->p.up=true->P (p.qK i d ts).1
 ib:A.cr=true->∀ p k,P p->0<=k->p.up=true->P (p.ib k)
 start:A.st=true->∀ p,P p->p.up=false->P p.start
theorem O4(p:Nod)(i:Nat)(q:Pend)(x:List Pend):({ p with br:=x }:Nod).hZ i q={ p.hZ i q with br:=x }:=by
 cases q with
 | began b vs=>unfold Nod.hZ;simp only;split<;>rfl
 | prop v =>
  unfold Nod.hZ Nod.count;simp only;split
  .rfl
  .split<;>rfl
 | _=>rfl
theorem DI(p:Nod)(i:Nat)(q:Pend):(p.hZ i q).br=p.br/\(p.hZ i q).up=p.up/\(p.hZ i q).d=p.d/\(p.hZ i q).sy=p.sy:=by
 cases q with
 | began b vs=>unfold Nod.hZ;simp only;split<;>exact⟨rfl,rfl,rfl,rfl⟩
 | prop v =>
  unfold Nod.hZ Nod.count;simp only;split
  .exact⟨rfl,rfl,rfl,rfl⟩
  .split<;>exact⟨rfl,rfl,rfl,rfl⟩
 | _=>exact⟨rfl,rfl,rfl,rfl⟩
theorem Ml(p:Nod)(i:Nat)(q:Pend)(x:List Pend):({ p with br:=x }:Nod).pd i q=p.pd i q:=by cases q<;>rfl
theorem Eb(p:Nod)(c:Cmd):(p.fu c).up=p.up/\(p.fu c).ae=p.ae/\(p.fu c).done=p.done/\(p.fu c).ie=p.ie:=by unfold Nod.fu;split<;>exact⟨rfl,rfl,rfl,rfl⟩
theorem Sr(p:Nod)(l:List Cmd):(p.dT l).up=p.up:=by unfold Nod.dT;split<;>rfl
theorem Is(p:Nod)(i:Nat):(p.hU i).1.up=p.up:=by
 unfold Nod.hU;split
 .rfl
 .split
  .exact Sr _ _
  .rfl
theorem eZ(p:Nod)(v:Vt):(p.bN v).1.up=p.up:=by
 unfold Nod.bN;split
 .rfl
 .split
  .rfl
  .split<;>rfl
theorem ED(p:Nod):p.cl.up=p.up:=by
 unfold Nod.cl;split
 .rfl
 .split
  .rfl
  .split
   .rfl
   .exact eZ p _
theorem iY(p:Nod):p.qJ.up=p.up:=by unfold Nod.qJ;split<;>rfl
section
variable{A:Alw}{i:Nat}{D:List Int->Prop}{Q:Let->Prop}{P:Nod->Prop}
theorem NInv.qL(h:NInv A i D Q P)(l:List Cmd)(p:Nod)(e:List Tol)(d:P p)(a:p.up=true)(f:p.ae.drop p.done=l):P (qL i l p e).1/\(Go.Proofs.YtdjfdfpkkenjbacGreatDoor.qL i l p e).1.up=true:=by
 induction l generalizing p e with
 | nil=>exact⟨d,a⟩
 | cons c l ih =>
  rw[Go.Proofs.YtdjfdfpkkenjbacGreatDoor.qL];split
  .exact⟨d,a⟩
  .rename_i he
   have g:p.ae[p.done]?=some c:=by
    have:=congrArg (·[0]?) f;simpa using this
   have b:=Eb { p with ie:=doS p.ie c,done:=p.done+1 } c;refine ih _ _ (h.one p c d a g (mh.1 he)) (b.1.trans a) ?_;rw[b.2.1,b.2.2.1];show p.ae.drop (p.done+1)=l;rw[<- oH,f];rfl
theorem NInv.lr(h:NInv A i D Q P)(l:List Pend)(p:Nod)(ls:List Let)(b:P { p with br:=l })(c:p.up=true)(k:p.br=[])(j:¬ p.sy<(p.d.length:Int))(g:∀ m∈ls,Q m):P (lr i l p ls).1/\(∀ m∈(Go.Proofs.YtdjfdfpkkenjbacGreatDoor.lr i l p ls).2,Q m)/\(Go.Proofs.YtdjfdfpkkenjbacGreatDoor.lr i l p ls).1.up=true:=by
 induction l generalizing p ls with
 | nil =>
  refine⟨?_,g,c⟩;have:({ p with br:=[] }:Nod)=p:=by cases p;simp_all
  rw[this]at b;exact b
 | cons q l ih =>
  have a:=DI p i q;obtain⟨e,f⟩:=h.run { p with br:=q::l } q l b c rfl j;rw[O4]at e
  rw[Ml]at f
  exact ih (p.hZ i q) (ls++p.pd i q) e (a.2.1.trans c) (a.1.trans k) (by rw[a.2.2.1,a.2.2.2];exact j) λm n=>(Q'.1 n).elim (g m) (f m)
theorem NInv.piece(h:NInv A i D Q P)(p:Nod)(ls:List Let)(ts:List Tol)(y:P p)(z:p.up=true)(x:∀ m∈ls,Q m):P (p.piece i ls ts).1/\∀ m∈(p.piece i ls ts).2.1,Q m:=by
 obtain⟨s,n⟩:=h.qL _ p ts y z rfl;unfold Nod.piece;simp only;obtain⟨t,u⟩:=h.ask _ s n;have o:=(Is (Go.Proofs.YtdjfdfpkkenjbacGreatDoor.qL i (p.ae.drop p.done) p ts).1 i).trans n;have f:=h.prop _ t o;have c:=(ED ((Go.Proofs.YtdjfdfpkkenjbacGreatDoor.qL i (p.ae.drop p.done) p ts).1.hU i).1).trans o;have a:∀ m∈ls++((Go.Proofs.YtdjfdfpkkenjbacGreatDoor.qL i (p.ae.drop p.done) p ts).1.hU i).2,Q m:=λm g=>(Q'.1 g).elim (x m) (u m);generalize ls++((Go.Proofs.YtdjfdfpkkenjbacGreatDoor.qL i (p.ae.drop p.done) p ts).1.hU i).2=k at a ⊢;generalize ((Go.Proofs.YtdjfdfpkkenjbacGreatDoor.qL i (p.ae.drop p.done) p ts).1.hU i).1.cl=r at f c ⊢;have b:P (r.ln i k).1/\(∀ m∈(r.ln i k).2,Q m)/\(r.ln i k).1.up=true:=by
  unfold Nod.ln;split
  .exact⟨f,a,c⟩
  .rename_i hn
   have j:=h.qJ r f c;have l:r.qJ.br=r.br:=by unfold Nod.qJ;split<;>rfl
   refine h.lr r.br { r.qJ with br:=[] } k (by rw[<- l];exact j) ((iY r).trans c) rfl ?_ a;show ¬ r.qJ.sy<(r.qJ.d.length:Int);unfold Nod.qJ;split
   .rename_i h1
    have:Db r.d r.sy=0:=mh.1 λe=>hn ⟨h1,e⟩;have q:AR r.d r.sy:=by
     unfold Db at this;split at this
     .assumption
     .cases this
    show ¬ Ik r.d r.sy<((Hm r.d r.sy).length:Int);unfold Ik Hm;rw[if_pos q,if_pos q];exact qb _
   .rename_i h1;exact h1
 unfold Nod.bu;split
 .rename_i hL
  obtain⟨v,w⟩:=h.qA _ b.1 b.2.2 hL;exact⟨v,λm g=>(Q'.1 g).elim (b.2.1 m) (w m)⟩
 .exact⟨b.1,b.2.1⟩
end
section
structure GInv(Q:Let->Prop)(P:Nat->Nod->Prop)(M:Meet):Prop where
 ab:∀ i,i<5->P i (M.ab i)
 bm:∀ l∈M.bm,Q l
variable{A:Alw}{D:Nat->List Int->Prop}{M:Meet}{P:Nat->Nod->Prop}{Q:Let->Prop}{R:List Tol->Prop}{i:Nat}
theorem GInv.set(h:GInv Q P M){i:Nat}{p:Nod}{ls:List Let}{ts:List Tol}(c:P i p)(b:∀ l∈ls,Q l):GInv Q P (M.set i p ls ts) :=
 ⟨λj a=>by
  show P j (upN M.ab i p j);unfold upN;split
  .rename_i e;rw[e];exact c
  .exact h.ab j a,b⟩
theorem GInv.lp(b:∀ i,i<5->NInv A i (D i) Q (P i))(c:A.ca=true){M:Meet}(h:GInv Q P M){l:Let}(d:Q l)(a:l.dst<5):GInv Q P (M.lp l):=by
 unfold Meet.lp;split
 .rename_i hu
  exact h.set (ls:=M.bm) (ts:=M.eb) ((b _ a).take c _ l (h.ab _ a) d rfl hu) h.bm
 .exact h
theorem GInv.comes(b:∀ i,i<5->NInv A i (D i) Q (P i))(c:A.ca=true)(l:List Let){M:Meet}(h:GInv Q P M)(a:∀ m∈l,Q m/\m.dst<5):GInv Q P (l.foldl (λM l=>M.lp l) M):=by
 induction l generalizing M with
 | nil=>exact h
 | cons x l ih=>exact ih (h.lp b c (a x M').1 (a x M').2) λm d=>a m (I' _ d)
structure Alw.Ok(A:Alw)(x:Lac):Prop where
 ca:x.k=4\/x.k=6\/x.k=7->A.ca=true
 ld:x.k=2->A.ld=true
 cr:x.k=8->A.cr=true
 st:x.k=9->A.st=true
theorem GInv.act(g:∀ i,i<5->NInv A i (D i) Q (P i)){n:Nat}{M:Meet}(h:GInv Q P M)(B:MOk n M){x:Lac}(C:LacOk x)(q:A.Ok x)(F:x.k=1->D x.n.toNat x.d):GInv Q P (M.act x):=by
 have b:∀ {k:Int},x.k=k->Gf k=true->x.n.toNat<5:=λ{k} e E=>by have:=C.n (by rw[e];exact E);omega
 unfold Meet.act;simp only;by_cases r:x.k=1
 .rw[if_pos r];have c:=b r rfl;refine h.set ?_ h.bm;unfold Nod.qK;by_cases f:(M.ab x.n.toNat).up=true
  .exact(g _ c).sub _ x.d M.eb (h.ab _ c) (F r) f
  .unfold Nod.qY;rw[if_pos (by simpa using f)];exact h.ab _ c
 .rw[if_neg r];by_cases s:x.k=2
  .rw[if_pos s];have c:=b s rfl;refine h.set ?_ h.bm;split
   .rename_i f;exact(g _ c).lead (q.ld s) _ (h.ab _ c) f
   .exact h.ab _ c
  .rw[if_neg s];by_cases u:x.k=3
   .rw[if_pos u];have c:=b u rfl;by_cases f:(M.ab x.n.toNat).up=true
    .have:=(g _ c).piece _ M.bm M.eb (h.ab _ c) f h.bm;rw[if_pos f,if_pos f,if_pos f];exact h.set this.1 this.2
    .rw[if_neg f,if_neg f,if_neg f];exact h.set (h.ab _ c) h.bm
   .rw[if_neg u];by_cases w:x.k=4\/x.k=5\/x.k=6
    .rw[if_pos w];unfold Meet.move;split
     .exact h
     .rename_i l v
      have j:=mD v;have z:GInv Q P (if x.k≠6 then{ M with bm:=M.bm.eraseIdx (x.a.toNat%M.bm.length) }else M):=by
       split
       .exact⟨h.ab,λm j=>h.bm m (oZ j)⟩
       .exact h
      simp only;split
      .rename_i h5
       exact z.lp g (q.ca (by omega)) (h.bm l j) (B.bm l j).dst
      .exact z
    .rw[if_neg w];by_cases y:x.k=7
     .rw[if_pos y];unfold Meet.qH;exact GInv.comes g (q.ca (by omega)) _ ⟨h.ab,λl v=>by cases v⟩ λm j=>⟨h.bm m j,(B.bm m j).dst⟩
     .rw[if_neg y];by_cases o:x.k=8
      .rw[if_pos o];have c:=b o rfl;refine h.set ?_ h.bm;split
       .rename_i f;exact(g _ c).ib (q.cr o) _ x.p (h.ab _ c) (C.p (by rw[o];rfl)).1 f
       .exact h.ab _ c
      .rw[if_neg o];by_cases t:x.k=9
       .rw[if_pos t];have c:=b t rfl;refine h.set ?_ h.bm;split
        .exact h.ab _ c
        .rename_i f;exact(g _ c).start (q.st t) _ (h.ab _ c) (by simpa using f)
       .rw[if_neg t];exact h
structure TInv(i:Nat)(D:List Int->Prop)(P:Nod->Prop)(R:List Tol->Prop):Prop where
 one:∀ p c ts,P p->p.up=true->p.ae[p.done]?=some c->doE p.ie c=0->(p.bw c).isSome=true->R ts->R (ts++[⟨i,c.c,c.s,doC p.ie c,doA p.ie c⟩])
 sub:∀ p d ts,P p->D d->p.up=true->opE d (p.done:Int)=0->E9 d (p.done:Int)∈p.ae.take p.done->R ts->R (ts++[⟨i,(E9 d (p.done:Int)).c,(E9 d (p.done:Int)).s,doC p.ie (E9 d (p.done:Int)),doA p.ie (E9 d (p.done:Int))⟩])
theorem TInv.qL{D:List Int->Prop}{P:Nod->Prop}(h:NInv A i D Q P)(t:TInv i D P R)(l:List Cmd)(p:Nod)(b:List Tol)(j:P p)(e:p.up=true)(g:p.ae.drop p.done=l)(a:R b):R (qL i l p b).2:=by
 induction l generalizing p b with
 | nil=>exact a
 | cons c l ih =>
  rw[Go.Proofs.YtdjfdfpkkenjbacGreatDoor.qL];split
  .exact a
  .rename_i he
   have f:p.ae[p.done]?=some c:=by
    have:=congrArg (·[0]?) g;simpa using this
   have d:=Eb { p with ie:=doS p.ie c,done:=p.done+1 } c;refine ih _ _ (h.one p c j e f (mh.1 he)) (d.1.trans e) ?_ ?_
   .rw[d.2.1,d.2.2.1];show p.ae.drop (p.done+1)=l;rw[<- oH,g];rfl
   .split
    .rename_i ha;exact t.one p c b j e f (mh.1 he) ha a
    .exact a
theorem NI(M:Meet)(l:Let):(M.lp l).eb=M.eb:=by unfold Meet.lp;split<;>rfl
theorem RV(l:List Let)(M:Meet):(l.foldl (λM l=>M.lp l) M).eb=M.eb:=by
 induction l generalizing M with
 | nil=>rfl
 | cons x l ih=>exact(ih _).trans (NI M x)
theorem Wb(M:Meet)(k:Int)(a:Nat):(M.move k a).eb=M.eb:=by
 unfold Meet.move;split
 .rfl
 .simp only;split
  .rw[NI];split<;>rfl
  .split<;>rfl
theorem Xm(M:Meet){x:Lac}(a:x.k≠1)(b:x.k≠3):(M.act x).eb=M.eb:=by
 unfold Meet.act;simp only;rw[if_neg a];split
 .rfl
 .split
  .exact Wb _ _ _
  .split
   .exact RV _ _
   .split
    .rfl
    .split<;>rfl
theorem GInv.eb(g:∀ i,i<5->NInv A i (D i) Q (P i))(c:∀ i,i<5->TInv i (D i) (P i) R){M:Meet}(h:GInv Q P M)(a:R M.eb){x:Lac}(e:LacOk x)(f:x.k=1->D x.n.toNat x.d):R (M.act x).eb:=by
 by_cases b:x.k=1
 .have hi:x.n.toNat<5:=by have:=e.n (by rw[b];rfl);omega
  unfold Meet.act;simp only;rw[if_pos b];show R (Nod.qK _ _ _ _).2;unfold Nod.qK Nod.qY;split
  .exact a
  .rename_i hu
   split
   .exact a
   .rename_i he
    split
    .rename_i hm
     exact(c _ hi).sub _ _ _ (h.ab _ hi) (f b) (by simpa using hu) (mh.1 he) hm a
    .exact a
 .by_cases h3:x.k=3
  .have hi:x.n.toNat<5:=by have:=e.n (by rw[h3];rfl);omega
   unfold Meet.act;simp only;rw[if_neg b,if_neg (by omega),if_pos h3];show R (if _ then _ else _);split
   .rename_i hu
    exact TInv.qL (g _ hi) (c _ hi) _ _ _ (h.ab _ hi) hu rfl a
   .exact a
  .rw[Xm M b h3];exact a
theorem GInv.dc(c:∀ i,i<5->NInv A i (D i) Q (P i))(g:∀ i,i<5->TInv i (D i) (P i) R)(L:List Lac){n:Nat}{M:Meet}(b:MOk n M)(j:n+L.length<=1000000)(h:GInv Q P M)(e:R M.eb)(f:∀ x∈L,LacOk x/\A.Ok x/\(x.k=1->D x.n.toNat x.d)):GInv Q P (M.dc L)/\R (M.dc L).eb/\MOk (n+L.length) (M.dc L):=by
 induction L generalizing n M with
 | nil=>exact⟨h,e,b⟩
 | cons x L ih =>
  have a:=f x M';rw[mJ]at j
  have:=ih (b.act (by omega) a.1) (by omega) (h.act c b a.1 a.2.1 a.2.2) (h.eb c g e a.1 a.2.2) λy l=>f y (I' _ l);rw[mJ,show n+(L.length+1)=n+1+L.length by omega];exact this
theorem TInv.all(i:Nat)(D:List Int->Prop)(P:Nod->Prop):TInv i D P λ_=>True:=⟨λ_ _ _ _ _ _ _ _ _=>trivial,λ_ _ _ _ _ _ _ _ _=>trivial⟩
structure Wh where
 d:Nat->List Int->Prop
 ld:Prop
 cr:Prop
 dr:Prop
 tk:Prop
 st:Prop
def Wh.may(D:Wh)(x:Lac):Prop:=(x.k=1->D.d x.n.toNat x.d)/\(x.k=2->D.ld)/\(x.k=8->D.cr)/\(x.k=4\/x.k=5\/x.k=6\/x.k=7->D.dr/\D.tk)/\(x.k=9->D.st)
inductive Stp (D:Wh):Nat->Meet->Meet->Prop
 | take (M:Meet) (l:Let) (hl:l∈M.bm) (hd:l.src<5/\l.dst<5) (hu:(M.ab l.dst).up=true) (ht:D.tk):Stp D 0 M (M.set l.dst ((M.ab l.dst).take l) M.bm M.eb)
 | bm (M:Meet) (ls:List Let) (h:∀ l∈ls,l∈M.bm) (hd:D.dr):Stp D 0 M { M with bm:=ls }
 | one (M:Meet) (i:Nat) (c:Cmd) (hi:i<5) (hu:(M.ab i).up=true) (hc:(M.ab i).ae[(M.ab i).done]?=some c) (he:doE (M.ab i).ie c=0) :
   Stp D 0 M (M.set i (Nod.fu { M.ab i with ie:=doS (M.ab i).ie c,done:=(M.ab i).done+1 } c) M.bm (if((M.ab i).bw c).isSome=true then M.eb++[⟨i,c.c,c.s,doC (M.ab i).ie c,doA (M.ab i).ie c⟩]else M.eb))
 | ask (M:Meet) (i:Nat) (hi:i<5) (hu:(M.ab i).up=true):Stp D 0 M (M.set i ((M.ab i).hU i).1 (M.bm++((M.ab i).hU i).2) M.eb)
 | prop (M:Meet) (i:Nat) (hi:i<5) (hu:(M.ab i).up=true):Stp D 1 M (M.set i (M.ab i).cl M.bm M.eb)
 | qJ (M:Meet) (i:Nat) (hi:i<5) (hu:(M.ab i).up=true) (h:(M.ab i).sy<((M.ab i).d.length:Int)) (hT:AR (M.ab i).d (M.ab i).sy):Stp D 0 M (M.set i { M.ab i with sy:=((M.ab i).d.length:Int) } M.bm M.eb)
 | run (M:Meet) (i:Nat) (hi:i<5) (hu:(M.ab i).up=true) (q:Pend) (l:List Pend) (hp:(M.ab i).br=q::l) (hs:¬ (M.ab i).sy<((M.ab i).d.length:Int)):Stp D 0 M (M.set i { (M.ab i).hZ i q with br:=l } (M.bm++(M.ab i).pd i q) M.eb)
 | qA (M:Meet) (i:Nat) (hi:i<5) (hu:(M.ab i).up=true) (hL:(M.ab i).leads=true):Stp D 0 M (M.set i (EH (M.ab i) i 5) (M.bm++Ds (M.ab i) i 5) M.eb)
 | lead (M:Meet) (i:Nat) (hi:i<5) (hu:(M.ab i).up=true) (hL:D.ld):Stp D 0 M (M.set i ((M.ab i).lead i) M.bm M.eb)
 | sub (M:Meet) (i:Nat) (d:List Int) (hi:i<5) (hu:(M.ab i).up=true) (hD:D.d i d):Stp D 0 M (M.set i ((M.ab i).qK i d M.eb).1 M.bm ((M.ab i).qK i d M.eb).2)
 | ib (M:Meet) (i:Nat) (k:Int) (hi:i<5) (hu:(M.ab i).up=true) (hk:0<=k) (hC:D.cr):Stp D 0 M (M.set i ((M.ab i).ib k) M.bm M.eb)
 | start (M:Meet) (i:Nat) (hi:i<5) (hu:(M.ab i).up=false) (hs:D.st):Stp D 0 M (M.set i (M.ab i).start M.bm M.eb)
inductive Sts (D:Wh):Nat->Meet->Meet->Prop
 | nil (n:Nat) (M:Meet):Sts D n M M
 | snoc {n c m:Nat} {M N K:Meet} (h:Sts D n M N) (s:Stp D c N K) (hm:n+c<=m):Sts D m M K
end
section
variable{D:Wh}
section
variable{K M N:Meet}{i m n:Nat}{α:Type}
theorem Sts.mono(h:Sts D n M N)(a:n<=m):Sts D m M N:=by
 cases h with
 | nil=>exact .nil m M
 | snoc h s hm=>exact .snoc h s (by omega)
theorem Sts.trans(h:Sts D n M N)(k:Sts D m N K):Sts D (n+m) M K:=by
 induction k with
 | nil=>exact h.mono (by omega)
 | snoc _ s hm ih=>exact(ih h).snoc s (by omega)
theorem Sts.s0(h:Sts D n M N)(s:Stp D 0 N K):Sts D n M K:=h.snoc s (A' _)
theorem Stp.s(h:Stp D 0 M N):Sts D n M N:=(Sts.nil n M).s0 h
theorem Sts.inv{I:Meet->Prop}(b:∀ c M N,Stp D c M N->I M->I N){n:Nat}{M N:Meet}(h:Sts D n M N)(a:I M):I N:=by
 induction h with
 | nil=>exact a
 | snoc _ s _ ih=>exact b _ _ _ s (ih a)
theorem GJ(f:Nat->α)(i:Nat):upN f i (f i)=f:=by funext j;unfold upN;split<;>simp_all
theorem UU(f:Nat->α)(i:Nat)(x y:α):upN (upN f i x) i y=upN f i y:=by funext j;unfold upN;split<;>rfl
theorem Cj(M:Meet)(i:Nat)(p q:Nod)(c a:List Let)(d b:List Tol):(M.set i p c d).set i q a b=M.set i q a b:=by unfold Meet.set;simp only[UU]
theorem Bi(M:Meet)(i:Nat)(p:Nod)(a:List Let)(b:List Tol):(M.set i p a b).ab i=p:=Dd M.ab i p
theorem Et(M:Meet)(l:Let):(M.lp l).bm=M.bm:=by unfold Meet.lp;split<;>rfl
theorem NJ(M:Meet)(l:Let)(a:List Let):({ M with bm:=a }:Meet).lp l={ M.lp l with bm:=a }:=by
 unfold Meet.lp;show(if(M.ab l.dst).up=true then _ else _)=_;split<;>rfl
theorem H4(l:List Let)(M:Meet)(a:List Let):l.foldl (λM l=>M.lp l) ({ M with bm:=a }:Meet)={ l.foldl (λM l=>M.lp l) M with bm:=a }:=by
 induction l generalizing M with
 | nil=>rfl
 | cons x l ih=>rw[qt,NJ,ih];rfl
theorem Sts.lp(c:D.tk){n:Nat}{M N:Meet}(h:Sts D n M N){l:Let}(b:l∈N.bm)(a:l.src<5/\l.dst<5):Sts D n M (N.lp l):=by
 unfold Meet.lp;split
 .rename_i hu;exact h.s0 (.take N l b a hu c)
 .exact h
theorem Sts.comes(c:D.tk)(l:List Let){n:Nat}{M N:Meet}(h:Sts D n M N)(a:∀ m∈l,m∈N.bm/\m.src<5/\m.dst<5):Sts D n M (l.foldl (λM l=>M.lp l) N):=by
 induction l generalizing N with
 | nil=>exact h
 | cons x l ih=>exact ih (h.lp c (a x M').1 (a x M').2) λm b=>by rw[Et];exact a m (I' _ b)
theorem Sts.qL(k:i<5)(l:List Cmd)(p:Nod){M:Meet}{d:List Let}{a:List Tol}(h:Sts D n M (M.set i p d a))(b:p.up=true)(g:p.ae.drop p.done=l) :
  Sts D n M (M.set i (qL i l p a).1 d (Go.Proofs.YtdjfdfpkkenjbacGreatDoor.qL i l p a).2)/\(Go.Proofs.YtdjfdfpkkenjbacGreatDoor.qL i l p a).1.up=true:=by
 induction l generalizing p a with
 | nil=>exact⟨h,b⟩
 | cons c l ih =>
  rw[Go.Proofs.YtdjfdfpkkenjbacGreatDoor.qL];split
  .exact⟨h,b⟩
  .rename_i he
   have j:p.ae[p.done]?=some c:=by have:=congrArg (·[0]?) g;simpa using this
   have f:=Eb { p with ie:=doS p.ie c,done:=p.done+1 } c;have e:=Bi M i p d a;have s:=Stp.one (D:=D) (M.set i p d a) i c k (by rw[e];exact b) (by rw[e];exact j) (by rw[e];exact mh.1 he);rw[e,Cj]at s
   refine ih _ (h.s0 s) (f.1.trans b) ?_;rw[f.2.1,f.2.2.1];show p.ae.drop (p.done+1)=l;rw[<- oH,g];rfl
theorem Sts.lr(g:i<5)(l:List Pend)(p:Nod){M:Meet}{ls:List Let}{ts:List Tol}(h:Sts D n M (M.set i { p with br:=l } ls ts))(b:p.up=true)(f:p.br=[])(c:¬ p.sy<(p.d.length:Int)) :
  Sts D n M (M.set i (lr i l p ls).1 (Go.Proofs.YtdjfdfpkkenjbacGreatDoor.lr i l p ls).2 ts)/\(Go.Proofs.YtdjfdfpkkenjbacGreatDoor.lr i l p ls).1.up=true:=by
 induction l generalizing p ls with
 | nil =>
  have:({ p with br:=[] }:Nod)=p:=by cases p;simp_all
  rw[this]at h;exact⟨h,b⟩
 | cons q l ih =>
  have a:=DI p i q;have e:=Bi M i { p with br:=q::l } ls ts;have s:=Stp.run (D:=D) (M.set i { p with br:=q::l } ls ts) i g (by rw[e];exact b) q l (by rw[e]) (by rw[e];exact c);rw[e,Cj,O4,Ml]at s
  exact ih (p.hZ i q) (h.s0 s) (a.2.1.trans b) (a.1.trans f) (by rw[a.2.2.1,a.2.2.2];exact c)
theorem Sts.piece(c:i<5)(M:Meet)(x:(M.ab i).up=true):Sts D 1 M (M.set i ((M.ab i).piece i M.bm M.eb).1 ((M.ab i).piece i M.bm M.eb).2.1 ((M.ab i).piece i M.bm M.eb).2.2):=by
 have w:Sts D 0 M (M.set i (M.ab i) M.bm M.eb):=by rw[show M.set i (M.ab i) M.bm M.eb=M by unfold Meet.set;rw[GJ]];exact .nil 0 M
 obtain⟨q,l⟩:=Sts.qL c _ (M.ab i) w x rfl;unfold Nod.piece;simp only;generalize Go.Proofs.YtdjfdfpkkenjbacGreatDoor.qL i ((M.ab i).ae.drop (M.ab i).done) (M.ab i) M.eb=a at q l ⊢;have e:=Bi M i a.1 M.bm a.2;have s:=Stp.ask (D:=D) (M.set i a.1 M.bm a.2) i c (by rw[e];exact l);rw[e,Cj]at s
 have t:=q.s0 s;have n:=(Is a.1 i).trans l;clear e s q;generalize (a.1.hU i)=b at t n ⊢;have e:=Bi M i b.1 (M.bm++b.2) a.2;have s:=Stp.prop (D:=D) (M.set i b.1 (M.bm++b.2) a.2) i c (by rw[e];exact n);rw[e,Cj]at s
 have g:=t.snoc s (m:=1) (by omega);have h:=(ED b.1).trans n;clear e s t;change Sts D 1 M (M.set i b.1.cl (M.bm++b.2) a.2)at g;generalize b.1.cl=r at g h ⊢;generalize M.bm++b.2=k at g ⊢;have j:Sts D 1 M (M.set i (r.ln i k).1 (r.ln i k).2 a.2)/\(r.ln i k).1.up=true:=by
  unfold Nod.ln;split
  .exact⟨g,h⟩
  .rename_i hn
   have e:=Bi M i r k a.2;unfold Nod.qJ;split
   .rename_i h1
    have o:Db r.d r.sy=0:=mh.1 λe=>hn ⟨h1,e⟩;have p:AR r.d r.sy:=by
     unfold Db at o;split at o
     .assumption
     .cases o
    have s:=Stp.qJ (D:=D) (M.set i r k a.2) i c (by rw[e];exact h) (by rw[e];exact h1) (by rw[e];exact p);rw[e,Cj]at s
    have u:Hm r.d r.sy=r.d:=if_pos p;have v:Ik r.d r.sy=(r.d.length:Int):=if_pos p;rw[u,v];exact Sts.lr c r.br { r with sy:=(r.d.length:Int),br:=[] } (g.s0 s) h rfl (qb _)
   .rename_i h1
    exact Sts.lr c r.br { r with br:=[] } g h rfl h1
 generalize r.ln i k=f at j ⊢;unfold Nod.bu;split
 .rename_i hL
  have e:=Bi M i f.1 f.2 a.2;have s:=Stp.qA (D:=D) (M.set i f.1 f.2 a.2) i c (by rw[e];exact j.2) (by rw[e];exact hL);rw[e,Cj]at s
  exact j.1.s0 s
 .exact j.1
theorem EU(M:Meet)(i:Nat):M.set i (M.ab i) M.bm M.eb=M:=by unfold Meet.set;rw[GJ]
theorem OK(g:MOk n M){x:Lac}(v:LacOk x)(j:D.may x):Sts D 1 M (M.act x):=by
 obtain⟨j,y,z,i,A⟩:=j;have b:∀ {k:Int},x.k=k->Gf k=true->x.n.toNat<5:=λ{k} e w=>by have:=v.n (by rw[e];exact w);omega
 unfold Meet.act;simp only;split
 .rename_i h1
  by_cases c:(M.ab x.n.toNat).up=true
  .exact(Stp.sub M _ x.d (b h1 rfl) c (j h1)).s
  .unfold Nod.qK Nod.qY;rw[if_pos (by simpa using c)];rw[EU];exact .nil 1 M
 .split
  .rename_i hk
   split
   .rename_i c;exact(Stp.lead M _ (b hk rfl) c (y hk)).s
   .rw[EU];exact .nil 1 M
  .split
   .rename_i h3
    by_cases c:(M.ab x.n.toNat).up=true
    .rw[if_pos c,if_pos c,if_pos c];exact Sts.piece (b h3 rfl) M c
    .rw[if_neg c,if_neg c,if_neg c,EU];exact .nil 1 M
   .split
    .rename_i hk4
     obtain⟨o,r⟩:=i (by omega);unfold Meet.move;split
     .exact .nil 1 M
     .rename_i l q
      have f:=mD q;have B:=And.intro (g.bm l f).src (g.bm l f).dst;have u:∀ N:Meet,Sts D 1 M N->N.bm=M.bm->Sts D 1 M (if x.k≠6 then{ N with bm:=M.bm.eraseIdx (x.a.toNat%M.bm.length) }else N):=λN h e=>by
       split
       .exact h.s0 (.bm N _ (λm f=>by rw[e];exact oZ f) o)
       .exact h
      simp only;split
      .have:=u (M.lp l) ((Sts.nil 1 M).lp r f B) (Et M l);by_cases t:x.k≠6
       .rw[if_pos t]at this ⊢;rw[NJ];exact this
       .rw[if_neg t]at this ⊢;exact this
      .exact u M (.nil 1 M) rfl
    .split
     .rename_i hk7
      unfold Meet.qH;rw[H4];exact(Sts.comes (i (by omega)).2 M.bm (.nil 1 M) λm f=>⟨f,(g.bm m f).src,(g.bm m f).dst⟩).s0 (.bm _ [] (λl q=>by cases q) (i (by omega)).1)
     .split
      .rename_i hk
       split
       .rename_i c;exact(Stp.ib M _ x.p (b hk rfl) c (v.p (by rw[hk];rfl)).1 (z hk)).s
       .rw[EU];exact .nil 1 M
      .split
       .rename_i h9
        split
        .rw[EU];exact .nil 1 M
        .rename_i c;exact(Stp.start M _ (b h9 rfl) (by simpa using c) (A h9)).s
       .exact .nil 1 M
theorem Ir(L:List Lac){n:Nat}{M:Meet}(b:MOk n M)(d:n+L.length<=1000000)(c:∀ x∈L,LacOk x/\D.may x):Sts D L.length M (M.dc L):=by
 induction L generalizing n M with
 | nil=>exact .nil _ M
 | cons x L ih =>
  have a:=c x M';rw[mJ]at d
  rw[mJ,Nat.add_comm];exact(OK b a.1 a.2).trans (ih (b.act (by omega) a.1) (by omega) λy e=>c y (I' _ e))
end
end
section
def whT:Wh:=⟨λ_ _=>True,True,True,True,True,True⟩
theorem Vd(x:Lac):whT.may x:=⟨λ_=>trivial,λ_=>trivial,λ_=>trivial,λ_=>⟨trivial,trivial⟩,λ_=>trivial⟩
inductive Rk where
 | pr (b:Bal)
 | vt (v:Vt)
def Rk.body:Rk->List Int
 | .pr b=>Bu b
 | .vt v=>Bk v
def Rk.ap(a:Acc):Rk->Acc
 | .pr b=>⟨b,a.vs⟩
 | .vt v=>⟨v.b,Bo a.vs v⟩
def Rk.err(a:Acc):Rk->Int
 | .pr b=>Cl a b
 | .vt v=>Ba a v
def Rk.ok(a:Acc):Rk->Prop
 | .pr b=>Cl a b=0/\a.p≠b
 | .vt v=>Ba a v=0/\v∉a.vs
variable{a:Acc}{b:Bal}{dr qs rs:List Rk}{i j n:Nat}{l:List Cmd}{p:Nod}{r:Rk}{v:Vt}{vs:List Vt}
theorem Rk.ok.err(h:Rk.ok a r):Rk.err a r=0:=by cases r<;>exact h.1
def B1(rs:List Rk):Acc:=rs.foldl Rk.ap a0
theorem BU(a:List Rk)(r:Rk):B1 (a++[r])=Rk.ap (B1 a) r:=by unfold B1;rw[oS];rfl
def AQ(rs:List Rk):Prop:=∀ i r,rs[i]?=some r->Rk.ok (B1 (rs.take i)) r
theorem AQ.nil:AQ []:=λi r h=>by simp at h
theorem AQ.left(h:AQ (rs++qs)):AQ rs:=λi r e=>by
 have a:=(V'.1 e).1;have:=h i r (by rw[mt a];exact e)
 rwa [mA (by omega)]at this
theorem AQ.pre(h:AQ qs)(a:rs <+: qs):AQ rs:=by obtain⟨x,rfl⟩:=a;exact h.left
theorem AQ.snoc(h:AQ rs)(a:Rk.ok (B1 rs) r):AQ (rs++[r]):=λi q e=>by
 rcases mZ i rs.length with hi|hi
 .rw[mt hi]at e
  rw[mA (by omega)];exact h i q e
 .have:=(V'.1 e).1;rw[E',mQ]at this
  obtain rfl:i=rs.length:=by omega
  rw[my (A' _)]at e
  simp at e;subst e;rw[mA (A' _),nS];exact a
theorem AQ.last(h:AQ (rs++[r])):Rk.ok (B1 rs) r:=by
 have:=h rs.length r (by simp)
 rwa [mA (A' _),nS]at this
theorem AQ.ind{P:List Rk->Prop}(b:P [])(c:∀ a r,AQ a->Rk.ok (B1 a) r->P a->P (a++[r])){a:List Rk}(h:AQ a):P a:=by
 have:∀ k,k<=a.length->P (a.take k):=by
  intro k;induction k with
  | zero=>intro _;exact b
  | succ k ih =>
   intro d;have e:a.take (k+1)=a.take k++[a[k]]:=by rw[mz (by omega)]
   rw[e];exact c _ _ (h.pre (oW _ _)) (h k _ (H' (by omega))) (ih (by omega))
 have:=this a.length (A' _)
 rwa [nS]at this
theorem Ag.tf(h:Ag a)(c:Ab b)(i:¬ b.lt a.p):Ag ⟨b,a.vs⟩:=by
 refine⟨.inl c,λv d=>⟨(h.2.1 v d).1,λg=>?_⟩,h.2.2⟩;have e:=(h.2.1 v d).1.2.1;have f:=(h.2.1 v d).2;rw[Fb c.pr e.pr]at g
 rw[Fb h.1 e.pr]at f
 rw[Fb c.pr h.1]at i
 omega
theorem Ag.sC(h:Ag a)(d:Ah v)(e:¬ v.b.lt a.p):Ag ⟨v.b,Bo a.vs v⟩:=by
 refine⟨.inl d.2.1,λu c=>?_,Jv v h.2.2⟩;rcases(BB h.2.2).1 c with rfl|⟨c,_⟩
 .refine⟨d,λg=>?_⟩;change u.b.lt u.b at g;unfold Bal.lt at g;omega
 .exact(h.tf d.2.1 e).2.1 u c
theorem KK:Ag a0:=⟨.inr ⟨rfl,rfl⟩,λv a=>(O' a).elim,trivial⟩
theorem Rk.may(h:Ag a){r:Rk}(c:Rk.err a r=0):Ag (Rk.ap a r):=by
 cases r with
 | pr b=>have:=Co c;exact h.tf this.2.1 this.2.2
 | vt v=>have:=Ap c;exact h.sC this.2.1 this.2.2
theorem AQ.acc(h:AQ rs):Ag (B1 rs):=h.ind (P:=λrs=>Ag (B1 rs)) KK λrs r _ a b=>by rw[BU];exact Rk.may b a.err
theorem Bp{a:Bal}(c:Ao a)(d:Ao b)(h:¬ a.lt b):b.key<=a.key:=by rw[Fb c d]at h;omega
theorem Rk.rO(h:Ag a){r:Rk}(c:Rk.err a r=0):a.p.key<=(Rk.ap a r).p.key:=by
 cases r with
 | pr b=>have:=Co c;exact Bp this.2.1.pr h.1 this.2.2
 | vt v=>have:=Ap c;exact Bp this.2.1.2.1.pr h.1 this.2.2
theorem IQ(h:AQ rs):∀ v∈(B1 rs).vs,Rk.vt v∈rs:=h.ind (P:=λrs=>∀ v∈(B1 rs).vs,Rk.vt v∈rs) (λv a=>by cases a) λrs r d e c v a=>by
 rw[BU]at a
 cases r with
 | pr b=>exact mn _ (c v a)
 | vt u =>
  rcases(BB d.acc.2.2).1 a with rfl|⟨a,_⟩
  .exact mj _ M'
  .exact mn _ (c v a)
theorem Ag.le(h:Ag a){v:Vt}(c:v∈a.vs):v.b.key<=a.p.key:=Bp h.1 (h.2.1 v c).1.2.1.pr (h.2.1 v c).2
theorem LF(h:Ag a){v:Vt}(f:Ba a v=0){u:Vt}(c:u∈a.vs):∃ x∈Bo a.vs v,x.bn=u.bn/\u.b.key<=x.b.key:=by
 have d:=Ap f;by_cases e:u.bn=v.bn
 .exact⟨v,(BB h.2.2).2 (.inl rfl),e.symm,mC (h.le c) (Bp d.2.1.2.1.pr h.1 d.2.2)⟩
 .exact⟨u,(BB h.2.2).2 (.inr ⟨c,e⟩),rfl,mf _⟩
theorem Rh(h:AQ rs):∀ v,Rk.vt v∈rs->v.b.key<=(B1 rs).p.key/\∃ u∈(B1 rs).vs,u.bn=v.bn/\v.b.key<=u.b.key:=h.ind (P:=λrs=>∀ v,Rk.vt v∈rs->v.b.key<=(B1 rs).p.key/\∃ u∈(B1 rs).vs,u.bn=v.bn/\v.b.key<=u.b.key) (λv hv=>by cases hv) λrs r c a e v hv=>by
 have d:=Rk.rO c.acc a.err;rw[BU];rcases Q'.1 hv with hv|hv
 .obtain⟨h1,u,h2,h3,h4⟩:=e v hv;refine⟨mC h1 d,?_⟩;cases r with
  | pr b=>exact⟨u,h2,h3,h4⟩
  | vt w =>
   obtain⟨x,f,g,i⟩:=LF c.acc a.err h2;exact⟨x,f,g.trans h3,mC h4 i⟩
 .rw[<- D'.1 hv]at a ⊢
  exact⟨mf _,v,(BB c.acc.2.2).2 (.inl rfl),rfl,mf _⟩
theorem DH(h:AQ (rs++qs)):(B1 rs).p.key<=(B1 (rs++qs)).p.key/\∀ v,Rk.vt v∈qs->(B1 rs).p.key<=v.b.key:=by
 have:∀ k,k<=qs.length->(B1 rs).p.key<=(B1 (rs++qs.take k)).p.key/\∀ v,Rk.vt v∈qs.take k->(B1 rs).p.key<=v.b.key:=by
  intro k;induction k with
  | zero=>intro _;rw[nB,mI];exact⟨mf _,λv hv=>by cases hv⟩
  | succ k ih =>
   intro i;obtain⟨c,g⟩:=ih (by omega);have e:qs.take (k+1)=qs.take k++[qs[k]]:=by rw[mz (by omega)]
   have a:AQ (rs++qs.take k++[qs[k]]):=h.pre (by rw[mm,<- e];exact List.prefix_append_right_inj rs |>.2 (oW _ _));have d:=Rk.rO a.left.acc a.last.err;rw[<- BU]at d
   rw[e,<- mm];refine⟨mC c d,λv hv=>?_⟩;rcases Q'.1 hv with hv|hv
   .exact g v hv
   .have hl:=a.last;rw[<- D'.1 hv]at hl
    have f:=Ap hl.err;exact mC c (Bp f.2.1.2.1.pr a.left.acc.1 f.2.2)
 have:=this qs.length (A' _)
 rwa [nS]at this
def fl(rs:List Rk):List Int:=AD (rs.map Rk.body)
theorem cL(a:List Rk)(r:Rk):fl (a++[r])=fl a++AN r.body:=by unfold fl;rw[mK,CF];simp[AD]
theorem Sz(b a:List Rk):fl (b++a)=fl b++fl a:=by unfold fl;rw[mK,CF]
theorem Yl(h:rs <+: qs):(fl rs).length<=(fl qs).length:=by obtain⟨x,rfl⟩:=h;rw[Sz,E'];omega
theorem j6(h:rs <+: qs)(a:(fl qs).length<=(fl rs).length):rs=qs:=by
 obtain⟨x,rfl⟩:=h;rw[Sz,E']at a
 have:=Qs (x.map Rk.body);rw[mF]at this
 unfold fl at a;obtain rfl:x=[]:=Y' (by omega);rw[mI]
theorem AQ.th(h:AQ rs):Chn ((List.range (rs.length+1)).map λj=>B1 (rs.take j)) (rs.map Rk.body):=by
 refine⟨by simp,by simp[B1],λi b a c g f l=>?_⟩;simp only[mX,nI]at g f l;obtain⟨r,e,rfl⟩:=g;obtain⟨j,n,rfl⟩:=f;obtain⟨k,o,rfl⟩:=l;have m:=(V'.1 e).1;rw[nV (by omega)]at n o
 cases n;cases o;have d:=(h i r e).err;have p:rs[i]=r:=by rw[H' m]at e;exact mT e
 rw[mz m,BU,p];generalize B1 (rs.take i)=a at d ⊢;cases r with
 | pr b=>show DW a (Bu b)=_;rw[XZ a (Co d).2.1];exact if_pos d
 | vt v=>show DW a (Bk v)=_;rw[Ya a (Ap d).2.1];exact if_pos d
structure TpU(p:Nod)(dr rs:List Rk):Prop where
 ok:AQ rs
 pre:dr <+: rs
 d:p.d=fl rs
 sy:p.sy=((fl dr).length:Int)
 vo:p.vo=B1 rs
 len:p.d.length<=100000
structure TpD(p:Nod)(dr:List Rk):Prop where
 ok:AQ dr
 se:Er p.d=((fl dr).length,B1 dr)
 tk:p.d.take (fl dr).length=fl dr
 sy:p.sy=(p.d.length:Int)
 len:p.d.length<=100000
theorem TpU.rG(h:TpU p dr rs):AR p.d p.sy:=by
 have:=Yl h.pre;have:=h.d;refine⟨h.len,by rw[h.sy];omega,?_⟩;rw[h.sy,h.d];omega
theorem TpU.zero:TpU Cz [] []:=⟨AQ.nil,mi _,rfl,rfl,rfl,by decide⟩
theorem TpU.all(h:TpU p dr rs)(a:¬ p.sy<(p.d.length:Int)):dr=rs:=j6 h.pre (by rw[h.sy,h.d]at a;omega)
theorem TpU.ib(h:TpU p dr rs){k:Int}(u:0<=k):∃ dr',dr <+: dr'/\dr' <+: rs/\TpD (p.ib k) dr':=by
 have o:=h.rG;have b:Gn p.d p.sy k=0:=by unfold Gn;rw[if_neg (λe=>e o),if_neg (by omega)]
 have f:=o;unfold AR at f;have t:p.sy<=Gp p.d p.sy k/\Gp p.d p.sy k<=(p.d.length:Int):=by unfold Gp;split<;>omega
 obtain⟨j,a,r,l,m,n,h5⟩:=h.ok.th.sX (Gp p.d p.sy k).toNat;rw[mF]at r h5
 rw[mX,nV (by omega)]at l
 obtain rfl:B1 (rs.take j)=a:=by simpa using l
 have i:AD ((rs.map Rk.body).take j)=fl (rs.take j):=by unfold fl;rw[pK]
 rw[i]at m n
 have c:(p.ib k).d=(fl rs).take (Gp p.d p.sy k).toNat:=by
  unfold Nod.ib;rw[if_neg (λe=>e b)];show Kx p.d p.sy k=_;unfold Kx;rw[if_pos b,h.d]
 have s:(p.ib k).sy=Gp p.d p.sy k:=by
  unfold Nod.ib;rw[if_neg (λe=>e b)];show Ky p.d p.sy k=_;unfold Ky;rw[if_pos b]
 have q:((fl rs).take (Gp p.d p.sy k).toNat).length=(Gp p.d p.sy k).toNat:=by rw[j',<- h.d];omega
 refine⟨rs.take j,?_,oW _ _,h.ok.pre (oW _ _),by rw[c];exact m,?_,?_,?_⟩
 .obtain⟨x,hx⟩:=h.pre;rcases mZ j dr.length with g|g
  .exfalso;rcases h5 with h5|h5
   .rw[<- hx,E']at h5;omega
   .have hp:rs.take (j+1) <+: dr:=by rw[<- hx,mA (by omega)];exact oW _ _
    have:=Yl hp;rw[show AD ((rs.map Rk.body).take (j+1))=fl (rs.take (j+1))by unfold fl;rw[pK]]at h5
    have:=h.sy;omega
  .rw[<- hx,List.take_append];rw[mr g];exact nA _ _
 .rw[c,oI,nr n];have e:fl rs=fl (rs.take j)++fl (rs.drop j):=by rw[<- Sz,nv]
  rw[show(fl rs).take (fl (rs.take j)).length=(fl (rs.take j)++fl (rs.drop j)).take (fl (rs.take j)).length by rw[<- e],mA (A' _),nS]
 .rw[s,c,q];omega
 .rw[c,q];have:=h.len;omega
theorem TpD.start(h:TpD p dr):TpU p.start dr dr:=by
 have c:AR p.d p.sy:=⟨h.len,by rw[h.sy];omega,by rw[h.sy];omega⟩;have g:Db p.d p.sy=0:=if_pos c;have i:No p.d p.sy=((fl dr).length:Int):=by unfold No;rw[if_pos c,h.se]
 have j:G4 p.d p.sy=B1 dr:=by unfold G4;rw[if_pos c,h.se]
 have a:=UI p.d;rw[h.se]at a
 have a:(fl dr).length<=p.d.length:=a;have f:=h.len;unfold Nod.start;rw[if_neg (λe=>e g),i,j];split
 .rename_i hlt
  have b:J9 p.d p.sy=fl dr:=by unfold J9;rw[if_pos c,h.se];exact h.tk
  have k:Mf p.d p.sy=((fl dr).length:Int):=by unfold Mf;rw[if_pos c,h.se];exact if_pos (by rw[h.sy];exact hlt)
  exact⟨h.ok,mi _,b,k,rfl,by show(J9 p.d p.sy).length<=_;rw[b];omega⟩
 .rename_i hge
  have b:p.d=fl dr:=by have:=h.tk;rwa [mr (by omega)]at this
  exact⟨h.ok,mi _,b,by show p.sy=_;rw[h.sy,<- b],rfl,f⟩
theorem TpU.qJ(h:TpU p dr rs):TpU { p with sy:=(p.d.length:Int) } rs rs:=⟨h.ok,mi _,h.d,by show(p.d.length:Int)=_;rw[h.d],h.vo,h.len⟩
def Nod.tv(p:Nod)(d:List Int)(s:Int)(a:Acc):Nod:={ p with d:=d,sy:=s,vo:=a }
theorem TpU.write(h:TpU p dr rs){r:Rk}(a:Rk.ok p.vo r)(b:p.d.length+(r.body.length+5)<=100000):TpU (p.tv (p.d++AN r.body) p.sy (Rk.ap p.vo r)) dr (rs++[r]):=by
 rw[h.vo]at a
 refine⟨h.ok.snoc a,h.pre.trans (nA _ _),?_,h.sy,?_,?_⟩
 .show p.d++_=_;rw[h.d,cL]
 .show Rk.ap p.vo r=_;rw[h.vo,BU]
 .show(p.d++AN r.body).length<=_;rw[E',Bg];omega
theorem TpU.an(h:TpU p dr rs)(b:Bal):((p.an b).2.2≠0/\(p.an b).1=p) \/
  ((p.an b).2.2=0/\Cl p.vo b=0/\(p.an b).2.1=p.vo.vs/\∃ rs',rs <+: rs'/\TpU (p.an b).1 dr rs'/\(∀ v,Rk.vt v∈rs'↔Rk.vt v∈rs)/\(B1 rs').p=b/\(B1 rs').vs=p.vo.vs/\∃ d a,(p.an b).1=p.tv d p.sy a):=by
 unfold Nod.an;split
 .rename_i c;exact .inl ⟨c,rfl⟩
 .rename_i c
  have c:=mh.1 c;split
  .rename_i h2
   refine .inr ⟨rfl,c,rfl,rs,mi _,?_,λ_=>Iff.rfl,?_,?_,p.d,p.vo,?_⟩
   .rw[h2];exact h
   .rw[<- h.vo];exact h2.symm
   .rw[<- h.vo]
   .rw[h2];rfl
  .rename_i h2
   split
   .rename_i f;exact .inl ⟨f,rfl⟩
   .rename_i f
    have f:=mh.1 f;have j:=JO f;have g:FY p.d p.sy (Ab b) (Bu b)=p.d++AN (Bu b):=if_pos f;have i:GP p.d p.sy (Ab b) (Bu b)=p.sy:=if_pos f;rw[g,i];refine .inr ⟨rfl,c,rfl,rs++[Rk.pr b],nA _ _,(h.write (r:=.pr b) ⟨c,λe=>h2 e.symm⟩ j.2.1),λv=>by simp,?_,?_,_,_,rfl⟩
    .rw[BU];rfl
    .rw[BU,h.vo];rfl
theorem VL{l:List Vt}(h:BL l){v:Vt}(hv:v∈l):Bo l v=l:=by
 induction l with
 | nil=>cases hv
 | cons u us ih =>
  rw[Bo];rcases mp.1 hv with rfl|hv
  .rw[if_neg (qb _),if_pos rfl]
  .rw[if_pos (h.1 v hv),ih h.2 hv]
theorem TpU.bN(h:TpU p dr rs)(v:Vt):((p.bN v).2≠0/\(p.bN v).1=p) \/
  ((p.bN v).2=0/\Ba p.vo v=0/\∃ rs',rs <+: rs'/\TpU (p.bN v).1 dr rs'/\(∀ u,Rk.vt u∈rs'↔u=v\/Rk.vt u∈rs)/\(B1 rs').p=v.b/\∃ d a,(p.bN v).1=p.tv d p.sy a):=by
 unfold Nod.bN;split
 .rename_i c;exact .inl ⟨c,rfl⟩
 .rename_i c
  have c:=mh.1 c;have i:=Ap c;split
  .rename_i h2
   have m:=i.1.le h2;have l:=Bp i.2.1.2.1.pr i.1.1 i.2.2;have e:v.b=p.vo.p:=DN i.2.1.2.1.pr i.1.1 (by omega);have j:(⟨v.b,Bo p.vo.vs v⟩:Acc)=p.vo:=by rw[VL i.1.2.2 h2,e]
   rw[j];refine .inr ⟨rfl,c,rs,mi _,h,λu=>⟨.inr,λhu=>?_⟩,by rw[<- h.vo];exact e.symm,p.d,p.vo,rfl⟩;rcases hu with rfl|hu
   .exact IQ h.ok u (by rw[<- h.vo];exact h2)
   .exact hu
  .rename_i h2
   split
   .rename_i f;exact .inl ⟨f,rfl⟩
   .rename_i f
    have f:=mh.1 f;have n:=JO f;have k:FY p.d p.sy (Ah v) (Bk v)=p.d++AN (Bk v):=if_pos f;have j:GP p.d p.sy (Ah v) (Bk v)=p.sy:=if_pos f;rw[k,j];refine .inr ⟨rfl,c,rs++[Rk.vt v],nA _ _,h.write (r:=.vt v) ⟨c,h2⟩ n.2.1,λu=>?_,by rw[BU];rfl,_,_,rfl⟩;rw[Q',D'];exact⟨λg=>g.elim .inr λe=>.inl (Rk.vt.inj e),λg=>g.elim (λe=>.inr (by rw[e])) .inl⟩
structure Gs where
 dr:Nat->List Rk
 W:Bal->Nat->Cmd->Prop
def Gs.held(σ:Gs)(n:Nat)(v:Vt):Prop:=Rk.vt v∈σ.dr n
def Gs.H(σ:Gs)(n s:Nat)(b:Int)(c:Cmd):Prop:=∃ v,σ.held n v/\v.bn=(s:Int)/\v.b.key=b/\v.w=c
def Gs.P(σ:Gs)(n:Nat):Int:=(B1 (σ.dr n)).p.key
def Gs.rj(σ:Gs)(v:Vt):Prop:=Ah v/\σ.W v.b v.bn.toNat v.w
def Gs.sa(σ:Gs)(s:Nat)(c:Cmd):Prop:=∃ b,Ch σ.H s b c
structure GsI(σ:Gs):Prop where
 ok:∀ n,AQ (σ.dr n)
 rY:PInv σ.H σ.P
 w1:∀ b s c c',σ.W b s c->σ.W b s c'->c=c'
 w2:∀ b s c,σ.W b s c->Ab b/\Ez σ.H σ.P s b.key c
 w3:∀ b s c,σ.W b s c->b.key<=σ.P b.n.toNat
 hv:∀ n v,σ.held n v->σ.rj v
structure Gs.le(σ τ:Gs):Prop where
 pre:∀ n,σ.dr n <+: τ.dr n
 W:∀ b s c,σ.W b s c->τ.W b s c
theorem Gs.le.refl(σ:Gs):σ.le σ:=⟨λ_=>mi _,λ_ _ _ h=>h⟩
variable{σ τ:Gs}
theorem Gs.le.trans{υ:Gs}(h:σ.le τ)(k:τ.le υ):σ.le υ:=⟨λn=>(h.pre n).trans (k.pre n),λb s c g=>k.W b s c (h.W b s c g)⟩
theorem Gs.le.held(h:σ.le τ){n:Nat}{v:Vt}(g:σ.held n v):τ.held n v:=(h.pre n).subset g
theorem Gs.le.H(h:σ.le τ){n s:Nat}{b:Int}{c:Cmd}(g:σ.H n s b c):τ.H n s b c:=by obtain⟨v,a,d⟩:=g;exact⟨v,h.held a,d⟩
theorem Gs.le.rj(h:σ.le τ){v:Vt}(g:σ.rj v):τ.rj v:=⟨g.1,h.W _ _ _ g.2⟩
theorem Gs.le.sa(h:σ.le τ){s:Nat}{c:Cmd}(g:σ.sa s c):τ.sa s c:=by obtain⟨b,Q,a,d⟩:=g;exact⟨b,Q,a,λq f e=>h.H (d q f e)⟩
theorem Gs.le.P(h:σ.le τ)(a:GsI τ)(n:Nat):σ.P n<=τ.P n:=by
 obtain⟨x,b⟩:=h.pre n;have:=a.ok n;unfold Gs.P;rw[<- b]at this ⊢
 exact(DH this).1
structure Gs.sf(i:Nat)(σ τ:Gs):Prop where
 le:σ.le τ
 new:∀ b s c,τ.W b s c->σ.W b s c\/b.n=(i:Int)
 tm:∀ n,n≠i->τ.dr n=σ.dr n
theorem Gs.sf.refl(i:Nat)(σ:Gs):Gs.sf i σ σ:=⟨.refl σ,λ_ _ _ h=>.inl h,λ_ _=>rfl⟩
def Gs.ext(σ:Gs)(i:Nat)(qs:List Rk):Gs:=⟨upN σ.dr i (σ.dr i++qs),σ.W⟩
theorem H7(σ:Gs)(i:Nat)(a:List Rk):(σ.ext i a).dr i=σ.dr i++a:=Dd _ _ _
theorem Lu(σ:Gs){i n:Nat}(a:List Rk)(h:n≠i):(σ.ext i a).dr n=σ.dr n:=Dz _ _ h
theorem OZ(σ:Gs)(i:Nat)(a:List Rk):Gs.sf i σ (σ.ext i a):=⟨⟨λn=>by
 by_cases e:n=i
 .subst e;rw[H7];exact nA _ _
 .rw[Lu σ a e];exact mi _,λ_ _ _ h=>h⟩,λ_ _ _ h=>.inl h,λn h=>Lu σ a h⟩
theorem Qp(σ:Gs)(i:Nat)(r:Rk):(σ.ext i [r]).P=upP σ.P i (Rk.ap (B1 (σ.dr i)) r).p.key:=by
 funext n
 unfold Gs.P upP;split
 .rename_i e;subst e;rw[H7,BU]
 .rename_i e;rw[Lu σ _ e]
theorem I5:(σ.ext i qs).held n v↔σ.held n v\/(n=i/\Rk.vt v∈qs):=by
 unfold Gs.held;by_cases e:n=i
 .subst e;rw[H7,Q'];simp
 .rw[Lu σ qs e];simp[e]
theorem GsI.sV(h:GsI σ){i:Nat}{r:Rk}(D:Rk.ok (B1 (σ.dr i)) r)(F:∀ v,r=.vt v->σ.rj v):GsI (σ.ext i [r]):=by
 have l:=(h.ok i).acc;have t:=Rk.rO l D.err;have f:=(OZ σ i [r]).le;have q:∀ n,AQ ((σ.ext i [r]).dr n):=λn=>by
  by_cases e:n=i
  .subst e;rw[H7];exact(h.ok n).snoc D
  .rw[Lu σ _ e];exact h.ok n
 have d:σ.P i<=(Rk.ap (B1 (σ.dr i)) r).p.key:=t;have B:∀ n,σ.P n<=(σ.ext i [r]).P n:=λn=>by rw[Qp];exact MG d n
 have o:∀ n v,(σ.ext i [r]).held n v->(σ.ext i [r]).rj v:=λn v g=>by
  rcases I5.1 g with g|⟨_,g⟩
  .exact f.rj (h.hv n v g)
  .exact f.rj (F v (D'.1 g).symm)
 cases r with
 | pr b =>
  have j:(σ.ext i [.pr b]).H=σ.H:=by
   funext n s a c
   exact propext ⟨λ⟨v,g,k⟩=>⟨v,(I5.1 g).resolve_right λe=>by simp at e,k⟩,λ⟨v,g,k⟩=>⟨v,f.held g,k⟩⟩
  refine⟨q,?_,h.w1,λa s c g=>⟨(h.w2 a s c g).1,?_⟩,λa s c g=>mC (h.w3 a s c g) (B _),o⟩
  .rw[j,Qp];exact h.rY.an d
  .rw[j,Qp];exact(h.w2 a s c g).2.up d
 | vt v =>
  obtain⟨z,C⟩:=F v rfl;have I:v.bn=(v.bn.toNat:Int):=by have:=z.1;omega
  have j:(σ.ext i [.vt v]).H=ga σ.H i v.bn.toNat v.b.key v.w:=by
   funext n s a c
   refine propext ⟨λ⟨u,g,G,x,y⟩=>?_,λg=>?_⟩
   .rcases I5.1 g with g|⟨g1,g2⟩
    .exact .inl ⟨u,g,G,x,y⟩
    .have e:u=v:=Rk.vt.inj (D'.1 g2);subst e;exact .inr ⟨g1,by omega,x.symm,y.symm⟩
   .rcases g with⟨u,g,k⟩|⟨rfl,rfl,rfl,rfl⟩
    .exact⟨u,f.held g,k⟩
    .exact⟨v,I5.2 (.inr ⟨rfl,D'.2 rfl⟩),I,rfl,rfl⟩
  refine⟨q,?_,h.w1,λa s c g=>⟨(h.w2 a s c g).1,?_⟩,λa s c g=>mC (h.w3 a s c g) (B _),o⟩
  .rw[j,Qp];refine h.rY.bN d (by have:=z.2.1.pos;show 0<v.b.key;omega) (h.w2 _ _ _ C).2 λm J ⟨u,g,G,x,y⟩=>?_;have E:=h.hv m u g;have e:u.b=v.b:=DN E.1.2.1.pr z.2.1.pr x;have A:=E.2;rw[e,show u.bn.toNat=v.bn.toNat by omega,y]at A
   exact h.w1 _ _ _ _ A C
  .rw[j,Qp];exact(h.w2 a s c g).2.bN d
theorem cH(σ:Gs)(i:Nat)(r:Rk)(a:List Rk):(σ.ext i [r]).ext i a=σ.ext i (r::a):=by unfold Gs.ext;simp only[Dd,UU,mm,List.singleton_append]
theorem GsI.ext(h:GsI σ){i:Nat}(a:List Rk)(b:AQ (σ.dr i++a))(c:∀ v,Rk.vt v∈a->σ.rj v):GsI (σ.ext i a):=by
 induction a generalizing σ with
 | nil =>
  have:σ.ext i []=σ:=by unfold Gs.ext;rw[mI,GJ]
  rw[this];exact h
 | cons r a ih =>
  rw[<- cH];have d:AQ (σ.dr i++[r]):=b.pre ⟨a,by simp⟩;refine ih (h.sV d.last λv e=>c v (by rw[e];exact M')) ?_ λv g=>(OZ σ i [r]).le.rj (c v (I' _ g));rw[H7,mm];exact b
structure PrmOk(dr:List Rk)(b:Bal)(vs:List Vt):Prop where
 le:b.key<=(B1 dr).p.key
 sub:∀ v∈vs,Rk.vt v∈dr/\v.b.key<=b.key
 td:∀ v,Rk.vt v∈dr->v.b.key<b.key->∃ u∈vs,u.bn=v.bn/\v.b.key<=u.b.key
 acc:Ag ⟨b,vs⟩
theorem PrmOk.mono(h:PrmOk dr b vs)(e:dr <+: rs)(d:AQ rs):PrmOk rs b vs:=by
 obtain⟨x,rfl⟩:=e;have c:=DH d;refine⟨mC h.le c.1,λv hv=>⟨mn _ (h.sub v hv).1,(h.sub v hv).2⟩,λv hv a=>?_,h.acc⟩;rcases Q'.1 hv with hv|hv
 .exact h.td v hv a
 .have:=c.2 v hv;have:=h.le;omega
theorem PrmOk.of(c:AQ rs){b:Bal}{d:List Vt}(e:(B1 rs).p=b)(a:(B1 rs).vs=d):PrmOk rs b d:=by
 subst e a;exact⟨mf _,λv a=>⟨IQ c v a,c.acc.le a⟩,λv a _=>(Rh c v a).2,c.acc⟩
structure RdI(σ:Gs)(i:Nat)(r:Rnd):Prop where
 fv:r.fv=Be\/(Ab r.fv/\r.fv.n=(i:Int))
 next:∀ s c,σ.W r.fv s c->s<r.next
 own:∀ j,j<5->r.nn j=true->r.fv.key<=σ.P i
 al:∀ j,j<5->∀ v∈(r.al j).vs,σ.held j v/\v.b.key<=r.fv.key/\(r.nn j=false->v.b=r.fv)
 prom:∀ j,j<5->r.nn j=true->r.fv.key<=σ.P j/\∀ v,σ.held j v->v.b.key<r.fv.key->∃ u∈(r.al j).vs,u.bn=v.bn/\v.b.key<=u.b.key
 acc:∀ j,j<5->Ag (r.al j)/\(r.nn j=true->(r.al j).p=r.fv)
def PnI(σ:Gs)(rs:List Rk)(r:Rnd):Pend->Prop
 | .began b vs=>PrmOk rs b vs/\b.key<=r.fv.key
 | .prom _ b vs=>PrmOk rs b vs/\b.key<=σ.P b.n.toNat
 | .voted _ v=>Rk.vt v∈rs
 | .prop v=>Rk.vt v∈rs
 | .ew _ b=>Ao b/\b.key<=(B1 rs).p.key
 | _=>True
structure UpI(σ:Gs)(i:Nat)(p:Nod)(rs:List Rk):Prop where
 tp:TpU p (σ.dr i) rs
 rj:∀ v,Rk.vt v∈rs->σ.rj v
 rd:RdI σ i p.av
 bp:p.av.fv.key<=p.vo.p.key
 pe:∀ q∈p.br,PnI σ rs p.av q
def AgL(σ:Gs)(l:List Cmd)(k:Nat):Prop:=∀ s c,l[s]?=some c->σ.sa (k+s) c
structure NdI(σ:Gs)(i:Nat)(p:Nod):Prop where
 up:p.up=true->∃ rs,UpI σ i p rs
 dn:p.up=false->TpD p (σ.dr i)
 ag:AgL σ p.ae 0
structure LtI(σ:Gs)(l:Let):Prop where
 k0:l.kind=0->l.fv.key<=σ.P l.fv.n.toNat
 k1:l.kind=1->PrmOk (σ.dr l.src) l.fv l.ic/\l.fv.key<=σ.P l.fv.n.toNat/\AgL σ l.fm 0
 k2:l.kind=2->Ao l.fv/\l.fv.key<=σ.P l.src
 k3:l.kind=3->σ.rj l.bN
 k4:l.kind=4->σ.held l.src l.bN
 k5:l.kind=5->AgL σ l.fm l.bn
structure AgI(σ:Gs)(M:Meet):Prop where
 gs:GsI σ
 nd:∀ i,i<5->NdI σ i (M.ab i)
 lt:∀ l∈M.bm,LtI σ l
theorem AgL.mono(h:σ.le τ){l:List Cmd}{k:Nat}(g:AgL σ l k):AgL τ l k:=λs c e=>h.sa (g s c e)
theorem RdI.mono(h:σ.le τ)(f:GsI τ){i:Nat}{r:Rnd}(g:RdI σ i r)(m:∀ s c,τ.W r.fv s c->s<r.next):RdI τ i r:=by
 refine⟨g.fv,m,λj a d=>mC (g.own j a d) (h.P f i),λj a v e=>⟨h.held (g.al j a v e).1,(g.al j a v e).2⟩,λj a d=>⟨mC (g.prom j a d).1 (h.P f j),λv e k=>?_⟩,g.acc⟩;obtain⟨x,n⟩:=h.pre j;have l:=f.ok j;have hv':Rk.vt v∈τ.dr j:=e;rw[<- n]at l hv'
 rcases Q'.1 hv' with hv'|hv'
 .exact(g.prom j a d).2 v hv' k
 .have h1:=(DH l).2 v hv';have o:=(g.prom j a d).1;have p:σ.P j<=v.b.key:=h1;omega
theorem PnI.mono(h:σ.le τ)(f:GsI τ){e a:List Rk}(c:e <+: a)(d:AQ a){r r':Rnd}(i:r.fv.key<=r'.fv.key){q:Pend}(g:PnI σ e r q):PnI τ a r' q:=by
 cases q with
 | began b vs=>exact⟨g.1.mono c d,mC g.2 i⟩
 | prom to b vs=>exact⟨g.1.mono c d,mC g.2 (h.P f _)⟩
 | voted to v=>exact c.subset g
 | prop v=>exact c.subset g
 | ew to b=>obtain⟨x,rfl⟩:=c;exact⟨g.1,mC g.2 (DH d).1⟩
 | _=>trivial
theorem NdI.mono(h:Gs.sf i σ τ)(a:GsI τ)(n:GsI σ)(d:j≠i){p:Nod}(g:NdI σ j p):NdI τ j p:=by
 have e:=h.tm j d;refine⟨λl=>?_,λb=>by rw[e];exact g.dn b,g.ag.mono h.le⟩;obtain⟨o,k⟩:=g.up l;refine⟨o,by rw[e];exact k.tp,λv m=>h.le.rj (k.rj v m),k.rd.mono h.le a λs c hW=>?_,k.bp,λq f=>(k.pe q f).mono h.le a (mi _) k.tp.ok (mf _)⟩;rcases h.new _ _ _ hW with hW|hW
 .exact k.rd.next s c hW
 .rcases k.rd.fv with hb|⟨_,hb⟩
  .have:=(a.w2 _ _ _ ‹_›).1;rw[hb]at this
   exact absurd this (by decide)
  .rw[hb]at hW;omega
theorem LtI.mono(h:σ.le τ)(a:GsI τ){l:Let}(g:LtI σ l):LtI τ l :=
 ⟨λe=>mC (g.k0 e) (h.P a _),λe=>⟨(g.k1 e).1.mono (h.pre _) (a.ok _),mC (g.k1 e).2.1 (h.P a _),(g.k1 e).2.2.mono h⟩,λe=>⟨(g.k2 e).1,mC (g.k2 e).2 (h.P a _)⟩,λe=>h.rj (g.k3 e),λe=>h.held (g.k4 e),λe=>(g.k5 e).mono h⟩
theorem AgI.set{M:Meet}(h:AgI σ M){i:Nat}(b:Gs.sf i σ τ)(a:GsI τ){p:Nod}(g:NdI τ i p){ls:List Let}(d:∀ l∈ls,l∈M.bm\/LtI τ l)(ts:List Tol):AgI τ (M.set i p ls ts) :=
 ⟨a,λj c=>by
  show NdI τ j (upN M.ab i p j);unfold upN;split
  .rename_i e;rw[e];exact g
  .rename_i e;exact(h.nd j c).mono b a h.gs e,λl f=>(d l f).elim (λk=>(h.lt l k).mono b.le a) id⟩
theorem Ua{r:Rnd}(h:∀ j,j<5->∀ v∈(r.al j).vs,σ.held j v){s:Nat}(a:CZ r.gC (s:Int)=0):σ.sa s (CR r.gC (s:Int)):=by
 have k:CR r.gC (s:Int)=((Hj (D2 r.gC (s:Int)) r.gC.length).map (·.w)).getD ⟨0,0,0,0,0⟩:=if_pos a;unfold CZ at a;split at a
 .cases a
 .split at a
  .cases a
  .rename_i d
   have d:=mh.1 d;split at a
   .rename_i hO
    obtain⟨v,g⟩:=nm.1 hO;rw[k,g];have m:=qr g;have i:5<2*BK (D2 r.gC (s:Int)) v:=mN m;have e:D2 r.gC (s:Int)=Ae (r.al 0).vs (s:Int)++(Ae (r.al 1).vs (s:Int)++(Ae (r.al 2).vs (s:Int)++(Ae (r.al 3).vs (s:Int)++Ae (r.al 4).vs (s:Int)))):=by
     unfold D2 Rnd.gC Ae;simp[List.filter_append]
    rw[e,C1,C1,C1,C1]at i
    have c:∀ j,j<5->BL (r.al j).vs:=λj l=>(d (r.al j) (by unfold Rnd.gC;rcases qk l with rfl|rfl|rfl|rfl|rfl<;>simp)).2.2;have o:=IG (c 0 (by omega)) (s:Int) v;have p:=IG (c 1 (by omega)) (s:Int) v;have t:=IG (c 2 (by omega)) (s:Int) v;have u:=IG (c 3 (by omega)) (s:Int) v;have x:=IG (c 4 (by omega)) (s:Int) v;refine⟨v.b.key,λq=>decide (v∈(r.al q).vs/\v.bn=(s:Int)),?_,λq n f=>?_⟩
    .show 3<=(decide (v∈(r.al 0).vs/\v.bn=(s:Int))).toNat+(decide (v∈(r.al 1).vs/\v.bn=(s:Int))).toNat+(decide (v∈(r.al 2).vs/\v.bn=(s:Int))).toNat+(decide (v∈(r.al 3).vs/\v.bn=(s:Int))).toNat+(decide (v∈(r.al 4).vs/\v.bn=(s:Int))).toNat;omega
    .obtain⟨h1,h2⟩:=mN f;exact⟨v,h q n v h1,h2,rfl,rfl⟩
   .cases a
theorem AgL.snoc(h:AgL σ l 0){c:Cmd}(a:σ.sa l.length c):AgL σ (l++[c]) 0:=λs d e=>by
 rcases mZ s l.length with g|g
 .rw[mt g]at e;exact h s d e
 .have:=(V'.1 e).1;rw[E',mQ]at this
  obtain rfl:s=l.length:=by omega
  rw[my (A' _)]at e
  simp at e;subst e;rw[mU];exact a
theorem U6{r:Rnd}(h:∀ j,j<5->∀ v∈(r.al j).vs,σ.held j v)(k:Nat){l:List Cmd}(a:AgL σ l 0):AgL σ (FG k r l) 0:=by
 induction k generalizing l with
 | zero=>exact a
 | succ k ih =>
  rw[FG];split
  .rename_i he;exact ih (a.snoc (Ua h he))
  .exact a
theorem Q7{b:List Cmd}{a:Nat}(d:AgL σ l 0)(f:AgL σ b a)(h:a<=l.length):AgL σ (l++b.drop (l.length-a)) 0:=λs c e=>by
 rcases mZ s l.length with g|g
 .rw[mt g]at e;exact d s c e
 .rw[my g,ng]at e
  have:=f _ c e
  rwa [show a+(l.length-a+(s-l.length))=0+s by omega]at this
theorem VJ(a:Acc)(l:List Vt):∀ v∈(Dh a l).vs,v∈a.vs\/v∈l:=by
 induction l generalizing a with
 | nil=>exact λv b=>.inl b
 | cons u l ih =>
  intro v b;rw[Dh]at b
  rcases ih _ v b with h|h
  .by_cases he:Ba a u=0
   .rw[if_pos he]at h
    have h:v∈Br a u:=h;rw[(DM he).2]at h
    rcases(BB (Ap he).1.2.2).1 h with rfl|⟨h,_⟩
    .exact .inr M'
    .exact .inl h
   .rw[if_neg he]at h;exact .inl h
  .exact .inr (I' _ h)
theorem VI(a:Acc)(l:List Vt):∀ u∈a.vs,∃ x∈(Dh a l).vs,x.bn=u.bn/\u.b.key<=x.b.key:=by
 induction l generalizing a with
 | nil=>exact λu d=>⟨u,d,rfl,mf _⟩
 | cons w l ih =>
  intro u d;rw[Dh];by_cases c:Ba a w=0
  .rw[if_pos c];obtain⟨x,e,f,g⟩:=LF (Ap c).1 c d;obtain⟨y,h,i,j⟩:=ih ⟨BI a w,Br a w⟩ x (by show x∈Br a w;rw[(DM c).2];exact e);exact⟨y,h,i.trans f,mC g j⟩
  .rw[if_neg c];exact ih a u d
theorem VH(a:Acc)(l:List Vt)(c:Ag a)(g:a.p=b)(h:∀ v∈l,v.b.key<=b.key):Ag (Dh a l)/\(Dh a l).p=b:=by
 induction l generalizing a with
 | nil=>exact⟨c,g⟩
 | cons u l ih =>
  rw[Dh];by_cases d:Ba a u=0
  .rw[if_pos d];have f:=Ap d;have e:u.b=b:=by
    have k:=Bp f.2.1.2.1.pr c.1 f.2.2;have m:=h u M';rw[g]at k
    exact DN f.2.1.2.1.pr (g▸c.1) (by omega)
   have j:(⟨BI a u,Br a u⟩:Acc)=⟨u.b,Bo a.vs u⟩:=by rw[(DM d).1,(DM d).2]
   rw[j];exact ih _ (c.sC f.2.1 f.2.2) e λv i=>h v (I' _ i)
  .rw[if_neg d];exact ih a c g λv i=>h v (I' _ i)
theorem RdI.qQ{r:Rnd}(h:RdI σ i r){j:Nat}{vs:List Vt}(f:PrmOk (σ.dr j) r.fv vs)(s:r.fv.key<=σ.P i):RdI σ i (r.qQ j vs):=by
 refine⟨h.fv,h.next,λ_ _ _=>s,λk c v a=>?_,λk c n=>?_,λk c=>?_⟩
 rotate_right
 .show Ag (upN r.al j (Dh ⟨r.fv,vs⟩ (r.al j).vs) k)/\(upN r.nn j true k=true->(upN r.al j (Dh ⟨r.fv,vs⟩ (r.al j).vs) k).p=r.fv);unfold upN;split
  .rename_i e;subst e
   have:=VH (b:=r.fv) ⟨r.fv,vs⟩ (r.al k).vs f.acc rfl λv a=>(h.al k c v a).2.1;exact⟨this.1,λ_=>this.2⟩
  .exact h.acc k c
 .have a:v∈(upN r.al j (Dh ⟨r.fv,vs⟩ (r.al j).vs) k).vs:=a;by_cases e:k=j
  .subst e;rw[Dd]at a
   rcases VJ _ _ v a with g|g
   .exact⟨(f.sub v g).1,(f.sub v g).2,λe=>by rw[show(r.qQ k vs).nn k=true from Dd _ _ _]at e;cases e⟩
   .have:=h.al k c v g;exact⟨this.1,this.2.1,λe=>by rw[show(r.qQ k vs).nn k=true from Dd _ _ _]at e;cases e⟩
  .rw[Dz _ _ e]at a
   have:=h.al k c v a;exact⟨this.1,this.2.1,λo=>this.2.2 (by rwa [show(r.qQ j vs).nn k=r.nn k from Dz _ _ e]at o)⟩
 .by_cases e:k=j
  .subst e;refine⟨f.le,λv a d=>?_⟩;obtain⟨u,l,m,q⟩:=f.td v a d;obtain⟨x,t,w,y⟩:=VI ⟨r.fv,vs⟩ (r.al k).vs u l;exact⟨x,by show x∈(upN r.al k _ k).vs;rw[Dd];exact t,w.trans m,mC q y⟩
  .rw[show(r.qQ j vs).nn k=r.nn k from Dz _ _ e]at n
   have:=h.prom k c n;exact⟨this.1,λv a d=>by
    obtain⟨u,l,m⟩:=this.2 v a d;exact⟨u,by show u∈(upN r.al j _ k).vs;rw[Dz _ _ e];exact l,m⟩⟩
theorem RdI.count{r:Rnd}(h:RdI σ i r){j:Nat}{v:Vt}(l:v.b=r.fv)(f:Ba (r.al j) v=0)(o:σ.held j v):RdI σ i { r with al:=upN r.al j ⟨BI (r.al j) v,Br (r.al j) v⟩ }:=by
 have d:=Ap f;have g:Br (r.al j) v=Bo (r.al j).vs v:=(DM f).2;refine⟨h.fv,h.next,h.own,λk c u a=>?_,λk c n=>⟨(h.prom k c n).1,λu a m=>?_⟩,λk c=>?_⟩
 rotate_right
 .show Ag (upN r.al j ⟨BI (r.al j) v,Br (r.al j) v⟩ k)/\(r.nn k=true->(upN r.al j ⟨BI (r.al j) v,Br (r.al j) v⟩ k).p=r.fv);unfold upN;split
  .rw[(DM f).1,g];exact⟨d.1.sC d.2.1 d.2.2,λ_=>l⟩
  .exact h.acc k c
 .have a:u∈(upN r.al j ⟨BI (r.al j) v,Br (r.al j) v⟩ k).vs:=a;by_cases e:k=j
  .subst e;rw[Dd]at a
   have a:u∈Br (r.al k) v:=a;rw[g]at a
   rcases(BB d.1.2.2).1 a with rfl|⟨a,_⟩
   .exact⟨o,by rw[l];exact mf _,λ_=>l⟩
   .exact h.al k c u a
  .rw[Dz _ _ e]at a;exact h.al k c u a
 .obtain⟨x,h1,h2,h3⟩:=(h.prom k c n).2 u a m;by_cases e:k=j
  .subst e;obtain⟨y,q,s,t⟩:=LF d.1 f h1;exact⟨y,by show y∈(upN r.al k _ k).vs;rw[Dd];show y∈Br (r.al k) v;rw[g];exact q,s.trans h2,mC h3 t⟩
  .exact⟨x,by show x∈(upN r.al j _ k).vs;rw[Dz _ _ e];exact h1,h2,h3⟩
theorem UpI.jv{q:Nod}(h:UpI σ i p rs)(b:q.d=p.d)(j:q.sy=p.sy)(c:q.vo=p.vo)(f:RdI σ i q.av)(a:q.av.fv=p.av.fv)(e:∀ x∈q.br,x∈p.br\/PnI σ rs q.av x):UpI σ i q rs :=
 ⟨⟨h.tp.ok,h.tp.pre,b.trans h.tp.d,j.trans h.tp.sy,c.trans h.tp.vo,by rw[b];exact h.tp.len⟩,h.rj,f,by rw[a,c];exact h.bp,λx k=>(e x k).elim (λg=>by
  have:=h.pe x g;cases x<;>first|exact this|exact trivial|(refine⟨this.1,?_⟩;first|exact this.2|(rw[a];exact this.2))) id⟩
theorem UpI.count(h:UpI σ i p rs)(a:AgL σ p.ae 0){j:Nat}{v:Vt}(d:σ.held j v):UpI σ i (p.count j v) rs/\AgL σ (p.count j v).ae 0:=by
 unfold Nod.count;split
 .exact⟨h,a⟩
 .rename_i b
  have b:=mh.1 b;split
  .exact⟨h,a⟩
  .rename_i he
   have c:=h.rd.count b (mh.1 he) d;exact⟨h.jv rfl rfl rfl c rfl λx g=>.inl g,U6 (λj e v f=>(c.al j e v f).1) 41 a⟩
end
end
end Go.Proofs.YtdjfdfpkkenjbacGreatDoor
