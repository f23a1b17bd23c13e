/- Part 15 of the walk. -/
import Derived.Lib.AppendZeros
import Derived.Test.YtdjfdfpkkenjbadGreatDoorZ14
set_option maxRecDepth 100000
set_option maxHeartbeats 4000000
open Go.Proofs.Tryz
set_option linter.unusedVariables false
namespace Go.Proofs.YtdjfdfpkkenjbadGreatDoor
section
def I64(n:Int):Prop:=-9223372036854775808<=n/\n<=9223372036854775807
end
section
open Go.RowKit
section
variable{B b i j off sz:Nat}{L:List Lac}{M:Meet}{P:Program}{T:List Tg}{W w w' w0:World}{a:Lac}{c k s tc tr tu v:Int}{e:TypeId}{g g':Gh}{l:List (Lac × S3)}{ly tv x y:S3}{ys:Nat->S3}{α:Type}
theorem tbA(h:Tabs w0)(C:Cg w0.heap.size TQ gS w0 g w):Tabs w:=⟨h.t.af (CgQ.af C),h.n.af (CgQ.af C),h.q.af h.q.pos (CgQ.af C)⟩
def Vh(w:World):Prop:=Tabs w/\LWTab w/\LBTab w
theorem tb5(h:Vh w0)(C:Cg w0.heap.size TQ gS w0 g w):Vh w:=⟨tbA h.1 C,h.2.1.af (CgQ.af C),h.2.2.af (CgQ.af C)⟩
theorem Ui{f:α->List Value}(d:∀ a,(f a).length=sz)(l:List α){i j:Nat}{a:α}{u:Value}(b:l[i]?=some a)(e:(f a)[j]?=some u):(l.flatMap f)[sz*i+j]?=some u:=by
 have g:j<sz:=by rw[<- d a];exact(V'.1 e).1
 induction l generalizing i with
 | nil=>cases b
 | cons c l ih =>
  rw[oh];cases i with
  | zero =>
   simp only[nu,X']at b;subst b;rw[mr (by rw[d];omega),Nat.mul_zero,mR];exact e
  | succ i =>
   rw[mw (by rw[d,Nat.mul_succ];omega),d,show sz*(i+1)+j-sz=sz*i+j by rw[Nat.mul_succ];omega];exact ih (by simpa using b)
theorem Qj{f:α->List Value}(b:∀ a,(f a).length=sz)(l:List α):(l.flatMap f).length=l.length*sz:=by
 induction l with
 | nil=>simp
 | cons c l ih=>rw[oh,H',b,ih,mI,po];omega
theorem gk{l:List Cmd}(h:RdV w x 5 (cmL l)):x.n=l.length:=h.rc.len
def acV(l:List (Lac × S3)):List Value:=l.flatMap λp=>laV p.1 p.2.v
theorem Gc(l:List (Lac × S3))(x:Lac)(y:S3):acV (l++[(x,y)])=acV l++laV x y.v:=by simp[acV]
theorem Il(l:List (Lac × S3)):(acV l).length=l.length*5:=Qj (f:=λp:Lac × S3=>laV p.1 p.2.v) (λ_=>rfl) l
theorem TL(l:List (Lac × S3)):∀ u∈acV l,u.oneCell'=true:=by
 intro u b;obtain⟨p,_,a⟩:=oQ.1 b;simp[laV]at a
 rcases a with rfl|rfl|rfl|rfl|rfl<;>rfl
def Dat(g:Gh)(w:World)(l:List (Lac × S3)):Prop:=∀ p∈l,FSl g w p.2 p.1.d
theorem Dat.ch(h:Dat g w l)(c:Cg B T g w g' w')(b:Tg.z∉T:=by simp):Dat g' w' l:=λp a=>(h p a).ch c b
theorem Dat.snoc(h:Dat g w l){x:Lac}{y:S3}(k:FSl g w y x.d):Dat g w (l++[(x,y)]):=λp a=>(Q'.1 a).elim (h p) λe=>by rw[D'.1 e];exact k
theorem Dat.app{m:List (Lac × S3)}(h:Dat g w l)(k:Dat g w m):Dat g w (l++m):=λp a=>(Q'.1 a).elim (h p) (k p)
def Fa.ac(x:S3)(l:List (Lac × S3)):Fa:=⟨none,λg w=>FzV g w x 5 (acV l)/\Dat g w l,λhz _ c h=>⟨h.1.ch c hz,h.2.ch c hz⟩⟩
def Fa.oa(r:Nat)(x:S3)(l:List (Lac × S3)):Fa:=⟨some r,λg w=>OwnS g w (.n 60 r) true 36 5 x (acV l)/\Dat g w l,λhz hr c h=>⟨h.1.ch c (hr r rfl) (by simp),h.2.ch c hz⟩⟩
def Fa.dt(l:List (Lac × S3)):Fa:=⟨none,λg w=>Dat g w l,λhz _ c h=>h.ch c hz⟩
structure AcR(w:World)(x:S3)(L:List Lac)(l:List (Lac × S3)):Prop where
 e:l.map (·.1)=L
 r:RdV w x 5 (acV l)
 d:∀ p∈l,Sl w p.2.v p.1.d
theorem AcR.of(h:(Fa.ac x l).p g w){L:List Lac}(e:l.map (·.1)=L):AcR w x L l:=⟨e,h.1.rd,λp a=>(h.2 p a).s⟩
theorem AcR.oo{r:Nat}(h:(Fa.oa r x l).p g w){L:List Lac}(e:l.map (·.1)=L):AcR w x L l:=⟨e,h.1.rv,λp a=>(h.2 p a).s⟩
theorem AcR.n(h:AcR w x L l):x.n=L.length:=by
 have:=h.r.len;rw[Il]at this
 rw[<- h.e,mD];omega
theorem AcR.sk(h:AcR w x L l)(q:L.length<=1000000):Sk w x.v (laF L) L.length:=by
 have o:=h.n;refine⟨⟨x.a,x.c,by rw[<- o],?_⟩,by omega⟩;rcases h.r.ex with h1|⟨b,off,h1,h2,h3⟩
 .exact .inl (by omega)
 .refine .inr ⟨b,off,h1,h2,λi k=>?_⟩;have g:i<l.length:=by rw[<- h.e,mD]at k;exact k
  refine⟨l[i].2.v,λj u m=>?_,?_⟩
  .rw[m9];refine h3 _ u (Ui (f:=λp:Lac × S3=>laV p.1 p.2.v) (λ_=>rfl) l (G' g) ?_);have:laF L i=l[i].1:=by rw[OW k];simp[<- h.e]
   rw[this]at m;exact m
  .have:laF L i=l[i].1:=by rw[OW k];simp[<- h.e]
   rw[this];exact h.d _ (mN g)
theorem AcR.spot(h:AcR w x L l){i:Nat}{a:Lac}(g:L[i]?=some a):∃ b off y,x.a=some ⟨b,off,none⟩/\w.rangeAt b (off+5*i) (laV a (S3.v y))/\Sl w y.v a.d/\i<x.n:=by
 have t:=h.n;have k:=(V'.1 g).1;have c:i<l.length:=by rw[<- h.e,mD]at k;exact k
 have e:l[i].1=a:=by
  have:=(V'.1 g).2;rw[<- this];simp[<- h.e]
 obtain⟨b,off,m,s,o⟩:=h.r.spot (i:=i) (by omega);refine⟨b,off,l[i].2,m,λj u q=>?_,?_,by omega⟩
 .refine o j u (Ui (f:=λp:Lac × S3=>laV p.1 p.2.v) (λ_=>rfl) l (G' c) ?_);rw[e];exact q
 .rw[<- e];exact h.d _ (mN c)
theorem Xh(L:List Lac):Jj (laF L) L.length=L:=by
 apply oE
 .simp[Jj]
 .intro i h1 h2;simp[Jj,OW h2]
def Meet.log(M:Meet)(j:Nat):List Cmd:=(M.ab j).ae.take (M.ab j).done
structure OutF(g:Gh)(w:World)(ly tv:S3)(ys:Nat->S3)(M:Meet):Prop where
 ri:FzV g w ly 1 [S3.v (ys 0),S3.v (ys 1),S3.v (ys 2),S3.v (ys 3),S3.v (ys 4)]
 log:∀ j,j<5->FzV g w (ys j) 5 (cmL (M.log j))
 fa:FzV g w tv 5 (M.fa.flatMap FT)
theorem OutF.ch(h:OutF g w ly tv ys M)(c:Cg B T g w g' w')(a:Tg.z∉T:=by simp):OutF g' w' ly tv ys M:=⟨h.ri.ch c a,λj b=>(h.log j b).ch c a,h.fa.ch c a⟩
def Fa.ot(ly tv:S3)(ys:Nat->S3)(M:Meet):Fa:=⟨none,λg w=>OutF g w ly tv ys M,λhz _ c h=>h.ch c hz⟩
theorem UA(h:OutW w M ly tv ys)(n:OutN B M ly tv ys)(G:∀ b,B<=b->g.t b=.z):OutF g w ly tv ys M :=
 ⟨⟨h.ri,λ_ a c=>G _ (n.ri a c)⟩,λj e=>⟨(h.log j e).rv,λd a c=>G _ (n.log j e d a c)⟩,⟨h.fa,λd a c=>G _ (n.fa d a c)⟩⟩
theorem OutW.n5(h:OutW w M ly tv ys):ly.n=5:=by have:=h.ri.len;simp at this;omega
def rnP(l:List Lac):List (Lac × S3):=l.map λa=>(a,s30)
theorem dS(l:List Lac):(rnP l).map (·.1)=l:=by simp[rnP,Function.comp_def]
theorem Pq(g:Gh)(w:World){l:List Lac}(h:∀ a∈l,a.d=[]):Dat g w (rnP l):=by
 intro p c;obtain⟨a,b,rfl⟩:=mz.1 c;show FSl g w s30 a.d;rw[h a b];exact V6 g w
theorem IN(l:List Lac)(a:Lac):rnP (l++[a])=rnP l++[(a,s30)]:=by simp[rnP]
theorem UI(l m:List Lac):rnP (l++m)=rnP l++rnP m:=by simp[rnP]
theorem IM(l:List Lac):(rnP l).length=l.length:=by simp[rnP]
theorem Hz(m:Nat):(Am m).length=6*m:=by
 induction m with
 | zero=>rfl
 | succ m ih=>rw[Am,H',ih];show _+6=_;omega
def AC(k:Int)(j:Nat):List Lac:=(List.range j).map λn:Nat=>acN k (n:Int)
theorem BR(k:Int)(j:Nat):AC k (j+1)=AC k j++[acN k (j:Int)]:=by simp[AC,List.range_succ]
theorem Y8(k:Int)(j:Nat):(AC k j).length=j:=by simp[AC]
theorem Ov{many:Nat}(h:RdV w x 5 (acV l))(P:∀ p∈l,Sl w p.2.v p.1.d)(hm:l.length+6*many<=1000000) :
  Calls prog 19 #[x.v,iv (many:Int)] w λe w'=>∃ y:S3,e=.returned y.v/\OwN w.heap.size w' 36 5 y (acV (l++rnP (Dp many)))/\Bw w w':=by
 have t:x.n=l.length:=by have:=h.len;rw[Il]at this;omega
 refine tIn [Fa.ac x l] func19 ⟨⟨h.fz,λp R=>⟨P p R,λ_ _ _=>rfl⟩⟩,trivial⟩ (tR 7 [] λV _ _=>fH 1 0 x (acV l) 33 33 36 5 56 zLa (λF=>F.1.1.rd) [Fa.dt l] (λF=>⟨F.1.2,trivial⟩) rfl (by simp[TQ]) (TL l) (by rw[t];unfold maxLen;omega) (by omega) λu _ _ n0=>tR 8 [] λW _ _=>EA 39 [(1,iv (many:Int)),(5,S3.v u),(6,iv 0)] [] [] [Fa.oa 0 u (l++rnP (AC 9 0))] (λo g f a=>∃ (j:Nat) (y:S3),o=5-j/\g=[(1,iv (many:Int)),(5,S3.v y),(6,iv (j:Int))]/\f=[]/\a=[Fa.oa 0 y (l++rnP (AC 9 j))]/\j<=5/\y.n=l.length+j) (5) ⟨0,u,rfl,rfl,rfl,rfl,by omega,by omega⟩ (λF=>⟨by rw[show rnP (AC 9 0)=[]from rfl,mG];exact⟨F.1,F.2.1⟩,trivial⟩) ?_);rintro k _ _ _ ⟨j,y,rfl,rfl,rfl,rfl,Q,m⟩ _ _ _ J O;refine tR 6 [] λX _ _=>?_;by_cases h1:j<5
 .refine tI ((decide ((j:Int)<5))) true (O' (by omega)) (tR 8 [0,0] λq _ _=>Ri 4 0 (x:=y) 33 33 36 5 56 zLa ⟨(q 0),0,none⟩ 1 1 [iv 9,iv (j:Int),iv 0,iv 0,sn] (λF=>F.1.1) [Fa.dt ((l++rnP (AC 9 j))++[(acN 9 (j:Int),s30)])] (λF=>⟨Dat.snoc F.1.2 (V6 _ _),trivial⟩) rfl (by simp[TQ]) rfl (by simp[Value.oneCell']) (λF K=>Dv K 0 (q 0) [iv 9,iv (j:Int),iv 0,iv 0,sn] 36 .z true (by kernel_rfl)) (by unfold maxLen;omega) (by omega) λU _ _ n6=>tR 5 [] λY _ _=>tV 1 (iv ((j:Int)+1)) (λF C=>(Bf 13 (j:Int) underlying3 (by omega))) (tR 2 [] λZ _ _=>tB O (5-(j+1)) (by omega) [false] ⟨j+1,U,rfl,rfl,rfl,rfl,by omega,by omega⟩ (λF=>by rw[BR,IN,<- ml];exact⟨⟨(by rw[Gc];exact F.1),F.2.1⟩,trivial⟩)))
 .refine tI ((decide ((j:Int)<5))) false (E' (by omega)) ?_;obtain rfl:j=5:=by omega
  refine tR 7 [] λa0 _ _=>EA 39 [(1,iv (many:Int)),(5,S3.v y),(7,iv 0)] [] [] [Fa.oa 0 y (l++rnP (Ax++Am 0))] (λo g f a=>∃ (i:Nat) (y:S3),o=many-i/\g=[(1,iv (many:Int)),(5,S3.v y),(7,iv (i:Int))]/\f=[]/\a=[Fa.oa 0 y (l++rnP (Ax++Am i))]/\i<=many/\y.n=l.length+(5+6*i)) (many) ⟨0,y,rfl,rfl,rfl,rfl,by omega,by omega⟩ (λF=>⟨F.1,trivial⟩) ?_;rintro k _ _ _ ⟨i,y,rfl,rfl,rfl,rfl,hi,m⟩ _ _ _ Jb r;refine tR 7 [] λD _ _=>?_;by_cases h2:i<many
  .refine tI ((decide ((i:Int)<(many:Int)))) true (O' (by omega)) (tR 9 [] λE _ _=>EA 39 [(1,iv (many:Int)),(5,S3.v y),(7,iv (i:Int)),(8,iv 0)] [] [] [Fa.oa 0 y (l++rnP (Ax++Am i++AC 3 0))] (λo g f a=>∃ (j:Nat) (y:S3),o=5-j/\g=[(1,iv (many:Int)),(5,S3.v y),(7,iv (i:Int)),(8,iv (j:Int))]/\f=[]/\a=[Fa.oa 0 y (l++rnP (Ax++Am i++AC 3 j))]/\j<=5/\y.n=l.length+(5+6*i+j)) (5) ⟨0,y,rfl,rfl,rfl,rfl,by omega,by omega⟩ (λF=>⟨by rw[show AC 3 0=[]from rfl,mG];exact F.1,trivial⟩) ?_);rintro k _ _ _ ⟨j,y,rfl,rfl,rfl,rfl,Q,m⟩ _ _ _ Jc s;refine tR 6 [] λG _ _=>?_;by_cases h3:j<5
   .refine tI ((decide ((j:Int)<5))) true (O' (by omega)) (tR 8 [0,0] λb _ _=>Ri 4 0 (x:=y) 33 33 36 5 56 zLa ⟨(b 0),0,none⟩ 1 1 [iv 3,iv (j:Int),iv 0,iv 0,sn] (λF=>F.1.1) [Fa.dt ((l++rnP (Ax++Am i++AC 3 j))++[(acN 3 (j:Int),s30)])] (λF=>⟨Dat.snoc F.1.2 (V6 _ _),trivial⟩) rfl (by simp[TQ]) rfl (by simp[Value.oneCell']) (λF K=>Dv K 0 (b 0) [iv 3,iv (j:Int),iv 0,iv 0,sn] 36 .z true (by kernel_rfl)) (by unfold maxLen;omega) (by omega) λA _ _ S=>tR 5 [] λH _ _=>tV 1 (iv ((j:Int)+1)) (λF C=>(Bf 27 (j:Int) underlying3 (by omega))) (tR 2 [] λI _ _=>tB s (5-(j+1)) (by omega) [false] ⟨j+1,A,rfl,rfl,rfl,rfl,by omega,by omega⟩ (λF=>by rw[BR,<- ml (Ax++Am i),IN,<- ml l];exact⟨⟨(by rw[Gc];exact F.1),F.2.1⟩,trivial⟩)))
   .refine tI ((decide ((j:Int)<5))) false (E' (by omega)) ?_;obtain rfl:j=5:=by omega
    refine tR 5 [0,0] λc _ _=>Ri 3 0 (x:=y) 33 33 36 5 56 zLa ⟨(c 0),0,none⟩ 1 1 [iv 7,iv 0,iv 0,iv 0,sn] (λF=>F.1.1) [Fa.dt ((l++rnP (Ax++Am i++AC 3 5))++[(acN 7 0,s30)])] (λF=>⟨Dat.snoc F.1.2 (V6 _ _),trivial⟩) rfl (by simp[TQ]) rfl (by simp[Value.oneCell']) (λF K=>Dv K 0 (c 0) [iv 7,iv 0,iv 0,iv 0,sn] 36 .z true (by kernel_rfl)) (by unfold maxLen;omega) (by omega) λB _ _ T=>tR 5 [] λL _ _=>tV 1 (iv ((i:Int)+1)) (λF C=>(Bf 23 (i:Int) underlying3 (by omega))) (tR 2 [] λM _ _=>tB r (many-(i+1)) (by omega) [false] ⟨i+1,B,rfl,rfl,rfl,rfl,by omega,by omega⟩ (λF=>by rw[show Ax++Am (i+1)=Ax++Am i++AC 3 5++[acN 7 0]by rw[Am,<- ml,ml _ (AC 3 5)];rfl,IN,<- ml l];exact⟨⟨(by rw[Gc];exact F.1),F.2.1⟩,trivial⟩))
  .refine tI ((decide ((i:Int)<(many:Int)))) false (E' (by omega)) ?_;obtain rfl:i=many:=by omega
   refine tR 6 [] λN _ _=>tX λF C=>qE (S3.v y) λ_=>⟨y,rfl,F.1.1.own C,CgQ.af C⟩
theorem Y7(k:Int)(j:Nat):∀ a∈AC k j,a.d=[]:=by
 intro a b;obtain⟨n,_,rfl⟩:=mz.1 b;rfl
theorem Yf(m:Nat):∀ a∈Am m,a.d=[]:=by
 induction m with
 | zero=>intro a b;cases b
 | succ m ih =>
  intro a b;rcases Q'.1 b with h|h
  .exact ih a h
  .rcases Q'.1 h with h|h
   .exact Y7 3 5 a h
   .rw[D'.1 h];rfl
theorem ZF(m:Nat):∀ a∈Dp m,a.d=[]:=by
 intro a b;rcases Q'.1 b with h|h
 .exact Y7 9 5 a h
 .exact Yf m a h
theorem G1(m:Nat):(Dp m).length=5+6*m:=by unfold Dp;rw[H',Hz];rfl
theorem lz(h:AcR w x L l)(g:x.a=some ⟨b,off,none⟩)(f:L[i]?=some a):w.cell? ⟨b,off+5*i,none⟩=some (iv a.k):=by
 obtain⟨j,d,y,c,e,_,_⟩:=h.spot f;rw[g]at c
 cases c;exact e 0 _ rfl
theorem VT(h:L[i]?=some a):Fj (L.take (i+1))=if hvy a then Fj (L.take i)+20 else Fj (L.take i):=by
 unfold Fj;rw[nS,h,nM];cases hh:hvy a<;>simp[hh];omega
theorem Uw(L:List Lac):Fj L<=100+20*L.length:=by
 unfold Fj;have:=oL hvy L;omega
theorem Yt(m:Nat)(n:Int):(Cv m n).length=11+6*m:=by unfold Cv;rw[H',H',G1,G1,mT];omega
theorem Tw{n:Int}(h:AcR w x L l)(hm:L.length<=2000) :
  Calls prog 7 #[x.v,iv n] w λe w'=>∃ y:S3,e=.returned y.v/\OwN w.heap.size w' 36 5 y (acV (l++rnP (EG L n)))/\Bw w w':=by
 have U:x.n=L.length:=h.n;have c4:l.length=L.length:=by rw[<- h.e,mD]
 refine tIn [Fa.ac x l] func7 ⟨⟨h.r.fz,λp hp=>⟨h.d p hp,λ_ _ _=>rfl⟩⟩,trivial⟩ (tR 14 [] λc6 _ _=>EA 44 [(0,S3.v x),(1,iv n),(5,iv 100),(6,iv 0)] [] [] [Fa.ac x l] (λV D B f=>∃ (i m:Nat),V=L.length-i/\D=[(0,S3.v x),(1,iv n),(5,iv (m:Int)),(6,iv (i:Int))]/\B=[]/\f=[Fa.ac x l]/\i<=L.length/\m=Fj (L.take i)) (L.length) ⟨0,100,rfl,rfl,rfl,rfl,by omega,rfl⟩ (λF=>⟨F.1,trivial⟩) ?_);rintro k _ _ _ ⟨i,m,rfl,rfl,rfl,rfl,hi,g⟩ _ _ _ J o;refine tR 8 [] λc7 _ _=>?_;by_cases h1:i<L.length
 .refine tI ((decide ((i:Int)<(x.n:Int)))) true (O' (by omega)) ?_;have s:=Uw (L.take i);rw[<- g,j']at s
  obtain⟨a,S⟩:∃ a,L[i]?=some a:=⟨_,G' (by omega)⟩;refine tF λF _=>?_;obtain⟨b,W,yd,I,_,_,hin⟩:=(AcR.of F.1 h.e).spot S;refine tR 7 [] λc8 _ _=>tV 2 (pt b (W+5*i)) (λF C=>(Zy (c:=x.c) I i hin)) (tR 1 [] λc9 _ _=>tV 4 (iv a.k) (λF C=>(D3 underlying3 rfl (lz (AcR.of F.1 h.e) I S))) (tR 1 [] λd0 _ _=>KE 44 (λD B f=>∃ (N:Nat),D=[(0,S3.v x),(1,iv n),(5,iv (N:Int)),(6,iv (i:Int))]/\B=[]/\f=[Fa.ac x l]/\N=(if hvy a then m+20 else m)) (λJ o=>?_) ?_))
  .refine tR 7 [] λd1 _ _=>?_;by_cases A:a.k=1
   .refine tI ((a.k==1)) true (by simpa using A) (tR 1 [] λd2 _ _=>tI ((a.k==1)) true (by simpa using A) (tR 2 [] λd3 _ _=>tV 1 (iv ((m:Int)+20)) (λF C=>(Mb (x:=(.tmp 25)) (y:=(.const (iv 20))) (m:Int) 20 underlying3 (by omega))) (tR 3 [] λd4 _ _=>tD o [] ⟨m+20,rfl,rfl,rfl,(if_pos (by simp[hvy,A])).symm⟩ (λF=>⟨F.1,trivial⟩))))
   .refine tI ((a.k==1)) false (by simpa using A) (tR 5 [] λa1 _ _=>?_);by_cases E:a.k=2
    .refine tI ((a.k==2)) true (by simpa using E) (tR 1 [] λa2 _ _=>tI ((a.k==2)) true (by simpa using E) (tR 2 [] λa3 _ _=>tV 1 (iv ((m:Int)+20)) (λF C=>(Mb (x:=(.tmp 25)) (y:=(.const (iv 20))) (m:Int) 20 underlying3 (by omega))) (tR 3 [] λa4 _ _=>tD o [] ⟨m+20,rfl,rfl,rfl,(if_pos (by simp[hvy,E])).symm⟩ (λF=>⟨F.1,trivial⟩))))
    .refine tI ((a.k==2)) false (by simpa using E) (tR 5 [] λa5 _ _=>?_);by_cases G:a.k=6
     .refine tI ((a.k==6)) true (by simpa using G) (tR 1 [] λa6 _ _=>tI ((a.k==6)) true (by simpa using G) (tR 2 [] λa7 _ _=>tV 1 (iv ((m:Int)+20)) (λF C=>(Mb (x:=(.tmp 25)) (y:=(.const (iv 20))) (m:Int) 20 underlying3 (by omega))) (tR 3 [] λa8 _ _=>tD o [] ⟨m+20,rfl,rfl,rfl,(if_pos (by simp[hvy,G])).symm⟩ (λF=>⟨F.1,trivial⟩))))
     .refine tI ((a.k==6)) false (by simpa using G) (tR 4 [] λa9 _ _=>?_);by_cases M:a.k=8
      .refine tI ((a.k==8)) true (by simpa using M) (tR 2 [] λb0 _ _=>tV 1 (iv ((m:Int)+20)) (λF C=>(Mb (x:=(.tmp 25)) (y:=(.const (iv 20))) (m:Int) 20 underlying3 (by omega))) (tR 3 [] λb1 _ _=>tD o [] ⟨m+20,rfl,rfl,rfl,(if_pos (by simp[hvy,M])).symm⟩ (λF=>⟨F.1,trivial⟩)))
      .refine tI ((a.k==8)) false (by simpa using M) (tR 2 [] λb2 _ _=>tD o [] ⟨m,rfl,rfl,rfl,(if_neg (by simp[hvy,A,E,G,M])).symm⟩ (λF=>⟨F.1,trivial⟩))
  rintro _ _ _ ⟨N,rfl,rfl,rfl,T⟩ _ _ _;refine tR 3 [] λb3 _ _=>tV 1 (iv ((i:Int)+1)) (λF C=>(Bf 13 (i:Int) underlying3 (by omega))) (tR 2 [] λb4 _ _=>tB o (L.length-(i+1)) (by omega) [] ⟨i+1,N,rfl,rfl,rfl,rfl,by omega,(by rw[T,VT S,<- g])⟩ (λF=>⟨F.1,trivial⟩))
 .refine tI ((decide ((i:Int)<(x.n:Int)))) false (E' (by omega)) ?_;rw[show L.take i=L from mo (by omega)]at g
  have s:=Uw L;rw[<- g]at s
  refine tR 4 [] λb5 _ _=>fH 1 0 x (acV l) 33 33 36 5 56 zLa (λF=>F.1.1.rd) [Fa.dt l] (λF=>⟨F.1.2,trivial⟩) rfl (by simp[TQ]) (TL l) (by rw[U];unfold maxLen;omega) (by omega) λZ _ _ n0=>tR 8 [] λb6 _ _=>EA 44 [(1,iv n),(5,iv (m:Int)),(7,S3.v Z),(8,iv 0)] [] [] [Fa.oa 0 Z (l++rnP [])] (λV D B f=>∃ (j:Nat) (y:S3) (Q:List Lac),V=2-j/\D=[(1,iv n),(5,iv (m:Int)),(7,S3.v y),(8,iv (j:Int))]/\B=[]/\f=[Fa.oa 0 y (l++rnP Q)]/\j<=2/\Q.length<=j*300000/\Q=(List.replicate j (Cv m n)).flatten) (2) ⟨0,Z,[],rfl,rfl,rfl,rfl,by omega,by simp,by simp⟩ (λF=>⟨by rw[show rnP []=[]from rfl,mG];exact⟨F.1,F.2.1⟩,trivial⟩) ?_;rintro k _ _ _ ⟨j,y,Q,rfl,rfl,rfl,rfl,hj,c3,hQ⟩ _ _ _ J o;refine tR 6 [] λb7 _ _=>?_;by_cases A:j<2
  .refine tI ((decide ((j:Int)<2))) true (O' (by omega)) (tR 6 [] λb8 _ _=>tG 1 [] 0 (λF C=>Ov (many:=0) (AcR.oo F.1 rfl).r (AcR.oo F.1 rfl).d (by rw[H',IM];omega)) λNz=>?_);rintro _ _ ⟨X,rfl,H,O⟩;have t:X.n=((l++rnP Q)++rnP (Dp 0)).length:=by have:=H.len;rw[Il]at this;omega
   simp only[H',IM,G1]at t;refine⟨_,[Fa.oa 0 X ((l++rnP Q)++rnP (Dp 0))],_,_,_,_,rfl,O,H,λ_=>⟨λF R _=>⟨⟨R,Dat.app F.1.2 (Pq _ _ (ZF _))⟩,trivial⟩,?_⟩⟩;refine tR 8 [0,0] λq _ _=>Ri 4 0 (x:=X) 33 33 36 5 56 zLa ⟨(q 0),0,none⟩ 1 1 [iv 2,iv n,iv 0,iv 0,sn] (λF=>F.1.1) [Fa.dt ((l++rnP Q++rnP (Dp 0))++[(acN 2 n,s30)])] (λF=>⟨Dat.snoc F.1.2 (V6 _ _),trivial⟩) rfl (by simp[TQ]) rfl (by simp[Value.oneCell']) (λF K=>Dv K 0 (q 0) [iv 2,iv n,iv 0,iv 0,sn] 36 .z true (by kernel_rfl)) (by unfold maxLen;omega) (by omega) λa0 _ _ c5=>tCv [Fa.oa 0 a0 (l++rnP (Q++Dp 0++[acN 2 n]))] (λF=>by rw[IN,UI,<- ml l,<- ml l];exact⟨⟨(by rw[Gc];exact F.1),F.2.1⟩,trivial⟩) (tR 5 [] λb9 _ _=>tG 2 [false] 0 (λF C=>Ov (many:=m) (AcR.oo F.1 rfl).r (AcR.oo F.1 rfl).d (by rw[H',IM,H',H',G1,mT];omega)) λNz=>?_);rintro _ _ ⟨Y,rfl,H,P⟩;have u:Y.n=((l++rnP (Q++Dp 0++[acN 2 n]))++rnP (Dp m)).length:=by have:=H.len;rw[Il]at this;omega
   simp only[H',IM,G1,mT]at u;refine⟨_,[Fa.oa 0 Y ((l++rnP (Q++Dp 0++[acN 2 n]))++rnP (Dp m))],_,_,_,_,rfl,P,H,λ_=>⟨λF R _=>⟨⟨R,Dat.app F.1.2 (Pq _ _ (ZF _))⟩,trivial⟩,?_⟩⟩;refine tR 5 [] λc0 _ _=>tV 1 (iv ((j:Int)+1)) (λF C=>(Bf 31 (j:Int) underlying3 (by omega))) (tR 2 [] λc1 _ _=>?_);exact tB o (2-(j+1)) (by omega) [] ⟨j+1,Y,Q++Cv m n,rfl,rfl,rfl,rfl,by omega,(by rw[H',Yt];omega),(by rw[hQ];rcases(show j=0\/j=1 by omega)with rfl|rfl<;>simp)⟩ (λF=>by rw[show Q++Cv m n=Q++Dp 0++[acN 2 n]++Dp m by simp[Cv,List.append_assoc],UI _ (Dp m),<- ml l];exact F)
  .refine tI ((decide ((j:Int)<2))) false (E' (by omega)) ?_;obtain rfl:j=2:=by omega
   refine tR 6 [] λc2 _ _=>?_;have hS:Q=EG L n:=by rw[hQ,g];simp[EG]
   rw[<- hS];exact tX λF C=>qE (S3.v y) λ_=>⟨y,rfl,F.1.1.own C,CgQ.af C⟩
theorem UB(h:OutF g w ly tv ys M):OutW w M ly tv ys:=⟨h.ri.rd,λj a=>(h.log j a).rd.rc,h.fa.rd⟩
theorem iL(h:Sk w x.v (laF L) L.length)(m:∀ a∈L,LacOk a)(l:L.length<=100000)(b:Vh w){M:Meet}(j:As.dT L=M) :
  Calls prog 20 #[x.v] w λe w'=>∃ (ly tv:S3) (ys:Nat->S3),e=.returned (.tuple #[.agg (IE M ly tv),iv 0])/\OutW w' M ly tv ys/\OutN w.heap.size M ly tv ys/\Bw w w':=by
 subst j;refine(dY h (λi c=>by rw[OW c];exact m _ (mN c)) l b.1 b.2.1 b.2.2).mono ?_;rw[Xh];rintro e w' ⟨k,ly,tv,ys,d,f,g⟩;exact⟨ly,tv,ys,d,f,g,k⟩
theorem iF(h:Sk w x.v (laF L) L.length)(y:∀ a∈L,LacOk a)(t:L.length<=100000)(s:Vh w){M:Meet}(r:As.dT L=M) :
  Calls prog 8 #[x.v] w λe w'=>∃ (ly tv:S3) (ys:Nat->S3),e=.returned (.tuple #[.agg (IE M ly tv),.bool true])/\OutW w' M ly tv ys/\OutN w.heap.size M ly tv ys/\Bw w w':=by
 refine tIn [] func8 trivial (tR 8 [1,0] λb _ _=>tF λ_ k=>?_);have d:=k.size;refine tC 1 (λF C=>iL (h.af (CgQ.af C)) y t (tb5 s C) r) λo=>?_;rintro _ _ ⟨ly,tv,ys,rfl,j,i,p⟩;refine⟨_,Fa.ot ly tv ys M::_,rfl,p,λF=>⟨UA j i o,F⟩,?_⟩;refine tR 14 [0,0,1,0,9,0,1,2,4,6,8] λf _ _=>KE 20 (λq m c=>∃ (_:Unit),q=[(2,pt (b 0) 0),(3,.bool ((ly.n:Int)==5))]/\m=[⟨(b 0),.cells (IE M ly tv) 42,.l,false⟩,⟨(f 0),.cells (IE M ly tv) 42,.z,false⟩]/\c=[Fa.ot ly tv ys M]) (λJ g=>?_) ?_
 .refine JH 5 9 ?_ ?_
  .refine tR 7 [1,12,14,16,19,0,0,20] λA _ _=>tD g [true,true] ⟨(),rfl,rfl,rfl⟩ (λF=>⟨F.1,trivial⟩)
  .refine tR 7 [0,0,11,1,12,14,16,20] λB _ _=>tD g [true,true] ⟨(),rfl,rfl,rfl⟩ (λF=>⟨F.1,trivial⟩)
 rintro _ _ _ ⟨_,rfl,rfl,rfl⟩ _ _ _;have u:(((ly.n:Nat):Int)==5)=true:=by rw[j.n5];rfl
 exact tX λF C=>qE2 2 3 42 0 (b 0) (IE M ly tv) (.bool ((ly.n:Int)==5)) λ_=>⟨ly,tv,ys,by rw[u],UB F.1,i.mono d,CgQ.af C⟩
theorem iE(h:AcR w x L l)(f:∀ a∈L,LacOk a)(d:L.length<=100000)(c:Vh w){M:Meet}(b:As.dT L=M) :
  Calls prog 8 #[x.v] w λe w'=>∃ (ly tv:S3) (ys:Nat->S3),e=.returned (.tuple #[.agg (IE M ly tv),.bool true])/\OutW w' M ly tv ys/\OutN w.heap.size M ly tv ys/\Bw w w':=iF (h.sk (by omega)) f d c b
def lgN(M:Meet):Nat->Option Nat
 | 0=>none
 | n+1=>if(((lgN M n).map M.log).getD []).length<(M.log n).length then some n else lgN M n
def lgY(ys:Nat->S3)(o:Option Nat):S3:=(o.map ys).getD s30
theorem SC{n:Nat}(h:lgN M n=some j):j<n:=by
 induction n with
 | zero=>cases h
 | succ n ih =>
  rw[lgN]at h
  split at h
  .cases h;omega
  .have:=ih h;omega
theorem YK(h:OutF g w ly tv ys M){n:Nat}(a:n<=5):FzV g w (lgY ys (lgN M n)) 5 (cmL (((lgN M n).map M.log).getD [])):=by
 cases hh:lgN M n with
 | none=>exact⟨⟨rfl,A' _,λ_=>rfl,.inl rfl⟩,λe=>absurd rfl e⟩
 | some j=>exact h.log j (Z' (SC hh) a)
theorem fB(c:x.a=some ⟨b,off,none⟩)(j:Nat)(d:j<x.n):(Instr.indexAt 38 x.v (iv (j:Int))).run prog W=.ok (pt b (off+j)) W:=by
 obtain⟨f,h,g⟩:=x;simp only at c d;subst c;exact Pm (P:=prog) (e:=48) (z:=1) underlying38 (by kernel_rfl) (by kernel_rfl) d _ (by rw[qr])
theorem Uu(h:RdV w ly 1 [S3.v (ys 0),S3.v (ys 1),S3.v (ys 2),S3.v (ys 3),S3.v (ys 4)])(c:ly.a=some ⟨b,off,none⟩)(d:j<5):w.cell? ⟨b,off+j,none⟩=some (S3.v (ys j)):=by
 rcases h.ex with h1|⟨b',off',h1,h2,h3⟩
 .have:=h.len;simp at this;omega
 .rw[c]at h1;cases h1
  refine h3 j _ ?_;rcases qv d with rfl|rfl|rfl|rfl|rfl<;>rfl
theorem kP{l:List Tol}(h:RdV w x 5 (l.flatMap FT)):x.n=l.length:=by
 have:=h.len;rw[Qj (f:=FT) (sz:=5) (λ_=>rfl)]at this
 omega
theorem SE(h:OutW w M ly tv ys) :
  Calls prog 11 #[.agg (IE M ly tv)] w λe w'=>e=.returned (S3.v (lgY ys (lgN M 5)))/\Bw w w':=by
 have L:=h.n5;refine tIn [Fa.ot ly tv ys M] func11 ⟨⟨h.ri.fz,λj t=>(h.log j t).rv.fz,h.fa.fz⟩,trivial⟩ (tR 15 [0,0] λc _ _=>EA 27 [(1,pt (c 0) 0),(3,sn),(4,iv 0)] [true] [⟨(c 0),.cells #[iv (M.br.length:Int),.bool (M.ab 0).up,.bool (M.ab 1).up,.bool (M.ab 2).up,.bool (M.ab 3).up,.bool (M.ab 4).up,S3.v ly,iv ((M.ab 0).bad:Int),iv ((M.ab 1).bad:Int),iv ((M.ab 2).bad:Int),iv ((M.ab 3).bad:Int),iv ((M.ab 4).bad:Int),S3.v tv] 42,.z,false⟩] [Fa.ot ly tv ys M] (λu q p f=>∃ (i:Nat),u=5-i/\q=[(1,pt (c 0) 0),(3,S3.v (lgY ys (lgN M i))),(4,iv (i:Int))]/\p=[⟨(c 0),.cells (IE M ly tv) 42,.z,false⟩]/\f=[Fa.ot ly tv ys M]/\i<=5) (5) ⟨0,rfl,rfl,rfl,rfl,by omega⟩ (λF=>F) ?_);rintro k _ _ _ ⟨i,rfl,rfl,rfl,rfl,K⟩ _ _ _ J g;refine tR 9 [0] λx _ _=>?_;by_cases H:i<5
 .refine tI ((decide ((i:Int)<(ly.n:Int)))) true (O' (by omega)) (tF λF _=>?_);obtain⟨b,d,a,_⟩:=F.1.ri.rd.spot (i:=i) (by omega);have r:=gk (F.1.log i (by omega)).rd;have s:=gk (YK F.1 (n:=i) (by omega)).rd;refine tR 8 [0] λy _ _=>tV 3 (pt b (d+i)) (λF C=>(fB a i (by omega))) (tV 4 (S3.v (ys i)) (λF C=>(D3 underlying48 rfl (Uu F.1.ri.rd a (by omega)))) (tR 5 [] λA _ _=>?_));by_cases I:(((lgN M i).map M.log).getD []).length<(M.log i).length
  .refine tI ((decide (((lgY ys (lgN M i)).n:Int)<((ys i).n:Int)))) true (O' (by omega)) (tR 4 [0] λD _ _=>tV 3 (pt b (d+i)) (λF C=>(fB a i (by omega))) (tV 4 (S3.v (ys i)) (λF C=>(D3 underlying48 rfl (Uu F.1.ri.rd a (by omega)))) (tR 5 [] λE _ _=>tV 1 (iv ((i:Int)+1)) (λF C=>(Bf 10 (i:Int) underlying3 (by omega))) (tR 2 [] λG _ _=>tB g (5-(i+1)) (by omega) [true] ⟨i+1,rfl,(by rw[show lgN M (i+1)=some i from if_pos (by omega)]),rfl,rfl,by omega⟩ (λF=>F)))))
  .refine tI ((decide (((lgY ys (lgN M i)).n:Int)<((ys i).n:Int)))) false (E' (by omega)) (tR 4 [] λl _ _=>tV 1 (iv ((i:Int)+1)) (λF C=>(Bf 10 (i:Int) underlying3 (by omega))) (tR 2 [] λm _ _=>tB g (5-(i+1)) (by omega) [true] ⟨i+1,rfl,(by rw[show lgN M (i+1)=lgN M i from if_neg (by omega)]),rfl,rfl,by omega⟩ (λF=>F)))
 .refine tI ((decide ((i:Int)<(ly.n:Int)))) false (E' (by omega)) (tR 6 [] λo _ _=>?_);obtain rfl:i=5:=by omega
  exact tE (S3.v (lgY ys (lgN M 5))) λ_ B=>⟨rfl,B⟩
theorem lP{L:List Sh}(h:AO L W)(k b:Nat)(news:List Value)(e:TypeId)(t:Tg)(v:Bool)(d:L[k]?=some ⟨b,.cells news.toArray e,t,v⟩){j:Nat}{u:Value}(c:news[j]?=some u):W.cell? ⟨b,j,none⟩=some u:=by
 have a:W.heap[b]?=some (.cells news.toArray e):=h _ (mA d);rw[cell_of_row _ _ _ _ _ _ a];simpa using c
theorem NI(a:List (List Int))(j:Nat)(h:j<a.length):(a.take (j+1)).flatten=(a.take j).flatten++a.getD j []:=by
 rw[mx h,List.flatten_append];simp[List.getD,List.getElem?_eq_getElem h]
theorem Uj(a:List (List Int))(h:∀ l∈a,l.length<=1000):a.flatten.length<=1000*a.length:=by
 induction a with
 | nil=>simp
 | cons x r ih =>
  have c:=h x (by simp);have d:=ih (λl b=>h l (by simp[b]));simp only[List.flatten_cons,H',mI];omega
theorem MU(n:Nat):(Builtin.zeroCells (Value.int .u8 0).cells n).size=n:=by
 simp[Builtin.zeroCells,Value.cells]
theorem Ys(n:Nat)(w:World)(o:0<n)(t:n<=20000) :
  Calls prog 32 #[.slice none 0 0,.int .i64 (n:Int)] w λe w'=>∃ v',e=.returned v'/\w'.ownsRow w.heap.size 5 1 v' 0 []/\Bw w w':=by
 obtain⟨r,l,d,f,g⟩:=info_parts Av;have i:=λs=>Lib.run_append_nil_zeros (P:=prog) w 26 3 s 5 r (.int .u8 0) .i64 .i64 underlying26 underlying3 l d n o (by rw[f];decide) (by omega) (by rw[g];omega);have c:=grownCap_ge w n 0 5;have b:=grownCap_le_maxLen w n 0 5 (by unfold maxLen;omega);have a:(Builtin.zeroCells (Value.int .u8 0).cells n++Builtin.zeroCells (Value.int .u8 0).cells (grownCap w n 0 5-n)).size=grownCap w n 0 5*1:=by rw[Array.size_append,MU,MU];omega
 generalize Builtin.zeroCells (Value.int .u8 0).cells n++Builtin.zeroCells (Value.int .u8 0).cells (grownCap w n 0 5-n)=Z at i a;generalize grownCap w n 0 5=cap at i a c b;have k:Bw w (w.drew.alloc (.cells Z 5)):=((Below.refl w.heap.size w).drew).alloc (by exact A' _) _;have j:(w.drew.alloc (.cells Z 5)).heap[w.heap.size]?=some (.cells Z 5):=heap_alloc_new _ _;generalize w.drew.alloc (.cells Z 5)=W at i k j;have p:W.ownsRow w.heap.size 5 1 (.slice (some ⟨w.heap.size,0,none⟩) 0 cap) 0 []:=⟨by simp,.inr ⟨w.heap.size,cap,Z,rfl,A' _,j,by omega,b,a,by simp⟩⟩;have q:∀ h,(Instr.slice 26 (.slice (some ⟨w.heap.size,0,none⟩) n cap) none (some (.int .i64 0)) none).run prog h=.ok (.slice (some ⟨w.heap.size,0,none⟩) 0 cap) h:=λh=>by
  rw[run_slice_h (P:=prog) h 26 (some ⟨w.heap.size,0,none⟩) n cap underlying26 .i64 0 (by omega) (by omega)];have e:prog.elem 26=5:=by kernel_rfl
  rw[e,G8];simp[Result.andThen,sliced,Addr.add_mid]
 have m:(0:Int)<(n:Int):=by omega
 clear j a b c l d f g;go_enter func32,ntmps32
 go_wp2_with (at_builtin;refine Lib.wpList_append_run _ rfl _ _ _ _ rfl _ _ rfl rfl _ _ (i _) ?_)
 go_ret;exact⟨_,rfl,p,k⟩
theorem RM(g n M:Nat)(K:List Value)(a:List (List Int))(w:World)(hg:g<w.heap.size)(hn:n<=10)(C:a.length=n)(R:∀ i,i<n->w.cell? ⟨g,i,none⟩=some (K.getD i undef))(U:∀ i,i<n->Sl w (K.getD i undef) (a.getD i []))(y:∀ l∈a,l.length<=1000)(T:0<a.flatten.length) :
  Calls prog 18 #[.slice (some ⟨g,0,none⟩) n M] w λe w'=>∃ v',e=.returned v'/\w'.ownsRow w.heap.size 5 1 v' a.flatten.length (a.flatten.map (Value.int .u8))/\Bw w w':=by
 have c:Hid (a.length=n):=C;have O:Hid _:=R;have P:Hid _:=U;have I:Hid _:=y;have X:Hid _:=T;clear C R U y T;go_enter func18,ntmps18
 go_wp2_with fail
 go_loopw [3,11] (λsv i wr=>∃ j:Nat,j<=n/\i=.int .i64 j/\sv=.int .i64 ((a.take j).flatten.length:Int)/\w=wr) (λ_ i _=>n-(intOf i).toNat)
 case atStart=>exact⟨0,by omega,rfl,by simp,rfl⟩
 case round =>
  obtain⟨j,hj,rfl,rfl,rfl⟩:=hrel;have d:=Uj (a.take j) (λl y=>I.out l (mt y));by_cases m:j<n
  .have t:(a.take j).flatten.length<=10000:=by rw[j']at d;omega
   have r:Hid ((a.take (j+1)).flatten.length=(a.take j).flatten.length+(a.getD j []).length):=by unfold Hid;rw[NI a j (by rw[c.out];exact m),H']
   have q:=P.out j m;have J:=O.out j m;have u:(a.getD j []).length<=1000:=by
    have f:j<a.length:=by rw[c.out];exact m
    have:a.getD j []=a[j]:=by simp[List.getD,List.getElem?_eq_getElem f]
    rw[this];exact I.out _ (mN f)
   generalize K.getD j undef=vj at q J;generalize a.getD j []=lj at q r u;generalize (a.take j).flatten.length=pre at r t;clear d;obtain⟨⟨aj,kj,rfl,_,_,_⟩,_,_⟩:=q;generalize lj.length=nj at *;go_wp2
   go_roundw
   case rel=>exact⟨j+1,by omega,by go_num,by rw[r.out];go_num,by simp⟩
   case measure=>simp[intOf];omega
  .obtain rfl:j=n:=by omega
   have Q:Hid (a.take j=a):=mo (by rw[c.out];exact A' _);have V:a.flatten.length<=10000:=by rw[Q.out,c.out]at d;omega
   rw[Q.out];clear d;have L:=X.out;generalize G:a.flatten.length=Z at V L;have Y:Hid (a.flatten.length=Z):=G;clear G;go_wp2_with fail
   refine(Ys Z w L (by omega)).mono ?_;rintro e w1 ⟨v1,rfl,x,A⟩;clear L V;obtain⟨g1,c1,rfl⟩:=ES x;have z:Hid (w1.ownsRow w.heap.size 5 1 (.slice g1 0 c1) (a.take 0).flatten.length ((a.take 0).flatten.map (Value.int .u8))):=by unfold Hid;simpa using x
   clear x;go_wp2_with fail
   go_loopw [6,27] (λv i wr=>∃ k:Nat,k<=j/\i=.int .i64 k/\Hid (wr.ownsRow w.heap.size 5 1 v (a.take k).flatten.length ((a.take k).flatten.map (Value.int .u8)))/\Bw w wr) (λ_ i _=>j-(intOf i).toNat)
   case atStart=>exact⟨0,by omega,rfl,z,A⟩
   case round =>
    obtain⟨k,S,rfl,h,s⟩:=hrel;have b:=h.out;clear h z A;have D:=b.lt;by_cases o:k<j
    .have d:=Uj (a.take k) (λl y=>I.out l (mt y));have t:(a.take k).flatten.length<=10000:=by rw[j']at d;omega
     have r:Hid ((a.take (k+1)).flatten=(a.take k).flatten++a.getD k []):=NI a k (by rw[c.out];exact o);have q:=(P.out k o).af s;have J:=(s.cell (p:=⟨g,k,none⟩) hg).trans (O.out k o);have u:(a.getD k []).length<=1000:=by
      have f:k<a.length:=by rw[c.out];exact o
      have:a.getD k []=a[k]:=by simp[List.getD,List.getElem?_eq_getElem f]
      rw[this];exact I.out _ (mN f)
     generalize K.getD k undef=vj at q J;generalize a.getD k []=lj at q r u;generalize (a.take k).flatten=pre at b r t;clear d;have H:=q;obtain⟨⟨aj,kj,rfl,_,_,_⟩,_,_⟩:=q;go_wp2_with (at_builtin;refine Aa _ rfl _ _ 26 rfl w.heap.size 5 underlying26 Av _ _ rfl rfl pre lj b H (by omega) s.size ?_)
     intro v2 W E B;have F:W.ownsRow w.heap.size 5 1 v2 (pre++lj).length ((pre++lj).map (Value.int .u8)):=by simpa using E
     have N:Bw w W:=s.grown B s.size (λk S=>(D k S).1);clear E B b D s H J;go_wp2
     go_roundw
     case rel=>exact⟨k+1,by omega,by go_num,by rw[r.out];exact F,N⟩
     case measure=>simp[intOf];omega
    .have HJ:Hid (a.take k=a):=by unfold Hid;exact mo (by rw[c.out];omega)
     go_wp2
     go_ret;refine⟨u6,rfl,?_,s⟩;rw[HJ.out]at b
     exact b
theorem bM{c d:Value}{a b:List Int}{g:Nat}(f:w.heap[g]?=some (.cells #[c,d] e))(h:Sl w c a)(j:Sl w d b)(k:a.length<=1000)(m:b.length<=1000)(n:0<a.length) :
  Calls prog 18 #[.slice (some ⟨g,0,none⟩) 2 2] w λe w'=>∃ v',e=.returned v'/\w'.ownsRow w.heap.size 5 1 v' (a++b).length ((a++b).map (Value.int .u8))/\Bw w w':=by
 refine(RM g 2 2 [c,d] [a,b] w (U'.1 f).1 (by omega) rfl ?_ ?_ ?_ ?_).mono ?_
 .intro i hi;rw[cell_of_row _ _ i _ _ _ f];obtain rfl|rfl:i=0\/i=1:=by omega
  all_goals rfl
 .intro i hi;obtain rfl|rfl:i=0\/i=1:=by omega
  .exact h
  .exact j
 .intro l hl;simp only[mn,P',or_false]at hl;rcases hl with rfl|rfl
  .exact k
  .exact m
 .simp;omega
 .rintro e w2 ⟨v2,rfl,ho,hb⟩;exact⟨v2,rfl,by simpa using ho,hb⟩
theorem Yr(d:Sl w x.v Fh)(f:AJ w)(h:CU tc tr tu) :
  Calls prog 13 #[x.v,.agg #[iv tc,iv tr,iv tu]] w λe w'=>∃ y:S3,e=.returned (.tuple #[y.v,iv 0])/\Sl w' y.v (ED Fh tc tr tu)/\Bw w w':=by
 refine(VC x.v Fh tc tr tu w d f).mono ?_;have a:Nc Fh tc tr tu=0:=by rw[Qo Gr];exact Hc h
 rintro e w' ⟨v,rfl,b,c⟩;rw[show Qp Fh tc tr tu=ED Fh tc tr tu from if_pos a]at b
 rw[a];obtain⟨y,rfl,g⟩:=Pd b (by rw[BH];decide) (O4 _ h);exact⟨y,rfl,g,c⟩
theorem X0{l m:List Int}{g:Nat}(j:w.heap[g]?=some (.cells #[x.v,y.v] e))(b:Sl w x.v l)(c:Sl w y.v m)(n:l.length<=1000)(o:m.length<=1000)(p:0<l.length) :
  Calls prog 18 #[.slice (some ⟨g,0,none⟩) 2 2] w λe w'=>∃ z:S3,e=.returned z.v/\Sl w' z.v (l++m)/\Nb w.heap.size z (l++m)/\Bw w w':=by
 refine(bM j b c n o p).mono ?_;rintro e w' ⟨v,rfl,i,f⟩;obtain⟨z,rfl,k,h⟩:=J1 i (by rw[H'];omega) (λa d=>(Q'.1 d).elim (b.byte a) (c.byte a));exact⟨z,rfl,k,h,f⟩
theorem UD{n m:Int}(h:paE n tc tr tu k c s m v=0)(o:Tabs w) :
  Calls prog 5 #[iv n,.agg #[iv tc,iv tr,iv tu],.agg #[iv k,iv c,iv s,iv m,iv v]] w λe w'=>∃ y:S3,e=.returned (.tuple #[y.v,iv 0])/\Sl w' y.v (paL n tc tr tu k c s m v)/\Nb w.heap.size y (paL n tc tr tu k c s m v)/\Bw w w':=by
 obtain⟨Y,hB,X⟩:=IF h;have hc:=(De X).2;unfold InC at hc;rw[Pe h];refine kIn func5 (kR 11 [0,0,0,0] λb4 w1 b1=>kV 1 (.bool false) (rLt (x:=(.tmp 14)) (y:=(.const (iv 0))) (t:=3) (m:=n) (n:=0) (E' (by omega))) (kR 2 [] λb6 w2 b2=>kV 4 (.bool false) (rGe (x:=(.tmp 17)) (y:=(.const (iv 1073741824))) (t:=3) (m:=n) (n:=1073741824) (E' (by omega))) (kR 7 [8,2,0] λb7 w3 b3=>?_)));have S:=(btr (btr b1 b2) b3);refine kC 0 (Jv (o.t.af S)) ?_;rintro _ w5 ⟨yi,rfl,M,_,U⟩;refine⟨_,rfl,U,?_⟩;have T:=(btr S U);refine kC 2 (Yr M (o.t.af T) hB) ?_;rintro _ w8 ⟨yt,rfl,Q,V⟩;refine⟨_,rfl,V,?_⟩;refine kR 17 [6,8,10,12,14,1] λc0 w9 W=>?_;have p:=(btr (btr T V) W);refine kC 1 (Ya (m:=⟨k,c,s,m,v⟩) (o.n.af p) X) ?_;rintro _ a2 ⟨yc,rfl,L,g⟩;refine⟨_,rfl,g,?_⟩;refine kR 18 [1] λZ a3 i=>?_;have r:=(btr (btr p g) i);refine kC 2 (Y5 (c:=c) (by omega) (by omega) (o.t.af r)) ?_;rintro _ a4 ⟨yk,rfl,N,_,d⟩;refine⟨_,rfl,d,?_⟩;refine kR 22 [0,0] λH a5 f=>Af λK=>kC 6 (X0 (K.sT 2 (H 0) _ 26 .z true (by kernel_rfl)) (((((Q.af W).af g).af i).af d).af f) (((L.af i).af d).af f) (by rw[BH];decide) (by rw[DQ];decide) (by rw[BH];decide)) ?_;rintro _ a6 ⟨yp,rfl,O,_,j⟩;refine⟨_,rfl,j,?_⟩;have A:=(btr (btr (btr r d) f) j);refine kC 7 (eg ((N.af f).af j) (Cw c) O (me (Nat.le_of_eq (DC tc tr tu k c s m v)) (by decide)) ⟨Y.1,Y.2⟩ (o.q.af o.q.pos A)) ?_;rintro _ a7 ⟨u,z,rfl,hz,_,C⟩;refine⟨_,rfl,C,?_⟩;refine kR 21 [0,0,3,0,1] λa0 a8 D=>kV 2 (.int .u8 c) (fx (P:=prog) (src:=3) (dst:=5) (k:=.i64) (n:=c) (by kernel_rfl) underlying5 (by kernel_rfl) (by rw[IntKind.wrap_u8];omega)) (kR 3 [0,0,0,0] λb R E=>Af λK=>?_);have J:Sl R (S3.v ⟨some ⟨(b 0),0,none⟩,1,1⟩) [c]:=Sl.ofRow (l:=[c]) (K.sT 4 (b 0) _ 5 .z true (by kernel_rfl)) (by show 1<=_;decide) (λa ha=>by rw[D'.1 ha];omega);have B:=(btr (btr (btr A C) D) E);refine kC 6 (X0 (x:=⟨some ⟨(b 0),0,none⟩,1,1⟩) (K.sT 5 (b 1) _ 26 .z true (by kernel_rfl)) J ((hz.af D).af E) (by show 1<=1000;decide) (by rw[Dl];show(paP tc tr tu k c s m v).length+20<=1000;rw[DC];decide) (by show 0<1;decide)) ?_;rintro _ a9 ⟨y,rfl,hy,hw,F⟩;refine⟨_,rfl,F,?_⟩;refine kR 3 [] λa1 b0 G=>?_;have I:=(btr (btr B F) G);exact kE (.tuple #[S3.v y,iv 0]) ⟨y,rfl,(hy.af G),hw.mono B.size,I⟩
theorem kn(a:Int)(h:-9223372036854775808<=-a/\-a<=9223372036854775807):(Op.unary .neg (iv a)).run P W=.ok (iv (-a)) W:=by
 simp[go_sem];rw[IntKind.wrap_i64];omega
theorem fF{x y:Operand}(a b:Int)(i:P.underlying 3=some (.int .i64))(f:0<=a)(g:a<=9223372036854775807)(j:0<b)(h:b<=9223372036854775807):(do Go.eqGuard .rem 3 x y (iv a) (iv b);Go.binOp .rem 3 (iv a) (iv b):Sem Value).run P W=.ok (iv (a%b)) W:=by
 have e:=ko (P:=P) (W:=W) (x:=x) (y:=y) a.toNat b.toNat i (by omega) (by omega) (by omega);have c:((a.toNat:Nat):Int)=a:=oD f;have d:((b.toNat:Nat):Int)=b:=oD (by omega);rw[c,d]at e
 rw[e,p8,c,d]
theorem fE{x y:Operand}(a:Int)(e:P.underlying 3=some (.int .i64))(b:0<=a)(c:a<=1000):(do Go.eqGuard .quo 3 x y (iv a) (iv 2);Go.binOp .quo 3 (iv a) (iv 2):Sem Value).run P W=.ok (iv (a/2)) W:=by
 have d:a.tdiv 2=a/2:=pN b;simp only[Go.eqGuard,go_sem,Op.intDiv];simp[d];rw[IntKind.wrap_i64];omega
theorem AV{n:Int}(h:I64 n)(a:Int)(d:0<a:=by decide)(b:a<=9223372036854775807:=by decide) :
  Calls prog 12 #[iv n,iv a] w λe w'=>e=.returned (iv (pick n a))/\Bw w w':=by
 unfold I64 at h;refine tIn [] func12 trivial (tR 10 [] λf _ _=>?_);by_cases c:n<0
 .refine tI ((decide (n<0))) true (O' c) (tR 2 [] λg _ _=>tV 1 (iv (n+1)) (λF C=>(Bf 7 n underlying3 (by omega))) (tV 2 (iv (-(n+1))) (λF C=>(kn (n+1) (by omega))) (tR 6 [] λi _ _=>tV 2 (iv (-(n+1)%a)) (λF C=>(fF (x:=(.tmp 10)) (y:=(.tmp 11)) (-(n+1)) a underlying3 (by omega) (by omega) d b)) (tR 2 [] λj _ _=>tE (iv (-(n+1)%a)) λ_ B=>⟨by rw[show pick n a=_ from if_pos c],B⟩))))
 .refine tI ((decide (n<0))) false (E' c) (tR 5 [] λk _ _=>tV 2 (iv (n%a)) (λF C=>(fF (x:=(.tmp 10)) (y:=(.tmp 11)) n a underlying3 (by omega) (by omega) d b)) (tR 2 [] λl _ _=>tE (iv (n%a)) λ_ B=>⟨by rw[show pick n a=_ from if_neg c],B⟩))
theorem Vg{n:Int}(h:I64 n)(a:Int)(c:0<a:=by decide)(b:a<=9223372036854775807:=by decide) :
  Calls prog 6 #[iv n,iv a] w λe w'=>e=.returned (iv (pick n a))/\Bw w w':=by
 refine tIn [] func6 trivial (tR 8 [] λd _ _=>tC1 2 (λF C=>AV h a c b) λ_=>tR 2 [] λf _ _=>tE (iv (pick n a)) λ_ B=>⟨rfl,B⟩)
theorem R0{n:Int}(t:I64 k)(r:I64 c)(q:I64 s)(f:I64 n)(M:I64 v) :
  Calls prog 4 #[.agg #[iv k,iv c,iv s,iv n,iv v]] w λe w'=>e=.returned (.agg #[iv (wK k),iv (pick c 4),iv (pick s 6),iv (pick n 4),iv (wV k v)])/\Bw w w':=by
 have O:=CX k 5 (by omega);refine tIn [] func4 trivial (tR 15 [0,0,1,0,17,0,2,0,10,12,0,16,18,0,22,24,0] λa _ _=>KE 27 (λL K g=>∃ (b:Nat),L=[(1,pt (a 0) 0),(2,pt (a 1) 0),(3,pt b 0)]/\K=[⟨(a 0),.cells #[iv k,iv c,iv s,iv n,iv v] 23,.z,false⟩,⟨(a 1),.cells #[iv 0,iv 0,iv 0,iv 0,iv 0] 24,.l,false⟩,⟨b,.cells #[iv (wK k),iv (pick c 4),iv (pick s 6),iv (pick n 4),iv 0] 24,.l,false⟩]/\g=[]) (λJ d=>?_) ?_)
 .refine JH 2 15 ?_ ?_
  .refine tC 2 (λF C=>AV t 5) λN=>?_;rintro _ _ ⟨rfl,b⟩;refine⟨_,_,rfl,b,id,?_⟩;refine tT 3 (iv (pick k 5/2)) (λ_=>(fE (x:=(.tmp 6)) (y:=(.const (iv 2))) (pick k 5) underlying3 (by omega) (by omega))) (tT 4 (iv (wK k)) (λ_=>(Mb (x:=(.const (iv 1))) (y:=(.tmp 7)) 1 (pick k 5/2) underlying3 (by omega))) (JH 7 15 ?_ ?_))
   .refine tC1 7 (λF C=>AV r 4) λ_=>JH 10 15 ?_ ?_
    .refine tC1 10 (λF C=>AV q 6) λ_=>JH 13 15 ?_ ?_
     .refine tC1 13 (λF C=>AV f 4) λ_=>tR 4 [28,31,1,0,33,2,0] λh _ _=>tD d [true,true,true] ⟨(h 0),rfl,rfl,rfl⟩ (λF=>trivial)
     .refine tR 1 [1,0] λi _ _=>tC1 13 (λF C=>AV f 4) λ_=>tR 3 [28,33,2,0] λu _ _=>tD d [true,true,true] ⟨(i 0),rfl,rfl,rfl⟩ (λF=>trivial)
    .refine tR 1 [1,0] λj _ _=>tC1 10 (λF C=>AV q 6) λ_=>tC1 13 (λF C=>AV f 4) λ_=>tR 3 [28,33,2,0] λA _ _=>tD d [true,true,true] ⟨(j 0),rfl,rfl,rfl⟩ (λF=>trivial)
   .refine tR 1 [1,0] λm _ _=>tC1 7 (λF C=>AV r 4) λ_=>tC1 10 (λF C=>AV q 6) λ_=>tC1 13 (λF C=>AV f 4) λ_=>tR 3 [28,33,2,0] λB _ _=>tD d [true,true,true] ⟨(m 0),rfl,rfl,rfl⟩ (λF=>trivial)
  .refine tR 1 [1,0] λo _ _=>tC1 2 (λF C=>AV t 5) λ_=>tT 3 (iv (pick k 5/2)) (λ_=>(fE (x:=(.tmp 6)) (y:=(.const (iv 2))) (pick k 5) underlying3 (by omega) (by omega))) (tT 4 (iv (wK k)) (λ_=>(Mb (x:=(.const (iv 1))) (y:=(.tmp 7)) 1 (pick k 5/2) underlying3 (by omega))) (tC1 7 (λF C=>AV r 4) λ_=>tC1 10 (λF C=>AV q 6) λ_=>tC1 13 (λF C=>AV f 4) λ_=>tR 3 [28,33,2,0] λD _ _=>tD d [true,true,true] ⟨(o 0),rfl,rfl,rfl⟩ (λF=>trivial)))
 rintro _ _ _ ⟨b,rfl,rfl,rfl⟩ _ _ _;refine tR 7 [2] λE _ _=>?_;by_cases p:wK k=1
 .refine tI (((wK k)==1)) true (by simpa using p) (tR 3 [0] λG _ _=>tC1 2 (λF C=>AV M 1000) λ_=>tR 8 [2,0,2,1,0] λH _ _=>tX λF C=>qE1 2 24 1 (a 1) #[iv (wK k),iv (pick c 4),iv (pick s 6),iv (pick n 4),iv (pick v 1000)] λ_=>⟨by rw[show wV k v=_ from if_pos p],CgQ.af C⟩)
 .refine tI (((wK k)==1)) false (by simpa using p) (tR 6 [2,1,0] λI _ _=>tX λF C=>qE1 2 24 1 (a 1) #[iv (wK k),iv (pick c 4),iv (pick s 6),iv (pick n 4),iv 0] λ_=>⟨by rw[show wV k v=_ from if_neg p],CgQ.af C⟩)
theorem gH{a:List Cmd}{c:Cmd}(h:RdV w x 5 (cmL a))(R:a.length<1000000){r:Bool}(l:decide (c∈a)=r) :
  Calls prog 10 #[x.v,.agg #[iv c.k,iv c.c,iv c.s,iv c.n,iv c.v]] w λe w'=>e=.returned (.bool r)/\Bw w w':=by
 have T:=gk h;refine tIn [Fa.zv x 5 (cmL a)] func10 ⟨h.fz,trivial⟩ (tR 11 [0,0] λb _ _=>EA 18 [(0,S3.v x),(3,pt (b 0) 0),(5,iv 0)] [true] [⟨(b 0),.cells #[iv c.k,iv c.c,iv c.s,iv c.n,iv c.v] 24,.z,false⟩] [Fa.zv x 5 (cmL a)] (λG A t g=>∃ (i:Nat),G=a.length-i/\A=[(0,S3.v x),(3,pt (b 0) 0),(5,iv (i:Int))]/\t=[⟨(b 0),.cells #[iv c.k,iv c.c,iv c.s,iv c.n,iv c.v] 24,.z,false⟩]/\g=[Fa.zv x 5 (cmL a)]/\i<=a.length/\c∉a.take i) (a.length) ⟨0,rfl,rfl,rfl,rfl,by omega,by simp⟩ (λF=>F) ?_);rintro k _ _ _ ⟨i,rfl,rfl,rfl,rfl,S,m⟩ _ _ _ J D;refine tR 8 [] λI _ _=>?_;by_cases Q:i<a.length
 .refine tI ((decide ((i:Int)<(x.n:Int)))) true (O' (by omega)) ?_;obtain⟨d,o⟩:∃ d,a[i]?=some d:=⟨_,G' (by omega)⟩;refine tF λF _=>?_;obtain⟨bx,H,f⟩:=F.1.rd.rc.addr (k:=i) (by omega);refine tR 7 [6,0,2] λK _ _=>tT 2 (pt bx (H+5*i)) (λ_=>(Om f i (by omega))) (tR 1 [8,0] λL _ _=>tV 3 (.agg #[iv d.k,iv d.c,iv d.s,iv d.n,iv d.v]) (λF C=>(Wq d λU u E=>F.1.rd.rc.cellAt f o E)) (tT 5 (.bool (decide (d=c))) (λ_=>(i6 (x:=(.tmp 15)) (y:=(.tmp 16)) d c)) (tR 1 [] λM _ _=>?_)));by_cases j:d=c
  .refine tI ((decide (d=c))) true (O' j) (tR 4 [] λN _ _=>?_);rw[O' (j▸mA o)]at l
   subst l;exact tE (.bool true) λ_ B=>⟨rfl,B⟩
  .refine tI ((decide (d=c))) false (E' j) (tR 4 [] λO _ _=>tV 1 (iv ((i:Int)+1)) (λF C=>(Bf 10 (i:Int) underlying3 (by omega))) (tR 2 [] λP _ _=>tB D (a.length-(i+1)) (by omega) [true] ⟨i+1,rfl,rfl,rfl,rfl,by omega,λp=>by rw[nS,o]at p;rcases Q'.1 p with h|h;exact m h;exact j (by simp at h;exact h.symm)⟩ (λF=>F)))
 .refine tI ((decide ((i:Int)<(x.n:Int)))) false (E' (by omega)) (tR 5 [] λq _ _=>?_);rw[mo (by omega)]at m
  rw[E' m]at l
  subst l;exact tE (.bool false) λ_ B=>⟨rfl,B⟩
end
end
section
structure Alw where
 ca:Bool
 ld:Bool
 cr:Bool
 st:Bool
structure NInv(A:Alw)(i:Nat)(D:List Int->Prop)(Q:Let->Prop)(P:Nod->Prop):Prop where
 take:A.ca=true->∀ p l,P p->Q l->l.dst=i->p.up=true->P (p.take l)
 one:∀ p c,P p->p.up=true->p.ae[p.done]?=some c->doE p.lp c=0->P (Nod.hU { p with lp:=doS p.lp c,done:=p.done+1 } c)
 ask:∀ p,P p->p.up=true->P (p.ib i).1/\∀ l∈(p.ib i).2,Q l
 prop:∀ p,P p->p.up=true->P p.cF
 qH:∀ p,P p->p.up=true->P p.qH
 run:∀ p q l,P p->p.up=true->p.bu=q::l->¬ p.sy<(p.d.length:Int)->P { p.ic i q with bu:=l }/\∀ m∈p.qx i q,Q m
 qz:∀ p,P p->p.up=true->p.leads=true->P (EC p i 5)/\∀ l∈Dq p i 5,Q l
 lead:A.ld=true->∀ p,P p->p.up=true->P (p.lead i)
 sub:∀ p d ts,P p->D d->p.up=true->P (p.qJ i d ts).1
 jv:A.cr=true->∀ p k,P p->0<=k->p.up=true->P (p.jv k)
 start:A.st=true->∀ p,P p->p.up=false->P p.start
theorem Ox(p:Nod)(i:Nat)(q:Pend)(x:List Pend):({ p with bu:=x }:Nod).ic i q={ p.ic i q with bu:=x }:=by
 cases q with
 | began b vs=>unfold Nod.ic;simp only;split<;>rfl
 | prop v =>
  unfold Nod.ic Nod.count;simp only;split
  .rfl
  .split<;>rfl
 | _=>rfl
theorem DE(p:Nod)(i:Nat)(q:Pend):(p.ic i q).bu=p.bu/\(p.ic i q).up=p.up/\(p.ic i q).d=p.d/\(p.ic i q).sy=p.sy:=by
 cases q with
 | began b vs=>unfold Nod.ic;simp only;split<;>exact⟨rfl,rfl,rfl,rfl⟩
 | prop v =>
  unfold Nod.ic Nod.count;simp only;split
  .exact⟨rfl,rfl,rfl,rfl⟩
  .split<;>exact⟨rfl,rfl,rfl,rfl⟩
 | _=>exact⟨rfl,rfl,rfl,rfl⟩
theorem Ml(p:Nod)(i:Nat)(q:Pend)(x:List Pend):({ p with bu:=x }:Nod).qx i q=p.qx i q:=by cases q<;>rfl
theorem DX(p:Nod)(c:Cmd):(p.hU c).up=p.up/\(p.hU c).ae=p.ae/\(p.hU c).done=p.done/\(p.hU c).lp=p.lp:=by unfold Nod.hU;split<;>exact⟨rfl,rfl,rfl,rfl⟩
theorem Sb(p:Nod)(l:List Cmd):(p.eb l).up=p.up:=by unfold Nod.eb;split<;>rfl
theorem Io(p:Nod)(i:Nat):(p.ib i).1.up=p.up:=by
 unfold Nod.ib;split
 .rfl
 .split
  .exact Sb _ _
  .rfl
theorem eN(p:Nod)(v:Vt):(p.cl v).1.up=p.up:=by
 unfold Nod.cl;split
 .rfl
 .split
  .rfl
  .split<;>rfl
theorem E7(p:Nod):p.cF.up=p.up:=by
 unfold Nod.cF;split
 .rfl
 .split
  .rfl
  .split
   .rfl
   .exact eN p _
theorem iV(p:Nod):p.qH.up=p.up:=by unfold Nod.qH;split<;>rfl
section
variable{A:Alw}{i:Nat}{D:List Int->Prop}{Q:Let->Prop}{P:Nod->Prop}
theorem NInv.qK(h:NInv A i D Q P)(l:List Cmd)(p:Nod)(e:List Tol)(d:P p)(a:p.up=true)(f:p.ae.drop p.done=l):P (qK i l p e).1/\(Go.Proofs.YtdjfdfpkkenjbadGreatDoor.qK i l p e).1.up=true:=by
 induction l generalizing p e with
 | nil=>exact⟨d,a⟩
 | cons c l ih =>
  rw[Go.Proofs.YtdjfdfpkkenjbadGreatDoor.qK];split
  .exact⟨d,a⟩
  .rename_i he
   have g:p.ae[p.done]?=some c:=by
    have:=congrArg (·[0]?) f;simpa using this
   have b:=DX { p with lp:=doS p.lp c,done:=p.done+1 } c;refine ih _ _ (h.one p c d a g (mf.1 he)) (b.1.trans a) ?_;rw[b.2.1,b.2.2.1];show p.ae.drop (p.done+1)=l;rw[<- oF,f];rfl
theorem NInv.nn(h:NInv A i D Q P)(l:List Pend)(p:Nod)(ls:List Let)(b:P { p with bu:=l })(c:p.up=true)(k:p.bu=[])(j:¬ p.sy<(p.d.length:Int))(g:∀ m∈ls,Q m):P (nn i l p ls).1/\(∀ m∈(Go.Proofs.YtdjfdfpkkenjbadGreatDoor.nn i l p ls).2,Q m)/\(Go.Proofs.YtdjfdfpkkenjbadGreatDoor.nn i l p ls).1.up=true:=by
 induction l generalizing p ls with
 | nil =>
  refine⟨?_,g,c⟩;have:({ p with bu:=[] }:Nod)=p:=by cases p;simp_all
  rw[this]at b;exact b
 | cons q l ih =>
  have a:=DE p i q;obtain⟨e,f⟩:=h.run { p with bu:=q::l } q l b c rfl j;rw[Ox]at e
  rw[Ml]at f
  exact ih (p.ic i q) (ls++p.qx i q) e (a.2.1.trans c) (a.1.trans k) (by rw[a.2.2.1,a.2.2.2];exact j) λm n=>(Q'.1 n).elim (g m) (f m)
theorem NInv.piece(h:NInv A i D Q P)(p:Nod)(ls:List Let)(ts:List Tol)(y:P p)(z:p.up=true)(x:∀ m∈ls,Q m):P (p.piece i ls ts).1/\∀ m∈(p.piece i ls ts).2.1,Q m:=by
 obtain⟨s,n⟩:=h.qK _ p ts y z rfl;unfold Nod.piece;simp only;obtain⟨t,u⟩:=h.ask _ s n;have o:=(Io (Go.Proofs.YtdjfdfpkkenjbadGreatDoor.qK i (p.ae.drop p.done) p ts).1 i).trans n;have f:=h.prop _ t o;have c:=(E7 ((Go.Proofs.YtdjfdfpkkenjbadGreatDoor.qK i (p.ae.drop p.done) p ts).1.ib i).1).trans o;have a:∀ m∈ls++((Go.Proofs.YtdjfdfpkkenjbadGreatDoor.qK i (p.ae.drop p.done) p ts).1.ib i).2,Q m:=λm g=>(Q'.1 g).elim (x m) (u m);generalize ls++((Go.Proofs.YtdjfdfpkkenjbadGreatDoor.qK i (p.ae.drop p.done) p ts).1.ib i).2=k at a ⊢;generalize ((Go.Proofs.YtdjfdfpkkenjbadGreatDoor.qK i (p.ae.drop p.done) p ts).1.ib i).1.cF=r at f c ⊢;have b:P (r.mv i k).1/\(∀ m∈(r.mv i k).2,Q m)/\(r.mv i k).1.up=true:=by
  unfold Nod.mv;split
  .exact⟨f,a,c⟩
  .rename_i hn
   have j:=h.qH r f c;have l:r.qH.bu=r.bu:=by unfold Nod.qH;split<;>rfl
   refine h.nn r.bu { r.qH with bu:=[] } k (by rw[<- l];exact j) ((iV r).trans c) rfl ?_ a;show ¬ r.qH.sy<(r.qH.d.length:Int);unfold Nod.qH;split
   .rename_i h1
    have:CZ r.d r.sy=0:=mf.1 λe=>hn ⟨h1,e⟩;have q:AR r.d r.sy:=by
     unfold CZ at this;split at this
     .assumption
     .cases this
    show ¬ If r.d r.sy<((Hg r.d r.sy).length:Int);unfold If Hg;rw[if_pos q,if_pos q];exact pY _
   .rename_i h1;exact h1
 unfold Nod.bw;split
 .rename_i hL
  obtain⟨v,w⟩:=h.qz _ b.1 b.2.2 hL;exact⟨v,λm g=>(Q'.1 g).elim (b.2.1 m) (w m)⟩
 .exact⟨b.1,b.2.1⟩
end
section
structure GInv(Q:Let->Prop)(P:Nat->Nod->Prop)(M:Meet):Prop where
 ab:∀ i,i<5->P i (M.ab i)
 br:∀ l∈M.br,Q l
variable{A:Alw}{D:Nat->List Int->Prop}{M:Meet}{P:Nat->Nod->Prop}{Q:Let->Prop}{R:List Tol->Prop}{i:Nat}
theorem GInv.set(h:GInv Q P M){i:Nat}{p:Nod}{ls:List Let}{ts:List Tol}(c:P i p)(b:∀ l∈ls,Q l):GInv Q P (M.set i p ls ts) :=
 ⟨λj a=>by
  show P j (upN M.ab i p j);unfold upN;split
  .rename_i e;rw[e];exact c
  .exact h.ab j a,b⟩
theorem GInv.ni(b:∀ i,i<5->NInv A i (D i) Q (P i))(c:A.ca=true){M:Meet}(h:GInv Q P M){l:Let}(d:Q l)(a:l.dst<5):GInv Q P (M.ni l):=by
 unfold Meet.ni;split
 .rename_i hu
  exact h.set (ls:=M.br) (ts:=M.fa) ((b _ a).take c _ l (h.ab _ a) d rfl hu) h.br
 .exact h
theorem GInv.comes(b:∀ i,i<5->NInv A i (D i) Q (P i))(c:A.ca=true)(l:List Let){M:Meet}(h:GInv Q P M)(a:∀ m∈l,Q m/\m.dst<5):GInv Q P (l.foldl (λM l=>M.ni l) M):=by
 induction l generalizing M with
 | nil=>exact h
 | cons x l ih=>exact ih (h.ni b c (a x M').1 (a x M').2) λm d=>a m (I' _ d)
structure Alw.Ok(A:Alw)(x:Lac):Prop where
 ca:x.k=4\/x.k=6\/x.k=7->A.ca=true
 ld:x.k=2->A.ld=true
 cr:x.k=8->A.cr=true
 st:x.k=9->A.st=true
theorem GInv.act(g:∀ i,i<5->NInv A i (D i) Q (P i)){n:Nat}{M:Meet}(h:GInv Q P M)(B:MOk n M){x:Lac}(C:LacOk x)(q:A.Ok x)(F:x.k=1->D x.n.toNat x.d):GInv Q P (M.act x):=by
 have b:∀ {k:Int},x.k=k->Gb k=true->x.n.toNat<5:=λ{k} e E=>by have:=C.n (by rw[e];exact E);omega
 unfold Meet.act;simp only;by_cases r:x.k=1
 .rw[if_pos r];have c:=b r rfl;refine h.set ?_ h.br;unfold Nod.qJ;by_cases f:(M.ab x.n.toNat).up=true
  .exact(g _ c).sub _ x.d M.fa (h.ab _ c) (F r) f
  .unfold Nod.qW;rw[if_pos (by simpa using f)];exact h.ab _ c
 .rw[if_neg r];by_cases s:x.k=2
  .rw[if_pos s];have c:=b s rfl;refine h.set ?_ h.br;split
   .rename_i f;exact(g _ c).lead (q.ld s) _ (h.ab _ c) f
   .exact h.ab _ c
  .rw[if_neg s];by_cases u:x.k=3
   .rw[if_pos u];have c:=b u rfl;by_cases f:(M.ab x.n.toNat).up=true
    .have:=(g _ c).piece _ M.br M.fa (h.ab _ c) f h.br;rw[if_pos f,if_pos f,if_pos f];exact h.set this.1 this.2
    .rw[if_neg f,if_neg f,if_neg f];exact h.set (h.ab _ c) h.br
   .rw[if_neg u];by_cases w:x.k=4\/x.k=5\/x.k=6
    .rw[if_pos w];unfold Meet.move;split
     .exact h
     .rename_i l v
      have j:=mA v;have z:GInv Q P (if x.k≠6 then{ M with br:=M.br.eraseIdx (x.a.toNat%M.br.length) }else M):=by
       split
       .exact⟨h.ab,λm j=>h.br m (oW j)⟩
       .exact h
      simp only;split
      .rename_i h5
       exact z.ni g (q.ca (by omega)) (h.br l j) (B.br l j).dst
      .exact z
    .rw[if_neg w];by_cases y:x.k=7
     .rw[if_pos y];unfold Meet.qD;exact GInv.comes g (q.ca (by omega)) _ ⟨h.ab,λl v=>by cases v⟩ λm j=>⟨h.br m j,(B.br m j).dst⟩
     .rw[if_neg y];by_cases o:x.k=8
      .rw[if_pos o];have c:=b o rfl;refine h.set ?_ h.br;split
       .rename_i f;exact(g _ c).jv (q.cr o) _ x.p (h.ab _ c) (C.p (by rw[o];rfl)).1 f
       .exact h.ab _ c
      .rw[if_neg o];by_cases t:x.k=9
       .rw[if_pos t];have c:=b t rfl;refine h.set ?_ h.br;split
        .exact h.ab _ c
        .rename_i f;exact(g _ c).start (q.st t) _ (h.ab _ c) (by simpa using f)
       .rw[if_neg t];exact h
structure TInv(i:Nat)(D:List Int->Prop)(P:Nod->Prop)(R:List Tol->Prop):Prop where
 one:∀ p c ts,P p->p.up=true->p.ae[p.done]?=some c->doE p.lp c=0->(p.bN c).isSome=true->R ts->R (ts++[⟨i,c.c,c.s,doC p.lp c,doA p.lp c⟩])
 sub:∀ p d ts,P p->D d->p.up=true->opE d (p.done:Int)=0->DZ d (p.done:Int)∈p.ae.take p.done->R ts->R (ts++[⟨i,(DZ d (p.done:Int)).c,(DZ d (p.done:Int)).s,doC p.lp (DZ d (p.done:Int)),doA p.lp (DZ d (p.done:Int))⟩])
theorem TInv.qK{D:List Int->Prop}{P:Nod->Prop}(h:NInv A i D Q P)(t:TInv i D P R)(l:List Cmd)(p:Nod)(b:List Tol)(j:P p)(e:p.up=true)(g:p.ae.drop p.done=l)(a:R b):R (qK i l p b).2:=by
 induction l generalizing p b with
 | nil=>exact a
 | cons c l ih =>
  rw[Go.Proofs.YtdjfdfpkkenjbadGreatDoor.qK];split
  .exact a
  .rename_i he
   have f:p.ae[p.done]?=some c:=by
    have:=congrArg (·[0]?) g;simpa using this
   have d:=DX { p with lp:=doS p.lp c,done:=p.done+1 } c;refine ih _ _ (h.one p c j e f (mf.1 he)) (d.1.trans e) ?_ ?_
   .rw[d.2.1,d.2.2.1];show p.ae.drop (p.done+1)=l;rw[<- oF,g];rfl
   .split
    .rename_i ha;exact t.one p c b j e f (mf.1 he) ha a
    .exact a
theorem NC(M:Meet)(l:Let):(M.ni l).fa=M.fa:=by unfold Meet.ni;split<;>rfl
theorem RL(l:List Let)(M:Meet):(l.foldl (λM l=>M.ni l) M).fa=M.fa:=by
 induction l generalizing M with
 | nil=>rfl
 | cons x l ih=>exact(ih _).trans (NC M x)
theorem VX(M:Meet)(k:Int)(a:Nat):(M.move k a).fa=M.fa:=by
 unfold Meet.move;split
 .rfl
 .simp only;split
  .rw[NC];split<;>rfl
  .split<;>rfl
theorem Xj(M:Meet){x:Lac}(a:x.k≠1)(b:x.k≠3):(M.act x).fa=M.fa:=by
 unfold Meet.act;simp only;rw[if_neg a];split
 .rfl
 .split
  .exact VX _ _ _
  .split
   .exact RL _ _
   .split
    .rfl
    .split<;>rfl
theorem GInv.fa(g:∀ i,i<5->NInv A i (D i) Q (P i))(c:∀ i,i<5->TInv i (D i) (P i) R){M:Meet}(h:GInv Q P M)(a:R M.fa){x:Lac}(e:LacOk x)(f:x.k=1->D x.n.toNat x.d):R (M.act x).fa:=by
 by_cases b:x.k=1
 .have hi:x.n.toNat<5:=by have:=e.n (by rw[b];rfl);omega
  unfold Meet.act;simp only;rw[if_pos b];show R (Nod.qJ _ _ _ _).2;unfold Nod.qJ Nod.qW;split
  .exact a
  .rename_i hu
   split
   .exact a
   .rename_i he
    split
    .rename_i hm
     exact(c _ hi).sub _ _ _ (h.ab _ hi) (f b) (by simpa using hu) (mf.1 he) hm a
    .exact a
 .by_cases h3:x.k=3
  .have hi:x.n.toNat<5:=by have:=e.n (by rw[h3];rfl);omega
   unfold Meet.act;simp only;rw[if_neg b,if_neg (by omega),if_pos h3];show R (if _ then _ else _);split
   .rename_i hu
    exact TInv.qK (g _ hi) (c _ hi) _ _ _ (h.ab _ hi) hu rfl a
   .exact a
  .rw[Xj M b h3];exact a
theorem GInv.dT(c:∀ i,i<5->NInv A i (D i) Q (P i))(g:∀ i,i<5->TInv i (D i) (P i) R)(L:List Lac){n:Nat}{M:Meet}(b:MOk n M)(j:n+L.length<=1000000)(h:GInv Q P M)(e:R M.fa)(f:∀ x∈L,LacOk x/\A.Ok x/\(x.k=1->D x.n.toNat x.d)):GInv Q P (M.dT L)/\R (M.dT L).fa/\MOk (n+L.length) (M.dT L):=by
 induction L generalizing n M with
 | nil=>exact⟨h,e,b⟩
 | cons x L ih =>
  have a:=f x M';rw[mI]at j
  have:=ih (b.act (by omega) a.1) (by omega) (h.act c b a.1 a.2.1 a.2.2) (h.fa c g e a.1 a.2.2) λy l=>f y (I' _ l);rw[mI,show n+(L.length+1)=n+1+L.length by omega];exact this
theorem TInv.all(i:Nat)(D:List Int->Prop)(P:Nod->Prop):TInv i D P λ_=>True:=⟨λ_ _ _ _ _ _ _ _ _=>trivial,λ_ _ _ _ _ _ _ _ _=>trivial⟩
structure Wh where
 d:Nat->List Int->Prop
 ld:Prop
 cr:Prop
 dr:Prop
 tk:Prop
 st:Prop
def Wh.may(D:Wh)(x:Lac):Prop:=(x.k=1->D.d x.n.toNat x.d)/\(x.k=2->D.ld)/\(x.k=8->D.cr)/\(x.k=4\/x.k=5\/x.k=6\/x.k=7->D.dr/\D.tk)/\(x.k=9->D.st)
inductive Stp (D:Wh):Nat->Meet->Meet->Prop
 | take (M:Meet) (l:Let) (hl:l∈M.br) (hd:l.src<5/\l.dst<5) (hu:(M.ab l.dst).up=true) (ht:D.tk):Stp D 0 M (M.set l.dst ((M.ab l.dst).take l) M.br M.fa)
 | br (M:Meet) (ls:List Let) (h:∀ l∈ls,l∈M.br) (hd:D.dr):Stp D 0 M { M with br:=ls }
 | one (M:Meet) (i:Nat) (c:Cmd) (hi:i<5) (hu:(M.ab i).up=true) (hc:(M.ab i).ae[(M.ab i).done]?=some c) (he:doE (M.ab i).lp c=0) :
   Stp D 0 M (M.set i (Nod.hU { M.ab i with lp:=doS (M.ab i).lp c,done:=(M.ab i).done+1 } c) M.br (if((M.ab i).bN c).isSome=true then M.fa++[⟨i,c.c,c.s,doC (M.ab i).lp c,doA (M.ab i).lp c⟩]else M.fa))
 | ask (M:Meet) (i:Nat) (hi:i<5) (hu:(M.ab i).up=true):Stp D 0 M (M.set i ((M.ab i).ib i).1 (M.br++((M.ab i).ib i).2) M.fa)
 | prop (M:Meet) (i:Nat) (hi:i<5) (hu:(M.ab i).up=true):Stp D 1 M (M.set i (M.ab i).cF M.br M.fa)
 | qH (M:Meet) (i:Nat) (hi:i<5) (hu:(M.ab i).up=true) (h:(M.ab i).sy<((M.ab i).d.length:Int)) (hT:AR (M.ab i).d (M.ab i).sy):Stp D 0 M (M.set i { M.ab i with sy:=((M.ab i).d.length:Int) } M.br M.fa)
 | run (M:Meet) (i:Nat) (hi:i<5) (hu:(M.ab i).up=true) (q:Pend) (l:List Pend) (hp:(M.ab i).bu=q::l) (hs:¬ (M.ab i).sy<((M.ab i).d.length:Int)):Stp D 0 M (M.set i { (M.ab i).ic i q with bu:=l } (M.br++(M.ab i).qx i q) M.fa)
 | qz (M:Meet) (i:Nat) (hi:i<5) (hu:(M.ab i).up=true) (hL:(M.ab i).leads=true):Stp D 0 M (M.set i (EC (M.ab i) i 5) (M.br++Dq (M.ab i) i 5) M.fa)
 | lead (M:Meet) (i:Nat) (hi:i<5) (hu:(M.ab i).up=true) (hL:D.ld):Stp D 0 M (M.set i ((M.ab i).lead i) M.br M.fa)
 | sub (M:Meet) (i:Nat) (d:List Int) (hi:i<5) (hu:(M.ab i).up=true) (hD:D.d i d):Stp D 0 M (M.set i ((M.ab i).qJ i d M.fa).1 M.br ((M.ab i).qJ i d M.fa).2)
 | jv (M:Meet) (i:Nat) (k:Int) (hi:i<5) (hu:(M.ab i).up=true) (hk:0<=k) (hC:D.cr):Stp D 0 M (M.set i ((M.ab i).jv k) M.br M.fa)
 | start (M:Meet) (i:Nat) (hi:i<5) (hu:(M.ab i).up=false) (hs:D.st):Stp D 0 M (M.set i (M.ab i).start M.br M.fa)
inductive Sts (D:Wh):Nat->Meet->Meet->Prop
 | nil (n:Nat) (M:Meet):Sts D n M M
 | snoc {n c m:Nat} {M N K:Meet} (h:Sts D n M N) (s:Stp D c N K) (hm:n+c<=m):Sts D m M K
end
section
variable{D:Wh}
section
variable{K M N:Meet}{i m n:Nat}{α:Type}
theorem Sts.mono(h:Sts D n M N)(a:n<=m):Sts D m M N:=by
 cases h with
 | nil=>exact .nil m M
 | snoc h s hm=>exact .snoc h s (by omega)
theorem Sts.trans(h:Sts D n M N)(k:Sts D m N K):Sts D (n+m) M K:=by
 induction k with
 | nil=>exact h.mono (by omega)
 | snoc _ s hm ih=>exact(ih h).snoc s (by omega)
theorem Sts.s0(h:Sts D n M N)(s:Stp D 0 N K):Sts D n M K:=h.snoc s (A' _)
theorem Stp.s(h:Stp D 0 M N):Sts D n M N:=(Sts.nil n M).s0 h
theorem Sts.inv{I:Meet->Prop}(b:∀ c M N,Stp D c M N->I M->I N){n:Nat}{M N:Meet}(h:Sts D n M N)(a:I M):I N:=by
 induction h with
 | nil=>exact a
 | snoc _ s _ ih=>exact b _ _ _ s (ih a)
theorem Je(f:Nat->α)(i:Nat):upN f i (f i)=f:=by funext j;unfold upN;split<;>simp_all
theorem UT(f:Nat->α)(i:Nat)(x y:α):upN (upN f i x) i y=upN f i y:=by funext j;unfold upN;split<;>rfl
theorem Cf(M:Meet)(i:Nat)(p q:Nod)(c a:List Let)(d b:List Tol):(M.set i p c d).set i q a b=M.set i q a b:=by unfold Meet.set;simp only[UT]
theorem Bg(M:Meet)(i:Nat)(p:Nod)(a:List Let)(b:List Tol):(M.set i p a b).ab i=p:=Db M.ab i p
theorem Eo(M:Meet)(l:Let):(M.ni l).br=M.br:=by unfold Meet.ni;split<;>rfl
theorem ND(M:Meet)(l:Let)(a:List Let):({ M with br:=a }:Meet).ni l={ M.ni l with br:=a }:=by
 unfold Meet.ni;show(if(M.ab l.dst).up=true then _ else _)=_;split<;>rfl
theorem Hv(l:List Let)(M:Meet)(a:List Let):l.foldl (λM l=>M.ni l) ({ M with br:=a }:Meet)={ l.foldl (λM l=>M.ni l) M with br:=a }:=by
 induction l generalizing M with
 | nil=>rfl
 | cons x l ih=>rw[qo,ND,ih];rfl
theorem Sts.ni(c:D.tk){n:Nat}{M N:Meet}(h:Sts D n M N){l:Let}(b:l∈N.br)(a:l.src<5/\l.dst<5):Sts D n M (N.ni l):=by
 unfold Meet.ni;split
 .rename_i hu;exact h.s0 (.take N l b a hu c)
 .exact h
theorem Sts.comes(c:D.tk)(l:List Let){n:Nat}{M N:Meet}(h:Sts D n M N)(a:∀ m∈l,m∈N.br/\m.src<5/\m.dst<5):Sts D n M (l.foldl (λM l=>M.ni l) N):=by
 induction l generalizing N with
 | nil=>exact h
 | cons x l ih=>exact ih (h.ni c (a x M').1 (a x M').2) λm b=>by rw[Eo];exact a m (I' _ b)
theorem Sts.qK(k:i<5)(l:List Cmd)(p:Nod){M:Meet}{d:List Let}{a:List Tol}(h:Sts D n M (M.set i p d a))(b:p.up=true)(g:p.ae.drop p.done=l) :
  Sts D n M (M.set i (qK i l p a).1 d (Go.Proofs.YtdjfdfpkkenjbadGreatDoor.qK i l p a).2)/\(Go.Proofs.YtdjfdfpkkenjbadGreatDoor.qK i l p a).1.up=true:=by
 induction l generalizing p a with
 | nil=>exact⟨h,b⟩
 | cons c l ih =>
  rw[Go.Proofs.YtdjfdfpkkenjbadGreatDoor.qK];split
  .exact⟨h,b⟩
  .rename_i he
   have j:p.ae[p.done]?=some c:=by have:=congrArg (·[0]?) g;simpa using this
   have f:=DX { p with lp:=doS p.lp c,done:=p.done+1 } c;have e:=Bg M i p d a;have s:=Stp.one (D:=D) (M.set i p d a) i c k (by rw[e];exact b) (by rw[e];exact j) (by rw[e];exact mf.1 he);rw[e,Cf]at s
   refine ih _ (h.s0 s) (f.1.trans b) ?_;rw[f.2.1,f.2.2.1];show p.ae.drop (p.done+1)=l;rw[<- oF,g];rfl
theorem Sts.nn(g:i<5)(l:List Pend)(p:Nod){M:Meet}{ls:List Let}{ts:List Tol}(h:Sts D n M (M.set i { p with bu:=l } ls ts))(b:p.up=true)(f:p.bu=[])(c:¬ p.sy<(p.d.length:Int)) :
  Sts D n M (M.set i (nn i l p ls).1 (Go.Proofs.YtdjfdfpkkenjbadGreatDoor.nn i l p ls).2 ts)/\(Go.Proofs.YtdjfdfpkkenjbadGreatDoor.nn i l p ls).1.up=true:=by
 induction l generalizing p ls with
 | nil =>
  have:({ p with bu:=[] }:Nod)=p:=by cases p;simp_all
  rw[this]at h;exact⟨h,b⟩
 | cons q l ih =>
  have a:=DE p i q;have e:=Bg M i { p with bu:=q::l } ls ts;have s:=Stp.run (D:=D) (M.set i { p with bu:=q::l } ls ts) i g (by rw[e];exact b) q l (by rw[e]) (by rw[e];exact c);rw[e,Cf,Ox,Ml]at s
  exact ih (p.ic i q) (h.s0 s) (a.2.1.trans b) (a.1.trans f) (by rw[a.2.2.1,a.2.2.2];exact c)
theorem Sts.piece(c:i<5)(M:Meet)(x:(M.ab i).up=true):Sts D 1 M (M.set i ((M.ab i).piece i M.br M.fa).1 ((M.ab i).piece i M.br M.fa).2.1 ((M.ab i).piece i M.br M.fa).2.2):=by
 have w:Sts D 0 M (M.set i (M.ab i) M.br M.fa):=by rw[show M.set i (M.ab i) M.br M.fa=M by unfold Meet.set;rw[Je]];exact .nil 0 M
 obtain⟨q,l⟩:=Sts.qK c _ (M.ab i) w x rfl;unfold Nod.piece;simp only;generalize Go.Proofs.YtdjfdfpkkenjbadGreatDoor.qK i ((M.ab i).ae.drop (M.ab i).done) (M.ab i) M.fa=a at q l ⊢;have e:=Bg M i a.1 M.br a.2;have s:=Stp.ask (D:=D) (M.set i a.1 M.br a.2) i c (by rw[e];exact l);rw[e,Cf]at s
 have t:=q.s0 s;have n:=(Io a.1 i).trans l;clear e s q;generalize (a.1.ib i)=b at t n ⊢;have e:=Bg M i b.1 (M.br++b.2) a.2;have s:=Stp.prop (D:=D) (M.set i b.1 (M.br++b.2) a.2) i c (by rw[e];exact n);rw[e,Cf]at s
 have g:=t.snoc s (m:=1) (by omega);have h:=(E7 b.1).trans n;clear e s t;change Sts D 1 M (M.set i b.1.cF (M.br++b.2) a.2)at g;generalize b.1.cF=r at g h ⊢;generalize M.br++b.2=k at g ⊢;have j:Sts D 1 M (M.set i (r.mv i k).1 (r.mv i k).2 a.2)/\(r.mv i k).1.up=true:=by
  unfold Nod.mv;split
  .exact⟨g,h⟩
  .rename_i hn
   have e:=Bg M i r k a.2;unfold Nod.qH;split
   .rename_i h1
    have o:CZ r.d r.sy=0:=mf.1 λe=>hn ⟨h1,e⟩;have p:AR r.d r.sy:=by
     unfold CZ at o;split at o
     .assumption
     .cases o
    have s:=Stp.qH (D:=D) (M.set i r k a.2) i c (by rw[e];exact h) (by rw[e];exact h1) (by rw[e];exact p);rw[e,Cf]at s
    have u:Hg r.d r.sy=r.d:=if_pos p;have v:If r.d r.sy=(r.d.length:Int):=if_pos p;rw[u,v];exact Sts.nn c r.bu { r with sy:=(r.d.length:Int),bu:=[] } (g.s0 s) h rfl (pY _)
   .rename_i h1
    exact Sts.nn c r.bu { r with bu:=[] } g h rfl h1
 generalize r.mv i k=f at j ⊢;unfold Nod.bw;split
 .rename_i hL
  have e:=Bg M i f.1 f.2 a.2;have s:=Stp.qz (D:=D) (M.set i f.1 f.2 a.2) i c (by rw[e];exact j.2) (by rw[e];exact hL);rw[e,Cf]at s
  exact j.1.s0 s
 .exact j.1
theorem ER(M:Meet)(i:Nat):M.set i (M.ab i) M.br M.fa=M:=by unfold Meet.set;rw[Je]
theorem OD(g:MOk n M){x:Lac}(v:LacOk x)(j:D.may x):Sts D 1 M (M.act x):=by
 obtain⟨j,y,z,i,A⟩:=j;have b:∀ {k:Int},x.k=k->Gb k=true->x.n.toNat<5:=λ{k} e w=>by have:=v.n (by rw[e];exact w);omega
 unfold Meet.act;simp only;split
 .rename_i h1
  by_cases c:(M.ab x.n.toNat).up=true
  .exact(Stp.sub M _ x.d (b h1 rfl) c (j h1)).s
  .unfold Nod.qJ Nod.qW;rw[if_pos (by simpa using c)];rw[ER];exact .nil 1 M
 .split
  .rename_i hk
   split
   .rename_i c;exact(Stp.lead M _ (b hk rfl) c (y hk)).s
   .rw[ER];exact .nil 1 M
  .split
   .rename_i h3
    by_cases c:(M.ab x.n.toNat).up=true
    .rw[if_pos c,if_pos c,if_pos c];exact Sts.piece (b h3 rfl) M c
    .rw[if_neg c,if_neg c,if_neg c,ER];exact .nil 1 M
   .split
    .rename_i hk4
     obtain⟨o,r⟩:=i (by omega);unfold Meet.move;split
     .exact .nil 1 M
     .rename_i l q
      have f:=mA q;have B:=And.intro (g.br l f).src (g.br l f).dst;have u:∀ N:Meet,Sts D 1 M N->N.br=M.br->Sts D 1 M (if x.k≠6 then{ N with br:=M.br.eraseIdx (x.a.toNat%M.br.length) }else N):=λN h e=>by
       split
       .exact h.s0 (.br N _ (λm f=>by rw[e];exact oW f) o)
       .exact h
      simp only;split
      .have:=u (M.ni l) ((Sts.nil 1 M).ni r f B) (Eo M l);by_cases t:x.k≠6
       .rw[if_pos t]at this ⊢;rw[ND];exact this
       .rw[if_neg t]at this ⊢;exact this
      .exact u M (.nil 1 M) rfl
    .split
     .rename_i hk7
      unfold Meet.qD;rw[Hv];exact(Sts.comes (i (by omega)).2 M.br (.nil 1 M) λm f=>⟨f,(g.br m f).src,(g.br m f).dst⟩).s0 (.br _ [] (λl q=>by cases q) (i (by omega)).1)
     .split
      .rename_i hk
       split
       .rename_i c;exact(Stp.jv M _ x.p (b hk rfl) c (v.p (by rw[hk];rfl)).1 (z hk)).s
       .rw[ER];exact .nil 1 M
      .split
       .rename_i h9
        split
        .rw[ER];exact .nil 1 M
        .rename_i c;exact(Stp.start M _ (b h9 rfl) (by simpa using c) (A h9)).s
       .exact .nil 1 M
theorem In(L:List Lac){n:Nat}{M:Meet}(b:MOk n M)(d:n+L.length<=1000000)(c:∀ x∈L,LacOk x/\D.may x):Sts D L.length M (M.dT L):=by
 induction L generalizing n M with
 | nil=>exact .nil _ M
 | cons x L ih =>
  have a:=c x M';rw[mI]at d
  rw[mI,Nat.add_comm];exact(OD b a.1 a.2).trans (ih (b.act (by omega) a.1) (by omega) λy e=>c y (I' _ e))
end
end
section
def whT:Wh:=⟨λ_ _=>True,True,True,True,True,True⟩
theorem Vc(x:Lac):whT.may x:=⟨λ_=>trivial,λ_=>trivial,λ_=>trivial,λ_=>⟨trivial,trivial⟩,λ_=>trivial⟩
inductive Rk where
 | pr (b:Bal)
 | vt (v:Vt)
def Rk.body:Rk->List Int
 | .pr b=>Bu b
 | .vt v=>Bk v
def Rk.ap(a:Acc):Rk->Acc
 | .pr b=>⟨b,a.vs⟩
 | .vt v=>⟨v.b,Bo a.vs v⟩
def Rk.err(a:Acc):Rk->Int
 | .pr b=>Cj a b
 | .vt v=>Ba a v
def Rk.ok(a:Acc):Rk->Prop
 | .pr b=>Cj a b=0/\a.p≠b
 | .vt v=>Ba a v=0/\v∉a.vs
variable{a:Acc}{b:Bal}{dr qs rs:List Rk}{i j n:Nat}{l:List Cmd}{p:Nod}{r:Rk}{v:Vt}{vs:List Vt}
theorem Rk.ok.err(h:Rk.ok a r):Rk.err a r=0:=by cases r<;>exact h.1
def B1(rs:List Rk):Acc:=rs.foldl Rk.ap a0
theorem BS(a:List Rk)(r:Rk):B1 (a++[r])=Rk.ap (B1 a) r:=by unfold B1;rw[oO];rfl
def AQ(rs:List Rk):Prop:=∀ i r,rs[i]?=some r->Rk.ok (B1 (rs.take i)) r
theorem AQ.nil:AQ []:=λi r h=>by simp at h
theorem AQ.left(h:AQ (rs++qs)):AQ rs:=λi r e=>by
 have a:=(V'.1 e).1;have:=h i r (by rw[mr a];exact e)
 rwa [my (by omega)]at this
theorem AQ.pre(h:AQ qs)(a:rs <+: qs):AQ rs:=by obtain⟨x,rfl⟩:=a;exact h.left
theorem AQ.snoc(h:AQ rs)(a:Rk.ok (B1 rs) r):AQ (rs++[r]):=λi q e=>by
 rcases mX i rs.length with hi|hi
 .rw[mr hi]at e
  rw[my (by omega)];exact h i q e
 .have:=(V'.1 e).1;rw[H',mT]at this
  obtain rfl:i=rs.length:=by omega
  rw[mw (A' _)]at e
  simp at e;subst e;rw[my (A' _),nP];exact a
theorem AQ.last(h:AQ (rs++[r])):Rk.ok (B1 rs) r:=by
 have:=h rs.length r (by simp)
 rwa [my (A' _),nP]at this
theorem AQ.ind{P:List Rk->Prop}(b:P [])(c:∀ a r,AQ a->Rk.ok (B1 a) r->P a->P (a++[r])){a:List Rk}(h:AQ a):P a:=by
 have:∀ k,k<=a.length->P (a.take k):=by
  intro k;induction k with
  | zero=>intro _;exact b
  | succ k ih =>
   intro d;have e:a.take (k+1)=a.take k++[a[k]]:=by rw[mx (by omega)]
   rw[e];exact c _ _ (h.pre (oT _ _)) (h k _ (G' (by omega))) (ih (by omega))
 have:=this a.length (A' _)
 rwa [nP]at this
theorem Ag.te(h:Ag a)(c:Ab b)(i:¬ b.lt a.p):Ag ⟨b,a.vs⟩:=by
 refine⟨.inl c,λv d=>⟨(h.2.1 v d).1,λg=>?_⟩,h.2.2⟩;have e:=(h.2.1 v d).1.2.1;have f:=(h.2.1 v d).2;rw[EX c.pr e.pr]at g
 rw[EX h.1 e.pr]at f
 rw[EX c.pr h.1]at i
 omega
theorem Ag.sB(h:Ag a)(d:Ah v)(e:¬ v.b.lt a.p):Ag ⟨v.b,Bo a.vs v⟩:=by
 refine⟨.inl d.2.1,λu c=>?_,Ju v h.2.2⟩;rcases(BB h.2.2).1 c with rfl|⟨c,_⟩
 .refine⟨d,λg=>?_⟩;change u.b.lt u.b at g;unfold Bal.lt at g;omega
 .exact(h.te d.2.1 e).2.1 u c
theorem KK:Ag a0:=⟨.inr ⟨rfl,rfl⟩,λv a=>(P' a).elim,trivial⟩
theorem Rk.may(h:Ag a){r:Rk}(c:Rk.err a r=0):Ag (Rk.ap a r):=by
 cases r with
 | pr b=>have:=Cl c;exact h.te this.2.1 this.2.2
 | vt v=>have:=Ap c;exact h.sB this.2.1 this.2.2
theorem AQ.acc(h:AQ rs):Ag (B1 rs):=h.ind (P:=λrs=>Ag (B1 rs)) KK λrs r _ a b=>by rw[BS];exact Rk.may b a.err
theorem Bp{a:Bal}(c:Ao a)(d:Ao b)(h:¬ a.lt b):b.key<=a.key:=by rw[EX c d]at h;omega
theorem Rk.rN(h:Ag a){r:Rk}(c:Rk.err a r=0):a.p.key<=(Rk.ap a r).p.key:=by
 cases r with
 | pr b=>have:=Cl c;exact Bp this.2.1.pr h.1 this.2.2
 | vt v=>have:=Ap c;exact Bp this.2.1.2.1.pr h.1 this.2.2
theorem IP(h:AQ rs):∀ v∈(B1 rs).vs,Rk.vt v∈rs:=h.ind (P:=λrs=>∀ v∈(B1 rs).vs,Rk.vt v∈rs) (λv a=>by cases a) λrs r d e c v a=>by
 rw[BS]at a
 cases r with
 | pr b=>exact mi _ (c v a)
 | vt u =>
  rcases(BB d.acc.2.2).1 a with rfl|⟨a,_⟩
  .exact mg _ M'
  .exact mi _ (c v a)
theorem Ag.le(h:Ag a){v:Vt}(c:v∈a.vs):v.b.key<=a.p.key:=Bp h.1 (h.2.1 v c).1.2.1.pr (h.2.1 v c).2
theorem LC(h:Ag a){v:Vt}(f:Ba a v=0){u:Vt}(c:u∈a.vs):∃ x∈Bo a.vs v,x.bt=u.bt/\u.b.key<=x.b.key:=by
 have d:=Ap f;by_cases e:u.bt=v.bt
 .exact⟨v,(BB h.2.2).2 (.inl rfl),e.symm,mB (h.le c) (Bp d.2.1.2.1.pr h.1 d.2.2)⟩
 .exact⟨u,(BB h.2.2).2 (.inr ⟨c,e⟩),rfl,mc _⟩
theorem QV(h:AQ rs):∀ v,Rk.vt v∈rs->v.b.key<=(B1 rs).p.key/\∃ u∈(B1 rs).vs,u.bt=v.bt/\v.b.key<=u.b.key:=h.ind (P:=λrs=>∀ v,Rk.vt v∈rs->v.b.key<=(B1 rs).p.key/\∃ u∈(B1 rs).vs,u.bt=v.bt/\v.b.key<=u.b.key) (λv hv=>by cases hv) λrs r c a e v hv=>by
 have d:=Rk.rN c.acc a.err;rw[BS];rcases Q'.1 hv with hv|hv
 .obtain⟨h1,u,h2,h3,h4⟩:=e v hv;refine⟨mB h1 d,?_⟩;cases r with
  | pr b=>exact⟨u,h2,h3,h4⟩
  | vt w =>
   obtain⟨x,f,g,i⟩:=LC c.acc a.err h2;exact⟨x,f,g.trans h3,mB h4 i⟩
 .rw[<- D'.1 hv]at a ⊢
  exact⟨mc _,v,(BB c.acc.2.2).2 (.inl rfl),rfl,mc _⟩
theorem DD(h:AQ (rs++qs)):(B1 rs).p.key<=(B1 (rs++qs)).p.key/\∀ v,Rk.vt v∈qs->(B1 rs).p.key<=v.b.key:=by
 have:∀ k,k<=qs.length->(B1 rs).p.key<=(B1 (rs++qs.take k)).p.key/\∀ v,Rk.vt v∈qs.take k->(B1 rs).p.key<=v.b.key:=by
  intro k;induction k with
  | zero=>intro _;rw[ny,mG];exact⟨mc _,λv hv=>by cases hv⟩
  | succ k ih =>
   intro i;obtain⟨c,g⟩:=ih (by omega);have e:qs.take (k+1)=qs.take k++[qs[k]]:=by rw[mx (by omega)]
   have a:AQ (rs++qs.take k++[qs[k]]):=h.pre (by rw[ml,<- e];exact List.prefix_append_right_inj rs |>.2 (oT _ _));have d:=Rk.rN a.left.acc a.last.err;rw[<- BS]at d
   rw[e,<- ml];refine⟨mB c d,λv hv=>?_⟩;rcases Q'.1 hv with hv|hv
   .exact g v hv
   .have hl:=a.last;rw[<- D'.1 hv]at hl
    have f:=Ap hl.err;exact mB c (Bp f.2.1.2.1.pr a.left.acc.1 f.2.2)
 have:=this qs.length (A' _)
 rwa [nP]at this
def fl(rs:List Rk):List Int:=AD (rs.map Rk.body)
theorem cB(a:List Rk)(r:Rk):fl (a++[r])=fl a++AM r.body:=by unfold fl;rw[mH,CB];simp[AD]
theorem Si(b a:List Rk):fl (b++a)=fl b++fl a:=by unfold fl;rw[mH,CB]
theorem Yi(h:rs <+: qs):(fl rs).length<=(fl qs).length:=by obtain⟨x,rfl⟩:=h;rw[Si,H'];omega
theorem j2(h:rs <+: qs)(a:(fl qs).length<=(fl rs).length):rs=qs:=by
 obtain⟨x,rfl⟩:=h;rw[Si,H']at a
 have:=Qi (x.map Rk.body);rw[mD]at this
 unfold fl at a;obtain rfl:x=[]:=Y' (by omega);rw[mG]
theorem AQ.tg(h:AQ rs):Chn ((List.range (rs.length+1)).map λj=>B1 (rs.take j)) (rs.map Rk.body):=by
 refine⟨by simp,by simp[B1],λi b a c g f l=>?_⟩;simp only[mV,nF]at g f l;obtain⟨r,e,rfl⟩:=g;obtain⟨j,n,rfl⟩:=f;obtain⟨k,o,rfl⟩:=l;have m:=(V'.1 e).1;rw[nT (by omega)]at n o
 cases n;cases o;have d:=(h i r e).err;have p:rs[i]=r:=by rw[G' m]at e;exact mQ e
 rw[mx m,BS,p];generalize B1 (rs.take i)=a at d ⊢;cases r with
 | pr b=>show DS a (Bu b)=_;rw[XW a (Cl d).2.1];exact if_pos d
 | vt v=>show DS a (Bk v)=_;rw[XX a (Ap d).2.1];exact if_pos d
structure TpU(p:Nod)(dr rs:List Rk):Prop where
 ok:AQ rs
 pre:dr <+: rs
 d:p.d=fl rs
 sy:p.sy=((fl dr).length:Int)
 vo:p.vo=B1 rs
 len:p.d.length<=100000
structure TpD(p:Nod)(dr:List Rk):Prop where
 ok:AQ dr
 sc:En p.d=((fl dr).length,B1 dr)
 tk:p.d.take (fl dr).length=fl dr
 sy:p.sy=(p.d.length:Int)
 len:p.d.length<=100000
theorem TpU.rF(h:TpU p dr rs):AR p.d p.sy:=by
 have:=Yi h.pre;have:=h.d;refine⟨h.len,by rw[h.sy];omega,?_⟩;rw[h.sy,h.d];omega
theorem TpU.zero:TpU Cx [] []:=⟨AQ.nil,mh _,rfl,rfl,rfl,by decide⟩
theorem TpU.all(h:TpU p dr rs)(a:¬ p.sy<(p.d.length:Int)):dr=rs:=j2 h.pre (by rw[h.sy,h.d]at a;omega)
theorem TpU.jv(h:TpU p dr rs){k:Int}(u:0<=k):∃ dr',dr <+: dr'/\dr' <+: rs/\TpD (p.jv k) dr':=by
 have o:=h.rF;have b:Gj p.d p.sy k=0:=by unfold Gj;rw[if_neg (λe=>e o),if_neg (by omega)]
 have f:=o;unfold AR at f;have t:p.sy<=Gk p.d p.sy k/\Gk p.d p.sy k<=(p.d.length:Int):=by unfold Gk;split<;>omega
 obtain⟨j,a,r,l,m,n,h5⟩:=h.ok.tg.sV (Gk p.d p.sy k).toNat;rw[mD]at r h5
 rw[mV,nT (by omega)]at l
 obtain rfl:B1 (rs.take j)=a:=by simpa using l
 have i:AD ((rs.map Rk.body).take j)=fl (rs.take j):=by unfold fl;rw[pH]
 rw[i]at m n
 have c:(p.jv k).d=(fl rs).take (Gk p.d p.sy k).toNat:=by
  unfold Nod.jv;rw[if_neg (λe=>e b)];show Ky p.d p.sy k=_;unfold Ky;rw[if_pos b,h.d]
 have s:(p.jv k).sy=Gk p.d p.sy k:=by
  unfold Nod.jv;rw[if_neg (λe=>e b)];show Kz p.d p.sy k=_;unfold Kz;rw[if_pos b]
 have q:((fl rs).take (Gk p.d p.sy k).toNat).length=(Gk p.d p.sy k).toNat:=by rw[j',<- h.d];omega
 refine⟨rs.take j,?_,oT _ _,h.ok.pre (oT _ _),by rw[c];exact m,?_,?_,?_⟩
 .obtain⟨x,hx⟩:=h.pre;rcases mX j dr.length with g|g
  .exfalso;rcases h5 with h5|h5
   .rw[<- hx,H']at h5;omega
   .have hp:rs.take (j+1) <+: dr:=by rw[<- hx,my (by omega)];exact oT _ _
    have:=Yi hp;rw[show AD ((rs.map Rk.body).take (j+1))=fl (rs.take (j+1))by unfold fl;rw[pH]]at h5
    have:=h.sy;omega
  .rw[<- hx,List.take_append];rw[mo g];exact nw _ _
 .rw[c,oG,nm n];have e:fl rs=fl (rs.take j)++fl (rs.drop j):=by rw[<- Si,np]
  rw[show(fl rs).take (fl (rs.take j)).length=(fl (rs.take j)++fl (rs.drop j)).take (fl (rs.take j)).length by rw[<- e],my (A' _),nP]
 .rw[s,c,q];omega
 .rw[c,q];have:=h.len;omega
theorem TpD.start(h:TpD p dr):TpU p.start dr dr:=by
 have c:AR p.d p.sy:=⟨h.len,by rw[h.sy];omega,by rw[h.sy];omega⟩;have g:CZ p.d p.sy=0:=if_pos c;have i:Nk p.d p.sy=((fl dr).length:Int):=by unfold Nk;rw[if_pos c,h.sc]
 have j:Gz p.d p.sy=B1 dr:=by unfold Gz;rw[if_pos c,h.sc]
 have a:=UG p.d;rw[h.sc]at a
 have a:(fl dr).length<=p.d.length:=a;have f:=h.len;unfold Nod.start;rw[if_neg (λe=>e g),i,j];split
 .rename_i hlt
  have b:J8 p.d p.sy=fl dr:=by unfold J8;rw[if_pos c,h.sc];exact h.tk
  have k:Mf p.d p.sy=((fl dr).length:Int):=by unfold Mf;rw[if_pos c,h.sc];exact if_pos (by rw[h.sy];exact hlt)
  exact⟨h.ok,mh _,b,k,rfl,by show(J8 p.d p.sy).length<=_;rw[b];omega⟩
 .rename_i hge
  have b:p.d=fl dr:=by have:=h.tk;rwa [mo (by omega)]at this
  exact⟨h.ok,mh _,b,by show p.sy=_;rw[h.sy,<- b],rfl,f⟩
theorem TpU.qH(h:TpU p dr rs):TpU { p with sy:=(p.d.length:Int) } rs rs:=⟨h.ok,mh _,h.d,by show(p.d.length:Int)=_;rw[h.d],h.vo,h.len⟩
def Nod.tv(p:Nod)(d:List Int)(s:Int)(a:Acc):Nod:={ p with d:=d,sy:=s,vo:=a }
theorem TpU.write(h:TpU p dr rs){r:Rk}(a:Rk.ok p.vo r)(b:p.d.length+(r.body.length+5)<=100000):TpU (p.tv (p.d++AM r.body) p.sy (Rk.ap p.vo r)) dr (rs++[r]):=by
 rw[h.vo]at a
 refine⟨h.ok.snoc a,h.pre.trans (nw _ _),?_,h.sy,?_,?_⟩
 .show p.d++_=_;rw[h.d,cB]
 .show Rk.ap p.vo r=_;rw[h.vo,BS]
 .show(p.d++AM r.body).length<=_;rw[H',Bj];omega
theorem TpU.au(h:TpU p dr rs)(b:Bal):((p.au b).2.2≠0/\(p.au b).1=p) \/
  ((p.au b).2.2=0/\Cj p.vo b=0/\(p.au b).2.1=p.vo.vs/\∃ rs',rs <+: rs'/\TpU (p.au b).1 dr rs'/\(∀ v,Rk.vt v∈rs'↔Rk.vt v∈rs)/\(B1 rs').p=b/\(B1 rs').vs=p.vo.vs/\∃ d a,(p.au b).1=p.tv d p.sy a):=by
 unfold Nod.au;split
 .rename_i c;exact .inl ⟨c,rfl⟩
 .rename_i c
  have c:=mf.1 c;split
  .rename_i h2
   refine .inr ⟨rfl,c,rfl,rs,mh _,?_,λ_=>Iff.rfl,?_,?_,p.d,p.vo,?_⟩
   .rw[h2];exact h
   .rw[<- h.vo];exact h2.symm
   .rw[<- h.vo]
   .rw[h2];rfl
  .rename_i h2
   split
   .rename_i f;exact .inl ⟨f,rfl⟩
   .rename_i f
    have f:=mf.1 f;have j:=JP f;have g:FU p.d p.sy (Ab b) (Bu b)=p.d++AM (Bu b):=if_pos f;have i:GJ p.d p.sy (Ab b) (Bu b)=p.sy:=if_pos f;rw[g,i];refine .inr ⟨rfl,c,rfl,rs++[Rk.pr b],nw _ _,(h.write (r:=.pr b) ⟨c,λe=>h2 e.symm⟩ j.2.1),λv=>by simp,?_,?_,_,_,rfl⟩
    .rw[BS];rfl
    .rw[BS,h.vo];rfl
theorem VI{l:List Vt}(h:BL l){v:Vt}(hv:v∈l):Bo l v=l:=by
 induction l with
 | nil=>cases hv
 | cons u us ih =>
  rw[Bo];rcases mn.1 hv with rfl|hv
  .rw[if_neg (pY _),if_pos rfl]
  .rw[if_pos (h.1 v hv),ih h.2 hv]
theorem TpU.cl(h:TpU p dr rs)(v:Vt):((p.cl v).2≠0/\(p.cl v).1=p) \/
  ((p.cl v).2=0/\Ba p.vo v=0/\∃ rs',rs <+: rs'/\TpU (p.cl v).1 dr rs'/\(∀ u,Rk.vt u∈rs'↔u=v\/Rk.vt u∈rs)/\(B1 rs').p=v.b/\∃ d a,(p.cl v).1=p.tv d p.sy a):=by
 unfold Nod.cl;split
 .rename_i c;exact .inl ⟨c,rfl⟩
 .rename_i c
  have c:=mf.1 c;have i:=Ap c;split
  .rename_i h2
   have m:=i.1.le h2;have l:=Bp i.2.1.2.1.pr i.1.1 i.2.2;have e:v.b=p.vo.p:=DJ i.2.1.2.1.pr i.1.1 (by omega);have j:(⟨v.b,Bo p.vo.vs v⟩:Acc)=p.vo:=by rw[VI i.1.2.2 h2,e]
   rw[j];refine .inr ⟨rfl,c,rs,mh _,h,λu=>⟨.inr,λhu=>?_⟩,by rw[<- h.vo];exact e.symm,p.d,p.vo,rfl⟩;rcases hu with rfl|hu
   .exact IP h.ok u (by rw[<- h.vo];exact h2)
   .exact hu
  .rename_i h2
   split
   .rename_i f;exact .inl ⟨f,rfl⟩
   .rename_i f
    have f:=mf.1 f;have n:=JP f;have k:FU p.d p.sy (Ah v) (Bk v)=p.d++AM (Bk v):=if_pos f;have j:GJ p.d p.sy (Ah v) (Bk v)=p.sy:=if_pos f;rw[k,j];refine .inr ⟨rfl,c,rs++[Rk.vt v],nw _ _,h.write (r:=.vt v) ⟨c,h2⟩ n.2.1,λu=>?_,by rw[BS];rfl,_,_,rfl⟩;rw[Q',D'];exact⟨λg=>g.elim .inr λe=>.inl (Rk.vt.inj e),λg=>g.elim (λe=>.inr (by rw[e])) .inl⟩
structure Gs where
 dr:Nat->List Rk
 W:Bal->Nat->Cmd->Prop
def Gs.held(σ:Gs)(n:Nat)(v:Vt):Prop:=Rk.vt v∈σ.dr n
def Gs.H(σ:Gs)(n s:Nat)(b:Int)(c:Cmd):Prop:=∃ v,σ.held n v/\v.bt=(s:Int)/\v.b.key=b/\v.w=c
def Gs.P(σ:Gs)(n:Nat):Int:=(B1 (σ.dr n)).p.key
def Gs.rh(σ:Gs)(v:Vt):Prop:=Ah v/\σ.W v.b v.bt.toNat v.w
def Gs.rZ(σ:Gs)(s:Nat)(c:Cmd):Prop:=∃ b,Ch σ.H s b c
structure GsI(σ:Gs):Prop where
 ok:∀ n,AQ (σ.dr n)
 rX:PInv σ.H σ.P
 w1:∀ b s c c',σ.W b s c->σ.W b s c'->c=c'
 w2:∀ b s c,σ.W b s c->Ab b/\Et σ.H σ.P s b.key c
 w3:∀ b s c,σ.W b s c->b.key<=σ.P b.n.toNat
 hv:∀ n v,σ.held n v->σ.rh v
structure Gs.le(σ τ:Gs):Prop where
 pre:∀ n,σ.dr n <+: τ.dr n
 W:∀ b s c,σ.W b s c->τ.W b s c
theorem Gs.le.refl(σ:Gs):σ.le σ:=⟨λ_=>mh _,λ_ _ _ h=>h⟩
variable{σ τ:Gs}
theorem Gs.le.trans{υ:Gs}(h:σ.le τ)(k:τ.le υ):σ.le υ:=⟨λn=>(h.pre n).trans (k.pre n),λb s c g=>k.W b s c (h.W b s c g)⟩
theorem Gs.le.held(h:σ.le τ){n:Nat}{v:Vt}(g:σ.held n v):τ.held n v:=(h.pre n).subset g
theorem Gs.le.H(h:σ.le τ){n s:Nat}{b:Int}{c:Cmd}(g:σ.H n s b c):τ.H n s b c:=by obtain⟨v,a,d⟩:=g;exact⟨v,h.held a,d⟩
theorem Gs.le.rh(h:σ.le τ){v:Vt}(g:σ.rh v):τ.rh v:=⟨g.1,h.W _ _ _ g.2⟩
theorem Gs.le.rZ(h:σ.le τ){s:Nat}{c:Cmd}(g:σ.rZ s c):τ.rZ s c:=by obtain⟨b,Q,a,d⟩:=g;exact⟨b,Q,a,λq f e=>h.H (d q f e)⟩
theorem Gs.le.P(h:σ.le τ)(a:GsI τ)(n:Nat):σ.P n<=τ.P n:=by
 obtain⟨x,b⟩:=h.pre n;have:=a.ok n;unfold Gs.P;rw[<- b]at this ⊢
 exact(DD this).1
structure Gs.se(i:Nat)(σ τ:Gs):Prop where
 le:σ.le τ
 new:∀ b s c,τ.W b s c->σ.W b s c\/b.n=(i:Int)
 tj:∀ n,n≠i->τ.dr n=σ.dr n
theorem Gs.se.refl(i:Nat)(σ:Gs):Gs.se i σ σ:=⟨.refl σ,λ_ _ _ h=>.inl h,λ_ _=>rfl⟩
def Gs.ext(σ:Gs)(i:Nat)(qs:List Rk):Gs:=⟨upN σ.dr i (σ.dr i++qs),σ.W⟩
theorem Hy(σ:Gs)(i:Nat)(a:List Rk):(σ.ext i a).dr i=σ.dr i++a:=Db _ _ _
theorem Ls(σ:Gs){i n:Nat}(a:List Rk)(h:n≠i):(σ.ext i a).dr n=σ.dr n:=Dy _ _ h
theorem OR(σ:Gs)(i:Nat)(a:List Rk):Gs.se i σ (σ.ext i a):=⟨⟨λn=>by
 by_cases e:n=i
 .subst e;rw[Hy];exact nw _ _
 .rw[Ls σ a e];exact mh _,λ_ _ _ h=>h⟩,λ_ _ _ h=>.inl h,λn h=>Ls σ a h⟩
theorem Qf(σ:Gs)(i:Nat)(r:Rk):(σ.ext i [r]).P=upP σ.P i (Rk.ap (B1 (σ.dr i)) r).p.key:=by
 funext n
 unfold Gs.P upP;split
 .rename_i e;subst e;rw[Hy,BS]
 .rename_i e;rw[Ls σ _ e]
theorem I1:(σ.ext i qs).held n v↔σ.held n v\/(n=i/\Rk.vt v∈qs):=by
 unfold Gs.held;by_cases e:n=i
 .subst e;rw[Hy,Q'];simp
 .rw[Ls σ qs e];simp[e]
theorem GsI.sU(h:GsI σ){i:Nat}{r:Rk}(D:Rk.ok (B1 (σ.dr i)) r)(F:∀ v,r=.vt v->σ.rh v):GsI (σ.ext i [r]):=by
 have l:=(h.ok i).acc;have t:=Rk.rN l D.err;have f:=(OR σ i [r]).le;have q:∀ n,AQ ((σ.ext i [r]).dr n):=λn=>by
  by_cases e:n=i
  .subst e;rw[Hy];exact(h.ok n).snoc D
  .rw[Ls σ _ e];exact h.ok n
 have d:σ.P i<=(Rk.ap (B1 (σ.dr i)) r).p.key:=t;have B:∀ n,σ.P n<=(σ.ext i [r]).P n:=λn=>by rw[Qf];exact ME d n
 have o:∀ n v,(σ.ext i [r]).held n v->(σ.ext i [r]).rh v:=λn v g=>by
  rcases I1.1 g with g|⟨_,g⟩
  .exact f.rh (h.hv n v g)
  .exact f.rh (F v (D'.1 g).symm)
 cases r with
 | pr b =>
  have j:(σ.ext i [.pr b]).H=σ.H:=by
   funext n s a c
   exact propext ⟨λ⟨v,g,k⟩=>⟨v,(I1.1 g).resolve_right λe=>by simp at e,k⟩,λ⟨v,g,k⟩=>⟨v,f.held g,k⟩⟩
  refine⟨q,?_,h.w1,λa s c g=>⟨(h.w2 a s c g).1,?_⟩,λa s c g=>mB (h.w3 a s c g) (B _),o⟩
  .rw[j,Qf];exact h.rX.au d
  .rw[j,Qf];exact(h.w2 a s c g).2.up d
 | vt v =>
  obtain⟨z,C⟩:=F v rfl;have I:v.bt=(v.bt.toNat:Int):=by have:=z.1;omega
  have j:(σ.ext i [.vt v]).H=fR σ.H i v.bt.toNat v.b.key v.w:=by
   funext n s a c
   refine propext ⟨λ⟨u,g,G,x,y⟩=>?_,λg=>?_⟩
   .rcases I1.1 g with g|⟨g1,g2⟩
    .exact .inl ⟨u,g,G,x,y⟩
    .have e:u=v:=Rk.vt.inj (D'.1 g2);subst e;exact .inr ⟨g1,by omega,x.symm,y.symm⟩
   .rcases g with⟨u,g,k⟩|⟨rfl,rfl,rfl,rfl⟩
    .exact⟨u,f.held g,k⟩
    .exact⟨v,I1.2 (.inr ⟨rfl,D'.2 rfl⟩),I,rfl,rfl⟩
  refine⟨q,?_,h.w1,λa s c g=>⟨(h.w2 a s c g).1,?_⟩,λa s c g=>mB (h.w3 a s c g) (B _),o⟩
  .rw[j,Qf];refine h.rX.cl d (by have:=z.2.1.pos;show 0<v.b.key;omega) (h.w2 _ _ _ C).2 λm J ⟨u,g,G,x,y⟩=>?_;have E:=h.hv m u g;have e:u.b=v.b:=DJ E.1.2.1.pr z.2.1.pr x;have A:=E.2;rw[e,show u.bt.toNat=v.bt.toNat by omega,y]at A
   exact h.w1 _ _ _ _ A C
  .rw[j,Qf];exact(h.w2 a s c g).2.cl d
theorem co(σ:Gs)(i:Nat)(r:Rk)(a:List Rk):(σ.ext i [r]).ext i a=σ.ext i (r::a):=by unfold Gs.ext;simp only[Db,UT,ml,List.singleton_append]
theorem GsI.ext(h:GsI σ){i:Nat}(a:List Rk)(b:AQ (σ.dr i++a))(c:∀ v,Rk.vt v∈a->σ.rh v):GsI (σ.ext i a):=by
 induction a generalizing σ with
 | nil =>
  have:σ.ext i []=σ:=by unfold Gs.ext;rw[mG,Je]
  rw[this];exact h
 | cons r a ih =>
  rw[<- co];have d:AQ (σ.dr i++[r]):=b.pre ⟨a,by simp⟩;refine ih (h.sU d.last λv e=>c v (by rw[e];exact M')) ?_ λv g=>(OR σ i [r]).le.rh (c v (I' _ g));rw[Hy,ml];exact b
structure PrmOk(dr:List Rk)(b:Bal)(vs:List Vt):Prop where
 le:b.key<=(B1 dr).p.key
 sub:∀ v∈vs,Rk.vt v∈dr/\v.b.key<=b.key
 sZ:∀ v,Rk.vt v∈dr->v.b.key<b.key->∃ u∈vs,u.bt=v.bt/\v.b.key<=u.b.key
 acc:Ag ⟨b,vs⟩
theorem PrmOk.mono(h:PrmOk dr b vs)(e:dr <+: rs)(d:AQ rs):PrmOk rs b vs:=by
 obtain⟨x,rfl⟩:=e;have c:=DD d;refine⟨mB h.le c.1,λv hv=>⟨mi _ (h.sub v hv).1,(h.sub v hv).2⟩,λv hv a=>?_,h.acc⟩;rcases Q'.1 hv with hv|hv
 .exact h.sZ v hv a
 .have:=c.2 v hv;have:=h.le;omega
theorem PrmOk.of(c:AQ rs){b:Bal}{d:List Vt}(e:(B1 rs).p=b)(a:(B1 rs).vs=d):PrmOk rs b d:=by
 subst e a;exact⟨mc _,λv a=>⟨IP c v a,c.acc.le a⟩,λv a _=>(QV c v a).2,c.acc⟩
structure RdI(σ:Gs)(i:Nat)(r:Rnd):Prop where
 hZ:r.hZ=Be\/(Ab r.hZ/\r.hZ.n=(i:Int))
 next:∀ s c,σ.W r.hZ s c->s<r.next
 own:∀ j,j<5->r.qk j=true->r.hZ.key<=σ.P i
 an:∀ j,j<5->∀ v∈(r.an j).vs,σ.held j v/\v.b.key<=r.hZ.key/\(r.qk j=false->v.b=r.hZ)
 prom:∀ j,j<5->r.qk j=true->r.hZ.key<=σ.P j/\∀ v,σ.held j v->v.b.key<r.hZ.key->∃ u∈(r.an j).vs,u.bt=v.bt/\v.b.key<=u.b.key
 acc:∀ j,j<5->Ag (r.an j)/\(r.qk j=true->(r.an j).p=r.hZ)
def PnI(σ:Gs)(rs:List Rk)(r:Rnd):Pend->Prop
 | .began b vs=>PrmOk rs b vs/\b.key<=r.hZ.key
 | .prom _ b vs=>PrmOk rs b vs/\b.key<=σ.P b.n.toNat
 | .voted _ v=>Rk.vt v∈rs
 | .prop v=>Rk.vt v∈rs
 | .ew _ b=>Ao b/\b.key<=(B1 rs).p.key
 | _=>True
structure UpI(σ:Gs)(i:Nat)(p:Nod)(rs:List Rk):Prop where
 tp:TpU p (σ.dr i) rs
 rh:∀ v,Rk.vt v∈rs->σ.rh v
 rd:RdI σ i p.bn
 bp:p.bn.hZ.key<=p.vo.p.key
 pe:∀ q∈p.bu,PnI σ rs p.bn q
def AgL(σ:Gs)(l:List Cmd)(k:Nat):Prop:=∀ s c,l[s]?=some c->σ.rZ (k+s) c
structure NdI(σ:Gs)(i:Nat)(p:Nod):Prop where
 up:p.up=true->∃ rs,UpI σ i p rs
 dn:p.up=false->TpD p (σ.dr i)
 ag:AgL σ p.ae 0
structure LtI(σ:Gs)(l:Let):Prop where
 k0:l.kind=0->l.hZ.key<=σ.P l.hZ.n.toNat
 k1:l.kind=1->PrmOk (σ.dr l.src) l.hZ l.ln/\l.hZ.key<=σ.P l.hZ.n.toNat/\AgL σ l.gC 0
 k2:l.kind=2->Ao l.hZ/\l.hZ.key<=σ.P l.src
 k3:l.kind=3->σ.rh l.cl
 k4:l.kind=4->σ.held l.src l.cl
 k5:l.kind=5->AgL σ l.gC l.bt
structure AgI(σ:Gs)(M:Meet):Prop where
 gs:GsI σ
 nd:∀ i,i<5->NdI σ i (M.ab i)
 lt:∀ l∈M.br,LtI σ l
theorem AgL.mono(h:σ.le τ){l:List Cmd}{k:Nat}(g:AgL σ l k):AgL τ l k:=λs c e=>h.rZ (g s c e)
theorem RdI.mono(h:σ.le τ)(f:GsI τ){i:Nat}{r:Rnd}(g:RdI σ i r)(m:∀ s c,τ.W r.hZ s c->s<r.next):RdI τ i r:=by
 refine⟨g.hZ,m,λj a d=>mB (g.own j a d) (h.P f i),λj a v e=>⟨h.held (g.an j a v e).1,(g.an j a v e).2⟩,λj a d=>⟨mB (g.prom j a d).1 (h.P f j),λv e k=>?_⟩,g.acc⟩;obtain⟨x,n⟩:=h.pre j;have l:=f.ok j;have hv':Rk.vt v∈τ.dr j:=e;rw[<- n]at l hv'
 rcases Q'.1 hv' with hv'|hv'
 .exact(g.prom j a d).2 v hv' k
 .have h1:=(DD l).2 v hv';have o:=(g.prom j a d).1;have p:σ.P j<=v.b.key:=h1;omega
theorem PnI.mono(h:σ.le τ)(f:GsI τ){e a:List Rk}(c:e <+: a)(d:AQ a){r r':Rnd}(i:r.hZ.key<=r'.hZ.key){q:Pend}(g:PnI σ e r q):PnI τ a r' q:=by
 cases q with
 | began b vs=>exact⟨g.1.mono c d,mB g.2 i⟩
 | prom to b vs=>exact⟨g.1.mono c d,mB g.2 (h.P f _)⟩
 | voted to v=>exact c.subset g
 | prop v=>exact c.subset g
 | ew to b=>obtain⟨x,rfl⟩:=c;exact⟨g.1,mB g.2 (DD d).1⟩
 | _=>trivial
theorem NdI.mono(h:Gs.se i σ τ)(a:GsI τ)(n:GsI σ)(d:j≠i){p:Nod}(g:NdI σ j p):NdI τ j p:=by
 have e:=h.tj j d;refine⟨λl=>?_,λb=>by rw[e];exact g.dn b,g.ag.mono h.le⟩;obtain⟨o,k⟩:=g.up l;refine⟨o,by rw[e];exact k.tp,λv m=>h.le.rh (k.rh v m),k.rd.mono h.le a λs c hW=>?_,k.bp,λq f=>(k.pe q f).mono h.le a (mh _) k.tp.ok (mc _)⟩;rcases h.new _ _ _ hW with hW|hW
 .exact k.rd.next s c hW
 .rcases k.rd.hZ with hb|⟨_,hb⟩
  .have:=(a.w2 _ _ _ ‹_›).1;rw[hb]at this
   exact absurd this (by decide)
  .rw[hb]at hW;omega
theorem LtI.mono(h:σ.le τ)(a:GsI τ){l:Let}(g:LtI σ l):LtI τ l :=
 ⟨λe=>mB (g.k0 e) (h.P a _),λe=>⟨(g.k1 e).1.mono (h.pre _) (a.ok _),mB (g.k1 e).2.1 (h.P a _),(g.k1 e).2.2.mono h⟩,λe=>⟨(g.k2 e).1,mB (g.k2 e).2 (h.P a _)⟩,λe=>h.rh (g.k3 e),λe=>h.held (g.k4 e),λe=>(g.k5 e).mono h⟩
theorem AgI.set{M:Meet}(h:AgI σ M){i:Nat}(b:Gs.se i σ τ)(a:GsI τ){p:Nod}(g:NdI τ i p){ls:List Let}(d:∀ l∈ls,l∈M.br\/LtI τ l)(ts:List Tol):AgI τ (M.set i p ls ts) :=
 ⟨a,λj c=>by
  show NdI τ j (upN M.ab i p j);unfold upN;split
  .rename_i e;rw[e];exact g
  .rename_i e;exact(h.nd j c).mono b a h.gs e,λl f=>(d l f).elim (λk=>(h.lt l k).mono b.le a) id⟩
theorem TP{r:Rnd}(h:∀ j,j<5->∀ v∈(r.an j).vs,σ.held j v){s:Nat}(a:CW r.ia (s:Int)=0):σ.rZ s (CN r.ia (s:Int)):=by
 have k:CN r.ia (s:Int)=((He (D1 r.ia (s:Int)) r.ia.length).map (·.w)).getD ⟨0,0,0,0,0⟩:=if_pos a;unfold CW at a;split at a
 .cases a
 .split at a
  .cases a
  .rename_i d
   have d:=mf.1 d;split at a
   .rename_i hO
    obtain⟨v,g⟩:=nh.1 hO;rw[k,g];have m:=qm g;have i:5<2*BK (D1 r.ia (s:Int)) v:=mL m;have e:D1 r.ia (s:Int)=Ae (r.an 0).vs (s:Int)++(Ae (r.an 1).vs (s:Int)++(Ae (r.an 2).vs (s:Int)++(Ae (r.an 3).vs (s:Int)++Ae (r.an 4).vs (s:Int)))):=by
     unfold D1 Rnd.ia Ae;simp[List.filter_append]
    rw[e,Cy,Cy,Cy,Cy]at i
    have c:∀ j,j<5->BL (r.an j).vs:=λj l=>(d (r.an j) (by unfold Rnd.ia;rcases qv l with rfl|rfl|rfl|rfl|rfl<;>simp)).2.2;have o:=IC (c 0 (by omega)) (s:Int) v;have p:=IC (c 1 (by omega)) (s:Int) v;have t:=IC (c 2 (by omega)) (s:Int) v;have u:=IC (c 3 (by omega)) (s:Int) v;have x:=IC (c 4 (by omega)) (s:Int) v;refine⟨v.b.key,λq=>decide (v∈(r.an q).vs/\v.bt=(s:Int)),?_,λq n f=>?_⟩
    .show 3<=(decide (v∈(r.an 0).vs/\v.bt=(s:Int))).toNat+(decide (v∈(r.an 1).vs/\v.bt=(s:Int))).toNat+(decide (v∈(r.an 2).vs/\v.bt=(s:Int))).toNat+(decide (v∈(r.an 3).vs/\v.bt=(s:Int))).toNat+(decide (v∈(r.an 4).vs/\v.bt=(s:Int))).toNat;omega
    .obtain⟨h1,h2⟩:=mL f;exact⟨v,h q n v h1,h2,rfl,rfl⟩
   .cases a
theorem AgL.snoc(h:AgL σ l 0){c:Cmd}(a:σ.rZ l.length c):AgL σ (l++[c]) 0:=λs d e=>by
 rcases mX s l.length with g|g
 .rw[mr g]at e;exact h s d e
 .have:=(V'.1 e).1;rw[H',mT]at this
  obtain rfl:s=l.length:=by omega
  rw[mw (A' _)]at e
  simp at e;subst e;rw[mR];exact a
theorem Uv{r:Rnd}(h:∀ j,j<5->∀ v∈(r.an j).vs,σ.held j v)(k:Nat){l:List Cmd}(a:AgL σ l 0):AgL σ (FB k r l) 0:=by
 induction k generalizing l with
 | zero=>exact a
 | succ k ih =>
  rw[FB];split
  .rename_i he;exact ih (a.snoc (TP h he))
  .exact a
theorem Qv{b:List Cmd}{a:Nat}(d:AgL σ l 0)(f:AgL σ b a)(h:a<=l.length):AgL σ (l++b.drop (l.length-a)) 0:=λs c e=>by
 rcases mX s l.length with g|g
 .rw[mr g]at e;exact d s c e
 .rw[mw g,nc]at e
  have:=f _ c e
  rwa [show a+(l.length-a+(s-l.length))=0+s by omega]at this
theorem VG(a:Acc)(l:List Vt):∀ v∈(Df a l).vs,v∈a.vs\/v∈l:=by
 induction l generalizing a with
 | nil=>exact λv b=>.inl b
 | cons u l ih =>
  intro v b;rw[Df]at b
  rcases ih _ v b with h|h
  .by_cases he:Ba a u=0
   .rw[if_pos he]at h
    have h:v∈Br a u:=h;rw[(DI he).2]at h
    rcases(BB (Ap he).1.2.2).1 h with rfl|⟨h,_⟩
    .exact .inr M'
    .exact .inl h
   .rw[if_neg he]at h;exact .inl h
  .exact .inr (I' _ h)
theorem VF(a:Acc)(l:List Vt):∀ u∈a.vs,∃ x∈(Df a l).vs,x.bt=u.bt/\u.b.key<=x.b.key:=by
 induction l generalizing a with
 | nil=>exact λu d=>⟨u,d,rfl,mc _⟩
 | cons w l ih =>
  intro u d;rw[Df];by_cases c:Ba a w=0
  .rw[if_pos c];obtain⟨x,e,f,g⟩:=LC (Ap c).1 c d;obtain⟨y,h,i,j⟩:=ih ⟨BI a w,Br a w⟩ x (by show x∈Br a w;rw[(DI c).2];exact e);exact⟨y,h,i.trans f,mB g j⟩
  .rw[if_neg c];exact ih a u d
theorem VE(a:Acc)(l:List Vt)(c:Ag a)(g:a.p=b)(h:∀ v∈l,v.b.key<=b.key):Ag (Df a l)/\(Df a l).p=b:=by
 induction l generalizing a with
 | nil=>exact⟨c,g⟩
 | cons u l ih =>
  rw[Df];by_cases d:Ba a u=0
  .rw[if_pos d];have f:=Ap d;have e:u.b=b:=by
    have k:=Bp f.2.1.2.1.pr c.1 f.2.2;have m:=h u M';rw[g]at k
    exact DJ f.2.1.2.1.pr (g▸c.1) (by omega)
   have j:(⟨BI a u,Br a u⟩:Acc)=⟨u.b,Bo a.vs u⟩:=by rw[(DI d).1,(DI d).2]
   rw[j];exact ih _ (c.sB f.2.1 f.2.2) e λv i=>h v (I' _ i)
  .rw[if_neg d];exact ih a c g λv i=>h v (I' _ i)
theorem RdI.qM{r:Rnd}(h:RdI σ i r){j:Nat}{vs:List Vt}(f:PrmOk (σ.dr j) r.hZ vs)(s:r.hZ.key<=σ.P i):RdI σ i (r.qM j vs):=by
 refine⟨h.hZ,h.next,λ_ _ _=>s,λk c v a=>?_,λk c n=>?_,λk c=>?_⟩
 rotate_right
 .show Ag (upN r.an j (Df ⟨r.hZ,vs⟩ (r.an j).vs) k)/\(upN r.qk j true k=true->(upN r.an j (Df ⟨r.hZ,vs⟩ (r.an j).vs) k).p=r.hZ);unfold upN;split
  .rename_i e;subst e
   have:=VE (b:=r.hZ) ⟨r.hZ,vs⟩ (r.an k).vs f.acc rfl λv a=>(h.an k c v a).2.1;exact⟨this.1,λ_=>this.2⟩
  .exact h.acc k c
 .have a:v∈(upN r.an j (Df ⟨r.hZ,vs⟩ (r.an j).vs) k).vs:=a;by_cases e:k=j
  .subst e;rw[Db]at a
   rcases VG _ _ v a with g|g
   .exact⟨(f.sub v g).1,(f.sub v g).2,λe=>by rw[show(r.qM k vs).qk k=true from Db _ _ _]at e;cases e⟩
   .have:=h.an k c v g;exact⟨this.1,this.2.1,λe=>by rw[show(r.qM k vs).qk k=true from Db _ _ _]at e;cases e⟩
  .rw[Dy _ _ e]at a
   have:=h.an k c v a;exact⟨this.1,this.2.1,λo=>this.2.2 (by rwa [show(r.qM j vs).qk k=r.qk k from Dy _ _ e]at o)⟩
 .by_cases e:k=j
  .subst e;refine⟨f.le,λv a d=>?_⟩;obtain⟨u,l,m,q⟩:=f.sZ v a d;obtain⟨x,t,w,y⟩:=VF ⟨r.hZ,vs⟩ (r.an k).vs u l;exact⟨x,by show x∈(upN r.an k _ k).vs;rw[Db];exact t,w.trans m,mB q y⟩
  .rw[show(r.qM j vs).qk k=r.qk k from Dy _ _ e]at n
   have:=h.prom k c n;exact⟨this.1,λv a d=>by
    obtain⟨u,l,m⟩:=this.2 v a d;exact⟨u,by show u∈(upN r.an j _ k).vs;rw[Dy _ _ e];exact l,m⟩⟩
theorem RdI.count{r:Rnd}(h:RdI σ i r){j:Nat}{v:Vt}(l:v.b=r.hZ)(f:Ba (r.an j) v=0)(o:σ.held j v):RdI σ i { r with an:=upN r.an j ⟨BI (r.an j) v,Br (r.an j) v⟩ }:=by
 have d:=Ap f;have g:Br (r.an j) v=Bo (r.an j).vs v:=(DI f).2;refine⟨h.hZ,h.next,h.own,λk c u a=>?_,λk c n=>⟨(h.prom k c n).1,λu a m=>?_⟩,λk c=>?_⟩
 rotate_right
 .show Ag (upN r.an j ⟨BI (r.an j) v,Br (r.an j) v⟩ k)/\(r.qk k=true->(upN r.an j ⟨BI (r.an j) v,Br (r.an j) v⟩ k).p=r.hZ);unfold upN;split
  .rw[(DI f).1,g];exact⟨d.1.sB d.2.1 d.2.2,λ_=>l⟩
  .exact h.acc k c
 .have a:u∈(upN r.an j ⟨BI (r.an j) v,Br (r.an j) v⟩ k).vs:=a;by_cases e:k=j
  .subst e;rw[Db]at a
   have a:u∈Br (r.an k) v:=a;rw[g]at a
   rcases(BB d.1.2.2).1 a with rfl|⟨a,_⟩
   .exact⟨o,by rw[l];exact mc _,λ_=>l⟩
   .exact h.an k c u a
  .rw[Dy _ _ e]at a;exact h.an k c u a
 .obtain⟨x,h1,h2,h3⟩:=(h.prom k c n).2 u a m;by_cases e:k=j
  .subst e;obtain⟨y,q,s,t⟩:=LC d.1 f h1;exact⟨y,by show y∈(upN r.an k _ k).vs;rw[Db];show y∈Br (r.an k) v;rw[g];exact q,s.trans h2,mB h3 t⟩
  .exact⟨x,by show x∈(upN r.an j _ k).vs;rw[Dy _ _ e];exact h1,h2,h3⟩
theorem UpI.lr{q:Nod}(h:UpI σ i p rs)(b:q.d=p.d)(j:q.sy=p.sy)(c:q.vo=p.vo)(f:RdI σ i q.bn)(a:q.bn.hZ=p.bn.hZ)(e:∀ x∈q.bu,x∈p.bu\/PnI σ rs q.bn x):UpI σ i q rs :=
 ⟨⟨h.tp.ok,h.tp.pre,b.trans h.tp.d,j.trans h.tp.sy,c.trans h.tp.vo,by rw[b];exact h.tp.len⟩,h.rh,f,by rw[a,c];exact h.bp,λx k=>(e x k).elim (λg=>by
  have:=h.pe x g;cases x<;>first|exact this|exact trivial|(refine⟨this.1,?_⟩;first|exact this.2|(rw[a];exact this.2))) id⟩
theorem UpI.count(h:UpI σ i p rs)(a:AgL σ p.ae 0){j:Nat}{v:Vt}(d:σ.held j v):UpI σ i (p.count j v) rs/\AgL σ (p.count j v).ae 0:=by
 unfold Nod.count;split
 .exact⟨h,a⟩
 .rename_i b
  have b:=mf.1 b;split
  .exact⟨h,a⟩
  .rename_i he
   have c:=h.rd.count b (mf.1 he) d;exact⟨h.lr rfl rfl rfl c rfl λx g=>.inl g,Uv (λj e v f=>(c.an j e v f).1) 41 a⟩
end
end
end Go.Proofs.YtdjfdfpkkenjbadGreatDoor
