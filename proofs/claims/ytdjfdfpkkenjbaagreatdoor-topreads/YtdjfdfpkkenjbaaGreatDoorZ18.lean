/- Part 18 of the walk. -/
import Derived.Deep.Slices
import Derived.Test.YtdjfdfpkkenjbaaGreatDoorZ17
set_option maxRecDepth 100000
set_option maxHeartbeats 4000000
open Go.Proofs.Tryz
set_option linter.unusedVariables false
namespace Go.Proofs.YtdjfdfpkkenjbaaGreatDoor
section
section
def gj(l:List Int):Cmd:=⟨Ac (unQ l) 0,Ac (unQ l) 4,Ac (unQ l) 8,Ac (unQ l) 12,Ac (unQ l) 16⟩
variable{l:List Int}{now:Int}
theorem fM(h:opE l now=0):unE l=0:=by
 unfold opE at h;split at h
 .rename_i g;exact absurd h g
 .rename_i g;exact iW.1 g
theorem gk(h:unE l=0):(gj l).e=0:=by
 have:=(PN h).2;unfold BP at this;split at this
 .cases this
 .exact this
theorem WZ(h:opE l now=0):LN l now=gj l:=by unfold LN;rw[if_pos h];rfl
end
end
section
open Go.RowKit
variable{f:Nat->Cmd}{n:Nat}
section
theorem Zz{c:Nat}(a:(sAt f n).L c≠0):∃ k,k<n/\(f k).k≠0/\(f k).c.toNat=c/\(f k).s+1=(sAt f n).L c/\cAt f k=0/\(sAt f n).C c=0/\aAt f k=(sAt f n).A c:=by
 induction n with
 | zero=>exact absurd rfl a
 | succ n ih =>
  simp only[sAt]at a ⊢;unfold dnS at a ⊢;split at a
  .rename_i h
   rw[if_pos h];simp only[Gm]at a ⊢;by_cases e:c=(f n).c.toNat
   .subst e;refine⟨n,by omega,h.1,rfl,(CO _ _ _).symm,?_,CO _ _ _,?_⟩
    .unfold cAt dnC;rw[if_neg h.1,if_neg (by omega),if_neg h.2.1,if_neg (by rw[h.2.2];simp)]
    .unfold aAt dnA;rw[if_neg h.1,if_neg (by omega),if_neg h.2.1,if_neg (by rw[h.2.2];simp),CO]
   .rw[Dg _ _ e]at a
    rw[Dg _ _ e,Dg _ _ e,Dg _ _ e];obtain⟨k,d,b⟩:=ih a;exact⟨k,by omega,b⟩
  .rename_i h
   rw[if_neg h];obtain⟨k,d,b⟩:=ih a;exact⟨k,by omega,b⟩
theorem bG(s:Sto)(m:Cmd)(c:Nat):s.L c<=(dnS s m).L c:=by
 unfold dnS;split
 .rename_i h
  simp only[Gm];by_cases e:c=m.c.toNat
  .subst e;rw[CO];omega
  .rw[Dg _ _ e];omega
 .exact mc _
variable{b:Bool}{i k:Nat}
theorem ZA(d:k<n)(b:(f k).k≠0)(a:cAt f k=0):(f k).s+1<=(sAt f n).L (f k).c.toNat:=by
 induction n with
 | zero=>omega
 | succ n ih =>
  by_cases e:k<n
  .exact Int.le_trans (ih e) (bG _ _ _)
  .obtain rfl:k=n:=by omega
   unfold cAt dnC at a;rw[if_neg b]at a
   simp only[sAt];split at a
   .rename_i h;exact Int.le_trans (Int.le_of_eq h.symm) (bG _ _ _)
   .split at a
    .omega
    .rename_i h1
     split at a
     .omega
     .rename_i h2
      unfold dnS;rw[if_pos ⟨b,h1,by simpa using h2⟩];simp only[Gm];rw[CO];omega
def cm(f:Nat->Cmd)(i:Nat):Prop:=∀ k,k<i->(f k).c≠(f i).c\/(f k).s<(f i).s\/(f k).k=0\/cAt f k≠0
theorem JM(g:(f i).k≠0)(d:∀ j,j<=i->(f j).e=0)(b:cAt f i=0)(h:cm f i):sAt f (i+1)=Gm (sAt f i) (f i)/\aAt f i=I2 (sAt f i) (f i):=by
 have a:¬ (f i).s<(sAt f i).L (f i).c.toNat:=λo=>by
  have n:(sAt f i).L (f i).c.toNat≠0:=by
   have:=(DW (d i (A' _))).2;unfold InC at this;omega
  obtain⟨k,p,q,t,u,r,_⟩:=Zz n;have l:=(DW (d i (A' _))).2;have m:=(DW (d k (by omega))).2;unfold InC at l m;rcases h k p with e|e|e|e
  .exact e (by omega)
  .omega
  .exact q e
  .exact e r
 unfold cAt dnC at b;rw[if_neg g,if_neg (by omega),if_neg a]at b
 split at b
 .omega
 .rename_i hR
  refine⟨?_,?_⟩
  .simp only[sAt];unfold dnS;rw[if_pos ⟨g,a,by simpa using hR⟩]
  .unfold aAt dnA;rw[if_neg g,if_neg (by omega),if_neg a,if_neg hR]
theorem Sn(h:¬ (cAt f i=0/\cm f i)):(sAt f (i+1)).V=(sAt f i).V:=by
 simp only[sAt];unfold dnS;split
 .rename_i hn
  exfalso;refine h ⟨?_,λk a=>?_⟩
  .unfold cAt dnC;rw[if_neg hn.1,if_neg (by omega),if_neg hn.2.1,if_neg (by rw[hn.2.2];simp)]
  .by_cases h0:(f k).k=0
   .exact .inr (.inr (.inl h0))
   .by_cases hc:cAt f k=0
    .by_cases e:(f k).c=(f i).c
     .refine .inr (.inl ?_);have:=ZA a h0 hc;rw[e]at this
      omega
     .exact .inl e
    .exact .inr (.inr (.inr hc))
 .rfl
def OC(f:Nat->Cmd)(i k:Nat):Bool:=decide (∀ q,q<k->(f q).c≠(f i).c\/(f q).s<(f i).s\/(f q).k=0\/cAt f q≠0)
theorem T2(i:Nat):true=OC f i 0:=(I' λq h=>by omega).symm
theorem Za(h:false=OC f i k):false=OC f i (k+1):=(D' λg=>absurd (λq a=>g q (by omega)) (of_decide_eq_false h.symm)).symm
theorem F0(h:true=OC f i k)(a:b=decide ((f k).c≠(f i).c\/(f k).s<(f i).s\/(f k).k=0\/cAt f k≠0)):b=OC f i (k+1):=by
 subst a;refine jf.2 ⟨λg q d=>?_,λg=>g k (by omega)⟩;by_cases e:q=k
 .subst e;exact g
 .exact jt h.symm q (by omega)
theorem dg(h:b=OC f i i):b=true↔cm f i:=by subst h;exact decide_eq_true_iff
end
end
section
open Go.RowKit
section
variable{B b i n off:Nat}{f:Nat->Cmd}{g:Gh}{w:World}{x:S3}
theorem Sl.nu(w:World)(l:List Int)(e:TypeId){g:Nat}(b:g=w.heap.size)(f:n=l.length)(d:l.length<=140737488351232)(a:∀ x∈l,0<=x/\x<256) :
  Sl (w.alloc (.cells (l.map (Value.int .u8)).toArray e)) (.slice (some ⟨g,0,none⟩) n n) l:=by
 subst b f;refine⟨⟨_,_,rfl,A' _,by simp,?_⟩,d,a⟩;refine .inr ⟨w.heap.size,0,rfl,by simp,λi c=>?_⟩;rw[cell_of_row _ _ (0+i) _ _ _ (heap_alloc_new w (.cells (l.map (Value.int .u8)).toArray e))];simp[List.getElem?_eq_getElem c,List.getD]
def zEn:Value:=.agg #[.int .i64 0,.int .i64 0,.int .i64 0,.int .i64 0,.int .i64 0,.int .i64 0,.int .i64 0,.slice none 0 0]
def tlA(s:Sto)(a:Option Addr)(n c:Nat):Array Value:=(stA s).push (.slice a n c)
theorem Jr(c a:Int)(w:World)(c0:0<=c)(c1:c<2147483648)(a0:0<=a)(F:a<2147483648) :
  Calls prog 46 #[.agg #[.int .i64 c,.int .i64 a]] w λe w'=>∃ v',e=.returned v'/\w'.ownsRow w.heap.size 5 1 v' (Ab c++Ab a).length ((Ab c++Ab a).map (Value.int .u8))/\Bw w w':=by
 obtain⟨d,rfl⟩:=iO c0;obtain⟨f,rfl⟩:=iO a0;have u:Bw w (w.alloc (.cells #[.int .i64 (d:Int),.int .i64 (f:Int)] 41)):=(Below.refl _ _).alloc (A' _) _;have s:=heap_alloc_new w (.cells #[.int .i64 (d:Int),.int .i64 (f:Int)] 41);generalize H:w.alloc (.cells #[.int .i64 (d:Int),.int .i64 (f:Int)] 41)=W at u s;have K:W.cell? ⟨w.heap.size,0,none⟩=some (.int .i64 (d:Int)):=cell_of_row _ _ 0 _ _ _ s;have L:W.cell? ⟨w.heap.size,1,none⟩=some (.int .i64 (f:Int)):=cell_of_row _ _ 1 _ _ _ s;have P:w.heap.size<=W.heap.size:=u.size;go_enter func46,ntmps46
 go_wp2_with fail
 clear H K L s
 go_loopw [3,11] (λv iv wr=>∃ i:Nat,i<=2/\iv=.int .i64 (i:Int)/\Hid (wr.ownsRow w.heap.size 5 1 v (([Ab (d:Int),Ab (f:Int)].take i).flatten).length ((([Ab (d:Int),Ab (f:Int)].take i).flatten).map (Value.int .u8)))/\Bw w wr) (λ_ iv _=>(2-intOf iv).toNat)
 case atStart=>exact⟨0,by omega,rfl,World.ownsRow_nil _ _ _ _,u⟩
 case round =>
  obtain⟨i,O,rfl,h,g⟩:=hrel;have b:=h.out;clear h;have l:=b.lt;have A:=g.size;by_cases N:i<2
  .have hm:∃ m:Nat,(m:Int)<2147483648/\(∀ W,(Instr.index 177 (.agg #[.int .i64 (d:Int),.int .i64 (f:Int)]) (.int .i64 (i:Int))).run prog W=.ok (.int .i64 (m:Int)) W)/\([Ab (d:Int),Ab (f:Int)].take (i+1)).flatten=([Ab (d:Int),Ab (f:Int)].take i).flatten++Ab (m:Int):=by
    rcases(by omega:i=0\/i=1)with rfl|rfl
    .exact⟨d,c1,λW=>by kernel_rfl,by simp⟩
    .exact⟨f,F,λW=>by kernel_rfl,by simp⟩
   obtain⟨m,J,z,o⟩:=hm;have B:Hid _:=o;have q:(([Ab (d:Int),Ab (f:Int)].take i).flatten).length<=8:=by
    rcases(by omega:i=0\/i=1)with rfl|rfl<;>simp[Ab]
   clear o;have G:(i:Int)<2:=by omega
   generalize ([Ab (d:Int),Ab (f:Int)].take i).flatten=pre at b B q;have D:(m:Int)/16777216%256=(m:Int)/16777216:=by omega
   have C:Hid ([(m:Int)/16777216,(m:Int)/65536%256,(m:Int)/256%256,(m:Int)%256]=Ab (m:Int)):=by
    show _=[_,_,_,_];rw[D]
   have n:∀ x∈[(m:Int)/16777216,(m:Int)/65536%256,(m:Int)/256%256,(m:Int)%256],0<=x/\x<256:=by rw[C.out];exact As _
   have t:Hid _:=n
   clear n D;go_wp2_with (at_builtin;refine Aa _ rfl _ _ 50 rfl w.heap.size 5 underlying50 Aq _ _ rfl rfl pre [(m:Int)/16777216,(m:Int)/65536%256,(m:Int)/256%256,(m:Int)%256] (b.alloc _) (Sl.nu _ _ _ rfl rfl (by simp) t.out) (by simp;omega) (by simp;omega) ?_)
   intro M E r p;have y:Bw w E:=(g.alloc A _).grown p (by simp;omega) (λk I=>(l k I).1);have j:Hid (E.ownsRow w.heap.size 5 1 M (([Ab (d:Int),Ab (f:Int)].take (i+1)).flatten).length ((([Ab (d:Int),Ab (f:Int)].take (i+1)).flatten).map (Value.int .u8))):=by
    unfold Hid;rw[B.out,<- C.out];simpa using r
   clear r p b l g z;go_wp2
   go_roundw
   case rel=>exact⟨i+1,by omega,by go_num,j,y⟩
   case measure=>simp[intOf];omega
  .obtain rfl:i=2:=by omega
   have j:Hid (wr.ownsRow w.heap.size 5 1 u3 (Ab (d:Int)++Ab (f:Int)).length ((Ab (d:Int)++Ab (f:Int)).map (Value.int .u8))):=by
    unfold Hid;simpa using b
   clear b l;go_wp2
   go_ret;exact⟨_,rfl,j.out,g⟩
theorem Yq(a0:Option Addr)(c0:Nat)(d:List Int)(k c q n v C A:Int)(w:World)(hS:Sl w (.slice a0 32 c0) d)(hl:d.length=32)(he:AQ k c q n v=0)(C0:0<=C)(C1:C<2147483648)(A0:0<=A)(A1:A<2147483648)(hT:Av w)(hN:NTab w) :
  Calls prog 22 #[.slice a0 32 c0,.agg #[.int .i64 k,.int .i64 c,.int .i64 q,.int .i64 n,.int .i64 v],.agg #[.int .i64 C,.int .i64 A]] w λe w'=>∃ g cap,e=.returned (.tuple #[.slice (some ⟨g,0,none⟩) 32 cap,.int .i64 0])/\w.heap.size<=g/\So w' g cap (lnk d ⟨k,c,q,n,v⟩ C A)/\Bw w w':=by
 have W:Hid (d.length=32):=hl;clear hl;have a8:=hT;have a7:=hN;obtain⟨K,J⟩:∃ K,(w.alloc (.cells #[.int .i64 k,.int .i64 c,.int .i64 q,.int .i64 n,.int .i64 v] 49)).alloc (.cells #[.int .i64 C,.int .i64 A] 41)=K:=⟨_,rfl⟩;have o:K.heap[w.heap.size]?=some (.cells #[.int .i64 k,.int .i64 c,.int .i64 q,.int .i64 n,.int .i64 v] 49):=by rw[<- J];exact Li _ _ _
 have s:K.heap[w.heap.size+1]?=some (.cells #[.int .i64 C,.int .i64 A] 41):=by rw[<- J];exact Lj _ _ _
 have P:Bw w K:=by rw[<- J];exact ML _ _ _
 have r:w.heap.size<K.heap.size:=(H'.1 o).1;have p:(w.heap.size+1)<K.heap.size:=(H'.1 s).1;have M:=hT.ab P;have E:=hN.ab P;have z:=hS.ab P;go_enter func22,ntmps22
 go_wp2_with ((with_reducible (refine Ds ?_));(refine wpList_load_row rfl 49 _ rfl w.heap.size rfl 49 _ (0,0) _ o underlying49 rfl Sa ?_))
 clear J;have key:=Ko k c q n v K E;rw[he,Nl he]at key
 simp only[cmA]at key;refine(key).mono ?_;rintro e w1 ⟨v1,rfl,U,b⟩;have s1:=Sl.jv U (by rw[BA];omega) (FV _ _ _ _ _);rw[BA]at U
 obtain⟨g1,c1,rfl⟩:=BS U;clear U key;have d1:=P.trans (b.mono P.size);have F:=M.ab b;have G:=E.ab b;have t:=(b.block _ r).trans o;have i:=Y' r b.size;have m:=(b.block _ p).trans s;have f:=Y' p b.size;have B:=z.ab b;clear M E r o p s z;clear b;go_wp2_with ((with_reducible (refine Ds ?_));(refine wpList_load_row rfl 41 _ rfl (w.heap.size+1) rfl 41 _ (0,0) _ m underlying41 rfl cG ?_))
 refine(Jr C A w1 C0 C1 A0 A1).mono ?_;rintro e w2 ⟨v2,rfl,S,a⟩;have s2:=Sl.jv S (by simp[Ab]) (λx hx=>by rcases P'.1 hx with h|h;(· exact As _ x h);exact As _ x h);replace S:w2.ownsRow _ 5 1 v2 8 _:=S;obtain⟨g2,c2,rfl⟩:=BS S;clear S;have d2:=d1.trans (a.mono d1.size);have H:=F.ab a;have I:=G.ab a;have y:=(a.block _ i).trans t;have l:=Y' i a.size;have u:=(a.block _ f).trans m;have j:=Y' f a.size;have D:=B.ab a;have N:=s1.ab a;clear F G i t f m B s1;clear a;go_wp2_with fail
 refine(YH _ _ _ d (CF k c q n v) (Ab C++Ab A) w2 _ _ rfl D N s2 (by rw[W.out];omega) (by rw[BA];omega) (by simp[Ab]) (by rw[W.out];omega)).mono ?_;rintro e w3 ⟨v3,rfl,V,L⟩;have T:(d++(CF k c q n v++(Ab C++Ab A))).length=60:=by rw[G',W.out,G',BA];rfl
 have s3:=Sl.jv V (by rw[T];omega) (λx hx=>by rcases P'.1 hx with h|h;(· exact D.byte x h);rcases P'.1 h with h|h;(· exact FV _ _ _ _ _ x h);rcases P'.1 h with h|h;(· exact As _ x h);exact As _ x h);rw[T]at V
 obtain⟨g3,c3,rfl⟩:=BS V;clear V;have Y:=d2.trans (L.mono d2.size);have O:=H.ab L;have a6:=I.ab L;have a5:=(L.block _ l).trans y;have a3:=Y' l L.size;have a4:=(L.block _ j).trans u;have a2:=Y' j L.size;clear H I l y j u;clear L;have R:(d++(CF k c q n v++(Ab C++Ab A))).length<=2000:=by rw[T];omega
 clear T;go_wp2_with fail
 refine(aL _ (d++(CF k c q n v++(Ab C++Ab A))) w3 s3 R O).mono ?_;rintro e w4 ⟨v4,rfl,o4,b4⟩;obtain⟨Z,c4,rfl,Q,s4⟩:=So.jv o4 (Ao _) (CG _);have dd:=Y.trans (b4.mono Y.size);have a1:w.heap.size<=Z:=iy Y.size Q;have X:Hid (So w4 Z c4 (lnk d ⟨k,c,q,n,v⟩ C A)):=s4;clear s4 s3 b4 Q R o4;go_wp2
 go_ret2
 exact⟨Z,c4,rfl,a1,X.out,dd⟩
structure En where
 m:Cmd
 c:Int
 a:Int
 y:S3
 g:List Int
def enV(e:En):List Value:=[iv e.m.k,iv e.m.c,iv e.m.s,iv e.m.n,iv e.m.v,iv e.c,iv e.a,e.y.v]
def enL(E:List En):List Value:=E.flatMap enV
theorem VK(E:List En)(e:En):enL (E++[e])=enL E++enV e:=by simp[enL]
theorem YR(E:List En):(enL E).length=E.length*8:=E2 (f:=enV) (λ_=>rfl) E
def MZ(g:Gh)(w:World)(E:List En):Prop:=∀ e∈E,FSl g w e.y e.g
variable{E:List En}{e:En}
theorem MZ.ch{T:List Tg}{a:Gh}{b:World}(h:MZ g w E)(c:Cg B T g w a b)(e:Tg.z∉T:=by simp):MZ a b E:=λp d=>(h p d).ch c e
def Fa.oe(r:Nat)(x:S3)(E:List En):Fa:=⟨some r,λg w=>OwnS g w (.n 60 r) true 52 8 x (enL E)/\MZ g w E,λhz hr c h=>⟨h.1.ch c (hr r rfl) (by simp),h.2.ch c hz⟩⟩
def Fa.sm(E:List En):Fa:=⟨none,λg w=>MZ g w E,λhz _ c h=>h.ch c hz⟩
theorem MZ.snoc(h:MZ g w E)(k:FSl g w e.y e.g):MZ g w (E++[e]):=λp a=>(P'.1 a).elim (h p) λq=>by rw[N'.1 q];exact k
def Fa.en(x:S3)(E:List En):Fa:=⟨none,λg w=>FzV g w x 8 (enL E)/\MZ g w E,λhz _ c h=>⟨h.1.ch c hz,h.2.ch c hz⟩⟩
def chQ(f:Nat->Cmd)(n:Nat)(E:List En):Prop:=E.map (λe=>(e.m,e.c,e.a,e.g))=(List.range n).map λi=>(f i,cAt f i,aAt f i,gAt f (i+1))
theorem chQ.len(h:chQ f n E):E.length=n:=by have:=congrArg List.length h;simpa using this
theorem chQ.snoc(h:chQ f n E)(y:S3):chQ f (n+1) (E++[⟨f n,cAt f n,aAt f n,y,gAt f (n+1)⟩]):=by
 unfold chQ;rw[iL,h,jN,iL];rfl
theorem chQ.at(h:chQ f n E)(d:i<n):∃ y,E[i]?=some ⟨f i,cAt f i,aAt f i,y,gAt f (i+1)⟩:=by
 have b:=congrArg (·[i]?) h;simp only[iV,jE d,i8]at b;cases hq:E[i]? with
 | none=>rw[hq]at b;cases b
 | some e =>
  rw[hq]at b
  obtain⟨m,c,a,y,g⟩:=e;simp only[i8,V',je]at b;obtain⟨rfl,rfl,rfl,rfl⟩:=b;exact⟨y,rfl⟩
structure EnN(B:Nat)(w:World)(x:S3)(E:List En):Prop where
 o:OwN B w 52 8 x (enL E)
 d:∀ e∈E,Sl w e.y.v e.g/\Nb B e.y e.g
theorem EnN.en(h:EnN B w x E)(G:∀ b,B<=b->g.t b=.z):(Fa.en x E).p g w:=⟨h.o.fz G,λp a=>KD (h.d p a).1 (h.d p a).2 G⟩
theorem Pu{W:World}(c:x.a=some ⟨b,off,none⟩)(j:Nat)(d:j<x.n):(Instr.indexAt 37 x.v (iv (j:Int))).run prog W=.ok (pt b (off+8*j)) W:=by
 obtain⟨f,h,g⟩:=x;simp only at c d;subst c;exact KT (P:=prog) (e:=52) (z:=8) underlying37 (by kernel_rfl) (by kernel_rfl) d _ rfl
theorem fh(h:(Fa.en x E).p g w):x.n=E.length:=by
 have:=h.1.rd.len;rw[YR]at this;omega
theorem O8(h:(Fa.en x E).p g w)(n:x.a=some ⟨b,off,none⟩)(d:E[i]?=some e){j:Nat}{u:Value}(m:(enV e)[j]?=some u):w.cell? ⟨b,off+8*i+j,none⟩=some u:=by
 have r:=fh h;have q:=(O'.1 d).1;obtain⟨o,k,c,_,l⟩:=h.1.rd.spot (i:=i) (by omega);rw[n]at c;cases c
 exact l j u (He (f:=enV) (sz:=8) (λ_=>rfl) E d m)
end
section
variable{P:Program}{fn:Func}{R:Ending->World->Prop}{w0:World}{Φ:List Fa}{g:Gh}{w:World}
theorem tMk{s:Xs}(i r c:Nat)(t e:TypeId)(j a:Nat)(z:Value)(Q:a*c<=281474976710656)(B:c<=maxLen)(K:Φ.all (λf=>f.ro != some r)=true)
  (J:∀ x' g' w',x'.n=0->GT P fn R w0 (Fa.ow r e j x' []::Φ) (nxt s i (S3.v x') s.L).s g' w')
  (M:P.underlying t=some (.slice e):=by kernel_rfl)(d:(P.info? e).map (λi=>(i.zero,i.size,i.bytes))=some (some z,j,a):=by kernel_rfl)
  (b:CP s i=some (Instr.makeSlice t (.int .i64 0) (.int .i64 (c:Int))>>=λv=>pure (.value v)):=by kernel_rfl)(q:(nxt s i undef s.L).o.map Ob.l'=(nxt s i undef s.L).o.map Ob.r':=by kernel_rfl):GT P fn R w0 Φ s g w:=by
 refine⟨λF C=>Jy i s.L q (Bz b) λA O S o u=>?_⟩;obtain⟨y,I,N,x,p⟩:=info_parts d;have l:(c:Int)<=9223372036854775807:=by have h:=B;simp[maxLen]at h;omega
 have D:=run_make (P:=P) w t e y z M I N .i64 .i64 0 (c:Int) (mc _) (by omega) (by rw[p];have:((a*c:Nat):Int)<=281474976710656:=(by omega);rwa [lz]at this) l;simp only[Int.toNat_zero,jm,x]at D;have E:Bw w (w.alloc (.cells (madeCells z.cells (c*j)) e)):=(Below.refl _ _).alloc (A' _) _;have H:OwN w.heap.size (w.alloc (.cells (madeCells z.cells (c*j)) e)) e j ⟨some ⟨w.heap.size,0,none⟩,0,c⟩ []:=⟨by simp,.inr ⟨w.heap.size,_,A' _,rfl,heap_alloc_new _ _,iR _,B,size_madeCells _ _,by simp⟩⟩;obtain⟨g',k,G,m,_⟩:=H.take E A.new r;refine⟨_,_,g',.inl ?_,A.ch (k w.heap.size) G (by simp),(J ⟨some ⟨w.heap.size,0,none⟩,0,c⟩ g' _ rfl).ex ⟨m,F.mr (k w0.heap.size)⟩ (C.trans ((k _).nil TQ))⟩;rw[CQ b u,Sem.run_bind,D,Result.andThen_ok];rfl
theorem qE6{B:Nat}{T:List Tg}{s:Xs}(u p m:Tmp)(c:TypeId)(i b:Nat)(a:Array Value)(v q:Value)(h:Kn B g w s.L->R (.returned (.tuple #[v,.agg a,q])) w)(H:(s.L[i]?).map (λx=>(x.g,Cf x.o,Dr x.o))=some (b,a,true):=by kernel_rfl)(A:fn.results=#[.tmp u,.cell p c,.tmp m]:=by kernel_rfl)(D:s.f.act.tmps.getD p undef=pt b 0:=by kernel_rfl)(G:s.f.act.tmps.getD u undef=v:=by kernel_rfl)(k:s.f.act.tmps.getD m undef=q:=by kernel_rfl)(F:Fl P c=true:=by kernel_rfl)(C:(P.info? c).map (·.size)=some a.size:=by kernel_rfl)(E:Kp s.K=true:=by kernel_rfl):GG P fn R B T s g w :=
 QA _ E (λK=>by
  obtain⟨e,y⟩:=K.nr H;obtain⟨d,r,t⟩:=FF F;have j:s.f.act.tmps[p]?.getD undef=.pointer (some ⟨b,0,none⟩):=by simpa using D
  rw[<- G,<- k];simp[results,A,j,asAddr,run_loadVar_row w b e c a (0,0) d y r (by cases d<;>first|rfl|cases t) C]) h
end
section
variable{A C:Int}{S s:Sto}{W w:World}{a0:Option Addr}{b c0 k:Nat}{m:Cmd}{sum:List Int}
theorem eE(f:NTab w)(i:Gf s)(h:m.e=0)(g:dnS s m=S)(d:dnC s m=C)(b:dnA s m=A) :
  Calls prog 21 #[.agg (stA s),.agg #[iv m.k,iv m.c,iv m.s,iv m.n,iv m.v]] w λe w'=>e=.returned (.tuple #[.agg (stA S),.agg #[iv C,iv A],iv 0])/\Bw w w':=by
 subst g d b;have a:doE s m=0:=(YN i).trans h;have:=bZ s m w f
 rwa [a,VC a,V8 a,V6 a]at this
theorem bm(l:Sl w (.slice a0 32 c0) sum)(r:sum.length=32)(q:m.e=0)(i:(C=0\/C=7\/C=11)/\VaB A)(o:Av w)(j:NTab w) :
  Calls prog 22 #[.slice a0 32 c0,.agg #[iv m.k,iv m.c,iv m.s,iv m.n,iv m.v],.agg #[iv C,iv A]] w λe w'=>∃ za zc,e=.returned (.tuple #[.slice za 32 zc,iv 0])/\Sl w' (.slice za 32 zc) (lnk sum m C A)/\(∀ a,za=some a->w.heap.size<=a.block)/\Bw w w':=by
 unfold VaB at i;refine(Yq a0 c0 sum m.k m.c m.s m.n m.v C A w l r q (by omega) (by omega) (by omega) (by omega) o j).mono ?_;rintro e w' ⟨g,b,rfl,d,f,h⟩;exact⟨_,_,rfl,f.sl,λa p=>by cases p;exact d,h⟩
theorem XK(h:w.heap[b]?=some (.cells (List.replicate 32 (Value.int .u8 0)).toArray 5)):Sl w (.slice (some ⟨b,0,none⟩) 32 32) (List.replicate 32 0):=by
 refine⟨⟨_,_,rfl,A' _,λe=>(by cases e),.inr ⟨b,0,rfl,rl h,λi a=>?_⟩⟩,by simp,λx c=>?_⟩
 .rw[cell_of_row _ _ _ _ _ _ h];have a:i<32:=by simpa using a
  simp only[jb,i5,kv,if_pos a,iS,lf]
 .obtain rfl:=List.eq_of_mem_replicate c;omega
theorem Ve(w:World) :
  Calls prog 14 #[] w λe w'=>∃ za zc,e=.returned (.agg (tlA AB za 32 zc))/\Sl w' (.slice za 32 zc) (List.replicate 32 0)/\(∀ a,za=some a->w.heap.size<=a.block)/\Bw w w':=by
 refine tIn [] func14 trivial (tR 10 [1,0,1,0,0,0] λb _ _=>tX λF C=>Ae λK=>?_);obtain⟨c,_,d,_⟩:=K.row _ (iN (show _[1]?=some ⟨(b 1),.cells (List.replicate 32 (Value.int .u8 0)).toArray 5,.l,true⟩from by kernel_rfl));exact qE1 0 62 0 (b 0) (tlA AB (some ⟨(b 1),0,none⟩) 32 32) λ_=>⟨_,_,rfl,XK c,λa f=>by cases f;exact d rfl,CgQ.ab C⟩
theorem TK(x:Sl w (.slice a0 32 c0) sum)(z:sum.length=32)(r:Gf s)(f:AnB s)(i:m.e=0)(y:Av w)(q:NTab w){K:Int}(d:dnS s m=S)(p:dnC s m=K)(l:dnA s m=A) :
  Calls prog 15 #[.agg (tlA s a0 32 c0),.agg #[iv m.k,iv m.c,iv m.s,iv m.n,iv m.v]] w λe w'=>∃ za zc,e=.returned (.tuple #[.agg #[iv m.k,iv m.c,iv m.s,iv m.n,iv m.v,iv K,iv A,.slice za 32 zc],.agg (tlA S za 32 zc),iv 0])/\Sl w' (.slice za 32 zc) (lnk sum m K A)/\(∀ a,za=some a->w.heap.size<=a.block)/\Bw w w':=by
 have o:=fg r f i;rw[p,l]at o
 refine tIn [] func15 trivial (tR 13 [0,0,0,0,1,0,1,0,0,1] λb _ _=>tC1 3 (λF C=>eE (q.ab (CgQ.ab C)) r i d p l) λ_=>tR 24 [1,0,1,0,4,0,5,0,0,1,5] λD _ _=>tF λ_ j=>tC 4 (λF C=>bm (x.ab (CgQ.ab C)) z i o (y.ab (CgQ.ab C)) (q.ab (CgQ.ab C))) λt=>?_);rintro _ _ ⟨za,zc,rfl,B,g,u⟩;refine⟨_,Fa.sl ⟨za,32,zc⟩ (lnk sum m K A)::_,rfl,u,λF=>⟨⟨B,λ_ a f=>t _ (g a f)⟩,F⟩,?_⟩;refine tR 21 [7,0,1,2,5,4,6,10] λE _ _=>NR 4 7 ?_ ?_
 .refine tR 6 [4,12,15,2,0,17,3,0,18] λG _ _=>tX λF C=>qE5 4 5 6 52 62 2 (b 2) 3 (b 3) #[iv m.k,iv m.c,iv m.s,iv m.n,iv m.v,iv K,iv A,.slice za 32 zc] (tlA S za 32 zc) (iv 0) λ_=>⟨za,zc,rfl,F.1.s,λa h=>iy j.size (g a h),CgQ.ab C⟩
 .refine tR 6 [2,0,9,4,12,17,3,0,18] λH _ _=>tX λF C=>qE5 4 5 6 52 62 2 (b 2) 3 (b 3) #[iv m.k,iv m.c,iv m.s,iv m.n,iv m.v,iv K,iv A,.slice za 32 zc] (tlA S za 32 zc) (iv 0) λ_=>⟨za,zc,rfl,F.1.s,λa h=>iy j.size (g a h),CgQ.ab C⟩
theorem Vo{x:S3}{l:List Cmd}(h:RdV w x 5 (cmL l))(hl:l.length<=200)(he:∀ c∈l,c.e=0)(hT:Av w)(hN:NTab w){f:Nat->Cmd}(hf:∀ i c,l[i]?=some c->f i=c) :
  Calls prog 9 #[x.v] w λe w'=>∃ z E,e=.returned (.tuple #[S3.v z,.agg (stA (sAt f l.length)),iv 0])/\chQ f l.length E/\EnN w.heap.size w' z E/\Bw w w':=by
 have hx:=YD h;have W:∀ j,j<l.length->(f j).e=0:=λj X=>by rw[hf j _ (E' X)];exact he _ (iT X)
 refine tIn [Fa.zv x 5 (cmL l)] func9 ⟨h.fz,trivial⟩ (tR 13 [1,0] λb _ _=>tI ((decide (200<(x.n:Int)))) false (D' (by omega)) (tR 3 [] λa7 _ _=>tF λ_ N=>?_));have Y:=N.size;refine tC 0 (λF C=>Ve _) λO=>?_;rintro _ _ ⟨r,zc,rfl,hz,hb,b3⟩;refine⟨_,Fa.sl ⟨r,32,zc⟩ (gAt f 0)::_,rfl,b3,λF=>⟨⟨hz,λ_ a q=>O _ (hb a q)⟩,F⟩,?_⟩;refine tR 7 [1,0,1,0] λm _ _=>tMk 2 0 x.n 37 52 8 80 zEn (by omega) (by unfold maxLen;omega) rfl (λy5 _ _ n5=>?_);refine tR 10 [] λa8 _ _=>Dp 46 [(20,S3.v x),(21,iv (x.n:Int)),(22,iv 0),(3,pt (b 0) 0),(5,pt (m 0) 0),(6,S3.v y5)] [true,true] [⟨(b 0),.cells #[iv 0,iv 0,iv 0,iv 0,iv 0,iv 0,iv 0,iv 0,iv 0,iv 0,iv 0,iv 0,iv 0,iv 0,iv 0,iv 0,iv 0,iv 0,iv 0,iv 0,iv 0,iv 0,iv 0,iv 0,iv 0,iv 0,iv 0,iv 0,iv 0,iv 0,iv 0,iv 0,.bool false,.bool false,.bool false,.bool false,.bool false,.bool false,.bool false,.bool false] 45,.l,false⟩,⟨(m 0),.cells #[iv (AB.V 0),iv (AB.V 1),iv (AB.V 2),iv (AB.V 3),iv (AB.V 4),iv (AB.V 5),iv (AB.V 6),iv (AB.V 7),iv (AB.L 0),iv (AB.L 1),iv (AB.L 2),iv (AB.L 3),iv (AB.L 4),iv (AB.L 5),iv (AB.L 6),iv (AB.L 7),iv (AB.C 0),iv (AB.A 0),iv (AB.C 1),iv (AB.A 1),iv (AB.C 2),iv (AB.A 2),iv (AB.C 3),iv (AB.A 3),iv (AB.C 4),iv (AB.A 4),iv (AB.C 5),iv (AB.A 5),iv (AB.C 6),iv (AB.A 6),iv (AB.C 7),iv (AB.A 7),.bool (AB.R 0),.bool (AB.R 1),.bool (AB.R 2),.bool (AB.R 3),.bool (AB.R 4),.bool (AB.R 5),.bool (AB.R 6),.bool (AB.R 7),.slice r 32 zc] 62,.l,false⟩] [Fa.oe 0 y5 [],Fa.sl ⟨r,32,zc⟩ (gAt f 0),Fa.zv x 5 (cmL l)] (λkk ee LL M=>∃ (i:Nat) (y:S3) (E:List En) (r:Option Addr) (zc:Nat),kk=x.n-i/\ee=[(20,S3.v x),(21,iv (x.n:Int)),(22,iv (i:Int)),(3,pt (b 0) 0),(5,pt (m 0) 0),(6,S3.v y)]/\LL=[⟨(b 0),.cells (stA AB) 45,.l,false⟩,⟨(m 0),.cells (tlA (sAt f i) r 32 zc) 62,.l,false⟩]/\M=[Fa.oe 0 y E,Fa.sl ⟨r,32,zc⟩ (gAt f i),Fa.zv x 5 (cmL l)]/\i<=l.length/\y.n=i/\chQ f i E/\(∀ e∈E,Nb w.heap.size e.y e.g)/\∀ a,r=some a->w.heap.size<=a.block) (x.n) ⟨0,y5,[],r,zc,rfl,rfl,rfl,rfl,by omega,n5,rfl,λ_ h=>(by cases h),λa q=>iy Y (hb a q)⟩ (λF=>⟨⟨F.1,λ_ h=>(by cases h)⟩,F.2⟩) ?_;rintro k _ _ _ ⟨i,y,E,r,zc,rfl,rfl,rfl,rfl,hi,hy,Q,D,a5⟩ _ _ _ J hJ;refine tR 5 [] λa9 _ _=>?_;by_cases h1:i<l.length
 .refine tI ((decide ((i:Int)<(x.n:Int)))) true (I' (by omega)) ?_;obtain⟨c,T⟩:∃ c,l[i]?=some c:=⟨_,E' (by omega)⟩;have d:=hf i c T;have U:=he c (iN T);have a4:=Q.len;obtain⟨sB,sA⟩:=aB (f:=f) (i:=i) λj X=>W j (by omega);refine tF λF _=>?_;obtain⟨bx,ox,H⟩:=F.2.2.1.rd.rc.addr (k:=i) (by omega);refine tR 5 [] λb0 _ _=>tV 0 (pt bx (ox+5*i)) (λF C=>(MD H i (by omega))) (tV 1 (.agg #[iv c.k,iv c.c,iv c.s,iv c.n,iv c.v]) (λF C=>(Um c λq_ u Z=>F.2.2.1.rd.rc.cellAt H T Z)) (tR 7 [0,0,2,0,1,2] λa0 _ _=>tF λF N=>?_));have G:=N.size;refine tC 2 (λF C=>TK F.2.1.s (Q8 f i) sB sA U (hT.ab (CgQ.ab C)) (hN.ab (CgQ.ab C)) (S:=sAt f (i+1)) (K:=cAt f i) (A:=aAt f i) (by rw[<- d];rfl) (by rw[<- d];rfl) (by rw[<- d];rfl)) λO=>?_;rintro _ _ ⟨o,p,rfl,Z,B,P⟩;refine⟨_,Fa.sl ⟨o,32,p⟩ (gAt f (i+1))::_,rfl,P,λF=>⟨⟨by rw[show gAt f (i+1)=lnk (gAt f i) c (cAt f i) (aAt f i)from by rw[<- d];rfl];exact Z,λ_ a q=>O _ (B a q)⟩,F⟩,?_⟩;refine tR 23 [0,0,0,0,3,0,4,0,6,0,2,3,8,4,5,0,0] λt _ _=>tCv [Fa.ow 0 52 8 y (enL E),Fa.sm E,Fa.sl ⟨o,32,p⟩ (gAt f (i+1)),Fa.zv x 5 (cmL l)] (λF=>⟨F.2.1.1,F.2.1.2,F.1,F.2.2.2.1,trivial⟩) (LY 3 0 (x:=y) 37 37 52 8 80 (zEn) ⟨(t 2),0,none⟩ 1 1 [iv c.k,iv c.c,iv c.s,iv c.n,iv c.v,iv (cAt f i),iv (aAt f i),.slice o 32 p] (λF=>F.1) [Fa.sm E,Fa.sl ⟨o,32,p⟩ (gAt f (i+1)),Fa.zv x 5 (cmL l)] (λF=>⟨F.2.1,F.2.2.1,F.2.2.2.1,trivial⟩) rfl (by simp[TQ]) rfl (by simp[Value.oneCell']) (λF K=>BL K 5 (t 2) [iv c.k,iv c.c,iv c.s,iv c.n,iv c.v,iv (cAt f i),iv (aAt f i),.slice o 32 p] 52 .z true (by kernel_rfl)) (by unfold maxLen;omega) (by omega) λI _ _ a6=>tCv [Fa.oe 0 I (E++[⟨c,cAt f i,aAt f i,⟨o,32,p⟩,gAt f (i+1)⟩]),Fa.sl ⟨o,32,p⟩ (gAt f (i+1)),Fa.zv x 5 (cmL l)] (λF=>⟨⟨VK E _▸F.1,F.2.1.snoc (e:=⟨c,cAt f i,aAt f i,⟨o,32,p⟩,gAt f (i+1)⟩) F.2.2.1⟩,F.2.2⟩) (tR 5 [10,13,1,0] λa1 _ _=>tV 0 (iv ((i:Int)+1)) (λF C=>(AD 22 (i:Int) underlying3 (by omega))) (tR 2 [] λa2 _ _=>tB hJ (x.n-(i+1)) (by omega) [true,true,false,false,false,false] (L':=[⟨(b 0),.cells (stA AB) 45,.l,false⟩,⟨(m 0),.cells #[iv ((sAt f (i+1)).V 0),iv ((sAt f (i+1)).V 1),iv ((sAt f (i+1)).V 2),iv ((sAt f (i+1)).V 3),iv ((sAt f (i+1)).V 4),iv ((sAt f (i+1)).V 5),iv ((sAt f (i+1)).V 6),iv ((sAt f (i+1)).V 7),iv ((sAt f (i+1)).L 0),iv ((sAt f (i+1)).L 1),iv ((sAt f (i+1)).L 2),iv ((sAt f (i+1)).L 3),iv ((sAt f (i+1)).L 4),iv ((sAt f (i+1)).L 5),iv ((sAt f (i+1)).L 6),iv ((sAt f (i+1)).L 7),iv ((sAt f (i+1)).C 0),iv ((sAt f (i+1)).A 0),iv ((sAt f (i+1)).C 1),iv ((sAt f (i+1)).A 1),iv ((sAt f (i+1)).C 2),iv ((sAt f (i+1)).A 2),iv ((sAt f (i+1)).C 3),iv ((sAt f (i+1)).A 3),iv ((sAt f (i+1)).C 4),iv ((sAt f (i+1)).A 4),iv ((sAt f (i+1)).C 5),iv ((sAt f (i+1)).A 5),iv ((sAt f (i+1)).C 6),iv ((sAt f (i+1)).A 6),iv ((sAt f (i+1)).C 7),iv ((sAt f (i+1)).A 7),.bool ((sAt f (i+1)).R 0),.bool ((sAt f (i+1)).R 1),.bool ((sAt f (i+1)).R 2),.bool ((sAt f (i+1)).R 3),.bool ((sAt f (i+1)).R 4),.bool ((sAt f (i+1)).R 5),.bool ((sAt f (i+1)).R 6),.bool ((sAt f (i+1)).R 7),.slice o 32 p] 62,.l,false⟩]) ⟨i+1,I,_,o,p,rfl,rfl,rfl,rfl,by omega,by omega,d▸Q.snoc _,λe h=>(P'.1 h).elim (D e) λg=>by rw[N'.1 g];exact λ_ a q=>iy G (B a q),λa q=>iy G (B a q)⟩ (λF=>F))))
 .refine tI ((decide ((i:Int)<(x.n:Int)))) false (D' (by omega)) ?_;obtain rfl:i=l.length:=by omega
  refine tR 10 [4,0,2,4,1,6,9,0,0,10] λa3 _ _=>tX λF C=>qE6 2 3 4 45 0 (b 0) (stA (sAt f l.length)) (S3.v y) (iv 0) λ_=>⟨y,E,rfl,Q,⟨F.1.1.own C,λe h=>⟨(F.1.2 e h).s,D e h⟩⟩,CgQ.ab C⟩
theorem UO{n a c:Int}(h:I64 n)(d:pick n a=c)(f:0<a:=by decide)(b:a<=9223372036854775807:=by decide) :
  Calls prog 7 #[iv n,iv a] w λe w'=>e=.returned (iv c)/\Bw w w':=by subst d;exact BG h a f b
theorem Xt{n:Nat}(a:n<8):(Instr.indexAt 38 (pt b 0) (iv (n:Int))).run prog W=.ok (pt b n) W:=by
 rcases lt8 a with rfl|rfl|rfl|rfl|rfl|rfl|rfl|rfl<;>kernel_rfl
theorem ia(e:En)(h:∀ j u,(enV e)[j]?=some u->W.cell? ⟨b,k+j,none⟩=some u):(Instr.loadAt 52 (pt b k)).run prog W=.ok (.agg (enV e).toArray) W:=by
 have a:=run_loadVar_mid (P:=prog) W b k 52 (enV e) _ h underlying52 rfl (by kernel_rfl);simp only[Instr.loadAt,Instr.sureAddr,Sem.run_bind,Sem.run_pure,Result.andThen_ok];exact a
theorem fW(e:En){q:Nat}(d:e.m.n=(q:Int))(h:∀ j u,(enV e)[j]?=some u->W.cell? ⟨b,k+j,none⟩=some u):(Instr.loadAt 52 (pt b k)).run prog W=.ok (.agg #[iv e.m.k,iv e.m.c,iv e.m.s,iv (q:Int),iv e.m.v,iv e.c,iv e.a,e.y.v]) W:=by
 rw[<- d];exact ia e h
theorem WI{M:Meet}{P:Cmd->Prop}(h:∀ j,j<5->∀ c∈M.log j,P c)(b:∀ j,j<5->(M.log j).length<=40):(∀ c∈((lgN M 5).map M.log).getD [],P c)/\(((lgN M 5).map M.log).getD []).length<=40:=by
 cases hh:lgN M 5 with
 | none=>exact⟨λc a=>(by cases a),iR _⟩
 | some j=>exact⟨h j (QU hh),b j (QU hh)⟩
theorem Mc{l:S3}{G:List Gr}{ld:Int}(h:RdV w l 5 (grL G))(hG:∀ g∈G,GrOk g)(c1:I64 ld)(hT:UP w) :
  Calls prog 3 #[l.v,iv ld] w λe w'=>e=.returned (.bool true)/\Bw w w':=by
 obtain⟨L,hL⟩:∃ L,scr G 100 true=L:=⟨_,rfl⟩;have a7:=ei G 100 true;have c2:=aE G 100 true;rw[hL]at a7 c2
 have hr:=AU ld 5 (by omega);obtain⟨n,Z,h3⟩:∃ n:Nat,pick ld 5=(n:Int)/\n<5:=⟨(pick ld 5).toNat,by omega,by omega⟩;have h4:=XH L (n:Int);have c3:∀ x∈I8 L (n:Int),LacOk x:=P6 (λn Z=>PY ⟨.inr (.inr rfl),by omega,by omega⟩) (λn Z=>PY ⟨.inr (.inl rfl),by omega,by omega⟩) (by rw[<- JN];decide) (PY ⟨.inl rfl,by omega,by omega⟩) L;have R:∀ x∈L++I8 L (n:Int),LacOk x:=λx hx=>(P'.1 hx).elim (a7 x) λe=>c3 x e;have a2:(L++I8 L (n:Int)).length<=100000:=by rw[G'];omega
 have hS:=cC (S:=λc=>c.e=0) _ R a2 λx _ _ i0 e=>by rw[WZ e];exact gk (fM e)
 have a3:=UU _ R a2;obtain⟨N,a4⟩:∃ N,CJ.mz (L++I8 L (n:Int))=N:=⟨_,rfl⟩;rw[a4]at hS a3
 obtain⟨a0,a9⟩:=WI (M:=N) (λj hj c hc=>(hS.nd j hj).ag c (iJ hc)) λj hj=>by unfold Meet.log;rw[X'];have:=(a3.af j hj).ag;omega
 obtain⟨A,hA⟩:∃ A,((lgN N 5).map N.log).getD []=A:=⟨_,rfl⟩;rw[hA]at a0 a9
 obtain⟨f,hf⟩:∃ f:Nat->Cmd,∀ i c,A[i]?=some c->f i=c:=⟨λi=>A.getD i Qo,λi c e=>by simp[List.getD_eq_getElem?_getD,e]⟩;have Q:∀ i,i<A.length->(f i).e=0:=λi hi=>by rw[hf i _ (E' hi)];exact a0 _ (iT hi)
 clear hS a3;refine tIn [] func3 trivial (tR 7 [] λi1 _ _=>tC 1 (λF C=>Uv (most:=100) (cr:=true) (h.ab (CgQ.ab C)) hG (by decide) (tbA hT.1 C)) λNz=>?_);rintro _ _ ⟨s,P,rfl,hP,hN,b2⟩;refine⟨_,Fa.ac s P::_,rfl,b2,λF=>⟨hN.ac Nz,F⟩,?_⟩;rw[hL]at hP
 have h2:P.length=L.length:=by rw[<- hP,iQ]
 refine tR 6 [] λi2 _ _=>tC1 2 (λF C=>UO c1 Z) λ_=>tC 3 (λF C=>RC (n:=(n:Int)) (AcR.of F.1 hP) (by omega)) λNz=>?_;rintro _ _ ⟨z,rfl,hz,b6⟩;refine⟨_,Fa.ac z (P++rnP (I8 L (n:Int)))::_,rfl,b6,λF=>⟨⟨hz.fz Nz,Dat.app F.1.2 (NH _ _ (P6 (P:=λa=>a.d=[]) (λ_ _=>rfl) (λ_ _=>rfl) rfl rfl L))⟩,F⟩,?_⟩;have b4:(P++rnP (I8 L (n:Int))).map (·.1)=L++I8 L (n:Int):=by rw[iL,hP,aq]
 refine tC 4 (λF C=>dZ (AcR.of F.1 b4) R a2 (tb5 hT C) a4) λNz=>?_;rintro _ _ ⟨ly,tv,ys,rfl,hW,hO,b8⟩;refine⟨_,[Fa.ot ly tv ys N],rfl,b8,λF=>⟨SC hW hO Nz,trivial⟩,?_⟩;refine tR 10 [0,0,0,0,0] λi3 _ _=>tC1 1 (λF C=>QW (SE F.1)) λ_=>tR 5 [] λc5 _ _=>?_;have a6:∀ {g w},AllF g w [Fa.ot ly tv ys N]->RdV w (lgY ys (lgN N 5)) 5 (cmL A):=λF=>hA▸(WH F.1 (n:=5) (A' 5)).rd;refine tF λF _=>?_;have c0:=YD (a6 F);refine tC 1 (λF C=>Vo (a6 F) (by omega) a0 (hT.1.t.ab (CgQ.ab C)) (hT.1.n.ab (CgQ.ab C)) hf) λNz=>?_;rintro _ _ ⟨z,E,rfl,hE,b1,a8⟩;refine⟨_,[Fa.en z E],rfl,a8,λF=>⟨b1.en Nz,trivial⟩,?_⟩;refine tF λF _=>?_;have c4:z.n=A.length:=(fh F.1).trans hE.len;refine tR 26 [0,0,1,0] λc6 _ _=>tI (((z.n:Int) != ((lgY ys (lgN N 5)).n:Int))) false (by rw[c4,c0];simp) (tR 11 [1,0] λo _ _=>Dp 146 [(9,S3.v z),(12,pt (o 0) 0),(13,iv 0)] [false,false,true] [⟨(o 0),.cells #[iv 0,iv 0,iv 0,iv 0,iv 0,iv 0,iv 0,iv 0] 38,.l,false⟩] [Fa.en z E] (λkk X U r=>∃ (i:Nat) (W:Nat->Int),kk=A.length-i/\X=[(9,S3.v z),(12,pt (o 0) 0),(13,iv (i:Int))]/\U=[⟨(o 0),.cells #[iv (W 0),iv (W 1),iv (W 2),iv (W 3),iv (W 4),iv (W 5),iv (W 6),iv (W 7)] 38,.l,false⟩]/\r=[Fa.en z E]/\i<=A.length/\(sAt f i).V=W) (A.length) ⟨0,AB.V,rfl,rfl,rfl,rfl,by omega,rfl⟩ (λF=>F) ?_);rintro k _ _ _ ⟨i,W,rfl,rfl,rfl,rfl,hi,hW⟩ _ _ _ J I;refine tR 8 [] λc7 _ _=>?_;by_cases h1:i<A.length
 .refine tI ((decide ((i:Int)<(z.n:Int)))) true (I' (by omega)) ?_;obtain⟨yi,b0⟩:=hE.at (i:=i) (by omega);have b9:=Q i (by omega);have b7:=(DW b9).2;unfold InC at b7;obtain⟨q,hq,T⟩:∃ q:Nat,(f i).n=(q:Int)/\q<8:=⟨(f i).n.toNat,by omega,by omega⟩;refine tF λF _=>?_;obtain⟨zb,zo,H,_⟩:=F.1.1.rd.spot (i:=i) (by omega);refine tR 7 [] λc8 _ _=>tV 2 (pt zb (zo+8*i)) (λF C=>(Pu H i (by omega))) (tV 3 (.agg #[iv (f i).k,iv (f i).c,iv (f i).s,iv (q:Int),iv (f i).v,iv (cAt f i),iv (aAt f i),S3.v yi]) (λF C=>(fW ⟨f i,cAt f i,aAt f i,yi,gAt f (i+1)⟩ hq λj u hu=>O8 F.1 H b0 hu)) (tR 13 [0,0,1,0] λD _ _=>Dp 146 [(9,S3.v z),(12,pt (o 0) 0),(13,iv (i:Int)),(14,pt (D 0) 0),(15,.bool true),(16,iv 0)] [true,true] [⟨(o 0),.cells #[iv (W 0),iv (W 1),iv (W 2),iv (W 3),iv (W 4),iv (W 5),iv (W 6),iv (W 7)] 38,.l,false⟩,⟨(D 0),.cells #[iv (f i).k,iv (f i).c,iv (f i).s,iv (q:Int),iv (f i).v,iv (cAt f i),iv (aAt f i),S3.v yi] 52,.z,false⟩] [Fa.en z E] (λkk X U r=>∃ (k:Nat) (b:Bool),kk=i-k/\X=[(9,S3.v z),(12,pt (o 0) 0),(13,iv (i:Int)),(14,pt (D 0) 0),(15,.bool b),(16,iv (k:Int))]/\U=[⟨(o 0),.cells #[iv (W 0),iv (W 1),iv (W 2),iv (W 3),iv (W 4),iv (W 5),iv (W 6),iv (W 7)] 38,.l,false⟩,⟨(D 0),.cells #[iv (f i).k,iv (f i).c,iv (f i).s,iv (q:Int),iv (f i).v,iv (cAt f i),iv (aAt f i),S3.v yi] 52,.z,false⟩]/\r=[Fa.en z E]/\k<=i/\b=OC f i k) (i) ⟨0,true,rfl,rfl,rfl,rfl,by omega,T2 i⟩ (λF=>F) ?_));rintro k _ _ _ ⟨k,b,rfl,rfl,rfl,rfl,hk,hb⟩ _ _ _ JK b3;refine tR 7 [] λc9 _ _=>?_;by_cases h5:k<i
  .refine tI ((decide ((k:Int)<(i:Int)))) true (I' (by omega)) ?_;obtain⟨yk,Y⟩:=hE.at (i:=k) (by omega);refine tR 3 [] λd0 _ _=>Ia 146 (λX U r=>∃ (b2:Bool),X=[(9,S3.v z),(12,pt (o 0) 0),(13,iv (i:Int)),(14,pt (D 0) 0),(15,.bool b2),(16,iv (k:Int))]/\U=[⟨(o 0),.cells #[iv (W 0),iv (W 1),iv (W 2),iv (W 3),iv (W 4),iv (W 5),iv (W 6),iv (W 7)] 38,.l,false⟩,⟨(D 0),.cells #[iv (f i).k,iv (f i).c,iv (f i).s,iv (q:Int),iv (f i).v,iv (cAt f i),iv (aAt f i),S3.v yi] 52,.z,false⟩]/\r=[Fa.en z E]/\b2=OC f i (k+1)) (λJ I=>?_) ?_
   .cases b
    .refine tR 46 [44,0,2,4,6,8,10,12,14,16,18,20,22,24,26,28,30,32,34,36,38,40,42,44,46,48,50,52,54,56,58,60,62,64,66,68,70,72,74,76,78,80,82,84,86] λd1 _ _=>tD I [true,true] ⟨false,rfl,rfl,rfl,Za hb⟩ (λF=>F)
    .refine tR 5 [44,0,2,4,6] λd2 _ _=>tT 4 (pt zb (zo+8*k)) (λ_=>(Pu H k (by omega))) (tR 5 [10,12,16,18,20,1] λd3 _ _=>tF λF _=>tV 7 (iv ((f k).c)) (λF C=>(Ci underlying3 rfl (O8 F.1 H Y (j:=1) rfl))) ?_);by_cases e1:(f k).c≠(f i).c
     .refine tT 11 (.bool true) (λ_=>(DL (t:=3) (m:=(f k).c) (n:=(f i).c) (x:=(.tmp 70)) (y:=(.tmp 73)) (by simpa using e1))) (tR 33 [24,26,28,30,32,34,36,38,40,42,44,46,48,50,52,54,56,58,60,62,64,66,68,70,72,74,76,78,80,82,84,86] λd4 _ _=>tD I [true,true] ⟨true,rfl,rfl,rfl,F0 hb (I' (.inl e1)).symm⟩ (λF=>F))
     .refine tT 11 (.bool false) (λ_=>(DL (t:=3) (m:=(f k).c) (n:=(f i).c) (x:=(.tmp 70)) (y:=(.tmp 73)) (by simpa using e1))) (tR 3 [24,26,28] λd5 _ _=>tT 15 (pt zb (zo+8*k)) (λ_=>(Pu H k (by omega))) (tR 5 [32,34,38,40,42,1] λd6 _ _=>tF λF _=>tV 18 (iv ((f k).s)) (λF C=>(Ci underlying3 rfl (O8 F.1 H Y (j:=2) rfl))) ?_));by_cases e2:(f k).s<(f i).s
      .refine tT 22 (.bool true) (λ_=>(rLt (t:=3) (m:=(f k).s) (n:=(f i).s) (x:=(.tmp 81)) (y:=(.tmp 84)) (by simpa using e2))) (tR 22 [46,48,50,52,54,56,58,60,62,64,66,68,70,72,74,76,78,80,82,84,86] λd7 _ _=>tD I [true,true] ⟨true,rfl,rfl,rfl,F0 hb (I' (.inr (.inl e2))).symm⟩ (λF=>F))
      .refine tT 22 (.bool false) (λ_=>(rLt (t:=3) (m:=(f k).s) (n:=(f i).s) (x:=(.tmp 81)) (y:=(.tmp 84)) (by simpa using e2))) (tR 4 [46,48,50,52] λd8 _ _=>tT 27 (pt zb (zo+8*k)) (λ_=>(Pu H k (by omega))) (tR 2 [56,58] λd9 _ _=>tF λF _=>tV 30 (iv ((f k).k)) (λF C=>(Ci underlying3 rfl (O8 F.1 H Y (j:=0) rfl))) ?_));by_cases e3:(f k).k=0
       .refine tT 31 (.bool true) (λ_=>(Dn (t:=3) (m:=(f k).k) (n:=0) (x:=(.tmp 93)) (y:=(.const (iv 0))) (by simpa using e3))) (tR 13 [64,66,68,70,72,74,76,78,80,82,84,86] λe0 _ _=>tD I [true,true] ⟨true,rfl,rfl,rfl,F0 hb (I' (.inr (.inr (.inl e3)))).symm⟩ (λF=>F))
       .refine tT 31 (.bool false) (λ_=>(Dn (t:=3) (m:=(f k).k) (n:=0) (x:=(.tmp 93)) (y:=(.const (iv 0))) (by simpa using e3))) (tR 4 [64,66,68,70] λe5 _ _=>tT 36 (pt zb (zo+8*k)) (λ_=>(Pu H k (by omega))) (tR 2 [74,76] λe6 _ _=>tF λF _=>tV 39 (iv (cAt f k)) (λF C=>(Ci underlying39 rfl (O8 F.1 H Y (j:=5) rfl))) ?_));by_cases e4:cAt f k≠0
        .refine tT 40 (.bool true) (λ_=>(DL (t:=39) (m:=cAt f k) (n:=0) (x:=(.tmp 102)) (y:=(.const (iv 0))) (by simpa using e4))) (tR 4 [82,84,86] λe7 _ _=>tD I [true,true] ⟨true,rfl,rfl,rfl,F0 hb (I' (.inr (.inr (.inr e4)))).symm⟩ (λF=>F))
        .refine tT 40 (.bool false) (λ_=>(DL (t:=39) (m:=cAt f k) (n:=0) (x:=(.tmp 102)) (y:=(.const (iv 0))) (by simpa using e4))) (tR 4 [82,84,86] λe8 _ _=>tD I [true,true] ⟨false,rfl,rfl,rfl,F0 hb (D' λg=>g.elim e1 λg=>g.elim e2 λg=>g.elim e3 e4).symm⟩ (λF=>F))
   rintro _ _ _ ⟨b2,rfl,rfl,rfl,b5⟩ _ _ _;refine tR 3 [] λe9 _ _=>tV 1 (iv ((k:Int)+1)) (λF C=>(AD 61 (k:Int) underlying3 (by omega))) (tR 2 [] λf0 _ _=>tB b3 (i-(k+1)) (by omega) [true,true] ⟨k+1,b2,rfl,rfl,rfl,rfl,by omega,b5⟩ (λF=>F))
  .refine tI ((decide ((k:Int)<(i:Int)))) false (D' (by omega)) ?_;obtain rfl:k=i:=by omega
   have a5:=dg hb;refine tR 7 [1] λf1 _ _=>?_;by_cases h6:cAt f k≠0
   .refine tV 3 (.bool true) (λF C=>(DL (t:=39) (m:=cAt f k) (n:=0) (x:=(.tmp 108)) (y:=(.const (iv 0))) (by simpa using h6))) (tR 9 [] λf2 _ _=>tV 1 (iv ((k:Int)+1)) (λF C=>(AD 52 (k:Int) underlying3 (by omega))) (tR 2 [] λf3 _ _=>tB I (A.length-(k+1)) (by omega) [true,false] ⟨k+1,W,rfl,rfl,rfl,rfl,by omega,(Sn (λg=>h6 g.1)).trans hW⟩ (λF=>F)))
   .have h60:cAt f k=0:=iW.1 h6;refine tV 3 (.bool false) (λF C=>(DL (t:=39) (m:=cAt f k) (n:=0) (x:=(.tmp 108)) (y:=(.const (iv 0))) (by simpa using h6))) ?_;cases b
    .refine tR 9 [] λf4 _ _=>tV 1 (iv ((k:Int)+1)) (λF C=>(AD 52 (k:Int) underlying3 (by omega))) (tR 2 [] λf5 _ _=>tB I (A.length-(k+1)) (by omega) [true,false] ⟨k+1,W,rfl,rfl,rfl,rfl,by omega,(Sn (λg=>by have:=a5.2 g.2;cases this)).trans hW⟩ (λF=>F))
    .have hFq:=a5.1 rfl;obtain⟨p,O⟩:∃ p,(sAt f (k+1)).V=p:=⟨_,rfl⟩;refine tR 15 [1] λf6 _ _=>Ia 146 (λX U r=>∃ (_:Unit),X=[(9,S3.v z),(12,pt (o 0) 0),(13,iv (k:Int)),(14,pt (D 0) 0)]/\U=[⟨(o 0),.cells #[iv (p 0),iv (p 1),iv (p 2),iv (p 3),iv (p 4),iv (p 5),iv (p 6),iv (p 7)] 38,.l,false⟩,⟨(D 0),.cells #[iv (f k).k,iv (f k).c,iv (f k).s,iv (q:Int),iv (f k).v,iv (cAt f k),iv (aAt f k),S3.v yi] 52,.z,false⟩]/\r=[Fa.en z E]) (λJ I=>?_) ?_
     .by_cases h7:(f k).k=1
      .refine tI (((f k).k==1)) true (by simpa using h7) ?_;have hp:p=AV W q (f k).v:=by
        rw[<- O,(JM (by rw[h7];decide) (λj hj=>Q j (by omega)) h60 hFq).1];show(if(f k).k=1 then AV (sAt f k).V (f k).n.toNat (f k).v else _)=_;rw[if_pos h7,hW,hq,jm]
       subst hp;rcases lt8 T with rfl|rfl|rfl|rfl|rfl|rfl|rfl|rfl <;>
        (refine tR 10 [1,1,0,0] λf7 _ _=>?_;exact tD I [true,true] ⟨(),rfl,rfl,rfl⟩ (λF=>F))
      .refine tI (((f k).k==1)) false (by simpa using h7) ?_;have hp:p=W:=by
        by_cases h0:(f k).k=0
        .rw[<- O,<- hW];simp only[sAt];unfold dnS;rw[if_neg (λg=>g.1 h0)]
        .rw[<- O,(JM h0 (λj hj=>Q j (by omega)) h60 hFq).1];exact(if_neg h7).trans hW
       subst hp;refine tR 1 [] λf8 _ _=>tD I [true,true] ⟨(),rfl,rfl,rfl⟩ (λF=>F)
     rintro _ _ _ ⟨_,rfl,rfl,rfl⟩ _ _ _;refine tR 1 [] λf9 _ _=>Ia 146 (λX U r=>∃ (_:Unit),X=[(9,S3.v z),(12,pt (o 0) 0),(13,iv (k:Int)),(145,.bool false)]/\U=[⟨(o 0),.cells #[iv (p 0),iv (p 1),iv (p 2),iv (p 3),iv (p 4),iv (p 5),iv (p 6),iv (p 7)] 38,.l,false⟩]/\r=[Fa.en z E]) (λJ I=>?_) ?_
     .refine tR 4 [21,0,2,4,1] λg0 _ _=>?_;by_cases h8:(f k).k=1
      .refine tT 3 (.bool true) (λ_=>(Dn (t:=3) (m:=(f k).k) (n:=1) (x:=(.tmp 127)) (y:=(.const (iv 1))) (by simpa using h8))) ?_;have Z:=JM (by rw[h8];decide) (λj hj=>Q j (by omega)) h60 hFq;have a1:aAt f k=p q:=by
        rw[Z.2,<- O,Z.1];show(if(f k).k=1 then(f k).v else _)=(if(f k).k=1 then AV (sAt f k).V (f k).n.toNat (f k).v else _) q;rw[if_pos h8,if_pos h8,hq,jm,CO]
       refine tR 13 [8,10,12,14,16,18,20,22,24,26,1,28,30,32,1] λg1 _ _=>tT 17 (pt (o 0) q) (λ_=>(Xt T)) ?_;refine tW 18 (iv (p q)) (λF K=>Ci underlying3 rfl (gm K 0 (o 0) [iv (p 0),iv (p 1),iv (p 2),iv (p 3),iv (p 4),iv (p 5),iv (p 6),iv (p 7)] 38 .l false (j:=q) (by kernel_rfl) (by rcases lt8 T with rfl|rfl|rfl|rfl|rfl|rfl|rfl|rfl<;>rfl))) ?_;refine tT 19 (.bool false) (λ_=>(DL (t:=3) (m:=aAt f k) (n:=p q) (x:=(.tmp 138)) (y:=(.tmp 143)) (by rw[a1];simp))) (tR 2 [40] λg2 _ _=>tD I [true,false] ⟨(),rfl,rfl,rfl⟩ (λF=>F))
      .refine tT 3 (.bool false) (λ_=>(Dn (t:=3) (m:=(f k).k) (n:=1) (x:=(.tmp 127)) (y:=(.const (iv 1))) (by simpa using h8))) (tR 4 [8,10,12,14,1] λg3 _ _=>?_);by_cases h9:(f k).k=2
       .refine tT 8 (.bool true) (λ_=>(Dn (t:=3) (m:=(f k).k) (n:=2) (x:=(.tmp 132)) (y:=(.const (iv 2))) (by simpa using h9))) ?_;have Z:=JM (by rw[h9];decide) (λj hj=>Q j (by omega)) h60 hFq;have a1:aAt f k=p q:=by
         rw[Z.2,<- O,Z.1];show(if(f k).k=1 then(f k).v else if(f k).k=2 then(sAt f k).V (f k).n.toNat else 0)=(if(f k).k=1 then _ else(sAt f k).V) q;rw[if_neg h8,if_neg h8,if_pos h9,hq,jm]
        refine tR 8 [18,20,22,24,26,1,28,30,32,1] λg4 _ _=>tT 17 (pt (o 0) q) (λ_=>(Xt T)) ?_;refine tW 18 (iv (p q)) (λF K=>Ci underlying3 rfl (gm K 0 (o 0) [iv (p 0),iv (p 1),iv (p 2),iv (p 3),iv (p 4),iv (p 5),iv (p 6),iv (p 7)] 38 .l false (j:=q) (by kernel_rfl) (by rcases lt8 T with rfl|rfl|rfl|rfl|rfl|rfl|rfl|rfl<;>rfl))) ?_;refine tT 19 (.bool false) (λ_=>(DL (t:=3) (m:=aAt f k) (n:=p q) (x:=(.tmp 138)) (y:=(.tmp 143)) (by rw[a1];simp))) (tR 2 [40] λg5 _ _=>tD I [true,false] ⟨(),rfl,rfl,rfl⟩ (λF=>F))
       .refine tT 8 (.bool false) (λ_=>(Dn (t:=3) (m:=(f k).k) (n:=2) (x:=(.tmp 132)) (y:=(.const (iv 2))) (by simpa using h9))) (tR 13 [18,20,22,24,26,28,30,32,34,36,38,40] λg6 _ _=>tD I [true,false] ⟨(),rfl,rfl,rfl⟩ (λF=>F))
     rintro _ _ _ ⟨_,rfl,rfl,rfl⟩ _ _ _;refine tR 5 [] λg7 _ _=>tV 1 (iv ((k:Int)+1)) (λF C=>(AD 52 (k:Int) underlying3 (by omega))) (tR 2 [] λg8 _ _=>tB I (A.length-(k+1)) (by omega) [true] ⟨k+1,p,rfl,rfl,rfl,rfl,by omega,O⟩ (λF=>F))
 .refine tI ((decide ((i:Int)<(z.n:Int)))) false (D' (by omega)) (tR 5 [] λg9 _ _=>tE (.bool true) λ_ B=>⟨rfl,B⟩)
end
end
section
open Go.RowKit Go.ChangeShapes Go.WideShapes Go.ChangeAt
section
variable{H:Type}{W:World}{base fuel n:Nat}{cs:List Value}{held:Bool}
theorem NY{P:Program}{b:TypeId × Value->H}{w:World}{a:Nat->Bool}{t:TypeId}{c d e f g:Field}{x:DataW H × List MemPlace}(l:P.underlying t=some (.struct #[c,d,e,f,g]))(h:DataW.trod b P w base a held fuel t cs=some x) :
  ∃ y0 y1 y2 y3 y4 n,x=(.agg [y0.1,y1.1,y2.1,y3.1,y4.1],y0.2++(y1.2++(y2.2++(y3.2++y4.2))))/\cs.length=P.cellsOf t/\DataW.trod b P w base a held n c.type ((cs.drop c.offset).take (P.cellsOf c.type))=some y0 /\
   DataW.trod b P w base a held n d.type ((cs.drop d.offset).take (P.cellsOf d.type))=some y1/\DataW.trod b P w base a held n e.type ((cs.drop e.offset).take (P.cellsOf e.type))=some y2 /\
   DataW.trod b P w base a held n f.type ((cs.drop f.offset).take (P.cellsOf f.type))=some y3/\DataW.trod b P w base a held n g.type ((cs.drop g.offset).take (P.cellsOf g.type))=some y4:=by
 obtain⟨m,n,_,rfl,k,j,i⟩:=DataW.trod_struct l h
 match m,j with
 | [y0,y1,y2,y3,y4],_=>exact⟨y0,y1,y2,y3,y4,n,by simp,k,by simpa using i 0 c rfl,by simpa using i 1 d rfl,by simpa using i 2 e rfl,by simpa using i 3 f rfl,by simpa using i 4 g rfl⟩
theorem cR:prog.cellsOf 3=1:=by kernel_rfl
theorem K6{n:Int}(h:(Lit.int .i64 n).wf=true):I64 n:=by have:=bounds_i64 h;unfold I64;omega
instance:Inhabited Gr:=⟨⟨0,0,0,0,0⟩⟩
theorem dl{a:TypeId × Value->H}{t:Nat->Bool}{x:DataW H × List MemPlace}(h:DataW.trod a prog W base t held fuel 58 cs=some x):∃ g,cs=grV g/\GrOk g:=by
 obtain⟨A,B,C,D,E,m,_,o,i,j,k,l,n⟩:=NY underlying58 h;rw[show prog.cellsOf 58=5 by kernel_rfl]at o
 simp only[cR]at i j k l n
 match cs,o with
 | [c0,c1,c2,c3,c4],_ =>
  obtain⟨a0,b,_,u⟩:=DataW.trod_int underlying3 i;obtain⟨p,c,_,v⟩:=DataW.trod_int underlying3 j;obtain⟨q,d,_,w⟩:=DataW.trod_int underlying3 k;obtain⟨r,e,_,y⟩:=DataW.trod_int underlying3 l;obtain⟨s,f,_,z⟩:=DataW.trod_int underlying3 n;simp at b c d e f;subst b c d e f;exact⟨⟨a0,p,q,r,s⟩,rfl,K6 u,K6 v,K6 w,K6 y,K6 z⟩
theorem dk{f:Nat->Gr}{i j:Nat}{u:Value}(h:(((List.range n).map f).flatMap grV)[j]?=some u)(d:i=j/5):∃ q,j=5*i+q/\i<n/\(grV (f i))[q]?=some u:=by
 subst d;have b:j<(((List.range n).map f).flatMap grV).length:=(O'.1 h).1;rw[E2 (f:=grV) (sz:=5) (λ_=>rfl),iQ,lJ]at b
 have hin:j/5<n:=by omega
 refine⟨j%5,by omega,hin,?_⟩;obtain⟨v,c⟩:∃ v,(grV (f (j/5)))[j%5]?=some v:=⟨_,E' (by show j%5<5;omega)⟩;have:=He (f:=grV) (sz:=5) (λ_=>rfl) ((List.range n).map f) (i:=j/5) (j:=j%5) (a:=f (j/5)) (by simp[hin]) c;rw[show 5*(j/5)+j%5=j by omega,h]at this
 rw[c];exact this.symm
theorem We{z:TypeId × Value->H}{a:Option Addr}{c:Nat}{d:DataW H}{p:List MemPlace}(F:DataW.trod z prog W 0 (λ_=>true) true fuel 22 [.slice a n c]=some (d,p)):∃ G,RdV W ⟨a,n,c⟩ 5 (grL G)/\∀ g∈G,GrOk g:=by
 rcases Deep.open_slice underlying22 F with⟨l,_⟩|⟨a',len,cap,m,k,D,Pl,l,hb,hl,hm,hmm,hx,hel⟩
 .simp at l;obtain⟨rfl,rfl,rfl⟩:=l;exact⟨[],⟨rfl,A' _,λ_=>rfl,.inl rfl⟩,λg w=>by cases w⟩
 .simp at l;obtain⟨rfl,rfl,rfl⟩:=l;simp only[if_true]at hmm;rw[show prog.cellsOf 58=5 by kernel_rfl]at hel
  have hin:∀ i,i<n->∃ g,(∀ j u,(grV g)[j]?=some u->W.cell? ((a'.add (i*5)).add j)=some u)/\GrOk g:=by
   intro i x;obtain⟨B,l,C⟩:=hel i (by omega);obtain⟨g,rfl,w⟩:=dl C;obtain⟨_,_,E⟩:=World.cells?_some l;refine⟨g,λj u y=>?_,w⟩;have A:j<5:=(O'.1 y).1;rw[E j A,y]
  obtain⟨f,s⟩:=Deep.choose_lt hin;refine⟨(List.range n).map f,⟨by rw[show(grL ((List.range n).map f)).length=_ from E2 (f:=grV) (sz:=5) (λ_=>rfl) _,iQ,lJ],hl,(λh=>by cases h),?_⟩,λg w=>?_⟩
  .by_cases h0:n=0
   .exact .inl h0
   .right;obtain⟨b,v,spot⟩:=a';have r:=(s 0 (by omega)).1 0 _ rfl;have t:spot=none:=by simpa[Addr.add]using World.cell?_spot r
    subst t;have e:∀ o k,(⟨b,o,none⟩:Addr).add k=⟨b,o+k,none⟩:=λo k=>by unfold Addr.add;split<;>simp_all
    refine⟨b,v,rfl,?_,λj u y=>?_⟩
    .rw[e,e]at r
     exact World.block_lt_of_cell? W _ r
    .obtain⟨q,hq,x,hu⟩:=dk y rfl;have:=(s (j/5) x).1 q u hu;rw[e,e]at this
     rw[show v+j=v+j/5*5+q by omega];exact this
  .obtain⟨i,x,rfl⟩:=i7.1 w;exact(s i (j5.1 x)).2
end
end
section
open Go.ChangeShapes Go.WideShapes Go.ChangeAt Go.RowKit
section
theorem Ih(H:Type)(k:TypeId × Value->H)(W:World)(n:Nat)(a:Array Value)(s B:List (DataW H))(c:List MemPlace)(b:∀ (j:Nat) t v,f3.params[j]?=some t->a[j]?=some v->Value.okWide prog W .any n t v)(E:DataW.Whole k prog f3.params.toList Rows.topReadsSpec.vars false W a.toList s B c)(y:(DataW.weightsEach prog (f3.params.toList++Rows.topReadsSpec.plain.varTypes prog) (s++B)).all (·<=reachBytes)=true)(P:laidMetH prog Rows.topReadsRow.laid W) :
  Calls prog 3 a W λe W'=>∃ v,e=.returned v/\Rows.topReadsSpec.post k prog f3 false true false false W a v W':=by
 have u:=E;obtain⟨p,q,r,Q,rfl,T,V⟩:=E;have D:DataW.TrodAll k prog W 0 (λ_=>true) true f3.params.toList a.toList s p:=r;rw[params3]at D b y
 obtain⟨I,a2,d0,M,Y,q0,w,rfl,rfl,C,Z⟩:=trodAll_cons D;obtain⟨J,a3,d1,N,p1,q1,rfl,rfl,rfl,O,r1⟩:=trodAll_cons Z;obtain⟨rfl,rfl,rfl⟩:=trodAll_nil r1;obtain rfl:a=#[I,J]:=by cases a;simp_all
 obtain⟨rfl,rfl⟩:=trodVars_none Q;obtain⟨a0,i,d,rfl⟩:=okWide_slice underlying22 (b 0 22 I rfl rfl);have F:=C;have z:∀ x∈Y,x.block<W.heap.size:=by obtain⟨m,U⟩:=F;exact DataW.trod_lt m _ _ _ U
 obtain⟨l0,w0,X⟩:∃ G,RdV W ⟨a0,i,d⟩ 5 (grL G)/\∀ g∈G,GrOk g:=by obtain⟨A,S⟩:=C;exact We S
 obtain⟨L,rfl,rfl,rfl,K⟩:=open_int underlying3 (b 1 3 J rfl rfl) O;have b1:=bounds_i64 K;clear r;refine(Mc (l:=⟨a0,i,d⟩) (ld:=L) w0 X ⟨by omega,by omega⟩ (ip P)).mono λe W' ⟨R,o⟩=>?_;subst R;exact⟨_,rfl,_,_,_,[],_,[],u,trodAll_mk1 (shut_bool underlying4 _),(trodAll_cons_mk (Below.trod Zy (by kernel_rfl) (jt (by kernel_rfl)) F o z) (trodAll_cons_mk (shut_int underlying3 K) trodAll_mk0)),rfl,o.frame _,λh=>by cases h⟩
variable{W:World}{os:Os}
theorem NW(h:Im os W):laidMet prog Rows.topReadsRow.laid (W.forCall (λ_ _=>0) ⟨#[],#[.slice none 0 0,.int .i64 0],[]⟩).memory:=by
 unfold Im at h;subst h;exact laidMet_of_run' 8 (by kernel_rfl) (by kernel_rfl)
theorem Lp(h:Im os W){H:Type}(a:TypeId × Value->H):∃ places,DataW.whole a prog (W.forCall (λ_ _=>0) ⟨#[],#[.slice none 0 0,.int .i64 0],[]⟩).memory f3.params.toList Rows.topReadsSpec.vars false (#[.slice none 0 0,.int .i64 0]:Array Value).toList 8=some ([.nil,.lit (.int .i64 0)],[],places):=by
 unfold Im at h;subst h;exact⟨[],by kernel_rfl⟩
theorem JF(d:Os)(a:d.Started)(H:Type)(enc:TypeId × Value->H)(F:Stop.Interp) :
  ReturnsInHanded {} Tryz.checked d 3 .any ((OpenSpec.ofChange Rows.topReadsSpec).preRow enc prog f3 Rows.topReadsRow.domain false Rows.topReadsRow.laid) (((OpenSpec.ofChange Rows.topReadsSpec).at F).post enc prog f3 false true false false):=by
 obtain⟨i,b⟩:=YV d;obtain⟨c,h⟩:=Lp b enc;have g:=NW b;refine returnsInHanded_of_row (C:=Tryz.checked) (s:=OpenSpec.ofChange Rows.topReadsSpec) own a (by kernel_rfl) func3 ?_ ?_
 .unfold Im at b;subst b;exact witness_row_at (enc:=enc) (C:=Tryz.checked) false _ #[.slice none 0 0,.int .i64 0] rfl (by kernel_rfl) (by kernel_rfl) (by kernel_rfl)
   (OpenSpec.preRow_of_cond 8 h (by kernel_rfl) (λk e=>by cases e) (by kernel_rfl) g)
 .intro W base args ds gs before hval hW _ _ hsz hL _ _;exact Ih H enc W base args ds gs before hval hW hsz hL
theorem Mb:Rows.TopReadsSaid :=
 OpenClaim.holds_of_cond 3 f3 rfl rfl rfl rfl rfl rfl rfl ⟨rfl,rfl,rfl,rfl,rfl⟩ rfl rfl rfl rfl rfl (by kernel_rfl) func3 (by kernel_rfl)
  (jt (by kernel_rfl)) (by unfold Func.isWrapper;first|(rw[if_pos (by decide +kernel)];kernel_rfl)|(rw[if_neg (by decide +kernel)];exact⟨rfl,rfl⟩))
  (λc a H b _ F=>by rw[OpenClaim.pre_eq_preRow];exact JF c a H b F)
theorem Lo(f : FuncId)(b : Func)(e : Tryz.pinned.checked.prog.funcNamed "conclave/conclavetop.TopReads" = some f)(c : Tryz.pinned.checked.prog.funcs[f]? = some b) :
  false=Tryz.pinned.checked.prog.looks []/\∀ (j:Nat) t,b.params[j]?=some t->Tryz.pinned.checked.prog.wantsStandIn t=false:=by
 obtain rfl : f = 3 := Option.some.inj ((show prog.funcNamed "conclave/conclavetop.TopReads" = some 3 by kernel_rfl).symm.trans e) |>.symm
 obtain rfl:b=f3:=(ji (func3.symm.trans c)).symm;refine⟨by kernel_rfl,λj t d=>?_⟩;rw[params3]at d
 have a:=Array.mem_of_getElem? d;simp only[List.mem_toArray,iG,M',or_false]at a;rcases a with rfl|rfl
 .exact(show prog.wantsStandIn 22=false by kernel_rfl)
 .exact(show prog.wantsStandIn 3=false by kernel_rfl)
theorem topReads_card:Rows.TopReadsCardSaid :=
 Claim7.holds_tied_plain_at .later [] _ _ _ _ Mb (λ_ h=>by cases h) (by kernel_rfl) (λ_ h=>by cases h) topReads_row_tie rfl ⟨rfl,rfl⟩ (by kernel_rfl) rfl Lo (by kernel_rfl)
#print axioms topReads_card
end
end
end Go.Proofs.YtdjfdfpkkenjbaaGreatDoor
