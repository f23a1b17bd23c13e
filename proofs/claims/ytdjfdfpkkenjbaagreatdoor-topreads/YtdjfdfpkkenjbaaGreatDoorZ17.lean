/- Part 17 of the walk. -/
import Derived.Test.YtdjfdfpkkenjbaaGreatDoorZ16
set_option maxRecDepth 100000
set_option maxHeartbeats 4000000
open Go.Proofs.Tryz
set_option linter.unusedVariables false
namespace Go.Proofs.YtdjfdfpkkenjbaaGreatDoor
section
open Go.RowKit
section
variable{n tc tr tu k c s m v:Int}(h:paE n tc tr tu k c s m v=0)
include h
end
section
variable{G:List Gr}{L:List Lac}{M:Meet}{W w:World}{a:Lac}{b i j off:Nat}{cr:Bool}{g:Gh}{l:List (Lac × S3)}{ly tv x:S3}{n:Int}{ys:Nat->S3}
theorem KL{a b d k c s m v:Int}(h:paE n a b d k c s m v=0):(paL n a b d k c s m v).length=63:=by
 rw[Xh h,iX,FC,GL]
theorem ik(x:S3)(k:Nat)(f:k<=x.c)(d:∃ b off,x.a=some ⟨b,off,none⟩):(Instr.sliceAt 50 x.v none (some (iv (k:Int))) none).run prog W=.ok (S3.v ⟨x.a,k,x.c⟩) W:=by
 obtain⟨b,off,d⟩:=d;obtain⟨h,i,g⟩:=x;simp only at d f;subst d;have e:prog.elem 50=5:=by kernel_rfl
 rw[run_sliceAt_slice _ _ _ _ _ _ aU,run_slice_h (P:=prog) (w:=W) _ _ _ _ aU .i64 k (by omega) (by show(k:Int)<=((g:Nat):Int);omega),e,GP];simp[Result.andThen,sliced,Addr.add]
theorem FSl.take{l:List Int}(h:FSl g w x l)(k:Nat)(y:k<=l.length):FSl g w ⟨x.a,k,x.c⟩ (l.take k):=by
 have f:=ID h.s;obtain⟨⟨⟨a,m,j,v,f,d⟩,u,n⟩,o⟩:=h;simp only[Value.slice.injEq]at j;obtain⟨rfl,r,rfl⟩:=j;refine⟨⟨⟨_,_,by simp only[Value.slice.injEq,and_true,true_and,X'];omega,by rw[X'];omega,f,?_⟩,by rw[X'];omega,λz t=>n z (iJ t)⟩,λq=>o λe=>q (by rw[e];simp)⟩;rcases d with d|⟨b,off,ha,hbs,hcell⟩
 .exact .inl (by rw[d];simp)
 .refine .inr ⟨b,off,ha,hbs,λi p=>?_⟩;rw[X']at p
  rw[show(l.take k).getD i 0=l.getD i 0 by simp[List.getD,show i<k by omega]];exact hcell i (by omega)
theorem FSl.addr{l:List Int}(h:FSl g w x l)(j:l≠[]):(∃ b off,x.a=some ⟨b,off,none⟩)/\l.length<=x.c:=by
 obtain⟨⟨⟨a,f,e,i,p,d⟩,m,n⟩,o⟩:=h;simp only[Value.slice.injEq]at e;obtain⟨rfl,k,rfl⟩:=e;rcases d with d|⟨b,off,ha,_⟩
 .exact absurd d j
 .exact⟨⟨b,off,ha⟩,i⟩
theorem Ue{g:Gr}(h:GrOk g)(hT:Tabs w) :
  Calls prog 16 #[.agg #[iv g.k,iv g.a,iv g.b,iv g.c,iv g.d]] w λe w'=>∃ y:S3,e=.returned y.v/\Sl w' y.v (pkB g)/\Nb w.heap.size y (pkB g)/\Bw w w':=by
 have A:(pkP g).length=63:=KL (Xm g);have r4:=AU g.c 4 (by omega);refine tIn [] func16 trivial (tR 18 [0,0,0,0,0,0,0] λr _ _=>tC1 11 (λF C=>PV h.b h.c h.d h.a h.d) λ_=>tR 16 [0,0,1,0,1,1,0,2,0,0] λi _ _=>tC1 2 (λF C=>BG h.d 17) λ_=>tR 1 [] λa1 _ _=>Ia 56 (λZ X q=>∃ (E G:Int),Z=[(1,pt (r 0) 0),(3,pt (i 0) 0),(4,pt (i 1) 0)]/\X=[⟨(r 0),.cells #[iv g.k,iv g.a,iv g.b,iv g.c,iv g.d] 58,.z,false⟩,⟨(i 0),.cells #[iv (wK g.b),iv (pick g.c 4),iv (pick g.d 6),iv (pick g.a 4),iv (wV g.b g.d)] 49,.z,false⟩,⟨(i 1),.cells #[iv E,iv G,iv 60] 79,.l,false⟩]/\q=[]/\E=pkT g/\G=pkR g) (λJ I=>?_) ?_)
 .refine tR 6 [] λa2 _ _=>?_;by_cases f:pick g.d 17=15
  .refine tI (((pick g.d 17)==15)) true (by simpa using f) (tR 5 [2,0] λa3 _ _=>tD I [true,true,true] ⟨pick g.c 4,0,rfl,rfl,rfl,(if_neg (by omega)).symm,(if_pos f).symm⟩ (λF=>trivial))
  .refine tI (((pick g.d 17)==15)) false (by simpa using f) (tR 5 [] λa4 _ _=>?_);by_cases u:pick g.d 17=16
   .refine tI (((pick g.d 17)==16)) true (by simpa using u) (tR 3 [2] λa5 _ _=>tV 2 (iv (pick g.c 4+1)) (λF C=>(AD 31 (pick g.c 4) underlying3 (by omega))) (tV 3 (iv ((pick g.c 4+1)%4)) (λF C=>(Xw (x:=(.tmp 32)) (y:=(.const (iv 4))) (pick g.c 4+1) 4 underlying3 (by omega) (by omega) (by decide) (by decide))) (tR 4 [2,0] λO _ _=>tD I [true,true,true] ⟨(pick g.c 4+1)%4,7,rfl,rfl,rfl,(if_pos u).symm,(if_neg f).symm⟩ (λF=>trivial))))
   .refine tI (((pick g.d 17)==16)) false (by simpa using u) (tR 2 [] λP _ _=>tD I [true,true,true] ⟨pick g.c 4,7,rfl,rfl,rfl,(if_neg u).symm,(if_neg f).symm⟩ (λF=>trivial))
 rintro _ _ _ ⟨E,G,rfl,rfl,rfl,o,p⟩ _ _ _;refine tR 6 [11,0,2,0,6,2,8,1] λQ _ _=>tC1 2 (λF C=>BG h.a 1000) λ_=>tF λ_ W=>?_;have j:=W.size;have M:=Xm g;rw[<- o,<- p]at M
 have N:pkP g=paL (pick g.a 1000) E G 60 (wK g.b) (pick g.c 4) (pick g.d 6) (pick g.a 4) (wV g.b g.d):=by rw[o,p];rfl
 refine tC 5 (λF C=>ZT M (tbA hT C)) λY=>?_;rintro _ _ ⟨y,rfl,K,D,H⟩;refine⟨_,Fa.sl y (pkP g)::_,rfl,H,λF=>⟨(by rw[N];exact KD K D Y),F⟩,?_⟩;rw[<- N]at K D
 have a0:=ID K;refine tR 11 [12,14,16,18,20,0] λR _ _=>tC1 2 (λF C=>BG h.d 23) λ_=>?_;by_cases f:pick g.d 23=22
 .refine tV 3 (.bool true) (λF C=>(Dn (t:=3) (m:=pick g.d 23) (n:=22) (x:=(.tmp 46)) (y:=(.const (iv 22))) (by simpa using f))) (tR 6 [] λS _ _=>tI ((decide (30<(y.n:Int)))) true (I' (by omega)) (tR 2 [] λT _ _=>tF λF _=>?_));have L:=FSl.addr F.1 (λe=>by rw[e]at A;cases A);refine tV 1 (S3.v ⟨y.a,30,y.c⟩) (λF C=>(ik y 30 (by omega) L.1)) (tR 7 [] λU _ _=>?_);rw[show pkB g=_ from if_pos ⟨f,by omega⟩];exact tE (S3.v ⟨y.a,30,y.c⟩) λF B=>⟨⟨y.a,30,y.c⟩,rfl,(F.1.take 30 (by omega)).s,λ_ a ha=>D.mono j (λe=>by rw[e]at A;cases A) a ha,B⟩
 .refine tV 3 (.bool false) (λF C=>(Dn (t:=3) (m:=pick g.d 23) (n:=22) (x:=(.tmp 46)) (y:=(.const (iv 22))) (by simpa using f))) (tR 13 [] λV _ _=>?_);rw[show pkB g=_ from if_neg (λe=>f e.1)];exact tE (S3.v y) λF B=>⟨y,rfl,F.1.s,D.mono j,B⟩
theorem cB{g:Gr}(h:GrOk g)(hT:Tabs w){x:Lac}(i:OE g cr=x) :
  Calls prog 10 #[.agg #[iv g.k,iv g.a,iv g.b,iv g.c,iv g.d],.bool cr] w λe w'=>∃ y:S3,e=.returned (.agg #[iv x.k,iv x.n,iv x.a,iv x.p,y.v])/\Sl w' y.v x.d/\Nb w.heap.size y x.d/\Bw w w':=by
 refine tIn [] func10 trivial (tR 9 [0,0,1,0,0] λj _ _=>tC1 2 (λF C=>BG h.a 5) λ_=>tR 7 [0] λa0 _ _=>tC1 2 (λF C=>BG h.k 24) λ_=>?_);unfold OE at i;refine tR 9 [] λa1 _ _=>?_;by_cases f:pick g.k 24<3
 .refine tI ((decide ((pick g.k 24)<3))) true (by simpa using f) ?_;rw[if_pos f]at i
  refine tR 4 [0] λa2 _ _=>tF λ_ Cs=>?_;have o:=Cs.size;refine tC 2 (λF C=>Ue h (tbA hT C)) λNz=>?_;rintro _ _ ⟨y,rfl,hy,q,b8⟩;refine⟨_,Fa.sl y (pkB g)::_,rfl,b8,λF=>⟨KD hy q Nz,F⟩,?_⟩;refine tR 3 [1,0] λa3 _ _=>?_;subst i;exact tX λF C=>qE1 4 55 1 (j 1) #[iv 1,iv (pick g.a 5),iv 0,iv 0,S3.v y] λ_=>⟨y,rfl,F.1.s,q.mono o,CgQ.ab C⟩
 .refine tI ((decide ((pick g.k 24)<3))) false (by simpa using f) ?_;rw[if_neg f]at i
  refine tR 6 [] λr _ _=>?_;by_cases f:pick g.k 24<5
  .refine tI ((decide ((pick g.k 24)<5))) true (by simpa using f) ?_;rw[if_pos f]at i
   refine tR 6 [1,0] λu _ _=>?_;subst i;exact tX λF C=>qE1 4 55 1 (j 1) #[iv 2,iv (pick g.a 5),iv 0,iv 0,S3.v s30] λ_=>⟨s30,rfl,DV _,λe=>absurd rfl e,CgQ.ab C⟩
  .refine tI ((decide ((pick g.k 24)<5))) false (by simpa using f) ?_;rw[if_neg f]at i
   refine tR 6 [] λz _ _=>?_;by_cases f:pick g.k 24<14
   .refine tI ((decide ((pick g.k 24)<14))) true (by simpa using f) ?_;rw[if_pos f]at i
    refine tR 6 [1,0] λA _ _=>?_;subst i;exact tX λF C=>qE1 4 55 1 (j 1) #[iv 3,iv (pick g.a 5),iv 0,iv 0,S3.v s30] λ_=>⟨s30,rfl,DV _,λe=>absurd rfl e,CgQ.ab C⟩
   .refine tI ((decide ((pick g.k 24)<14))) false (by simpa using f) ?_;rw[if_neg f]at i
    refine tR 6 [] λB _ _=>?_;by_cases f:pick g.k 24=14
    .refine tI (((pick g.k 24)==14)) true (by simpa using f) ?_;rw[if_pos f]at i
     refine tR 4 [0] λD _ _=>tC1 2 (λF C=>BG h.c 20) λ_=>tR 3 [1,0] λE _ _=>?_;subst i;exact tX λF C=>qE1 4 55 1 (j 1) #[iv 4,iv 0,iv (pick g.c 20),iv 0,S3.v s30] λ_=>⟨s30,rfl,DV _,λe=>absurd rfl e,CgQ.ab C⟩
    .refine tI (((pick g.k 24)==14)) false (by simpa using f) ?_;rw[if_neg f]at i
     refine tR 6 [] λG _ _=>?_;by_cases f:pick g.k 24=15
     .refine tI (((pick g.k 24)==15)) true (by simpa using f) ?_;rw[if_pos f]at i
      refine tR 4 [0] λH _ _=>tC1 2 (λF C=>BG h.c 20) λ_=>tR 3 [1,0] λI _ _=>?_;subst i;exact tX λF C=>qE1 4 55 1 (j 1) #[iv 5,iv 0,iv (pick g.c 20),iv 0,S3.v s30] λ_=>⟨s30,rfl,DV _,λe=>absurd rfl e,CgQ.ab C⟩
     .refine tI (((pick g.k 24)==15)) false (by simpa using f) ?_;rw[if_neg f]at i
      refine tR 6 [] λJ _ _=>?_;by_cases f:pick g.k 24=16
      .refine tI (((pick g.k 24)==16)) true (by simpa using f) ?_;rw[if_pos f]at i
       refine tR 4 [0] λK _ _=>tC1 2 (λF C=>BG h.c 20) λ_=>tR 3 [1,0] λL _ _=>?_;subst i;exact tX λF C=>qE1 4 55 1 (j 1) #[iv 6,iv 0,iv (pick g.c 20),iv 0,S3.v s30] λ_=>⟨s30,rfl,DV _,λe=>absurd rfl e,CgQ.ab C⟩
      .refine tI (((pick g.k 24)==16)) false (by simpa using f) ?_;rw[if_neg f]at i
       refine tR 3 [] λM _ _=>?_;by_cases f:pick g.k 24=17
       .refine tV 1 (.bool true) (λF C=>(Dn (t:=3) (m:=pick g.k 24) (n:=17) (x:=(.tmp 52)) (y:=(.const (iv 17))) (by simpa using f))) (tR 5 [] λN _ _=>?_);by_cases l:cr=true
        .refine tI (cr) true l ?_;rw[if_pos ⟨f,l⟩]at i
         refine tR 5 [0] λO _ _=>tC1 3 (λF C=>BG h.c 90) λ_=>tR 3 [1,0] λP _ _=>?_;subst i;exact tX λF C=>qE1 4 55 1 (j 1) #[iv 8,iv (pick g.a 5),iv 0,iv (pick g.c 90),S3.v s30] λ_=>⟨s30,rfl,DV _,λe=>absurd rfl e,CgQ.ab C⟩
        .refine tI (cr) false (by simpa using l) ?_;rw[if_neg (λe=>l e.2)]at i
         refine tR 3 [] λQ _ _=>?_;by_cases f:pick g.k 24=18
         .refine tV 1 (.bool true) (λF C=>(Dn (t:=3) (m:=pick g.k 24) (n:=18) (x:=(.tmp 63)) (y:=(.const (iv 18))) (by simpa using f))) (tR 5 [] λR _ _=>?_);by_cases l:cr=true
          .refine tI (cr) true l ?_;rw[if_pos ⟨f,l⟩]at i
           refine tR 6 [1,0] λS _ _=>?_;subst i;exact tX λF C=>qE1 4 55 1 (j 1) #[iv 9,iv (pick g.a 5),iv 0,iv 0,S3.v s30] λ_=>⟨s30,rfl,DV _,λe=>absurd rfl e,CgQ.ab C⟩
          .refine tI (cr) false (by simpa using l) ?_;rw[if_neg (λe=>l e.2)]at i
           refine tR 7 [1,0] λT _ _=>?_;subst i;exact tX λF C=>qE1 4 55 1 (j 1) #[iv 7,iv 0,iv 0,iv 0,S3.v s30] λ_=>⟨s30,rfl,DV _,λe=>absurd rfl e,CgQ.ab C⟩
         .refine tV 1 (.bool false) (λF C=>(Dn (t:=3) (m:=pick g.k 24) (n:=18) (x:=(.tmp 63)) (y:=(.const (iv 18))) (by simpa using f))) ?_;rw[if_neg (λe=>f e.1)]at i
          refine tR 13 [1,0] λU _ _=>?_;subst i;exact tX λF C=>qE1 4 55 1 (j 1) #[iv 7,iv 0,iv 0,iv 0,S3.v s30] λ_=>⟨s30,rfl,DV _,λe=>absurd rfl e,CgQ.ab C⟩
       .refine tV 1 (.bool false) (λF C=>(Dn (t:=3) (m:=pick g.k 24) (n:=17) (x:=(.tmp 52)) (y:=(.const (iv 17))) (by simpa using f))) ?_;rw[if_neg (λe=>f e.1)]at i
        refine tR 9 [] λV _ _=>?_;by_cases f:pick g.k 24=18
        .refine tV 1 (.bool true) (λF C=>(Dn (t:=3) (m:=pick g.k 24) (n:=18) (x:=(.tmp 63)) (y:=(.const (iv 18))) (by simpa using f))) (tR 5 [] λW _ _=>?_);by_cases l:cr=true
         .refine tI (cr) true l ?_;rw[if_pos ⟨f,l⟩]at i
          refine tR 6 [1,0] λX _ _=>?_;subst i;exact tX λF C=>qE1 4 55 1 (j 1) #[iv 9,iv (pick g.a 5),iv 0,iv 0,S3.v s30] λ_=>⟨s30,rfl,DV _,λe=>absurd rfl e,CgQ.ab C⟩
         .refine tI (cr) false (by simpa using l) ?_;rw[if_neg (λe=>l e.2)]at i
          refine tR 7 [1,0] λY _ _=>?_;subst i;exact tX λF C=>qE1 4 55 1 (j 1) #[iv 7,iv 0,iv 0,iv 0,S3.v s30] λ_=>⟨s30,rfl,DV _,λe=>absurd rfl e,CgQ.ab C⟩
        .refine tV 1 (.bool false) (λF C=>(Dn (t:=3) (m:=pick g.k 24) (n:=18) (x:=(.tmp 63)) (y:=(.const (iv 18))) (by simpa using f))) ?_;rw[if_neg (λe=>f e.1)]at i
         refine tR 13 [1,0] λZ _ _=>?_;subst i;exact tX λF C=>qE1 4 55 1 (j 1) #[iv 7,iv 0,iv 0,iv 0,S3.v s30] λ_=>⟨s30,rfl,DV _,λe=>absurd rfl e,CgQ.ab C⟩
theorem ib{k:Nat}(g:Gr)(h:∀ j u,(grV g)[j]?=some u->W.cell? ⟨b,k+j,none⟩=some u):(Instr.loadAt 58 (pt b k)).run prog W=.ok (.agg #[iv g.k,iv g.a,iv g.b,iv g.c,iv g.d]) W:=by
 have e:=run_loadVar_mid (P:=prog) W b k 58 (grV g) _ h underlying58 rfl (by kernel_rfl);simp only[Instr.loadAt,Instr.sureAddr,Sem.run_bind,Sem.run_pure,Result.andThen_ok];exact e
theorem fT(c:x.a=some ⟨b,off,none⟩)(j:Nat)(d:j<x.n):(Instr.indexAt 22 x.v (iv (j:Int))).run prog W=.ok (pt b (off+5*j)) W:=by
 obtain⟨f,h,g⟩:=x;simp only at c d;subst c;exact KT (P:=prog) (e:=58) (z:=5) underlying22 (by kernel_rfl) (by kernel_rfl) d _ rfl
theorem fB{l:S3}{g:Gr}(h:RdV w l 5 (grL G))(m:l.a=some ⟨b,off,none⟩)(d:G[i]?=some g){u:Value}(o:(grV g)[j]?=some u):w.cell? ⟨b,off+5*i+j,none⟩=some u:=by
 have p:l.n=G.length:=by have:=h.len;rw[show(grL G).length=G.length*5 from E2 (f:=grV) (λ_=>rfl) G]at this;omega
 obtain⟨q,e,c,_,k⟩:=h.spot (i:=i) (by rw[p];exact(O'.1 d).1);rw[m]at c
 cases c;exact k j u (He (f:=grV) (λ_=>rfl) G d o)
theorem Uv{l:S3}{most:Nat}(h:RdV w l 5 (grL G))(hG:∀ g∈G,GrOk g)(hm:most<=100)(hT:Tabs w) :
  Calls prog 4 #[l.v,iv (most:Int),.bool cr] w λe w'=>∃ (y:S3) (P:List (Lac × S3)),e=.returned y.v/\P.map (·.1)=scr G most cr/\AcN w.heap.size w' y P/\Bw w w':=by
 have a9:l.n=G.length:=by have:=h.len;rw[show(grL G).length=G.length*5 from E2 (f:=grV) (λ_=>rfl) G]at this;omega
 refine tIn [Fa.zv l 5 (grL G)] func4 ⟨h.fz,trivial⟩ (tR 18 [] λb5 _ _=>Dp 41 [(0,S3.v l),(1,iv (most:Int)),(2,.bool cr),(7,sn),(8,iv 0),(9,iv 0)] [] [] [Fa.zv l 5 (grL G),Fa.oa 0 s30 []] (λkk ee LL M=>∃ (i s:Nat) (y:S3) (P:List (Lac × S3)),kk=min G.length most-i/\ee=[(0,S3.v l),(1,iv (most:Int)),(2,.bool cr),(7,S3.v y),(8,iv (s:Int)),(9,iv (i:Int))]/\LL=[]/\M=[Fa.zv l 5 (grL G),Fa.oa 0 y P]/\i<=min G.length most/\y.n=i/\s<=i/\scr G most cr=P.map (·.1)++NL cr s ((G.take most).drop i)/\(∀ p∈P,Nb w.heap.size p.2 p.1.d)) (min G.length most) ⟨0,0,s30,[],rfl,rfl,rfl,rfl,by omega,rfl,by omega,rfl,λp q=>by cases q⟩ (λF=>⟨F.1,⟨OwnS.nil _ _ _ _ _ _,λp q=>by cases q⟩,trivial⟩) ?_);rintro k _ _ _ ⟨i,s,y,P,rfl,rfl,rfl,rfl,R,b1,b0,o,E⟩ _ _ _ J N;refine tR 6 [] λb6 _ _=>?_;by_cases h1:i<G.length
 .refine tV 3 (.bool true) (λF C=>(rLt (t:=3) (m:=(i:Int)) (n:=(l.n:Int)) (x:=(.tmp 11)) (y:=(.tmp 13)) (I' (by omega)))) (tR 6 [] λb7 _ _=>?_);by_cases h2:i<most
  .refine tI ((decide ((i:Int)<(most:Int)))) true (I' (by omega)) ?_;have R:i<(G.take most).length:=by rw[X'];omega
   obtain⟨g,O⟩:∃ g,(G.take most)[i]?=some g:=⟨_,E' R⟩;have H:G[i]?=some g:=by rw[jk,if_pos h2]at O;exact O
   have Q:=hG g (iN H);rw[jc R,show(G.take most)[i]=g from(O'.1 O).2,NL]at o
   refine tF λF _=>?_;obtain⟨b,T,I,_,a8⟩:=F.1.rd.spot (i:=i) (by omega);refine tR 7 [] λb9 _ _=>tV 2 (pt b (T+5*i)) (λF C=>(fT I i (by omega))) (tV 3 (.agg #[iv g.k,iv g.a,iv g.b,iv g.c,iv g.d]) (λF C=>(ib g λj u hj=>fB F.1.rd I H hj)) (tR 1 [] λc0 _ _=>?_));obtain⟨x,X⟩:∃ x,OE g cr=x:=⟨_,rfl⟩;refine tF λ_ Cs=>?_;have L:=Cs.size;refine tC 5 (λF C=>cB Q (tbA hT C) X) λNz=>?_;rintro _ _ ⟨d,rfl,hd,S,b8⟩;refine⟨_,Fa.sl d x.d::_,rfl,b8,λF=>⟨KD hd S Nz,F⟩,?_⟩;rw[X]at o
   refine tR 10 [1,0,0,0,0] λc1 _ _=>?_;by_cases D:x.k=1
   .refine tI ((x.k==1)) true (by simpa using D) (tR 3 [] λY _ _=>tV 1 (iv ((s:Int)+1)) (λF C=>(AD 31 (s:Int) underlying3 (by omega))) (tR 7 [] λZ _ _=>?_));rw[show eh s x=s+1 from if_pos D]at o
    by_cases h4:6<s+1
    .refine tI ((decide (6<((s:Int)+1)))) true (I' (by omega)) ?_;rw[show X7 s x=acN 7 0 from if_pos ⟨D,by omega⟩]at o
     refine tR 8 [0,0,0,0,0] λr _ _=>LY 3 0 (x:=y) 23 23 55 5 56 zLa ⟨(r 0),0,none⟩ 1 1 [iv 7,iv 0,iv 0,iv 0,sn] (λF=>F.2.2.1.1) [Fa.zv l 5 (grL G),Fa.dt (P++[(acN 7 0,s30)])] (λF=>⟨F.2.1,Dat.snoc F.2.2.1.2 (T1 _ _),trivial⟩) rfl (by simp[TQ]) rfl (by simp[Value.oneCell']) (λF K=>BL K 1 (r 0) [iv 7,iv 0,iv 0,iv 0,sn] 55 .z true (by kernel_rfl)) (by unfold maxLen;omega) (by omega) λU _ _ b2=>tR 5 [] λa0 _ _=>tV 1 (iv ((i:Int)+1)) (λF C=>(AD 20 (i:Int) underlying3 (by omega))) (tR 2 [] λa1 _ _=>tB N (min G.length most-(i+1)) (by omega) [false,false] ⟨i+1,(s+1),U,P++[(acN 7 0,s30)],rfl,rfl,rfl,rfl,by omega,by omega,by omega,(by rw[o,iL,iB];rfl),λp q=>(P'.1 q).elim (E p) λe=>by rw[N'.1 e];exact λe=>absurd rfl e⟩ (λF=>⟨F.2.1,⟨(by rw[D8];exact F.1),F.2.2.1⟩,trivial⟩))
    .refine tI ((decide (6<((s:Int)+1)))) false (D' (by omega)) ?_;rw[show X7 s x=x from if_neg (λe=>h4 (by omega))]at o
     refine tR 5 [0,0,0] λA _ _=>LY 3 0 (x:=y) 23 23 55 5 56 zLa ⟨(A 0),0,none⟩ 1 1 [iv x.k,iv x.n,iv x.a,iv x.p,S3.v d] (λF=>F.2.2.1.1) [Fa.zv l 5 (grL G),Fa.dt (P++[(x,d)])] (λF=>⟨F.2.1,Dat.snoc F.2.2.1.2 (F.1),trivial⟩) rfl (by simp[TQ]) rfl (by simp[Value.oneCell']) (λF K=>BL K 1 (A 0) [iv x.k,iv x.n,iv x.a,iv x.p,S3.v d] 55 .z true (by kernel_rfl)) (by unfold maxLen;omega) (by omega) λV _ _ b3=>tR 5 [] λa2 _ _=>tV 1 (iv ((i:Int)+1)) (λF C=>(AD 20 (i:Int) underlying3 (by omega))) (tR 2 [] λa3 _ _=>tB N (min G.length most-(i+1)) (by omega) [false,false] ⟨i+1,(s+1),V,P++[(x,d)],rfl,rfl,rfl,rfl,by omega,by omega,by omega,(by rw[o,iL,iB];rfl),λp q=>(P'.1 q).elim (E p) λe=>by rw[N'.1 e];exact S.mono L⟩ (λF=>⟨F.2.1,⟨(by rw[D8];exact F.1),F.2.2.1⟩,trivial⟩))
   .refine tI ((x.k==1)) false (by simpa using D) ?_;rw[show eh s x=s from if_neg D,show X7 s x=x from if_neg (λe=>D e.1)]at o
    refine tR 5 [0,0,0] λB _ _=>LY 3 0 (x:=y) 23 23 55 5 56 zLa ⟨(B 0),0,none⟩ 1 1 [iv x.k,iv x.n,iv x.a,iv x.p,S3.v d] (λF=>F.2.2.1.1) [Fa.zv l 5 (grL G),Fa.dt (P++[(x,d)])] (λF=>⟨F.2.1,Dat.snoc F.2.2.1.2 (F.1),trivial⟩) rfl (by simp[TQ]) rfl (by simp[Value.oneCell']) (λF K=>BL K 1 (B 0) [iv x.k,iv x.n,iv x.a,iv x.p,S3.v d] 55 .z true (by kernel_rfl)) (by unfold maxLen;omega) (by omega) λW _ _ b4=>tR 5 [] λa4 _ _=>tV 1 (iv ((i:Int)+1)) (λF C=>(AD 20 (i:Int) underlying3 (by omega))) (tR 2 [] λa5 _ _=>tB N (min G.length most-(i+1)) (by omega) [false,false] ⟨i+1,s,W,P++[(x,d)],rfl,rfl,rfl,rfl,by omega,by omega,by omega,(by rw[o,iL,iB];rfl),λp q=>(P'.1 q).elim (E p) λe=>by rw[N'.1 e];exact S.mono L⟩ (λF=>⟨F.2.1,⟨(by rw[D8];exact F.1),F.2.2.1⟩,trivial⟩))
  .refine tI ((decide ((i:Int)<(most:Int)))) false (D' (by omega)) (tR 6 [] λa6 _ _=>?_);rw[jd (by rw[X'];omega),NL,iZ]at o
   exact tX λF C=>qE (S3.v y) λ_=>⟨y,P,rfl,o.symm,AcN.of F.2.1 C E,CgQ.ab C⟩
 .refine tV 3 (.bool false) (λF C=>(rLt (t:=3) (m:=(i:Int)) (n:=(l.n:Int)) (x:=(.tmp 11)) (y:=(.tmp 13)) (D' (by omega)))) (tR 13 [] λa7 _ _=>?_);rw[jd (by rw[X'];omega),NL,iZ]at o
  exact tX λF C=>qE (S3.v y) λ_=>⟨y,P,rfl,o.symm,AcN.of F.2.1 C E,CgQ.ab C⟩
def rnP(l:List Lac):List (Lac × S3):=l.map λa=>(a,s30)
theorem aq(l:List Lac):(rnP l).map (·.1)=l:=by simp[rnP,Function.comp_def]
theorem NH(g:Gh)(w:World){l:List Lac}(h:∀ a∈l,a.d=[]):Dat g w (rnP l):=by
 intro p c;obtain⟨a,b,rfl⟩:=i7.1 c;show FSl g w s30 a.d;rw[h a b];exact T1 g w
theorem Hy(l:List Lac)(a:Lac):rnP (l++[a])=rnP l++[(a,s30)]:=by simp[rnP]
theorem SK(l m:List Lac):rnP (l++m)=rnP l++rnP m:=by simp[rnP]
theorem JP(l:List Lac):(rnP l).length=l.length:=by simp[rnP]
theorem Kr(m:Nat):(Ch m).length=6*m:=by
 induction m with
 | zero=>rfl
 | succ m ih=>rw[Ch,G',ih];show _+6=_;omega
def Gl(k:Int)(j:Nat):List Lac:=(List.range j).map λn:Nat=>acN k (n:Int)
theorem Mw(k:Int)(j:Nat):Gl k (j+1)=Gl k j++[acN k (j:Int)]:=by simp[Gl,List.range_succ]
theorem MF{many:Nat}(h:RdV w x 5 (acV l))(P:∀ p∈l,Sl w p.2.v p.1.d)(hm:l.length+6*many<=1000000) :
  Calls prog 12 #[x.v,iv (many:Int)] w λe w'=>∃ y:S3,e=.returned y.v/\OwN w.heap.size w' 55 5 y (acV (l++rnP (E8 many)))/\Bw w w':=by
 have t:x.n=l.length:=by have:=h.len;rw[JG]at this;omega
 refine tIn [Fa.ac x l] func12 ⟨⟨h.fz,λp R=>⟨P p R,λ_ _ _=>rfl⟩⟩,trivial⟩ (tR 7 [] λV _ _=>bY 1 0 x (acV l) 23 23 55 5 56 zLa (λF=>F.1.1.rd) [Fa.dt l] (λF=>⟨F.1.2,trivial⟩) rfl (by simp[TQ]) (RU l) (by rw[t];unfold maxLen;omega) (by omega) λu _ _ n0=>tR 8 [] λW _ _=>Dp 39 [(1,iv (many:Int)),(5,S3.v u),(6,iv 0)] [] [] [Fa.oa 0 u (l++rnP (Gl 9 0))] (λo g f a=>∃ (j:Nat) (y:S3),o=5-j/\g=[(1,iv (many:Int)),(5,S3.v y),(6,iv (j:Int))]/\f=[]/\a=[Fa.oa 0 y (l++rnP (Gl 9 j))]/\j<=5/\y.n=l.length+j) (5) ⟨0,u,rfl,rfl,rfl,rfl,by omega,by omega⟩ (λF=>⟨by rw[show rnP (Gl 9 0)=[]from rfl,iZ];exact⟨F.1,F.2.1⟩,trivial⟩) ?_);rintro k _ _ _ ⟨j,y,rfl,rfl,rfl,rfl,Q,m⟩ _ _ _ J O;refine tR 6 [] λX _ _=>?_;by_cases h1:j<5
 .refine tI ((decide ((j:Int)<5))) true (I' (by omega)) (tR 8 [0,0] λq _ _=>LY 4 0 (x:=y) 23 23 55 5 56 zLa ⟨(q 0),0,none⟩ 1 1 [iv 9,iv (j:Int),iv 0,iv 0,sn] (λF=>F.1.1) [Fa.dt ((l++rnP (Gl 9 j))++[(acN 9 (j:Int),s30)])] (λF=>⟨Dat.snoc F.1.2 (T1 _ _),trivial⟩) rfl (by simp[TQ]) rfl (by simp[Value.oneCell']) (λF K=>BL K 0 (q 0) [iv 9,iv (j:Int),iv 0,iv 0,sn] 55 .z true (by kernel_rfl)) (by unfold maxLen;omega) (by omega) λU _ _ n6=>tR 5 [] λY _ _=>tV 1 (iv ((j:Int)+1)) (λF C=>(AD 13 (j:Int) underlying3 (by omega))) (tR 2 [] λZ _ _=>tB O (5-(j+1)) (by omega) [false] ⟨j+1,U,rfl,rfl,rfl,rfl,by omega,by omega⟩ (λF=>by rw[Mw,Hy,<- iB];exact⟨⟨(by rw[D8];exact F.1),F.2.1⟩,trivial⟩)))
 .refine tI ((decide ((j:Int)<5))) false (D' (by omega)) ?_;obtain rfl:j=5:=by omega
  refine tR 7 [] λa0 _ _=>Dp 39 [(1,iv (many:Int)),(5,S3.v y),(7,iv 0)] [] [] [Fa.oa 0 y (l++rnP (Es++Ch 0))] (λo g f a=>∃ (i:Nat) (y:S3),o=many-i/\g=[(1,iv (many:Int)),(5,S3.v y),(7,iv (i:Int))]/\f=[]/\a=[Fa.oa 0 y (l++rnP (Es++Ch i))]/\i<=many/\y.n=l.length+(5+6*i)) (many) ⟨0,y,rfl,rfl,rfl,rfl,by omega,by omega⟩ (λF=>⟨F.1,trivial⟩) ?_;rintro k _ _ _ ⟨i,y,rfl,rfl,rfl,rfl,hi,m⟩ _ _ _ Jb r;refine tR 7 [] λD _ _=>?_;by_cases h2:i<many
  .refine tI ((decide ((i:Int)<(many:Int)))) true (I' (by omega)) (tR 9 [] λE _ _=>Dp 39 [(1,iv (many:Int)),(5,S3.v y),(7,iv (i:Int)),(8,iv 0)] [] [] [Fa.oa 0 y (l++rnP (Es++Ch i++Gl 3 0))] (λo g f a=>∃ (j:Nat) (y:S3),o=5-j/\g=[(1,iv (many:Int)),(5,S3.v y),(7,iv (i:Int)),(8,iv (j:Int))]/\f=[]/\a=[Fa.oa 0 y (l++rnP (Es++Ch i++Gl 3 j))]/\j<=5/\y.n=l.length+(5+6*i+j)) (5) ⟨0,y,rfl,rfl,rfl,rfl,by omega,by omega⟩ (λF=>⟨by rw[show Gl 3 0=[]from rfl,iZ];exact F.1,trivial⟩) ?_);rintro k _ _ _ ⟨j,y,rfl,rfl,rfl,rfl,Q,m⟩ _ _ _ Jc s;refine tR 6 [] λG _ _=>?_;by_cases h3:j<5
   .refine tI ((decide ((j:Int)<5))) true (I' (by omega)) (tR 8 [0,0] λb _ _=>LY 4 0 (x:=y) 23 23 55 5 56 zLa ⟨(b 0),0,none⟩ 1 1 [iv 3,iv (j:Int),iv 0,iv 0,sn] (λF=>F.1.1) [Fa.dt ((l++rnP (Es++Ch i++Gl 3 j))++[(acN 3 (j:Int),s30)])] (λF=>⟨Dat.snoc F.1.2 (T1 _ _),trivial⟩) rfl (by simp[TQ]) rfl (by simp[Value.oneCell']) (λF K=>BL K 0 (b 0) [iv 3,iv (j:Int),iv 0,iv 0,sn] 55 .z true (by kernel_rfl)) (by unfold maxLen;omega) (by omega) λA _ _ S=>tR 5 [] λH _ _=>tV 1 (iv ((j:Int)+1)) (λF C=>(AD 27 (j:Int) underlying3 (by omega))) (tR 2 [] λI _ _=>tB s (5-(j+1)) (by omega) [false] ⟨j+1,A,rfl,rfl,rfl,rfl,by omega,by omega⟩ (λF=>by rw[Mw,<- iB (Es++Ch i),Hy,<- iB l];exact⟨⟨(by rw[D8];exact F.1),F.2.1⟩,trivial⟩)))
   .refine tI ((decide ((j:Int)<5))) false (D' (by omega)) ?_;obtain rfl:j=5:=by omega
    refine tR 5 [0,0] λc _ _=>LY 3 0 (x:=y) 23 23 55 5 56 zLa ⟨(c 0),0,none⟩ 1 1 [iv 7,iv 0,iv 0,iv 0,sn] (λF=>F.1.1) [Fa.dt ((l++rnP (Es++Ch i++Gl 3 5))++[(acN 7 0,s30)])] (λF=>⟨Dat.snoc F.1.2 (T1 _ _),trivial⟩) rfl (by simp[TQ]) rfl (by simp[Value.oneCell']) (λF K=>BL K 0 (c 0) [iv 7,iv 0,iv 0,iv 0,sn] 55 .z true (by kernel_rfl)) (by unfold maxLen;omega) (by omega) λB _ _ T=>tR 5 [] λL _ _=>tV 1 (iv ((i:Int)+1)) (λF C=>(AD 23 (i:Int) underlying3 (by omega))) (tR 2 [] λM _ _=>tB r (many-(i+1)) (by omega) [false] ⟨i+1,B,rfl,rfl,rfl,rfl,by omega,by omega⟩ (λF=>by rw[show Es++Ch (i+1)=Es++Ch i++Gl 3 5++[acN 7 0]by rw[Ch,<- iB,iB _ (Gl 3 5)];rfl,Hy,<- iB l];exact⟨⟨(by rw[D8];exact F.1),F.2.1⟩,trivial⟩))
  .refine tI ((decide ((i:Int)<(many:Int)))) false (D' (by omega)) ?_;obtain rfl:i=many:=by omega
   refine tR 6 [] λN _ _=>tX λF C=>qE (S3.v y) λ_=>⟨y,rfl,F.1.1.own C,CgQ.ab C⟩
theorem Wx(k:Int)(j:Nat):∀ a∈Gl k j,a.d=[]:=by
 intro a b;obtain⟨n,_,rfl⟩:=i7.1 b;rfl
theorem VQ(m:Nat):∀ a∈Ch m,a.d=[]:=by
 induction m with
 | zero=>intro a b;cases b
 | succ m ih =>
  intro a b;rcases P'.1 b with h|h
  .exact ih a h
  .rcases P'.1 h with h|h
   .exact Wx 3 5 a h
   .rw[N'.1 h];rfl
theorem X0(m:Nat):∀ a∈E8 m,a.d=[]:=by
 intro a b;rcases P'.1 b with h|h
 .exact Wx 9 5 a h
 .exact VQ m a h
theorem FE(m:Nat):(E8 m).length=5+6*m:=by unfold E8;rw[G',Kr];rfl
theorem gP(h:AcR w x L l)(g:x.a=some ⟨b,off,none⟩)(f:L[i]?=some a):w.cell? ⟨b,off+5*i,none⟩=some (iv a.k):=by
 obtain⟨j,d,y,c,e,_,_⟩:=h.spot f;rw[g]at c
 cases c;exact e 0 _ rfl
theorem TP(h:L[i]?=some a):Gx (L.take (i+1))=if hvy a then Gx (L.take i)+20 else Gx (L.take i):=by
 unfold Gx;rw[lL,h,j9];cases hh:hvy a<;>simp[hh];omega
theorem S2(L:List Lac):Gx L<=100+20*L.length:=by
 unfold Gx;have:=kY hvy L;omega
theorem Wi(m:Nat)(n:Int):(Gv m n).length=11+6*m:=by unfold Gv;rw[G',G',FE,FE,jA];omega
theorem RC(h:AcR w x L l)(hm:L.length<=2000) :
  Calls prog 6 #[x.v,iv n] w λe w'=>∃ y:S3,e=.returned y.v/\OwN w.heap.size w' 55 5 y (acV (l++rnP (I8 L n)))/\Bw w w':=by
 have U:x.n=L.length:=h.n;have c4:l.length=L.length:=by rw[<- h.e,iQ]
 refine tIn [Fa.ac x l] func6 ⟨⟨h.r.fz,λp hp=>⟨h.d p hp,λ_ _ _=>rfl⟩⟩,trivial⟩ (tR 14 [] λc6 _ _=>Dp 44 [(0,S3.v x),(1,iv n),(5,iv 100),(6,iv 0)] [] [] [Fa.ac x l] (λV D B f=>∃ (i m:Nat),V=L.length-i/\D=[(0,S3.v x),(1,iv n),(5,iv (m:Int)),(6,iv (i:Int))]/\B=[]/\f=[Fa.ac x l]/\i<=L.length/\m=Gx (L.take i)) (L.length) ⟨0,100,rfl,rfl,rfl,rfl,by omega,rfl⟩ (λF=>⟨F.1,trivial⟩) ?_);rintro k _ _ _ ⟨i,m,rfl,rfl,rfl,rfl,hi,g⟩ _ _ _ J o;refine tR 8 [] λc7 _ _=>?_;by_cases h1:i<L.length
 .refine tI ((decide ((i:Int)<(x.n:Int)))) true (I' (by omega)) ?_;have s:=S2 (L.take i);rw[<- g,X']at s
  obtain⟨a,S⟩:∃ a,L[i]?=some a:=⟨_,E' (by omega)⟩;refine tF λF _=>?_;obtain⟨b,W,yd,I,_,_,hin⟩:=(AcR.of F.1 h.e).spot S;refine tR 7 [] λc8 _ _=>tV 2 (pt b (W+5*i)) (λF C=>(Xu (c:=x.c) I i hin)) (tR 1 [] λc9 _ _=>tV 4 (iv a.k) (λF C=>(Ci underlying3 rfl (gP (AcR.of F.1 h.e) I S))) (tR 1 [] λd0 _ _=>Ia 44 (λD B f=>∃ (N:Nat),D=[(0,S3.v x),(1,iv n),(5,iv (N:Int)),(6,iv (i:Int))]/\B=[]/\f=[Fa.ac x l]/\N=(if hvy a then m+20 else m)) (λJ o=>?_) ?_))
  .refine tR 7 [] λd1 _ _=>?_;by_cases A:a.k=1
   .refine tI ((a.k==1)) true (by simpa using A) (tR 1 [] λd2 _ _=>tI ((a.k==1)) true (by simpa using A) (tR 2 [] λd3 _ _=>tV 1 (iv ((m:Int)+20)) (λF C=>(KS (x:=(.tmp 25)) (y:=(.const (iv 20))) (m:Int) 20 underlying3 (by omega))) (tR 3 [] λd4 _ _=>tD o [] ⟨m+20,rfl,rfl,rfl,(if_pos (by simp[hvy,A])).symm⟩ (λF=>⟨F.1,trivial⟩))))
   .refine tI ((a.k==1)) false (by simpa using A) (tR 5 [] λa1 _ _=>?_);by_cases E:a.k=2
    .refine tI ((a.k==2)) true (by simpa using E) (tR 1 [] λa2 _ _=>tI ((a.k==2)) true (by simpa using E) (tR 2 [] λa3 _ _=>tV 1 (iv ((m:Int)+20)) (λF C=>(KS (x:=(.tmp 25)) (y:=(.const (iv 20))) (m:Int) 20 underlying3 (by omega))) (tR 3 [] λa4 _ _=>tD o [] ⟨m+20,rfl,rfl,rfl,(if_pos (by simp[hvy,E])).symm⟩ (λF=>⟨F.1,trivial⟩))))
    .refine tI ((a.k==2)) false (by simpa using E) (tR 5 [] λa5 _ _=>?_);by_cases G:a.k=6
     .refine tI ((a.k==6)) true (by simpa using G) (tR 1 [] λa6 _ _=>tI ((a.k==6)) true (by simpa using G) (tR 2 [] λa7 _ _=>tV 1 (iv ((m:Int)+20)) (λF C=>(KS (x:=(.tmp 25)) (y:=(.const (iv 20))) (m:Int) 20 underlying3 (by omega))) (tR 3 [] λa8 _ _=>tD o [] ⟨m+20,rfl,rfl,rfl,(if_pos (by simp[hvy,G])).symm⟩ (λF=>⟨F.1,trivial⟩))))
     .refine tI ((a.k==6)) false (by simpa using G) (tR 4 [] λa9 _ _=>?_);by_cases M:a.k=8
      .refine tI ((a.k==8)) true (by simpa using M) (tR 2 [] λb0 _ _=>tV 1 (iv ((m:Int)+20)) (λF C=>(KS (x:=(.tmp 25)) (y:=(.const (iv 20))) (m:Int) 20 underlying3 (by omega))) (tR 3 [] λb1 _ _=>tD o [] ⟨m+20,rfl,rfl,rfl,(if_pos (by simp[hvy,M])).symm⟩ (λF=>⟨F.1,trivial⟩)))
      .refine tI ((a.k==8)) false (by simpa using M) (tR 2 [] λb2 _ _=>tD o [] ⟨m,rfl,rfl,rfl,(if_neg (by simp[hvy,A,E,G,M])).symm⟩ (λF=>⟨F.1,trivial⟩))
  rintro _ _ _ ⟨N,rfl,rfl,rfl,T⟩ _ _ _;refine tR 3 [] λb3 _ _=>tV 1 (iv ((i:Int)+1)) (λF C=>(AD 13 (i:Int) underlying3 (by omega))) (tR 2 [] λb4 _ _=>tB o (L.length-(i+1)) (by omega) [] ⟨i+1,N,rfl,rfl,rfl,rfl,by omega,(by rw[T,TP S,<- g])⟩ (λF=>⟨F.1,trivial⟩))
 .refine tI ((decide ((i:Int)<(x.n:Int)))) false (D' (by omega)) ?_;rw[show L.take i=L from iE (by omega)]at g
  have s:=S2 L;rw[<- g]at s
  refine tR 4 [] λb5 _ _=>bY 1 0 x (acV l) 23 23 55 5 56 zLa (λF=>F.1.1.rd) [Fa.dt l] (λF=>⟨F.1.2,trivial⟩) rfl (by simp[TQ]) (RU l) (by rw[U];unfold maxLen;omega) (by omega) λZ _ _ n0=>tR 8 [] λb6 _ _=>Dp 44 [(1,iv n),(5,iv (m:Int)),(7,S3.v Z),(8,iv 0)] [] [] [Fa.oa 0 Z (l++rnP [])] (λV D B f=>∃ (j:Nat) (y:S3) (Q:List Lac),V=2-j/\D=[(1,iv n),(5,iv (m:Int)),(7,S3.v y),(8,iv (j:Int))]/\B=[]/\f=[Fa.oa 0 y (l++rnP Q)]/\j<=2/\Q.length<=j*300000/\Q=(List.replicate j (Gv m n)).flatten) (2) ⟨0,Z,[],rfl,rfl,rfl,rfl,by omega,by simp,by simp⟩ (λF=>⟨by rw[show rnP []=[]from rfl,iZ];exact⟨F.1,F.2.1⟩,trivial⟩) ?_;rintro k _ _ _ ⟨j,y,Q,rfl,rfl,rfl,rfl,hj,c3,hQ⟩ _ _ _ J o;refine tR 6 [] λb7 _ _=>?_;by_cases A:j<2
  .refine tI ((decide ((j:Int)<2))) true (I' (by omega)) (tR 6 [] λb8 _ _=>tG 1 [] 0 (λF C=>MF (many:=0) (AcR.oo F.1 rfl).r (AcR.oo F.1 rfl).d (by rw[G',JP];omega)) λNz=>?_);rintro _ _ ⟨X,rfl,H,O⟩;have t:X.n=((l++rnP Q)++rnP (E8 0)).length:=by have:=H.len;rw[JG]at this;omega
   simp only[G',JP,FE]at t;refine⟨_,[Fa.oa 0 X ((l++rnP Q)++rnP (E8 0))],_,_,_,_,rfl,O,H,λ_=>⟨λF R _=>⟨⟨R,Dat.app F.1.2 (NH _ _ (X0 _))⟩,trivial⟩,?_⟩⟩;refine tR 8 [0,0] λq _ _=>LY 4 0 (x:=X) 23 23 55 5 56 zLa ⟨(q 0),0,none⟩ 1 1 [iv 2,iv n,iv 0,iv 0,sn] (λF=>F.1.1) [Fa.dt ((l++rnP Q++rnP (E8 0))++[(acN 2 n,s30)])] (λF=>⟨Dat.snoc F.1.2 (T1 _ _),trivial⟩) rfl (by simp[TQ]) rfl (by simp[Value.oneCell']) (λF K=>BL K 0 (q 0) [iv 2,iv n,iv 0,iv 0,sn] 55 .z true (by kernel_rfl)) (by unfold maxLen;omega) (by omega) λa0 _ _ c5=>tCv [Fa.oa 0 a0 (l++rnP (Q++E8 0++[acN 2 n]))] (λF=>by rw[Hy,SK,<- iB l,<- iB l];exact⟨⟨(by rw[D8];exact F.1),F.2.1⟩,trivial⟩) (tR 5 [] λb9 _ _=>tG 2 [false] 0 (λF C=>MF (many:=m) (AcR.oo F.1 rfl).r (AcR.oo F.1 rfl).d (by rw[G',JP,G',G',FE,jA];omega)) λNz=>?_);rintro _ _ ⟨Y,rfl,H,P⟩;have u:Y.n=((l++rnP (Q++E8 0++[acN 2 n]))++rnP (E8 m)).length:=by have:=H.len;rw[JG]at this;omega
   simp only[G',JP,FE,jA]at u;refine⟨_,[Fa.oa 0 Y ((l++rnP (Q++E8 0++[acN 2 n]))++rnP (E8 m))],_,_,_,_,rfl,P,H,λ_=>⟨λF R _=>⟨⟨R,Dat.app F.1.2 (NH _ _ (X0 _))⟩,trivial⟩,?_⟩⟩;refine tR 5 [] λc0 _ _=>tV 1 (iv ((j:Int)+1)) (λF C=>(AD 31 (j:Int) underlying3 (by omega))) (tR 2 [] λc1 _ _=>?_);exact tB o (2-(j+1)) (by omega) [] ⟨j+1,Y,Q++Gv m n,rfl,rfl,rfl,rfl,by omega,(by rw[G',Wi];omega),(by rw[hQ];rcases(show j=0\/j=1 by omega)with rfl|rfl<;>simp)⟩ (λF=>by rw[show Q++Gv m n=Q++E8 0++[acN 2 n]++E8 m by simp[Gv,List.append_assoc],SK _ (E8 m),<- iB l];exact F)
  .refine tI ((decide ((j:Int)<2))) false (D' (by omega)) ?_;obtain rfl:j=2:=by omega
   refine tR 6 [] λc2 _ _=>?_;have hS:Q=I8 L n:=by rw[hQ,g];simp[I8]
   rw[<- hS];exact tX λF C=>qE (S3.v y) λ_=>⟨y,rfl,F.1.1.own C,CgQ.ab C⟩
theorem SE(h:OutF g w ly tv ys M):OutW w M ly tv ys:=⟨h.mI.rd,λj a=>(h.log j a).rd.rc,h.ed.rd⟩
theorem eg(h:AcR w x L l)(n:∀ a∈L,LacOk a)(m:L.length<=100000)(b:UP w)(j:CJ.mz L=M) :
  Calls prog 11 #[x.v] w λe w'=>∃ (ly tv:S3) (ys:Nat->S3),e=.returned (.tuple #[.agg (KJ M ly tv),iv 0])/\OutW w' M ly tv ys/\OutN w.heap.size M ly tv ys/\Bw w w':=by
 subst j;refine(aA (h.sk (by omega)) (λi c=>by rw[Nr c];exact n _ (iT c)) m b.1 b.2.1 b.2.2).mono ?_;rw[US];rintro e w' ⟨k,ly,tv,ys,d,f,g⟩;exact⟨ly,tv,ys,d,f,g,k⟩
theorem dZ(h:AcR w x L l)(y:∀ a∈L,LacOk a)(t:L.length<=100000)(s:UP w)(r:CJ.mz L=M) :
  Calls prog 5 #[x.v] w λe w'=>∃ (ly tv:S3) (ys:Nat->S3),e=.returned (.tuple #[.agg (KJ M ly tv),.bool true])/\OutW w' M ly tv ys/\OutN w.heap.size M ly tv ys/\Bw w w':=by
 refine tIn [] func5 trivial (tR 8 [1,0] λb _ _=>tF λ_ k=>?_);have d:=k.size;refine tC 1 (λF C=>eg (h.ab (CgQ.ab C)) y t (tb5 s C) r) λo=>?_;rintro _ _ ⟨ly,tv,ys,rfl,j,i,p⟩;refine⟨_,Fa.ot ly tv ys M::_,rfl,p,λF=>⟨SC j i o,F⟩,?_⟩;refine tR 14 [0,0,1,0,9,0,1,2,4,6,8] λf _ _=>Ia 20 (λq m c=>∃ (_:Unit),q=[(2,pt (b 0) 0),(3,.bool ((ly.n:Int)==5))]/\m=[⟨(b 0),.cells (KJ M ly tv) 30,.l,false⟩,⟨(f 0),.cells (KJ M ly tv) 30,.z,false⟩]/\c=[Fa.ot ly tv ys M]) (λJ g=>?_) ?_
 .refine NR 5 9 ?_ ?_
  .refine tR 7 [1,12,14,16,19,0,0,20] λA _ _=>tD g [true,true] ⟨(),rfl,rfl,rfl⟩ (λF=>⟨F.1,trivial⟩)
  .refine tR 7 [0,0,11,1,12,14,16,20] λB _ _=>tD g [true,true] ⟨(),rfl,rfl,rfl⟩ (λF=>⟨F.1,trivial⟩)
 rintro _ _ _ ⟨_,rfl,rfl,rfl⟩ _ _ _;have u:(((ly.n:Nat):Int)==5)=true:=by rw[j.n5];rfl
 exact tX λF C=>qE2 2 3 30 0 (b 0) (KJ M ly tv) (.bool ((ly.n:Int)==5)) λ_=>⟨ly,tv,ys,by rw[u],SE F.1,i.mono d,CgQ.ab C⟩
def lgN(M:Meet):Nat->Option Nat
 | 0=>none
 | n+1=>if(((lgN M n).map M.log).getD []).length<(M.log n).length then some n else lgN M n
def lgY(ys:Nat->S3)(o:Option Nat):S3:=(o.map ys).getD s30
theorem QU{n:Nat}(h:lgN M n=some j):j<n:=by
 induction n with
 | zero=>cases h
 | succ n ih =>
  rw[lgN]at h
  split at h
  .cases h;omega
  .have:=ih h;omega
theorem WH(h:OutF g w ly tv ys M){n:Nat}(a:n<=5):FzV g w (lgY ys (lgN M n)) 5 (cmL (((lgN M n).map M.log).getD [])):=by
 cases hh:lgN M n with
 | none=>exact⟨⟨rfl,A' _,λ_=>rfl,.inl rfl⟩,λe=>absurd rfl e⟩
 | some j=>exact h.log j (Y' (QU hh) a)
theorem bU(c:x.a=some ⟨b,off,none⟩)(j:Nat)(d:j<x.n):(Instr.indexAt 26 x.v (iv (j:Int))).run prog W=.ok (pt b (off+j)) W:=by
 obtain⟨f,h,g⟩:=x;simp only at c d;subst c;exact KT (P:=prog) (e:=35) (z:=1) underlying26 (by kernel_rfl) (by kernel_rfl) d _ (by rw[ma])
theorem S1(h:RdV w ly 1 [S3.v (ys 0),S3.v (ys 1),S3.v (ys 2),S3.v (ys 3),S3.v (ys 4)])(c:ly.a=some ⟨b,off,none⟩)(d:j<5):w.cell? ⟨b,off+j,none⟩=some (S3.v (ys j)):=by
 rcases h.ex with h1|⟨b',off',h1,h2,h3⟩
 .have:=h.len;simp at this;omega
 .rw[c]at h1;cases h1
  refine h3 j _ ?_;rcases mj d with rfl|rfl|rfl|rfl|rfl<;>rfl
theorem QW(h:OutW w M ly tv ys) :
  Calls prog 8 #[.agg (KJ M ly tv)] w λe w'=>e=.returned (S3.v (lgY ys (lgN M 5)))/\Bw w w':=by
 have L:=h.n5;refine tIn [Fa.ot ly tv ys M] func8 ⟨⟨h.mI.fz,λj t=>(h.log j t).rv.fz,h.ed.fz⟩,trivial⟩ (tR 15 [0,0] λc _ _=>Dp 27 [(1,pt (c 0) 0),(3,sn),(4,iv 0)] [true] [⟨(c 0),.cells #[iv (M.bN.length:Int),.bool (M.af 0).up,.bool (M.af 1).up,.bool (M.af 2).up,.bool (M.af 3).up,.bool (M.af 4).up,S3.v ly,iv ((M.af 0).bad:Int),iv ((M.af 1).bad:Int),iv ((M.af 2).bad:Int),iv ((M.af 3).bad:Int),iv ((M.af 4).bad:Int),S3.v tv] 30,.z,false⟩] [Fa.ot ly tv ys M] (λu q p f=>∃ (i:Nat),u=5-i/\q=[(1,pt (c 0) 0),(3,S3.v (lgY ys (lgN M i))),(4,iv (i:Int))]/\p=[⟨(c 0),.cells (KJ M ly tv) 30,.z,false⟩]/\f=[Fa.ot ly tv ys M]/\i<=5) (5) ⟨0,rfl,rfl,rfl,rfl,by omega⟩ (λF=>F) ?_);rintro k _ _ _ ⟨i,rfl,rfl,rfl,rfl,K⟩ _ _ _ J g;refine tR 9 [0] λx _ _=>?_;by_cases H:i<5
 .refine tI ((decide ((i:Int)<(ly.n:Int)))) true (I' (by omega)) (tF λF _=>?_);obtain⟨b,d,a,_⟩:=F.1.mI.rd.spot (i:=i) (by omega);have r:=YD (F.1.log i (by omega)).rd;have s:=YD (WH F.1 (n:=i) (by omega)).rd;refine tR 8 [0] λy _ _=>tV 3 (pt b (d+i)) (λF C=>(bU a i (by omega))) (tV 4 (S3.v (ys i)) (λF C=>(Ci underlying35 rfl (S1 F.1.mI.rd a (by omega)))) (tR 5 [] λA _ _=>?_));by_cases I:(((lgN M i).map M.log).getD []).length<(M.log i).length
  .refine tI ((decide (((lgY ys (lgN M i)).n:Int)<((ys i).n:Int)))) true (I' (by omega)) (tR 4 [0] λD _ _=>tV 3 (pt b (d+i)) (λF C=>(bU a i (by omega))) (tV 4 (S3.v (ys i)) (λF C=>(Ci underlying35 rfl (S1 F.1.mI.rd a (by omega)))) (tR 5 [] λE _ _=>tV 1 (iv ((i:Int)+1)) (λF C=>(AD 10 (i:Int) underlying3 (by omega))) (tR 2 [] λG _ _=>tB g (5-(i+1)) (by omega) [true] ⟨i+1,rfl,(by rw[show lgN M (i+1)=some i from if_pos (by omega)]),rfl,rfl,by omega⟩ (λF=>F)))))
  .refine tI ((decide (((lgY ys (lgN M i)).n:Int)<((ys i).n:Int)))) false (D' (by omega)) (tR 4 [] λl _ _=>tV 1 (iv ((i:Int)+1)) (λF C=>(AD 10 (i:Int) underlying3 (by omega))) (tR 2 [] λm _ _=>tB g (5-(i+1)) (by omega) [true] ⟨i+1,rfl,(by rw[show lgN M (i+1)=lgN M i from if_neg (by omega)]),rfl,rfl,by omega⟩ (λF=>F)))
 .refine tI ((decide ((i:Int)<(ly.n:Int)))) false (D' (by omega)) (tR 6 [] λo _ _=>?_);obtain rfl:i=5:=by omega
  exact tE (S3.v (lgY ys (lgN M 5))) λ_ B=>⟨rfl,B⟩
end
section
variable{P:Program}{fn:Func}{R:Ending->World->Prop}{w0:World}{Φ:List Fa}{g:Gh}{w:World}
theorem tW{s:Xs}(i:Nat)(v:Value){S:Sem Value}(c:AllF g w Φ->Kn w0.heap.size g w s.L->S.run P w=.ok v w)(b:GT P fn R w0 Φ (nxt s i v s.L).s g w)(d:CP s i=some (S>>=λv=>pure (.value v)):=by kernel_rfl)(a:(nxt s i undef s.L).o.map Ob.l'=(nxt s i undef s.L).o.map Ob.r':=by kernel_rfl):GT P fn R w0 Φ s g w:=⟨λF C=>Ae λK=>qV i v (c F K) (b.ex F C) d a⟩
end
theorem gm{B:Nat}{g:Gh}{w:World}{L:List Sh}(h:Kn B g w L)(k b:Nat)(a:List Value)(e:TypeId)(t:Tg)(v:Bool)(f:L[k]?=some ⟨b,.cells a.toArray e,t,v⟩){j:Nat}{u:Value}(d:a[j]?=some u):w.cell? ⟨b,j,none⟩=some u:=by
 have:=BL h k b a e t v f j u d;have c:(⟨b,0,none⟩:Addr).add j=⟨b,j,none⟩:=by unfold Addr.add;split<;>simp_all
 rwa [c]at this
end
section
section
theorem Ut(p:Nod)(i:Nat)(q:Pend)(x:List Pend):({ p with bt:=x }:Nod).mm i q={ p.mm i q with bt:=x }:=by
 cases q with
 | began b vs=>unfold Nod.mm;simp only;split<;>rfl
 | prop v =>
  unfold Nod.mm Nod.count;simp only;split
  .rfl
  .split<;>rfl
 | _=>rfl
theorem MG(p:Nod)(i:Nat)(q:Pend):(p.mm i q).bt=p.bt/\(p.mm i q).up=p.up/\(p.mm i q).d=p.d/\(p.mm i q).sy=p.sy:=by
 cases q with
 | began b vs=>unfold Nod.mm;simp only;split<;>exact⟨rfl,rfl,rfl,rfl⟩
 | prop v =>
  unfold Nod.mm Nod.count;simp only;split
  .exact⟨rfl,rfl,rfl,rfl⟩
  .split<;>exact⟨rfl,rfl,rfl,rfl⟩
 | _=>exact⟨rfl,rfl,rfl,rfl⟩
theorem RB(p:Nod)(i:Nat)(q:Pend)(x:List Pend):({ p with bt:=x }:Nod).mx i q=p.mx i q:=by cases q<;>rfl
theorem PP(p:Nod)(c:Cmd):(p.lp c).up=p.up/\(p.lp c).ae=p.ae/\(p.lp c).done=p.done/\(p.lp c).mh=p.mh:=by unfold Nod.lp;split<;>exact⟨rfl,rfl,rfl,rfl⟩
theorem Q2(p:Nod)(l:List Cmd):(p.gC l).up=p.up:=by unfold Nod.gC;split<;>rfl
theorem Y6(p:Nod)(i:Nat):(p.mo i).1.up=p.up:=by
 unfold Nod.mo;split
 .rfl
 .split
  .exact Q2 _ _
  .rfl
theorem bk(p:Nod)(v:Vt):(p.cn v).1.up=p.up:=by
 unfold Nod.cn;split
 .rfl
 .split
  .rfl
  .split<;>rfl
theorem R5(p:Nod):p.fv.up=p.up:=by
 unfold Nod.fv;split
 .rfl
 .split
  .rfl
  .split
   .rfl
   .exact bk p _
theorem Tc(M:Meet)(L:List Lac)(x:Lac):M.mz (L++[x])=(M.mz L).act x:=by unfold Meet.mz;rw[List.foldl_append];rfl
theorem Td{M:Meet}{L:List Lac}{i:Nat}{x:Lac}(h:L[i]?=some x):M.mz (L.take (i+1))=(M.mz (L.take i)).act x:=by rw[lL,h];exact Tc M (L.take i) x
theorem UU(L:List Lac)(h:∀ x∈L,LacOk x)(d:L.length<=100000):MOk L.length (CJ.mz L):=by
 suffices ∀ i,i<=L.length->MOk i (CJ.mz (L.take i))by have a:=this L.length (A' _);rwa [ko]at a
 intro i;induction i with
 | zero=>intro _;exact MOk.zero
 | succ i ih =>
  intro c;have b:L[i]?=some L[i]:=E' (by omega);rw[Td b];exact(ih (by omega)).act (by omega) (h _ (iT _))
theorem Zb(g:Gr)(b:Bool):LacOk (OE g b):=by
 have d:=AU g.a 5 (by omega);have e:=AU g.c 20 (by omega);have f:=AU g.c 90 (by omega);have h:(pkB g).length<=63:=by
  have:(pkP g).length=63:=KL (Xm g);unfold pkB;split
  .rw[X'];omega
  .omega
 rw[<- JN];unfold OE acN
 repeat' split
 all_goals simp[Zx,FL,GS,GU];try omega
variable{P:Lac->Prop}{k:Int}{p:Nod}
theorem X8(b:P (acN 7 0)){a:Bool}(c:∀ g,P (OE g a))(s:Nat)(l:List Gr):∀ x∈NL a s l,P x:=by
 induction l generalizing s with
 | nil=>intro x hx;cases hx
 | cons g l ih =>
  intro x hx;rcases iG.1 hx with rfl|hx
  .unfold X7;split
   .exact b
   .exact c g
  .exact ih _ x hx
theorem ei(l:List Gr)(m:Nat)(a:Bool):∀ x∈scr l m a,LacOk x:=X8 (by rw[<- JN];decide) (λg=>Zb g a) _ _
theorem X9(a:Bool)(s:Nat)(l:List Gr):(NL a s l).length=l.length:=by
 induction l generalizing s with
 | nil=>rfl
 | cons g l ih=>rw[NL,iX,ih,iX]
theorem aE(l:List Gr)(m:Nat)(a:Bool):(scr l m a).length<=m:=by unfold scr;rw[X9,X'];omega
def Nod.tp(p:Nod):Prop:=Br p.d p.sy
theorem Vz(h:p.tp)(c:0<=k):(p.mg k).tp/\(p.mg k).up=false/\(p.mg k).done=0/\(p.mg k).ae=[]:=by
 have a:Gg p.d p.sy k=0:=by unfold Gg;rw[if_neg (λe=>e h),if_neg (by omega)]
 unfold Nod.mg;rw[if_neg (λe=>e a)];refine⟨?_,rfl,rfl,rfl⟩;show Br (Jt p.d p.sy k) (Ju p.d p.sy k);unfold Jt Ju;rw[if_pos a,if_pos a];unfold Nod.tp Br at h;have b:0<=Fv p.d p.sy k/\Fv p.d p.sy k<=(p.d.length:Int):=by unfold Fv;split<;>omega
 unfold Br;rw[X'];omega
theorem XN(h:p.tp):p.start.tp/\p.start.up=true/\p.start.done=0/\p.start.ae=[]:=by
 have b:Dc p.d p.sy=0:=if_pos h;have c:=Ws p.d p.d.length;unfold Nod.start;rw[if_neg (λe=>e b)];split
 .refine⟨?_,rfl,rfl,rfl⟩;show Br (I5 p.d p.sy) (KX p.d p.sy);unfold I5 KX;have a:Br p.d p.sy:=h;rw[if_pos a,if_pos a];unfold Nod.tp Br at h;unfold Br;rw[X'];unfold DU;split<;>omega
 .exact⟨h,rfl,rfl,rfl⟩
theorem PY{n:Int}(h:(k=2\/k=3\/k=9)/\0<=n/\n<=4):LacOk (acN k n):=by
 rw[<- JN];rcases h with⟨rfl|rfl|rfl,h1,h2⟩<;>simp[Zx,acN,FL,GS,GU]<;>omega
theorem OO(h:∀ n:Nat,n<5->P (acN k (n:Int))){j:Nat}(c:j<=5):∀ x∈Gl k j,P x:=by
 intro x b;obtain⟨n,a,rfl⟩:=i7.1 b;exact h n (by have:=j5.1 a;omega)
theorem Q7(b:∀ n:Nat,n<5->P (acN 3 (n:Int)))(c:P (acN 7 0))(m:Nat):∀ x∈Ch m,P x:=by
 induction m with
 | zero=>intro x a;cases a
 | succ m ih =>
  intro x a;rcases P'.1 a with h|h
  .exact ih x h
  .rcases P'.1 h with h|h
   .exact OO b (A' _) x h
   .rw[N'.1 h];exact c
theorem Pz(c:∀ n:Nat,n<5->P (acN 9 (n:Int)))(a:∀ n:Nat,n<5->P (acN 3 (n:Int)))(b:P (acN 7 0))(m:Nat):∀ x∈E8 m,P x:=by
 intro x d;rcases P'.1 d with h|h
 .exact OO c (A' _) x h
 .exact Q7 a b m x h
theorem P6(c:∀ n:Nat,n<5->P (acN 9 (n:Int)))(a:∀ n:Nat,n<5->P (acN 3 (n:Int)))(b:P (acN 7 0)){i:Int}(e:P (acN 2 i))(l:List Lac):∀ x∈I8 l i,P x:=by
 have d:∀ m,∀ x∈Gv m i,P x:=λm x hx=>by
  rcases P'.1 hx with hx|hx
  .rcases P'.1 hx with hx|hx
   .exact Pz c a b 0 x hx
   .rw[N'.1 hx];exact e
  .exact Pz c a b m x hx
 intro x hx;exact(P'.1 hx).elim (d _ x) (d _ x)
theorem XH(l:List Lac)(i:Int):(I8 l i).length<=1222+240*l.length:=by
 have b:(l.filter hvy).length<=l.length:=kY _ _;have a:∀ m,(E8 m).length=5+6*m:=λm=>by unfold E8;rw[G',Kr];rfl
 unfold I8 Gv Gx;simp only[G',a,jA];omega
structure Wh where
 d:Nat->List Int->Prop
 ld:Prop
 cr:Prop
 dr:Prop
 tk:Prop
 st:Prop
def Wh.may(D:Wh)(x:Lac):Prop:=(x.k=1->D.d x.n.toNat x.d)/\(x.k=2->D.ld)/\(x.k=8->D.cr)/\(x.k=4\/x.k=5\/x.k=6\/x.k=7->D.dr/\D.tk)/\(x.k=9->D.st)
inductive Stp (D:Wh):Nat->Meet->Meet->Prop
 | take (M:Meet) (l:Let) (hl:l∈M.bN) (hd:l.src<5/\l.dst<5) (hu:(M.af l.dst).up=true) (ht:D.tk):Stp D 0 M (M.set l.dst ((M.af l.dst).take l) M.bN M.ed)
 | bN (M:Meet) (ls:List Let) (h:∀ l∈ls,l∈M.bN) (hd:D.dr):Stp D 0 M { M with bN:=ls }
 | one (M:Meet) (i:Nat) (c:Cmd) (hi:i<5) (hu:(M.af i).up=true) (hc:(M.af i).ae[(M.af i).done]?=some c) (he:doE (M.af i).mh c=0) :
   Stp D 0 M (M.set i (Nod.lp { M.af i with mh:=doS (M.af i).mh c,done:=(M.af i).done+1 } c) M.bN (if((M.af i).cl c).isSome=true then M.ed++[⟨i,c.c,c.s,doC (M.af i).mh c,doA (M.af i).mh c⟩]else M.ed))
 | ask (M:Meet) (i:Nat) (hi:i<5) (hu:(M.af i).up=true):Stp D 0 M (M.set i ((M.af i).mo i).1 (M.bN++((M.af i).mo i).2) M.ed)
 | prop (M:Meet) (i:Nat) (hi:i<5) (hu:(M.af i).up=true):Stp D 1 M (M.set i (M.af i).fv M.bN M.ed)
 | mJ (M:Meet) (i:Nat) (hi:i<5) (hu:(M.af i).up=true) (h:(M.af i).sy<((M.af i).d.length:Int)) (hT:Br (M.af i).d (M.af i).sy):Stp D 0 M (M.set i { M.af i with sy:=((M.af i).d.length:Int) } M.bN M.ed)
 | run (M:Meet) (i:Nat) (hi:i<5) (hu:(M.af i).up=true) (q:Pend) (l:List Pend) (hp:(M.af i).bt=q::l) (hs:¬ (M.af i).sy<((M.af i).d.length:Int)):Stp D 0 M (M.set i { (M.af i).mm i q with bt:=l } (M.bN++(M.af i).mx i q) M.ed)
 | teach (M:Meet) (i:Nat) (hi:i<5) (hu:(M.af i).up=true) (hL:(M.af i).leads=true):Stp D 0 M (M.set i (Id (M.af i) i 5) (M.bN++DQ (M.af i) i 5) M.ed)
 | lead (M:Meet) (i:Nat) (hi:i<5) (hu:(M.af i).up=true) (hL:D.ld):Stp D 0 M (M.set i ((M.af i).lead i) M.bN M.ed)
 | sub (M:Meet) (i:Nat) (d:List Int) (hi:i<5) (hu:(M.af i).up=true) (hD:D.d i d):Stp D 0 M (M.set i ((M.af i).mL i d M.ed).1 M.bN ((M.af i).mL i d M.ed).2)
 | mg (M:Meet) (i:Nat) (k:Int) (hi:i<5) (hu:(M.af i).up=true) (hk:0<=k) (hC:D.cr):Stp D 0 M (M.set i ((M.af i).mg k) M.bN M.ed)
 | start (M:Meet) (i:Nat) (hi:i<5) (hu:(M.af i).up=false) (hs:D.st):Stp D 0 M (M.set i (M.af i).start M.bN M.ed)
inductive Sts (D:Wh):Nat->Meet->Meet->Prop
 | nil (n:Nat) (M:Meet):Sts D n M M
 | snoc {n c m:Nat} {M N K:Meet} (h:Sts D n M N) (s:Stp D c N K) (hm:n+c<=m):Sts D m M K
end
section
variable{D:Wh}
section
variable{K M N:Meet}{i m n:Nat}{ls:List Let}{ts:List Tol}{α:Type}
theorem Sts.mono(h:Sts D n M N)(a:n<=m):Sts D m M N:=by
 cases h with
 | nil=>exact .nil m M
 | snoc h s hm=>exact .snoc h s (by omega)
theorem Sts.trans(h:Sts D n M N)(k:Sts D m N K):Sts D (n+m) M K:=by
 induction k with
 | nil=>exact h.mono (by omega)
 | snoc _ s hm ih=>exact(ih h).snoc s (by omega)
theorem Sts.s0(h:Sts D n M N)(s:Stp D 0 N K):Sts D n M K:=h.snoc s (A' _)
theorem Stp.s(h:Stp D 0 M N):Sts D n M N:=(Sts.nil n M).s0 h
theorem Sts.inv{I:Meet->Prop}(b:∀ c M N,Stp D c M N->I M->I N)(h:Sts D n M N)(a:I M):I N:=by
 induction h with
 | nil=>exact a
 | snoc _ s _ ih=>exact b _ _ _ s (ih a)
theorem PQ(f:Nat->α)(i:Nat):upN f i (f i)=f:=by funext j;unfold upN;split<;>simp_all
theorem aV(f:Nat->α)(i:Nat)(x y:α):upN (upN f i x) i y=upN f i y:=by funext j;unfold upN;split<;>rfl
theorem Ge(M:Meet)(i:Nat)(p q:Nod)(c a:List Let)(d b:List Tol):(M.set i p c d).set i q a b=M.set i q a b:=by unfold Meet.set;simp only[aV]
theorem I9(M:Meet)(i:Nat)(p:Nod)(a:List Let)(b:List Tol):(M.set i p a b).af i=p:=Yi M.af i p
theorem Mk(M:Meet)(l:Let):(M.mq l).bN=M.bN:=by unfold Meet.mq;split<;>rfl
theorem Ml(M:Meet)(l:Let)(a:List Let):({ M with bN:=a }:Meet).mq l={ M.mq l with bN:=a }:=by
 unfold Meet.mq;show(if(M.af l.dst).up=true then _ else _)=_;split<;>rfl
theorem Qs(l:List Let)(M:Meet)(a:List Let):l.foldl (λM l=>M.mq l) ({ M with bN:=a }:Meet)={ l.foldl (λM l=>M.mq l) M with bN:=a }:=by
 induction l generalizing M with
 | nil=>rfl
 | cons x l ih=>rw[l7,Ml,ih];rfl
theorem Sts.mq(c:D.tk)(h:Sts D n M N){l:Let}(b:l∈N.bN)(a:l.src<5/\l.dst<5):Sts D n M (N.mq l):=by
 unfold Meet.mq;split
 .rename_i hu;exact h.s0 (.take N l b a hu c)
 .exact h
theorem Sts.comes(c:D.tk)(l:List Let)(h:Sts D n M N)(a:∀ m∈l,m∈N.bN/\m.src<5/\m.dst<5):Sts D n M (l.foldl (λM l=>M.mq l) N):=by
 induction l generalizing N with
 | nil=>exact h
 | cons x l ih=>exact ih (h.mq c (a x U').1 (a x U').2) λm b=>by rw[Mk];exact a m (Q' _ b)
theorem Sts.mH(g:i<5)(l:List Cmd)(p:Nod)(h:Sts D n M (M.set i p ls ts))(a:p.up=true)(d:p.ae.drop p.done=l) :
  Sts D n M (M.set i (mH i l p ts).1 ls (Go.Proofs.YtdjfdfpkkenjbaaGreatDoor.mH i l p ts).2)/\(Go.Proofs.YtdjfdfpkkenjbaaGreatDoor.mH i l p ts).1.up=true:=by
 induction l generalizing p ts with
 | nil=>exact⟨h,a⟩
 | cons c l ih =>
  rw[Go.Proofs.YtdjfdfpkkenjbaaGreatDoor.mH];split
  .exact⟨h,a⟩
  .rename_i he
   have f:p.ae[p.done]?=some c:=by have:=congrArg (·[0]?) d;simpa using this
   have b:=PP { p with mh:=doS p.mh c,done:=p.done+1 } c;have e:=I9 M i p ls ts;have s:=Stp.one (D:=D) (M.set i p ls ts) i c g (by rw[e];exact a) (by rw[e];exact f) (by rw[e];exact iW.1 he);rw[e,Ge]at s
   refine ih _ (h.s0 s) (b.1.trans a) ?_;rw[b.2.1,b.2.2.1];show p.ae.drop (p.done+1)=l;rw[<- kN,d];rfl
theorem Sts.mi(g:i<5)(l:List Pend)(p:Nod)(h:Sts D n M (M.set i { p with bt:=l } ls ts))(b:p.up=true)(f:p.bt=[])(c:¬ p.sy<(p.d.length:Int)) :
  Sts D n M (M.set i (mi i l p ls).1 (Go.Proofs.YtdjfdfpkkenjbaaGreatDoor.mi i l p ls).2 ts)/\(Go.Proofs.YtdjfdfpkkenjbaaGreatDoor.mi i l p ls).1.up=true:=by
 induction l generalizing p ls with
 | nil =>
  have:({ p with bt:=[] }:Nod)=p:=by cases p;simp_all
  rw[this]at h;exact⟨h,b⟩
 | cons q l ih =>
  have a:=MG p i q;have e:=I9 M i { p with bt:=q::l } ls ts;have s:=Stp.run (D:=D) (M.set i { p with bt:=q::l } ls ts) i g (by rw[e];exact b) q l (by rw[e]) (by rw[e];exact c);rw[e,Ge,Ut,RB]at s
  exact ih (p.mm i q) (h.s0 s) (a.2.1.trans b) (a.1.trans f) (by rw[a.2.2.1,a.2.2.2];exact c)
theorem Sts.piece(c:i<5)(M:Meet)(x:(M.af i).up=true):Sts D 1 M (M.set i ((M.af i).piece i M.bN M.ed).1 ((M.af i).piece i M.bN M.ed).2.1 ((M.af i).piece i M.bN M.ed).2.2):=by
 have w:Sts D 0 M (M.set i (M.af i) M.bN M.ed):=by rw[show M.set i (M.af i) M.bN M.ed=M by unfold Meet.set;rw[PQ]];exact .nil 0 M
 obtain⟨q,l⟩:=Sts.mH c _ (M.af i) w x rfl;unfold Nod.piece;simp only;generalize Go.Proofs.YtdjfdfpkkenjbaaGreatDoor.mH i ((M.af i).ae.drop (M.af i).done) (M.af i) M.ed=a at q l ⊢;have e:=I9 M i a.1 M.bN a.2;have s:=Stp.ask (D:=D) (M.set i a.1 M.bN a.2) i c (by rw[e];exact l);rw[e,Ge]at s
 have t:=q.s0 s;have n:=(Y6 a.1 i).trans l;clear e s q;generalize (a.1.mo i)=b at t n ⊢;have e:=I9 M i b.1 (M.bN++b.2) a.2;have s:=Stp.prop (D:=D) (M.set i b.1 (M.bN++b.2) a.2) i c (by rw[e];exact n);rw[e,Ge]at s
 have g:=t.snoc s (m:=1) (by omega);have h:=(R5 b.1).trans n;clear e s t;change Sts D 1 M (M.set i b.1.fv (M.bN++b.2) a.2)at g;generalize b.1.fv=r at g h ⊢;generalize M.bN++b.2=k at g ⊢;have j:Sts D 1 M (M.set i (r.mn i k).1 (r.mn i k).2 a.2)/\(r.mn i k).1.up=true:=by
  unfold Nod.mn;split
  .exact⟨g,h⟩
  .rename_i hn
   have e:=I9 M i r k a.2;unfold Nod.mJ;split
   .rename_i h1
    have o:Dc r.d r.sy=0:=iW.1 λe=>hn ⟨h1,e⟩;have p:Br r.d r.sy:=by
     unfold Dc at o;split at o
     .assumption
     .cases o
    have s:=Stp.mJ (D:=D) (M.set i r k a.2) i c (by rw[e];exact h) (by rw[e];exact h1) (by rw[e];exact p);rw[e,Ge]at s
    have u:Lf r.d r.sy=r.d:=if_pos p;have v:LX r.d r.sy=(r.d.length:Int):=if_pos p;rw[u,v];exact Sts.mi c r.bt { r with sy:=(r.d.length:Int),bt:=[] } (g.s0 s) h rfl (Int.lt_irrefl _)
   .rename_i h1
    exact Sts.mi c r.bt { r with bt:=[] } g h rfl h1
 generalize r.mn i k=f at j ⊢;unfold Nod.cF;split
 .rename_i hL
  have e:=I9 M i f.1 f.2 a.2;have s:=Stp.teach (D:=D) (M.set i f.1 f.2 a.2) i c (by rw[e];exact j.2) (by rw[e];exact hL);rw[e,Ge]at s
  exact j.1.s0 s
 .exact j.1
theorem H7(M:Meet)(i:Nat):M.set i (M.af i) M.bN M.ed=M:=by unfold Meet.set;rw[PQ]
theorem Y1(g:MOk n M){x:Lac}(v:LacOk x)(j:D.may x):Sts D 1 M (M.act x):=by
 obtain⟨j,y,z,i,A⟩:=j;have b:∀ {k:Int},x.k=k->FL k=true->x.n.toNat<5:=λ{k} e w=>by have:=v.n (by rw[e];exact w);omega
 unfold Meet.act;simp only;split
 .rename_i h1
  by_cases c:(M.af x.n.toNat).up=true
  .exact(Stp.sub M _ x.d (b h1 rfl) c (j h1)).s
  .unfold Nod.mL Nod.mF;rw[if_pos (by simpa using c)];rw[H7];exact .nil 1 M
 .split
  .rename_i hk
   split
   .rename_i c;exact(Stp.lead M _ (b hk rfl) c (y hk)).s
   .rw[H7];exact .nil 1 M
  .split
   .rename_i h3
    by_cases c:(M.af x.n.toNat).up=true
    .rw[if_pos c,if_pos c,if_pos c];exact Sts.piece (b h3 rfl) M c
    .rw[if_neg c,if_neg c,if_neg c,H7];exact .nil 1 M
   .split
    .rename_i hk4
     obtain⟨o,r⟩:=i (by omega);unfold Meet.move;split
     .exact .nil 1 M
     .rename_i l q
      have f:=iN q;have B:=And.intro (g.bN l f).src (g.bN l f).dst;have u:∀ N:Meet,Sts D 1 M N->N.bN=M.bN->Sts D 1 M (if x.k≠6 then{ N with bN:=M.bN.eraseIdx (x.a.toNat%M.bN.length) }else N):=λN h e=>by
       split
       .exact h.s0 (.bN N _ (λm f=>by rw[e];exact List.mem_of_mem_eraseIdx f) o)
       .exact h
      simp only;split
      .have:=u (M.mq l) ((Sts.nil 1 M).mq r f B) (Mk M l);by_cases t:x.k≠6
       .rw[if_pos t]at this ⊢;rw[Ml];exact this
       .rw[if_neg t]at this ⊢;exact this
      .exact u M (.nil 1 M) rfl
    .split
     .rename_i hk7
      unfold Meet.my;rw[Qs];exact(Sts.comes (i (by omega)).2 M.bN (.nil 1 M) λm f=>⟨f,(g.bN m f).src,(g.bN m f).dst⟩).s0 (.bN _ [] (λl q=>by cases q) (i (by omega)).1)
     .split
      .rename_i hk
       split
       .rename_i c;exact(Stp.mg M _ x.p (b hk rfl) c (v.p (by rw[hk];rfl)).1 (z hk)).s
       .rw[H7];exact .nil 1 M
      .split
       .rename_i h9
        split
        .rw[H7];exact .nil 1 M
        .rename_i c;exact(Stp.start M _ (b h9 rfl) (by simpa using c) (A h9)).s
       .exact .nil 1 M
theorem UV(L:List Lac)(b:MOk n M)(d:n+L.length<=1000000)(c:∀ x∈L,LacOk x/\D.may x):Sts D L.length M (M.mz L):=by
 induction L generalizing n M with
 | nil=>exact .nil _ M
 | cons x L ih =>
  have a:=c x U';rw[iX]at d
  rw[iX,lV];exact(Y1 b a.1 a.2).trans (ih (b.act (by omega) a.1) (by omega) λy e=>c y (Q' _ e))
end
end
section
inductive Rk where
 | pr (b:Bal)
 | vt (v:Vt)
def Rk.body:Rk->List Int
 | .pr b=>Bh b
 | .vt v=>AX v
def Rk.ap(a:Acc):Rk->Acc
 | .pr b=>⟨b,a.vs⟩
 | .vt v=>⟨v.b,Ba a.vs v⟩
def Rk.err(a:Acc):Rk->Int
 | .pr b=>BY a b
 | .vt v=>Bb a v
def Rk.ok(a:Acc):Rk->Prop
 | .pr b=>BY a b=0/\a.p≠b
 | .vt v=>Bb a v=0/\v∉a.vs
variable{a:Acc}{b:Bal}{dr qs rs:List Rk}{p:Nod}{r:Rk}{v:Vt}
theorem Rk.ok.err(h:Rk.ok a r):Rk.err a r=0:=by cases r<;>exact h.1
def E9(rs:List Rk):Acc:=rs.foldl Rk.ap a0
theorem Db(a:List Rk)(r:Rk):E9 (a++[r])=Rk.ap (E9 a) r:=by unfold E9;rw[List.foldl_append];rfl
def BZ(rs:List Rk):Prop:=∀ i r,rs[i]?=some r->Rk.ok (E9 (rs.take i)) r
theorem BZ.nil:BZ []:=λi r h=>by simp at h
theorem BZ.left(h:BZ (rs++qs)):BZ rs:=λi r e=>by
 have a:=(O'.1 e).1;have:=h i r (by rw[iF a];exact e)
 rwa [iY (by omega)]at this
theorem BZ.pre(h:BZ qs)(a:rs <+: qs):BZ rs:=by obtain⟨x,rfl⟩:=a;exact h.left
theorem BZ.snoc(h:BZ rs)(a:Rk.ok (E9 rs) r):BZ (rs++[r]):=λi q e=>by
 rcases ja i rs.length with hi|hi
 .rw[iF hi]at e
  rw[iY (by omega)];exact h i q e
 .have:=(O'.1 e).1;rw[G',jA]at this
  obtain rfl:i=rs.length:=by omega
  rw[iH (A' _)]at e
  simp at e;subst e;rw[iY (A' _),ko];exact a
theorem BZ.ind{P:List Rk->Prop}(a:P [])(b:∀ rs r,BZ rs->Rk.ok (E9 rs) r->P rs->P (rs++[r]))(h:BZ rs):P rs:=by
 have:∀ k,k<=rs.length->P (rs.take k):=by
  intro k;induction k with
  | zero=>intro _;exact a
  | succ k ih =>
   intro c;have e:rs.take (k+1)=rs.take k++[rs[k]]:=by rw[iI (by omega)]
   rw[e];exact b _ _ (h.pre (lu _ _)) (h k _ (E' (by omega))) (ih (by omega))
 have:=this rs.length (A' _)
 rwa [ko]at this
theorem Ak.nY(h:Ak a)(c:Ad b)(i:¬ b.lt a.p):Ak ⟨b,a.vs⟩:=by
 refine⟨.inl c,λv d=>⟨(h.2.1 v d).1,λg=>?_⟩,h.2.2⟩;have e:=(h.2.1 v d).1.2.1;have f:=(h.2.1 v d).2;rw[Nt c.pr e.pr]at g
 rw[Nt h.1 e.pr]at f
 rw[Nt c.pr h.1]at i
 omega
theorem Ak.og(h:Ak a)(d:Ai v)(e:¬ v.b.lt a.p):Ak ⟨v.b,Ba a.vs v⟩:=by
 refine⟨.inl d.2.1,λu c=>?_,Iw v h.2.2⟩;rcases(DF h.2.2).1 c with rfl|⟨c,_⟩
 .refine⟨d,λg=>?_⟩;change u.b.lt u.b at g;unfold Bal.lt at g;omega
 .exact(h.nY d.2.1 e).2.1 u c
theorem Yy:Ak a0:=⟨.inr ⟨rfl,rfl⟩,λv a=>(M' a).elim,trivial⟩
theorem Rk.may(h:Ak a)(c:Rk.err a r=0):Ak (Rk.ap a r):=by
 cases r with
 | pr b=>have:=Gd c;exact h.nY this.2.1 this.2.2
 | vt v=>have:=BI c;exact h.og this.2.1 this.2.2
theorem BZ.acc(h:BZ rs):Ak (E9 rs):=h.ind (P:=λrs=>Ak (E9 rs)) Yy λrs r _ a b=>by rw[Db];exact Rk.may b a.err
theorem KG{a:Bal}(c:AL a)(d:AL b)(h:¬ a.lt b):b.key<=a.key:=by rw[Nt c d]at h;omega
theorem P0(h:BZ rs):∀ v∈(E9 rs).vs,Rk.vt v∈rs:=h.ind (P:=λrs=>∀ v∈(E9 rs).vs,Rk.vt v∈rs) (λv a=>by cases a) λrs r d e c v a=>by
 rw[Db]at a
 cases r with
 | pr b=>exact jh _ (c v a)
 | vt u =>
  rcases(DF d.acc.2.2).1 a with rfl|⟨a,_⟩
  .exact jl _ U'
  .exact jh _ (c v a)
theorem Ak.le(h:Ak a)(c:v∈a.vs):v.b.key<=a.p.key:=KG h.1 (h.2.1 v c).1.2.1.pr (h.2.1 v c).2
def fl(rs:List Rk):List Int:=Ax (rs.map Rk.body)
theorem YZ(a:List Rk)(r:Rk):fl (a++[r])=fl a++AE r.body:=by unfold fl;rw[iL,BV];simp[Ax]
theorem VT(b a:List Rk):fl (b++a)=fl b++fl a:=by unfold fl;rw[iL,BV]
theorem VU(h:rs <+: qs):(fl rs).length<=(fl qs).length:=by obtain⟨x,rfl⟩:=h;rw[VT,G'];omega
theorem BZ.oc(h:BZ rs):Chn ((List.range (rs.length+1)).map λj=>E9 (rs.take j)) (rs.map Rk.body):=by
 refine⟨by simp,by simp[E9],λi b a c g f l=>?_⟩;simp only[iV,jC]at g f l;obtain⟨r,e,rfl⟩:=g;obtain⟨j,n,rfl⟩:=f;obtain⟨k,o,rfl⟩:=l;have m:=(O'.1 e).1;rw[jE (by omega)]at n o
 cases n;cases o;have d:=(h i r e).err;have p:rs[i]=r:=by rw[E' m]at e;exact ji e
 rw[iI m,Db,p];generalize E9 (rs.take i)=a at d ⊢;cases r with
 | pr b=>show Dj a (Bh b)=_;rw[VF a (Gd d).2.1];exact if_pos d
 | vt v=>show Dj a (AX v)=_;rw[VG a (BI d).2.1];exact if_pos d
structure TpU(p:Nod)(dr rs:List Rk):Prop where
 ok:BZ rs
 pre:dr <+: rs
 d:p.d=fl rs
 sy:p.sy=((fl dr).length:Int)
 vo:p.vo=E9 rs
 len:p.d.length<=100000
structure TpD(p:Nod)(dr:List Rk):Prop where
 ok:BZ dr
 nC:DU p.d=((fl dr).length,E9 dr)
 tk:p.d.take (fl dr).length=fl dr
 sy:p.sy=(p.d.length:Int)
 len:p.d.length<=100000
theorem TpU.nU(h:TpU p dr rs):Br p.d p.sy:=by
 have:=VU h.pre;have:=h.d;refine⟨h.len,by rw[h.sy];omega,?_⟩;rw[h.sy,h.d];omega
theorem TpU.zero:TpU CV [] []:=⟨BZ.nil,j3 _,rfl,rfl,rfl,by decide⟩
theorem TpU.mg(h:TpU p dr rs){k:Int}(u:0<=k):∃ dr',dr <+: dr'/\dr' <+: rs/\TpD (p.mg k) dr':=by
 have o:=h.nU;have b:Gg p.d p.sy k=0:=by unfold Gg;rw[if_neg (λe=>e o),if_neg (by omega)]
 have f:=o;unfold Br at f;have t:p.sy<=Fv p.d p.sy k/\Fv p.d p.sy k<=(p.d.length:Int):=by unfold Fv;split<;>omega
 obtain⟨j,a,r,l,m,n,h5⟩:=h.ok.oc.nV (Fv p.d p.sy k).toNat;rw[iQ]at r h5
 rw[iV,jE (by omega)]at l
 obtain rfl:E9 (rs.take j)=a:=by simpa using l
 have i:Ax ((rs.map Rk.body).take j)=fl (rs.take j):=by unfold fl;rw[lx]
 rw[i]at m n
 have c:(p.mg k).d=(fl rs).take (Fv p.d p.sy k).toNat:=by
  unfold Nod.mg;rw[if_neg (λe=>e b)];show Jt p.d p.sy k=_;unfold Jt;rw[if_pos b,h.d]
 have s:(p.mg k).sy=Fv p.d p.sy k:=by
  unfold Nod.mg;rw[if_neg (λe=>e b)];show Ju p.d p.sy k=_;unfold Ju;rw[if_pos b]
 have q:((fl rs).take (Fv p.d p.sy k).toNat).length=(Fv p.d p.sy k).toNat:=by rw[X',<- h.d];omega
 refine⟨rs.take j,?_,lu _ _,h.ok.pre (lu _ _),by rw[c];exact m,?_,?_,?_⟩
 .obtain⟨x,hx⟩:=h.pre;rcases ja j dr.length with g|g
  .exfalso;rcases h5 with h5|h5
   .rw[<- hx,G']at h5;omega
   .have hp:rs.take (j+1) <+: dr:=by rw[<- hx,iY (by omega)];exact lu _ _
    have:=VU hp;rw[show Ax ((rs.map Rk.body).take (j+1))=fl (rs.take (j+1))by unfold fl;rw[lx]]at h5
    have:=h.sy;omega
  .rw[<- hx,List.take_append];rw[iE g];exact kG _ _
 .rw[c,j6,jw n];have e:fl rs=fl (rs.take j)++fl (rs.drop j):=by rw[<- VT,jp]
  rw[show(fl rs).take (fl (rs.take j)).length=(fl (rs.take j)++fl (rs.drop j)).take (fl (rs.take j)).length by rw[<- e],iY (A' _),ko]
 .rw[s,c,q];omega
 .rw[c,q];have:=h.len;omega
theorem TpD.start(h:TpD p dr):TpU p.start dr dr:=by
 have c:Br p.d p.sy:=⟨h.len,by rw[h.sy];omega,by rw[h.sy];omega⟩;have g:Dc p.d p.sy=0:=if_pos c;have i:LS p.d p.sy=((fl dr).length:Int):=by unfold LS;rw[if_pos c,h.nC]
 have j:FB p.d p.sy=E9 dr:=by unfold FB;rw[if_pos c,h.nC]
 have a:=SI p.d;rw[h.nC]at a
 have a:(fl dr).length<=p.d.length:=a;have f:=h.len;unfold Nod.start;rw[if_neg (λe=>e g),i,j];split
 .rename_i hlt
  have b:I5 p.d p.sy=fl dr:=by unfold I5;rw[if_pos c,h.nC];exact h.tk
  have k:KX p.d p.sy=((fl dr).length:Int):=by unfold KX;rw[if_pos c,h.nC];exact if_pos (by rw[h.sy];exact hlt)
  exact⟨h.ok,j3 _,b,k,rfl,by show(I5 p.d p.sy).length<=_;rw[b];omega⟩
 .rename_i hge
  have b:p.d=fl dr:=by have:=h.tk;rwa [iE (by omega)]at this
  exact⟨h.ok,j3 _,b,by show p.sy=_;rw[h.sy,<- b],rfl,f⟩
theorem TpU.mJ(h:TpU p dr rs):TpU { p with sy:=(p.d.length:Int) } rs rs:=⟨h.ok,j3 _,h.d,by show(p.d.length:Int)=_;rw[h.d],h.vo,h.len⟩
def Nod.tv(p:Nod)(d:List Int)(s:Int)(a:Acc):Nod:={ p with d:=d,sy:=s,vo:=a }
theorem TpU.write(h:TpU p dr rs)(a:Rk.ok p.vo r)(b:p.d.length+(r.body.length+5)<=100000):TpU (p.tv (p.d++AE r.body) p.sy (Rk.ap p.vo r)) dr (rs++[r]):=by
 rw[h.vo]at a
 refine⟨h.ok.snoc a,h.pre.trans (kG _ _),?_,h.sy,?_,?_⟩
 .show p.d++_=_;rw[h.d,YZ]
 .show Rk.ap p.vo r=_;rw[h.vo,Db]
 .show(p.d++AE r.body).length<=_;rw[G',Bk];omega
theorem TpU.bn(h:TpU p dr rs)(b:Bal):((p.bn b).2.2≠0/\(p.bn b).1=p) \/
  ((p.bn b).2.2=0/\BY p.vo b=0/\(p.bn b).2.1=p.vo.vs/\∃ rs',rs <+: rs'/\TpU (p.bn b).1 dr rs'/\(∀ v,Rk.vt v∈rs'↔Rk.vt v∈rs)/\(E9 rs').p=b/\(E9 rs').vs=p.vo.vs/\∃ d a,(p.bn b).1=p.tv d p.sy a):=by
 unfold Nod.bn;split
 .rename_i c;exact .inl ⟨c,rfl⟩
 .rename_i c
  have c:=iW.1 c;split
  .rename_i h2
   refine .inr ⟨rfl,c,rfl,rs,j3 _,?_,λ_=>Iff.rfl,?_,?_,p.d,p.vo,?_⟩
   .rw[h2];exact h
   .rw[<- h.vo];exact h2.symm
   .rw[<- h.vo]
   .rw[h2];rfl
  .rename_i h2
   split
   .rename_i f;exact .inl ⟨f,rfl⟩
   .rename_i f
    have f:=iW.1 f;have j:=MV f;have g:FP p.d p.sy (Ad b) (Bh b)=p.d++AE (Bh b):=if_pos f;have i:GV p.d p.sy (Ad b) (Bh b)=p.sy:=if_pos f;rw[g,i];refine .inr ⟨rfl,c,rfl,rs++[Rk.pr b],kG _ _,(h.write (r:=.pr b) ⟨c,λe=>h2 e.symm⟩ j.2.1),λv=>by simp,?_,?_,_,_,rfl⟩
    .rw[Db];rfl
    .rw[Db,h.vo];rfl
theorem TA{l:List Vt}(h:B2 l)(hv:v∈l):Ba l v=l:=by
 induction l with
 | nil=>cases hv
 | cons u us ih =>
  rw[Ba];rcases iG.1 hv with rfl|hv
  .rw[if_neg (Int.lt_irrefl _),if_pos rfl]
  .rw[if_pos (h.1 v hv),ih h.2 hv]
theorem TpU.cn(h:TpU p dr rs)(v:Vt):((p.cn v).2≠0/\(p.cn v).1=p) \/
  ((p.cn v).2=0/\Bb p.vo v=0/\∃ rs',rs <+: rs'/\TpU (p.cn v).1 dr rs'/\(∀ u,Rk.vt u∈rs'↔u=v\/Rk.vt u∈rs)/\(E9 rs').p=v.b/\∃ d a,(p.cn v).1=p.tv d p.sy a):=by
 unfold Nod.cn;split
 .rename_i c;exact .inl ⟨c,rfl⟩
 .rename_i c
  have c:=iW.1 c;have i:=BI c;split
  .rename_i h2
   have m:=i.1.le h2;have l:=KG i.2.1.2.1.pr i.1.1 i.2.2;have e:v.b=p.vo.p:=Zr i.2.1.2.1.pr i.1.1 (by omega);have j:(⟨v.b,Ba p.vo.vs v⟩:Acc)=p.vo:=by rw[TA i.1.2.2 h2,e]
   rw[j];refine .inr ⟨rfl,c,rs,j3 _,h,λu=>⟨.inr,λhu=>?_⟩,by rw[<- h.vo];exact e.symm,p.d,p.vo,rfl⟩;rcases hu with rfl|hu
   .exact P0 h.ok u (by rw[<- h.vo];exact h2)
   .exact hu
  .rename_i h2
   split
   .rename_i f;exact .inl ⟨f,rfl⟩
   .rename_i f
    have f:=iW.1 f;have n:=MV f;have k:FP p.d p.sy (Ai v) (AX v)=p.d++AE (AX v):=if_pos f;have j:GV p.d p.sy (Ai v) (AX v)=p.sy:=if_pos f;rw[k,j];refine .inr ⟨rfl,c,rs++[Rk.vt v],kG _ _,h.write (r:=.vt v) ⟨c,h2⟩ n.2.1,λu=>?_,by rw[Db];rfl,_,_,rfl⟩;rw[P',N'];exact⟨λg=>g.elim .inr λe=>.inl (Rk.vt.inj e),λg=>g.elim (λe=>.inr (by rw[e])) .inl⟩
end
section
variable{S:Cmd->Prop}
section
def VsS(S:Cmd->Prop)(l:List Vt):Prop:=∀ v∈l,S v.w
def RsS(S:Cmd->Prop)(rs:List Rk):Prop:=∀ v,Rk.vt v∈rs->S v.w
def PnS(S:Cmd->Prop):Pend->Prop
 | .began _ vs=>VsS S vs
 | .prom _ _ vs=>VsS S vs
 | .voted _ v=>S v.w
 | .prop v=>S v.w
 | _=>True
structure NdS(S:Cmd->Prop)(p:Nod):Prop where
 up:p.up=true->∃ dr rs,TpU p dr rs/\RsS S rs
 dn:p.up=false->∃ dr,TpD p dr/\RsS S dr
 ag:∀ c∈p.ae,S c
 wa:∀ c∈p.an,S c
 qu:∀ c∈p.bw.dW,S c
 he:∀ j,j<5->VsS S (p.bw.br j).vs
 pe:∀ q∈p.bt,PnS S q
structure LtS(S:Cmd->Prop)(l:Let):Prop where
 vs:VsS S l.kc
 wh:∀ c∈l.fa,S c
 vt:l.kind=3\/l.kind=4->S l.cn.w
variable{M:Meet}{a:Acc}{dr:List Rk}{i:Nat}{l:List Cmd}{p q:Nod}{r:Rnd}{s:Int}{v:Vt}
theorem NdS.tape(h:NdS S p)(i:q.up=p.up)(a:q.d=p.d)(f:q.sy=p.sy)(n:q.vo=p.vo)(l:∀ c∈q.ae,S c)(t:∀ c∈q.an,S c)(r:∀ c∈q.bw.dW,S c)(m:∀ j,j<5->VsS S (q.bw.br j).vs)(o:∀ x∈q.bt,PnS S x):NdS S q :=
 ⟨λe=>by
  obtain⟨b,s,k,g⟩:=h.up (i▸e);exact⟨b,s,⟨k.ok,k.pre,a.trans k.d,f.trans k.sy,n.trans k.vo,by rw[a];exact k.len⟩,g⟩,λe=>by
  obtain⟨b,k,g⟩:=h.dn (i▸e);exact⟨b,⟨k.ok,by rw[a];exact k.nC,by rw[a];exact k.tk,by rw[f,a];exact k.sy,by rw[a];exact k.len⟩,g⟩,l,t,r,m,o⟩
theorem NdS.wait(h:NdS S p){x:Pend}(a:PnS S x):NdS S (p.wait x) :=
 h.tape rfl rfl rfl rfl h.ag h.wa h.qu h.he λy b=>(P'.1 b).elim (h.pe y) λe=>by rw[N'.1 e];exact a
theorem NdS.ln(h:NdS S p)(a:Nat)(e:Int):NdS S (p.ln a e):=by
 unfold Nod.ln;split
 .exact h.wait trivial
 .exact h
theorem NdS.wrote(h:NdS S p){b:List Rk}(i:TpU q dr b)(g:RsS S b)(j:p.up=true){d:List Int}(f:q=p.tv d p.sy a)(k:∀ c∈q.ae,S c):NdS S q:=by
 subst f;exact⟨λ_=>⟨dr,b,i,g⟩,λe=>(by rw[show(p.tv d p.sy a).up=p.up from rfl,j]at e;cases e),h.ag,h.wa,h.qu,h.he,h.pe⟩
theorem cA(h:∀ j,j<5->VsS S (r.br j).vs)(b:a∈r.me):VsS S a.vs:=by
 unfold Rnd.me at b;simp only[iG,M',or_false]at b;rcases b with rfl|rfl|rfl|rfl|rfl
 .exact h 0 (by omega)
 .exact h 1 (by omega)
 .exact h 2 (by omega)
 .exact h 3 (by omega)
 .exact h 4 (by omega)
theorem VW(h:∀ j,j<5->VsS S (r.br j).vs)(e:v∈Al (r.me.map (·.vs)).flatten s):S v.w:=by
 obtain⟨l,b,c⟩:=List.mem_flatten.1 (Cu.1 e).1;obtain⟨a,d,rfl⟩:=i7.1 b;exact cA h d v c
theorem cV(h:∀ j,j<5->VsS S (r.br j).vs)(a:Dx r.me s=0):S (CE r.me s):=by
 have c:CE r.me s=((Hb (Fk r.me s) r.me.length).map (·.w)).getD ⟨0,0,0,0,0⟩:=if_pos a;unfold Dx at a;split at a
 .cases a
 .split at a
  .cases a
  .split at a
   .rename_i hO
    obtain⟨v,b⟩:=jX.1 hO;rw[c,b];exact VW h (lI b)
   .cases a
theorem dA(h:∀ j,j<5->VsS S (r.br j).vs)(k:Nat)(a:∀ c∈l,S c):∀ c∈K8 k r l,S c:=by
 induction k generalizing l with
 | zero=>exact a
 | succ k ih =>
  rw[K8];split
  .rename_i he;exact ih λc b=>(P'.1 b).elim (a c) λe=>by rw[N'.1 e];exact cV h he
  .exact a
theorem NdS.ml(h:NdS S p):NdS S p.ml:=h.tape rfl rfl rfl rfl (dA h.he 41 h.ag) h.wa h.qu h.he h.pe
theorem Zj(a:Acc)(l:List Vt)(d:VsS S a.vs)(e:VsS S l):VsS S (Gw a l).vs:=by
 induction l generalizing a with
 | nil=>exact d
 | cons u l ih =>
  rw[Gw];refine ih _ ?_ λv b=>e v (Q' _ b);by_cases c:Bb a u=0
  .rw[if_pos c];intro v b;have b:v∈Ck a u:=b;rw[(Lt c).2]at b
   rcases(DF (BI c).1.2.2).1 b with rfl|⟨b,_⟩
   .exact e v U'
   .exact d v b
  .rw[if_neg c];exact d
theorem Wl(h:∀ j,j<5->VsS S (r.br j).vs)(j:Nat)(b:j<5){a:List Vt}(d:VsS S a):∀ k,k<5->VsS S ((r.mE j a).br k).vs:=λk c=>by
 show VsS S (upN r.br j _ k).vs;unfold upN;split
 .exact Zj ⟨r.lr,a⟩ _ d (h j b)
 .exact h k c
theorem NdS.count(h:NdS S p){j:Nat}(c:j<5)(e:S v.w):NdS S (p.count j v):=by
 unfold Nod.count;split
 .exact h
 .split
  .exact h
  .rename_i b
   have b:=iW.1 b;refine NdS.ml (h.tape rfl rfl rfl rfl h.ag h.wa h.qu (λk d=>?_) h.pe);show VsS S (upN p.bw.br j _ k).vs;unfold upN;split
   .intro u a;have a:u∈Ck (p.bw.br j) v:=a;rw[(Lt b).2]at a
    rcases(DF (BI b).1.2.2).1 a with rfl|⟨a,_⟩
    .exact e
    .exact h.he j c u a
   .exact h.he k d
theorem df(q l:List Cmd)(b:∀ c∈q,S c)(f:∀ c∈l,S c):∀ c∈LE q l,S c:=by
 induction l generalizing q with
 | nil=>exact b
 | cons d l ih =>
  rw[LE];refine ih _ ?_ λc a=>f c (Q' _ a);split
  .exact λc a=>(P'.1 a).elim (b c) λe=>by rw[N'.1 e];exact f d U'
  .exact b
theorem NdS.gC(h:NdS S p)(a:∀ c∈l,S c):NdS S (p.gC l):=by
 unfold Nod.gC;split
 .exact h.tape rfl rfl rfl rfl h.ag h.wa (df _ _ h.qu a) h.he h.pe
 .exact h
theorem NdS.hZ(h:NdS S p)(au:Nat)(b:∀ c∈l,S c):NdS S (p.hZ au l) :=
 h.tape rfl rfl rfl rfl (λc a=>(P'.1 a).elim (h.ag c) λg=>b c (jS g)) h.wa h.qu h.he h.pe
theorem TpU.nZ{a:List Rk}(h:TpU p dr a)(b:RsS S a):VsS S p.vo.vs:=λv c=>b v (P0 h.ok v (by rw[<- h.vo];exact c))
theorem NdS.take(h:NdS S p)(f:p.up=true){l:Let}(b:LtS S l)(j:l.src<5):NdS S (p.take l):=by
 obtain⟨m,n,k,c⟩:=h.up f;unfold Nod.take;split
 .rcases k.bn l.lr with⟨e,he⟩|⟨e,he,hvs,rs',hp,ht,hm,hpb,hpv,d,a,hq⟩
  .rw[if_pos e];exact h.ln _ _
  .rw[if_neg (λg=>g e)];exact(h.wrote ht (λv i=>c v ((hm v).1 i)) f hq (by rw[hq];exact h.ag)).wait (by show VsS S _;rw[hvs];exact k.nZ c)
 .have hL:=h.hZ 0 b.wh;generalize p.hZ 0 l.fa=K at hL ⊢;simp only;split
  .exact hL
  .exact NdS.ml (hL.tape rfl rfl rfl rfl hL.ag hL.wa hL.qu (Wl hL.he _ j b.vs) hL.pe)
 .exact h.tape rfl rfl rfl rfl h.ag h.wa h.qu h.he h.pe
 .rename_i hk
  rcases k.cn l.cn with⟨e,he⟩|⟨e,he,rs',hp,ht,hm,hpb,d,a,hq⟩
  .rw[if_pos e];exact h.ln _ _
  .rw[if_neg (λg=>g e)];exact(h.wrote ht (λv i=>((hm v).1 i).elim (λe=>by rw[e];exact b.vt (.inl hk)) (c v)) f hq (by rw[hq];exact h.ag)).wait (b.vt (.inl hk))
 .rename_i hk;exact h.count j (b.vt (.inr hk))
 .split
  .exact h.wait trivial
  .exact h.hZ _ b.wh
 .simp only;split
  .exact(h.gC b.wh).wait trivial
  .exact h.gC b.wh
 .exact h
theorem ZJ(h:NdS S p){s:Nat}{c:Cmd}(b:p.mB s=some c):S c:=by
 unfold Nod.mB at b;split at b
 .cases b
 .rename_i a
  have a:=iW.1 a;split at b
  .rename_i hF
   have f:Hr (p.bw.me.map (·.vs)) (s:Int)=((KM (p.bw.me.map (·.vs)) (s:Int)).map (·.w)).getD ⟨0,0,0,0,0⟩:=if_pos a;have d:G0 (p.bw.me.map (·.vs)) (s:Int)=(KM (p.bw.me.map (·.vs)) (s:Int)).isSome:=if_pos a;rw[hF]at d
   obtain⟨x,i⟩:=jX.1 d.symm;rw[i]at f
   rw[<- ji b,f];refine VW h.he (s:=(s:Int)) ?_;have:∀ (l:List Vt) (o:Option Vt) (x:Vt),Cl l o=some x->x∈l\/o=some x:=by
    intro l;induction l with
    | nil=>intro o x e;exact .inr e
    | cons v l ih =>
     intro o x e;cases o with
     | none =>
      rw[Cl]at e
      rcases ih _ _ e with g|g
      .exact .inl (Q' _ g)
      .left;cases g;exact U'
     | some u =>
      rw[Cl]at e
      split at e
      .rcases ih _ _ e with g|g
       .exact .inl (Q' _ g)
       .left;cases g;exact U'
      .rcases ih _ _ e with g|g
       .exact .inl (Q' _ g)
       .exact .inr g
   exact(this _ _ _ i).resolve_right λe=>by cases e
  .exact h.qu c (lI b)
theorem NdS.fv(h:NdS S p)(f:p.up=true):NdS S p.fv:=by
 obtain⟨l,m,k,i⟩:=h.up f;unfold Nod.fv;split
 .exact h
 .cases hn:p.mB p.ae.length with
  | none=>exact h
  | some c =>
   have b:=ZJ h hn;simp only;rcases k.cn ⟨(p.ae.length:Int),p.bw.lr,c⟩with⟨e,he⟩|⟨e,he,rs',hp,ht,hm,hpb,d,a,hq⟩
   .rw[if_pos e];exact h
   .rw[if_neg (λg=>g e)];have g:=h.wrote ht (λv j=>((hm v).1 j).elim (λe=>by rw[e];exact b) (i v)) f hq (by rw[hq];exact h.ag);exact NdS.wait (p:={ (p.cn ⟨(p.ae.length:Int),p.bw.lr,c⟩).1 with bw:={ p.bw with next:=p.ae.length+1 } }) (g.tape rfl rfl rfl rfl g.ag g.wa h.qu h.he g.pe) b
theorem NdS.run(r:i<5)(h:NdS S p){q:Pend}{l:List Pend}(s:p.bt=q::l):NdS S { p.mm i q with bt:=l }/\∀ m∈p.mx i q,LtS S m:=by
 have j:=h.pe q (by rw[s];exact U');have k:∀ {p':Nod},NdS S p'->p'.bt=p.bt->NdS S { p' with bt:=l }:=λ{p'} g e=>g.tape rfl rfl rfl rfl g.ag g.wa g.qu g.he λx t=>g.pe x (by rw[e,s];exact Q' _ t);have d:∀ c∈([]:List Cmd),S c:=λc o=>by cases o
 have a:VsS S []:=λc o=>by cases o
 cases q with
 | began b vs =>
  unfold Nod.mm Nod.mx;simp only;split
  .exact⟨k h rfl,λm f=>(by cases f)⟩
  .refine⟨k (p':={ p with bw:=p.bw.mE i vs }) (h.tape rfl rfl rfl rfl h.ag h.wa h.qu (Wl h.he i r j) h.pe) rfl,λm f=>?_⟩;obtain⟨n,_,rfl⟩:=D6 f;exact⟨a,d,λe=>e.elim (λg=>by cases g) λg=>(by cases g)⟩
 | prom n b vs=>exact⟨k h rfl,λm f=>by rw[N'.1 f];exact⟨j,h.ag,λe=>e.elim (λg=>by cases g) λg=>(by cases g)⟩⟩
 | voted n v=>exact⟨k h rfl,λm f=>by rw[N'.1 f];exact⟨a,d,λ_=>j⟩⟩
 | ln n b=>exact⟨k h rfl,λm f=>by rw[N'.1 f];exact⟨a,d,λe=>e.elim (λg=>by cases g) λg=>(by cases g)⟩⟩
 | prop v =>
  refine⟨k (h.count r j) (MG p i (.prop v)).1,λm f=>?_⟩;obtain⟨n,_,rfl⟩:=D6 f;exact⟨a,d,λ_=>j⟩
 | askNews n=>exact⟨k h rfl,λm f=>by rw[N'.1 f];exact⟨a,d,λe=>e.elim (λg=>by cases g) λg=>(by cases g)⟩⟩
 | start =>
  refine⟨k h rfl,λm f=>?_⟩;obtain⟨n,_,rfl⟩:=D6 f;exact⟨a,d,λe=>e.elim (λg=>by cases g) λg=>(by cases g)⟩
 | tell n au=>exact⟨k h rfl,λm f=>by rw[N'.1 f];exact⟨a,λc o=>h.ag c (jS o),λe=>e.elim (λg=>by cases g) λg=>(by cases g)⟩⟩
theorem NdS.lead(h:NdS S p)(m:p.up=true):NdS S (p.lead i):=by
 obtain⟨o,q,k,l⟩:=h.up m;unfold Nod.lead;simp only;generalize (⟨max p.dT p.vo.p.r+1,(i:Int)⟩:Bal)=b;rcases k.bn b with⟨e,he⟩|⟨e,he,hvs,rs',hp,ht,hm,hpb,hpv,d,a,hq⟩
 .rw[if_pos e];exact h
 .rw[if_neg (λg=>g e)];have g:=h.wrote ht (λv f=>l v ((hm v).1 f)) m hq (by rw[hq];exact h.ag);exact NdS.wait (p:={ (p.bn b).1 with bw:=⟨b,λ_=>false,λ_=>Ei,λ_=>p.ae.length,0,[]⟩ }) (x:=.began b (p.bn b).2.1) (g.tape rfl rfl rfl rfl g.ag g.wa (λc n=>by cases n) (λj _ v f=>by cases f) g.pe) (by show VsS S _;rw[hvs];exact k.nZ l)
theorem cM(b:Bal)(f:Cmd->Option Bal)(l:List Cmd)(h:∀ c∈l,S c):∀ c∈(CU b f l).1,S c:=by
 induction l generalizing f with
 | nil=>intro c a;cases a
 | cons d l g =>
  have g:=λf=>g f λc a=>h c (Q' _ a);rw[CU];split
  .exact λc a=>(iG.1 a).elim (λe=>by rw[e];exact h d U') (g _ c)
  .exact g f
structure MtS(S:Cmd->Prop)(M:Meet):Prop where
 nd:∀ i,i<5->NdS S (M.af i)
 lt:∀ l∈M.bN,LtS S l
theorem MtS.set(h:MtS S M)(e:NdS S p){a:List Let}(c:∀ l∈a,l∈M.bN\/LtS S l)(f:List Tol):MtS S (M.set i p a f) :=
 ⟨λj b=>by
  show NdS S (upN M.af i p j);unfold upN;split
  .exact e
  .exact h.nd j b,λl d=>(c l d).elim (h.lt l) id⟩
theorem MtS.step{D:Wh}(y:∀ i d,D.d i d->∀ now:Nat,opE d (now:Int)=0->S (LN d (now:Int))){n:Nat}{N:Meet}(s:Stp D n M N)(h:MtS S M):MtS S N:=by
 have a:∀ l∈M.bN,l∈M.bN\/LtS S l:=λl r=>.inl r;have app:∀ {ms:List Let},(∀ m∈ms,LtS S m)->∀ l∈M.bN++ms,l∈M.bN\/LtS S l:=λg l r=>(P'.1 r).imp id (g l);cases s with
 | take _ l r hd hu _=>exact h.set ((h.nd _ hd.2).take hu (h.lt l r) hd.1) a _
 | bN _ ls r _=>exact⟨h.nd,λl g=>h.lt l (r l g)⟩
 | one _ i c hi hu b he =>
  refine h.set ?_ a _;have k:=h.nd i hi;unfold Nod.lp;split
  .exact k.tape rfl rfl rfl rfl k.ag (λc b=>k.wa c (List.mem_of_mem_erase b)) k.qu k.he k.pe
  .exact k.tape rfl rfl rfl rfl k.ag k.wa k.qu k.he k.pe
 | ask _ i hi hu =>
  have k:=h.nd i hi;have F:=cM (M.af i).vo.p (M.af i).cl ((M.af i).an.take 40) λc b=>k.wa c (iJ b);have C:NdS S { M.af i with cl:=(CU (M.af i).vo.p (M.af i).cl ((M.af i).an.take 40)).2 }:=k.tape rfl rfl rfl rfl k.ag k.wa k.qu k.he k.pe;refine h.set ?_ (app ?_) _
  .unfold Nod.mo;split
   .exact C
   .split
    .exact C.gC F
    .exact C
  .intro m hm;unfold Nod.mo at hm;split at hm
   .cases hm
   .split at hm
    .cases hm
    .rw[N'.1 hm];exact⟨λv o=>(by cases o),F,λe=>e.elim (λg=>by cases g) λg=>(by cases g)⟩
 | prop _ i hi hu=>exact h.set ((h.nd i hi).fv hu) a _
 | mJ _ i hi hu hlt z =>
  have k:=h.nd i hi;obtain⟨w,E,g,t⟩:=k.up hu;exact h.set (p:={ M.af i with sy:=((M.af i).d.length:Int) }) ⟨λ_=>⟨E,E,g.mJ,t⟩,λe=>(by rw[show _=(M.af i).up from rfl,hu]at e;cases e),k.ag,k.wa,k.qu,k.he,k.pe⟩ a _
 | run _ i hi hu q l hp hs =>
  have g:=(h.nd i hi).run hi hp;exact h.set g.1 (app g.2) _
 | teach _ i hi hu hL =>
  have k:=h.nd i hi;refine h.set (p:=Id (M.af i) i 5) (k.tape rfl rfl rfl rfl k.ag k.wa k.qu k.he k.pe) (app ?_) _;have:∀ n,∀ m∈DQ (M.af i) i n,LtS S m:=by
   intro n;induction n with
   | zero=>intro m hm;cases hm
   | succ n ih =>
    intro m hm;rw[DQ]at hm
    rcases P'.1 hm with hm|hm
    .exact ih m hm
    .split at hm
     .rw[N'.1 hm];exact⟨λv o=>(by cases o),λc b=>k.ag c (jS b),λe=>e.elim (λg=>by cases g) λg=>(by cases g)⟩
     .cases hm
  exact this 5
 | lead _ i hi hu _=>exact h.set ((h.nd i hi).lead hu) a _
 | sub _ i d hi hu hd =>
  have k:=h.nd i hi;refine h.set ?_ a _;unfold Nod.mL Nod.mF;split
  .exact k
  .split
   .exact k.tape rfl rfl rfl rfl k.ag k.wa k.qu k.he k.pe
   .rename_i he
    split
    .exact k
    .show NdS S (Nod.want _ _);unfold Nod.want;split
     .exact k
     .exact k.tape rfl rfl rfl rfl k.ag (λc b=>(P'.1 b).elim (k.wa c) λe=>by rw[N'.1 e];exact y i d hd _ (iW.1 he)) k.qu k.he k.pe
 | mg _ i c hi hu b _ =>
  have k:=h.nd i hi;obtain⟨w,E,g,t⟩:=k.up hu;obtain⟨x,_,H,y⟩:=g.mg b;have A:Gg (M.af i).d (M.af i).sy c=0:=by unfold Gg;rw[if_neg (λe=>e g.nU),if_neg (by omega)]
  have B:=Vz (p:=M.af i) g.nU b;refine h.set ⟨λe=>(by rw[B.2.1]at e;cases e),λ_=>⟨x,y,λv o=>t v (H.subset o)⟩,?_,?_,?_,?_,?_⟩ a _<;>(unfold Nod.mg;rw[if_neg (λe=>e A)])
  .exact λc b=>by cases b
  .exact λc b=>by cases b
  .exact λc b=>by cases b
  .exact λj _ v o=>by cases o
  .exact λc b=>by cases b
 | start _ i hi hu _ =>
  obtain⟨w,g,t⟩:=(h.nd i hi).dn hu;have z:Br (M.af i).d (M.af i).sy:=⟨g.len,by rw[g.sy];omega,by rw[g.sy];omega⟩;have u:=XN (p:=M.af i) z;have f:(M.af i).start.bw=eb/\(M.af i).start.bt=[.start]/\(M.af i).start.an=[]:=by
   unfold Nod.start;rw[if_neg (λe=>e (if_pos z))];split<;>exact⟨rfl,rfl,rfl⟩
  refine h.set ⟨λ_=>⟨w,w,g.start,t⟩,λe=>(by rw[u.2.1]at e;cases e),?_,?_,?_,?_,?_⟩ a _
  .rw[u.2.2.2];exact λc b=>by cases b
  .rw[f.2.2];exact λc b=>by cases b
  .rw[f.1];exact λc b=>by cases b
  .rw[f.1];exact λj _ v o=>by cases o
  .rw[f.2.1];exact λq G=>by rw[N'.1 G];trivial
theorem MtS.zero:MtS S CJ:=⟨λi _=>⟨λ_=>⟨[],[],TpU.zero,λv b=>(by cases b)⟩,λe=>(by cases e),λc a=>(by cases a),λc a=>(by cases a),λc a=>(by cases a),λj _ v b=>(by cases b),λc a=>(by cases a)⟩,λl d=>(by cases d)⟩
theorem cC(L:List Lac)(f:∀ x∈L,LacOk x)(n:L.length<=100000)(j:∀ x∈L,x.k=1->∀ now:Nat,opE x.d (now:Int)=0->S (LN x.d (now:Int))):MtS S (CJ.mz L):=by
 have s:Sts ⟨λ_ d=>∃ x∈L,x.k=1/\x.d=d,True,True,True,True,True⟩ L.length CJ (CJ.mz L):=UV L MOk.zero (by omega) λx a=>⟨f x a,λe=>⟨x,a,e,rfl⟩,λ_=>trivial,λ_=>trivial,λ_=>⟨trivial,trivial⟩,λ_=>trivial⟩;exact s.inv (λ_ M N h g=>g.step (λi d l now m=>by obtain⟨x,b,c,rfl⟩:=l;exact j x b c now m) h) MtS.zero
end
end
end
end Go.Proofs.YtdjfdfpkkenjbaaGreatDoor
