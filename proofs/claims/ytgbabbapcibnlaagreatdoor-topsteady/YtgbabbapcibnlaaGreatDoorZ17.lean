/- Part 17 of the walk. -/
import Derived.Test.YtgbabbapcibnlaaGreatDoorZ16
set_option maxRecDepth 100000
set_option maxHeartbeats 4000000
open Go.Proofs.Tryz
set_option linter.unusedVariables false
namespace Go.Proofs.YtgbabbapcibnlaaGreatDoor
section
open Go.RowKit
section
variable{n tc tr tu k c s m v:Int}(h:paE n tc tr tu k c s m v=0)
include h
end
section
variable{G:List Gr}{L:List Lac}{M:Meet}{W w:World}{a:Lac}{b i j off:Nat}{cr:Bool}{g:Gh}{l:List (Lac × S3)}{ly x:S3}{n:Int}{ys:Nat->S3}
theorem Mo{a b d k c s m v:Int}(h:paE n a b d k c s m v=0):(paL n a b d k c s m v).length=63:=by
 rw[ZI h,m7,GB,Iq]
theorem mn(x:S3)(k:Nat)(f:k<=x.c)(d:∃ b off,x.a=some ⟨b,off,none⟩):(Instr.sliceAt 37 x.v none (some (iv (k:Int))) none).run prog W=.ok (S3.v ⟨x.a,k,x.c⟩) W:=by
 obtain⟨b,off,d⟩:=d;obtain⟨h,i,g⟩:=x;simp only at d f;subst d;have e:prog.elem 37=5:=by kernel_rfl
 rw[run_sliceAt_slice _ _ _ _ _ _ fC,run_slice_h (P:=prog) (w:=W) _ _ _ _ fC .i64 k (by omega) (by show(k:Int)<=((g:Nat):Int);omega),e,Iw];simp[Result.andThen,sliced,Addr.add]
theorem FSl.take{l:List Int}(h:FSl g w x l)(k:Nat)(y:k<=l.length):FSl g w ⟨x.a,k,x.c⟩ (l.take k):=by
 have f:=JQ h.s;obtain⟨⟨⟨a,m,j,v,f,d⟩,u,n⟩,o⟩:=h;simp only[Value.slice.injEq]at j;obtain⟨rfl,r,rfl⟩:=j;refine⟨⟨⟨_,_,by simp only[Value.slice.injEq,and_true,true_and,Y'];omega,by rw[Y'];omega,f,?_⟩,by rw[Y'];omega,λz t=>n z (mP t)⟩,λq=>o λe=>q (by rw[e];simp)⟩;rcases d with d|⟨b,off,ha,hbs,hcell⟩
 .exact .inl (by rw[d];simp)
 .refine .inr ⟨b,off,ha,hbs,λi p=>?_⟩;rw[Y']at p
  rw[show(l.take k).getD i 0=l.getD i 0 by simp[List.getD,show i<k by omega]];exact hcell i (by omega)
theorem FSl.addr{l:List Int}(h:FSl g w x l)(j:l≠[]):(∃ b off,x.a=some ⟨b,off,none⟩)/\l.length<=x.c:=by
 obtain⟨⟨⟨a,f,e,i,p,d⟩,m,n⟩,o⟩:=h;simp only[Value.slice.injEq]at e;obtain⟨rfl,k,rfl⟩:=e;rcases d with d|⟨b,off,ha,_⟩
 .exact absurd d j
 .exact⟨⟨b,off,ha⟩,i⟩
theorem Wy{g:Gr}(h:GrOk g)(hT:Tabs w) :
  Calls prog 12 #[.agg #[iv g.k,iv g.a,iv g.b,iv g.c,iv g.d]] w λe w'=>∃ y:S3,e=.returned y.v/\Sl w' y.v (pkB g)/\Nb w.heap.size y (pkB g)/\Bw w w':=by
 have A:(pkP g).length=63:=Mo (ZO g);have r4:=Bf g.c 4 (by omega);refine tIn [] func12 trivial (tR 18 [0,0,0,0,0,0,0] λr _ _=>tC1 11 (λF C=>RM h.b h.c h.d h.a h.d) λ_=>tR 16 [0,0,1,0,1,1,0,2,0,0] λi _ _=>tC1 2 (λF C=>Co h.d 17) λ_=>tR 1 [] λa1 _ _=>KS 56 (λZ X q=>∃ (E G:Int),Z=[(1,pt (r 0) 0),(3,pt (i 0) 0),(4,pt (i 1) 0)]/\X=[⟨(r 0),.cells #[iv g.k,iv g.a,iv g.b,iv g.c,iv g.d] 42,.z,false⟩,⟨(i 0),.cells #[iv (wK g.b),iv (pick g.c 4),iv (pick g.d 6),iv (pick g.a 4),iv (wV g.b g.d)] 53,.z,false⟩,⟨(i 1),.cells #[iv E,iv G,iv 60] 57,.l,false⟩]/\q=[]/\E=pkT g/\G=pkR g) (λJ I=>?_) ?_)
 .refine tR 6 [] λa2 _ _=>?_;by_cases f:pick g.d 17=15
  .refine tI (((pick g.d 17)==15)) true (by simpa using f) (tR 5 [2,0] λa3 _ _=>tD I [true,true,true] ⟨pick g.c 4,0,rfl,rfl,rfl,(if_neg (by omega)).symm,(if_pos f).symm⟩ (λF=>trivial))
  .refine tI (((pick g.d 17)==15)) false (by simpa using f) (tR 5 [] λa4 _ _=>?_);by_cases u:pick g.d 17=16
   .refine tI (((pick g.d 17)==16)) true (by simpa using u) (tR 3 [2] λa5 _ _=>tV 2 (iv (pick g.c 4+1)) (λF C=>(Bg 31 (pick g.c 4) underlying3 (by omega))) (tV 3 (iv ((pick g.c 4+1)%4)) (λF C=>(ah (x:=(.tmp 32)) (y:=(.const (iv 4))) (pick g.c 4+1) 4 underlying3 (by omega) (by omega) (by decide) (by decide))) (tR 4 [2,0] λO _ _=>tD I [true,true,true] ⟨(pick g.c 4+1)%4,7,rfl,rfl,rfl,(if_pos u).symm,(if_neg f).symm⟩ (λF=>trivial))))
   .refine tI (((pick g.d 17)==16)) false (by simpa using u) (tR 2 [] λP _ _=>tD I [true,true,true] ⟨pick g.c 4,7,rfl,rfl,rfl,(if_neg u).symm,(if_neg f).symm⟩ (λF=>trivial))
 rintro _ _ _ ⟨E,G,rfl,rfl,rfl,o,p⟩ _ _ _;refine tR 6 [11,0,2,0,6,2,8,1] λQ _ _=>tC1 2 (λF C=>Co h.a 1000) λ_=>tF λ_ W=>?_;have j:=W.size;have M:=ZO g;rw[<- o,<- p]at M
 have N:pkP g=paL (pick g.a 1000) E G 60 (wK g.b) (pick g.c 4) (pick g.d 6) (pick g.a 4) (wV g.b g.d):=by rw[o,p];rfl
 refine tC 5 (λF C=>er M (tbA hT C)) λY=>?_;rintro _ _ ⟨y,rfl,K,D,H⟩;refine⟨_,Fa.sl y (pkP g)::_,rfl,H,λF=>⟨(by rw[N];exact Pq K D Y),F⟩,?_⟩;rw[<- N]at K D
 have a0:=JQ K;refine tR 11 [12,14,16,18,20,0] λR _ _=>tC1 2 (λF C=>Co h.d 23) λ_=>?_;by_cases f:pick g.d 23=22
 .refine tV 3 (.bool true) (λF C=>(Ft (t:=3) (m:=pick g.d 23) (n:=22) (x:=(.tmp 46)) (y:=(.const (iv 22))) (by simpa using f))) (tR 6 [] λS _ _=>tI ((decide (30<(y.n:Int)))) true (O' (by omega)) (tR 2 [] λT _ _=>tF λF _=>?_));have L:=FSl.addr F.1 (λe=>by rw[e]at A;cases A);refine tV 1 (S3.v ⟨y.a,30,y.c⟩) (λF C=>(mn y 30 (by omega) L.1)) (tR 7 [] λU _ _=>?_);rw[show pkB g=_ from if_pos ⟨f,by omega⟩];exact tE (S3.v ⟨y.a,30,y.c⟩) λF B=>⟨⟨y.a,30,y.c⟩,rfl,(F.1.take 30 (by omega)).s,λ_ a ha=>D.mono j (λe=>by rw[e]at A;cases A) a ha,B⟩
 .refine tV 3 (.bool false) (λF C=>(Ft (t:=3) (m:=pick g.d 23) (n:=22) (x:=(.tmp 46)) (y:=(.const (iv 22))) (by simpa using f))) (tR 13 [] λV _ _=>?_);rw[show pkB g=_ from if_neg (λe=>f e.1)];exact tE (S3.v y) λF B=>⟨y,rfl,F.1.s,D.mono j,B⟩
theorem gE{g:Gr}(h:GrOk g)(hT:Tabs w){x:Lac}(i:Pf g cr=x) :
  Calls prog 9 #[.agg #[iv g.k,iv g.a,iv g.b,iv g.c,iv g.d],.bool cr] w λe w'=>∃ y:S3,e=.returned (.agg #[iv x.k,iv x.n,iv x.a,iv x.p,y.v])/\Sl w' y.v x.d/\Nb w.heap.size y x.d/\Bw w w':=by
 refine tIn [] func9 trivial (tR 9 [0,0,1,0,0] λj _ _=>tC1 2 (λF C=>Co h.a 5) λ_=>tR 7 [0] λa0 _ _=>tC1 2 (λF C=>Co h.k 24) λ_=>?_);unfold Pf at i;refine tR 9 [] λa1 _ _=>?_;by_cases f:pick g.k 24<3
 .refine tI ((decide ((pick g.k 24)<3))) true (by simpa using f) ?_;rw[if_pos f]at i
  refine tR 4 [0] λa2 _ _=>tF λ_ Cs=>?_;have o:=Cs.size;refine tC 2 (λF C=>Wy h (tbA hT C)) λNz=>?_;rintro _ _ ⟨y,rfl,hy,q,b8⟩;refine⟨_,Fa.sl y (pkB g)::_,rfl,b8,λF=>⟨Pq hy q Nz,F⟩,?_⟩;refine tR 3 [1,0] λa3 _ _=>?_;subst i;exact tX λF C=>qE1 4 39 1 (j 1) #[iv 1,iv (pick g.a 5),iv 0,iv 0,S3.v y] λ_=>⟨y,rfl,F.1.s,q.mono o,CgQ.af C⟩
 .refine tI ((decide ((pick g.k 24)<3))) false (by simpa using f) ?_;rw[if_neg f]at i
  refine tR 6 [] λr _ _=>?_;by_cases f:pick g.k 24<5
  .refine tI ((decide ((pick g.k 24)<5))) true (by simpa using f) ?_;rw[if_pos f]at i
   refine tR 6 [1,0] λu _ _=>?_;subst i;exact tX λF C=>qE1 4 39 1 (j 1) #[iv 2,iv (pick g.a 5),iv 0,iv 0,S3.v s30] λ_=>⟨s30,rfl,E9 _,λe=>absurd rfl e,CgQ.af C⟩
  .refine tI ((decide ((pick g.k 24)<5))) false (by simpa using f) ?_;rw[if_neg f]at i
   refine tR 6 [] λz _ _=>?_;by_cases f:pick g.k 24<14
   .refine tI ((decide ((pick g.k 24)<14))) true (by simpa using f) ?_;rw[if_pos f]at i
    refine tR 6 [1,0] λA _ _=>?_;subst i;exact tX λF C=>qE1 4 39 1 (j 1) #[iv 3,iv (pick g.a 5),iv 0,iv 0,S3.v s30] λ_=>⟨s30,rfl,E9 _,λe=>absurd rfl e,CgQ.af C⟩
   .refine tI ((decide ((pick g.k 24)<14))) false (by simpa using f) ?_;rw[if_neg f]at i
    refine tR 6 [] λB _ _=>?_;by_cases f:pick g.k 24=14
    .refine tI (((pick g.k 24)==14)) true (by simpa using f) ?_;rw[if_pos f]at i
     refine tR 4 [0] λD _ _=>tC1 2 (λF C=>Co h.c 20) λ_=>tR 3 [1,0] λE _ _=>?_;subst i;exact tX λF C=>qE1 4 39 1 (j 1) #[iv 4,iv 0,iv (pick g.c 20),iv 0,S3.v s30] λ_=>⟨s30,rfl,E9 _,λe=>absurd rfl e,CgQ.af C⟩
    .refine tI (((pick g.k 24)==14)) false (by simpa using f) ?_;rw[if_neg f]at i
     refine tR 6 [] λG _ _=>?_;by_cases f:pick g.k 24=15
     .refine tI (((pick g.k 24)==15)) true (by simpa using f) ?_;rw[if_pos f]at i
      refine tR 4 [0] λH _ _=>tC1 2 (λF C=>Co h.c 20) λ_=>tR 3 [1,0] λI _ _=>?_;subst i;exact tX λF C=>qE1 4 39 1 (j 1) #[iv 5,iv 0,iv (pick g.c 20),iv 0,S3.v s30] λ_=>⟨s30,rfl,E9 _,λe=>absurd rfl e,CgQ.af C⟩
     .refine tI (((pick g.k 24)==15)) false (by simpa using f) ?_;rw[if_neg f]at i
      refine tR 6 [] λJ _ _=>?_;by_cases f:pick g.k 24=16
      .refine tI (((pick g.k 24)==16)) true (by simpa using f) ?_;rw[if_pos f]at i
       refine tR 4 [0] λK _ _=>tC1 2 (λF C=>Co h.c 20) λ_=>tR 3 [1,0] λL _ _=>?_;subst i;exact tX λF C=>qE1 4 39 1 (j 1) #[iv 6,iv 0,iv (pick g.c 20),iv 0,S3.v s30] λ_=>⟨s30,rfl,E9 _,λe=>absurd rfl e,CgQ.af C⟩
      .refine tI (((pick g.k 24)==16)) false (by simpa using f) ?_;rw[if_neg f]at i
       refine tR 3 [] λM _ _=>?_;by_cases f:pick g.k 24=17
       .refine tV 1 (.bool true) (λF C=>(Ft (t:=3) (m:=pick g.k 24) (n:=17) (x:=(.tmp 52)) (y:=(.const (iv 17))) (by simpa using f))) (tR 5 [] λN _ _=>?_);by_cases l:cr=true
        .refine tI (cr) true l ?_;rw[if_pos ⟨f,l⟩]at i
         refine tR 5 [0] λO _ _=>tC1 3 (λF C=>Co h.c 90) λ_=>tR 3 [1,0] λP _ _=>?_;subst i;exact tX λF C=>qE1 4 39 1 (j 1) #[iv 8,iv (pick g.a 5),iv 0,iv (pick g.c 90),S3.v s30] λ_=>⟨s30,rfl,E9 _,λe=>absurd rfl e,CgQ.af C⟩
        .refine tI (cr) false (by simpa using l) ?_;rw[if_neg (λe=>l e.2)]at i
         refine tR 3 [] λQ _ _=>?_;by_cases f:pick g.k 24=18
         .refine tV 1 (.bool true) (λF C=>(Ft (t:=3) (m:=pick g.k 24) (n:=18) (x:=(.tmp 63)) (y:=(.const (iv 18))) (by simpa using f))) (tR 5 [] λR _ _=>?_);by_cases l:cr=true
          .refine tI (cr) true l ?_;rw[if_pos ⟨f,l⟩]at i
           refine tR 6 [1,0] λS _ _=>?_;subst i;exact tX λF C=>qE1 4 39 1 (j 1) #[iv 9,iv (pick g.a 5),iv 0,iv 0,S3.v s30] λ_=>⟨s30,rfl,E9 _,λe=>absurd rfl e,CgQ.af C⟩
          .refine tI (cr) false (by simpa using l) ?_;rw[if_neg (λe=>l e.2)]at i
           refine tR 7 [1,0] λT _ _=>?_;subst i;exact tX λF C=>qE1 4 39 1 (j 1) #[iv 7,iv 0,iv 0,iv 0,S3.v s30] λ_=>⟨s30,rfl,E9 _,λe=>absurd rfl e,CgQ.af C⟩
         .refine tV 1 (.bool false) (λF C=>(Ft (t:=3) (m:=pick g.k 24) (n:=18) (x:=(.tmp 63)) (y:=(.const (iv 18))) (by simpa using f))) ?_;rw[if_neg (λe=>f e.1)]at i
          refine tR 13 [1,0] λU _ _=>?_;subst i;exact tX λF C=>qE1 4 39 1 (j 1) #[iv 7,iv 0,iv 0,iv 0,S3.v s30] λ_=>⟨s30,rfl,E9 _,λe=>absurd rfl e,CgQ.af C⟩
       .refine tV 1 (.bool false) (λF C=>(Ft (t:=3) (m:=pick g.k 24) (n:=17) (x:=(.tmp 52)) (y:=(.const (iv 17))) (by simpa using f))) ?_;rw[if_neg (λe=>f e.1)]at i
        refine tR 9 [] λV _ _=>?_;by_cases f:pick g.k 24=18
        .refine tV 1 (.bool true) (λF C=>(Ft (t:=3) (m:=pick g.k 24) (n:=18) (x:=(.tmp 63)) (y:=(.const (iv 18))) (by simpa using f))) (tR 5 [] λW _ _=>?_);by_cases l:cr=true
         .refine tI (cr) true l ?_;rw[if_pos ⟨f,l⟩]at i
          refine tR 6 [1,0] λX _ _=>?_;subst i;exact tX λF C=>qE1 4 39 1 (j 1) #[iv 9,iv (pick g.a 5),iv 0,iv 0,S3.v s30] λ_=>⟨s30,rfl,E9 _,λe=>absurd rfl e,CgQ.af C⟩
         .refine tI (cr) false (by simpa using l) ?_;rw[if_neg (λe=>l e.2)]at i
          refine tR 7 [1,0] λY _ _=>?_;subst i;exact tX λF C=>qE1 4 39 1 (j 1) #[iv 7,iv 0,iv 0,iv 0,S3.v s30] λ_=>⟨s30,rfl,E9 _,λe=>absurd rfl e,CgQ.af C⟩
        .refine tV 1 (.bool false) (λF C=>(Ft (t:=3) (m:=pick g.k 24) (n:=18) (x:=(.tmp 63)) (y:=(.const (iv 18))) (by simpa using f))) ?_;rw[if_neg (λe=>f e.1)]at i
         refine tR 13 [1,0] λZ _ _=>?_;subst i;exact tX λF C=>qE1 4 39 1 (j 1) #[iv 7,iv 0,iv 0,iv 0,S3.v s30] λ_=>⟨s30,rfl,E9 _,λe=>absurd rfl e,CgQ.af C⟩
theorem mg{k:Nat}(g:Gr)(h:∀ j u,(grV g)[j]?=some u->W.cell? ⟨b,k+j,none⟩=some u):(Instr.loadAt 42 (pt b k)).run prog W=.ok (.agg #[iv g.k,iv g.a,iv g.b,iv g.c,iv g.d]) W:=by
 have e:=run_loadVar_mid (P:=prog) W b k 42 (grV g) _ h underlying42 rfl (by kernel_rfl);simp only[Instr.loadAt,Instr.sureAddr,Sem.run_bind,Sem.run_pure,Result.andThen_ok];exact e
theorem kH(c:x.a=some ⟨b,off,none⟩)(j:Nat)(d:j<x.n):(Instr.indexAt 22 x.v (iv (j:Int))).run prog W=.ok (pt b (off+5*j)) W:=by
 obtain⟨f,h,g⟩:=x;simp only at c d;subst c;exact NG (P:=prog) (e:=42) (z:=5) underlying22 (by kernel_rfl) (by kernel_rfl) d _ rfl
theorem kg{l:S3}{g:Gr}(h:RdV w l 5 (grL G))(m:l.a=some ⟨b,off,none⟩)(d:G[i]?=some g){j:Nat}{u:Value}(o:(grV g)[j]?=some u):w.cell? ⟨b,off+5*i+j,none⟩=some u:=by
 have p:l.n=G.length:=by have:=h.len;rw[show(grL G).length=G.length*5 from Fk (f:=grV) (λ_=>rfl) G]at this;omega
 obtain⟨q,e,c,_,k⟩:=h.spot (i:=i) (by rw[p];exact(V'.1 d).1);rw[m]at c
 cases c;exact k j u (Lh (f:=grV) (λ_=>rfl) G d o)
theorem WQ{l:S3}{most:Nat}(h:RdV w l 5 (grL G))(hG:∀ g∈G,GrOk g)(hm:most<=100)(hT:Tabs w) :
  Calls prog 5 #[l.v,iv (most:Int),.bool cr] w λe w'=>∃ (y:S3) (P:List (Lac × S3)),e=.returned y.v/\P.map (·.1)=scr G most cr/\AcN w.heap.size w' y P/\Bw w w':=by
 have a9:l.n=G.length:=by have:=h.len;rw[show(grL G).length=G.length*5 from Fk (f:=grV) (λ_=>rfl) G]at this;omega
 refine tIn [Fa.zv l 5 (grL G)] func5 ⟨h.fz,trivial⟩ (tR 18 [] λb5 _ _=>EN 41 [(0,S3.v l),(1,iv (most:Int)),(2,.bool cr),(7,sn),(8,iv 0),(9,iv 0)] [] [] [Fa.zv l 5 (grL G),Fa.oa 0 s30 []] (λkk ee LL M=>∃ (i s:Nat) (y:S3) (P:List (Lac × S3)),kk=min G.length most-i/\ee=[(0,S3.v l),(1,iv (most:Int)),(2,.bool cr),(7,S3.v y),(8,iv (s:Int)),(9,iv (i:Int))]/\LL=[]/\M=[Fa.zv l 5 (grL G),Fa.oa 0 y P]/\i<=min G.length most/\y.n=i/\s<=i/\scr G most cr=P.map (·.1)++MD cr s ((G.take most).drop i)/\(∀ p∈P,Nb w.heap.size p.2 p.1.d)) (min G.length most) ⟨0,0,s30,[],rfl,rfl,rfl,rfl,by omega,rfl,by omega,rfl,λp q=>by cases q⟩ (λF=>⟨F.1,⟨OwnS.nil _ _ _ _ _ _,λp q=>by cases q⟩,trivial⟩) ?_);rintro k _ _ _ ⟨i,s,y,P,rfl,rfl,rfl,rfl,R,b1,b0,o,E⟩ _ _ _ J N;refine tR 6 [] λb6 _ _=>?_;by_cases h1:i<G.length
 .refine tV 3 (.bool true) (λF C=>(rLt (t:=3) (m:=(i:Int)) (n:=(l.n:Int)) (x:=(.tmp 11)) (y:=(.tmp 13)) (O' (by omega)))) (tR 6 [] λb7 _ _=>?_);by_cases h2:i<most
  .refine tI ((decide ((i:Int)<(most:Int)))) true (O' (by omega)) ?_;have R:i<(G.take most).length:=by rw[Y'];omega
   obtain⟨g,O⟩:∃ g,(G.take most)[i]?=some g:=⟨_,G' R⟩;have H:G[i]?=some g:=by rw[nJ,if_pos h2]at O;exact O
   have Q:=hG g (m8 H);rw[nB R,show(G.take most)[i]=g from(V'.1 O).2,MD]at o
   refine tF λF _=>?_;obtain⟨b,T,I,_,a8⟩:=F.1.rd.spot (i:=i) (by omega);refine tR 7 [] λb9 _ _=>tV 2 (pt b (T+5*i)) (λF C=>(kH I i (by omega))) (tV 3 (.agg #[iv g.k,iv g.a,iv g.b,iv g.c,iv g.d]) (λF C=>(mg g λj u hj=>kg F.1.rd I H hj)) (tR 1 [] λc0 _ _=>?_));obtain⟨x,X⟩:∃ x,Pf g cr=x:=⟨_,rfl⟩;refine tF λ_ Cs=>?_;have L:=Cs.size;refine tC 5 (λF C=>gE Q (tbA hT C) X) λNz=>?_;rintro _ _ ⟨d,rfl,hd,S,b8⟩;refine⟨_,Fa.sl d x.d::_,rfl,b8,λF=>⟨Pq hd S Nz,F⟩,?_⟩;rw[X]at o
   refine tR 10 [1,0,0,0,0] λc1 _ _=>?_;by_cases D:x.k=1
   .refine tI ((x.k==1)) true (by simpa using D) (tR 3 [] λY _ _=>tV 1 (iv ((s:Int)+1)) (λF C=>(Bg 31 (s:Int) underlying3 (by omega))) (tR 7 [] λZ _ _=>?_));rw[show eV s x=s+1 from if_pos D]at o
    by_cases h4:6<s+1
    .refine tI ((decide (6<((s:Int)+1)))) true (O' (by omega)) ?_;rw[show WP s x=acN 7 0 from if_pos ⟨D,by omega⟩]at o
     refine tR 8 [0,0,0,0,0] λr _ _=>PF 3 0 (x:=y) 23 23 39 5 56 zLa ⟨(r 0),0,none⟩ 1 1 [iv 7,iv 0,iv 0,iv 0,sn] (λF=>F.2.2.1.1) [Fa.zv l 5 (grL G),Fa.dt (P++[(acN 7 0,s30)])] (λF=>⟨F.2.1,Dat.snoc F.2.2.1.2 (VL _ _),trivial⟩) rfl (by simp[TQ]) rfl (by simp[Value.oneCell']) (λF K=>C1 K 1 (r 0) [iv 7,iv 0,iv 0,iv 0,sn] 39 .z true (by kernel_rfl)) (by unfold maxLen;omega) (by omega) λU _ _ b2=>tR 5 [] λa0 _ _=>tV 1 (iv ((i:Int)+1)) (λF C=>(Bg 20 (i:Int) underlying3 (by omega))) (tR 2 [] λa1 _ _=>tB N (min G.length most-(i+1)) (by omega) [false,false] ⟨i+1,(s+1),U,P++[(acN 7 0,s30)],rfl,rfl,rfl,rfl,by omega,by omega,by omega,(by rw[o,mX,mC];rfl),λp q=>(U'.1 q).elim (E p) λe=>by rw[D'.1 e];exact λe=>absurd rfl e⟩ (λF=>⟨F.2.1,⟨(by rw[Ej];exact F.1),F.2.2.1⟩,trivial⟩))
    .refine tI ((decide (6<((s:Int)+1)))) false (E' (by omega)) ?_;rw[show WP s x=x from if_neg (λe=>h4 (by omega))]at o
     refine tR 5 [0,0,0] λA _ _=>PF 3 0 (x:=y) 23 23 39 5 56 zLa ⟨(A 0),0,none⟩ 1 1 [iv x.k,iv x.n,iv x.a,iv x.p,S3.v d] (λF=>F.2.2.1.1) [Fa.zv l 5 (grL G),Fa.dt (P++[(x,d)])] (λF=>⟨F.2.1,Dat.snoc F.2.2.1.2 (F.1),trivial⟩) rfl (by simp[TQ]) rfl (by simp[Value.oneCell']) (λF K=>C1 K 1 (A 0) [iv x.k,iv x.n,iv x.a,iv x.p,S3.v d] 39 .z true (by kernel_rfl)) (by unfold maxLen;omega) (by omega) λV _ _ b3=>tR 5 [] λa2 _ _=>tV 1 (iv ((i:Int)+1)) (λF C=>(Bg 20 (i:Int) underlying3 (by omega))) (tR 2 [] λa3 _ _=>tB N (min G.length most-(i+1)) (by omega) [false,false] ⟨i+1,(s+1),V,P++[(x,d)],rfl,rfl,rfl,rfl,by omega,by omega,by omega,(by rw[o,mX,mC];rfl),λp q=>(U'.1 q).elim (E p) λe=>by rw[D'.1 e];exact S.mono L⟩ (λF=>⟨F.2.1,⟨(by rw[Ej];exact F.1),F.2.2.1⟩,trivial⟩))
   .refine tI ((x.k==1)) false (by simpa using D) ?_;rw[show eV s x=s from if_neg D,show WP s x=x from if_neg (λe=>D e.1)]at o
    refine tR 5 [0,0,0] λB _ _=>PF 3 0 (x:=y) 23 23 39 5 56 zLa ⟨(B 0),0,none⟩ 1 1 [iv x.k,iv x.n,iv x.a,iv x.p,S3.v d] (λF=>F.2.2.1.1) [Fa.zv l 5 (grL G),Fa.dt (P++[(x,d)])] (λF=>⟨F.2.1,Dat.snoc F.2.2.1.2 (F.1),trivial⟩) rfl (by simp[TQ]) rfl (by simp[Value.oneCell']) (λF K=>C1 K 1 (B 0) [iv x.k,iv x.n,iv x.a,iv x.p,S3.v d] 39 .z true (by kernel_rfl)) (by unfold maxLen;omega) (by omega) λW _ _ b4=>tR 5 [] λa4 _ _=>tV 1 (iv ((i:Int)+1)) (λF C=>(Bg 20 (i:Int) underlying3 (by omega))) (tR 2 [] λa5 _ _=>tB N (min G.length most-(i+1)) (by omega) [false,false] ⟨i+1,s,W,P++[(x,d)],rfl,rfl,rfl,rfl,by omega,by omega,by omega,(by rw[o,mX,mC];rfl),λp q=>(U'.1 q).elim (E p) λe=>by rw[D'.1 e];exact S.mono L⟩ (λF=>⟨F.2.1,⟨(by rw[Ej];exact F.1),F.2.2.1⟩,trivial⟩))
  .refine tI ((decide ((i:Int)<(most:Int)))) false (E' (by omega)) (tR 6 [] λa6 _ _=>?_);rw[nA (by rw[Y'];omega),MD,mV]at o
   exact tX λF C=>qE (S3.v y) λ_=>⟨y,P,rfl,o.symm,AcN.of F.2.1 C E,CgQ.af C⟩
 .refine tV 3 (.bool false) (λF C=>(rLt (t:=3) (m:=(i:Int)) (n:=(l.n:Int)) (x:=(.tmp 11)) (y:=(.tmp 13)) (E' (by omega)))) (tR 13 [] λa7 _ _=>?_);rw[nA (by rw[Y'];omega),MD,mV]at o
  exact tX λF C=>qE (S3.v y) λ_=>⟨y,P,rfl,o.symm,AcN.of F.2.1 C E,CgQ.af C⟩
def rnP(l:List Lac):List (Lac × S3):=l.map λa=>(a,s30)
theorem UY(l:List Lac):(rnP l).map (·.1)=l:=by simp[rnP,Function.comp_def]
theorem Lm(g:Gh)(w:World){l:List Lac}(h:∀ a∈l,a.d=[]):Dat g w (rnP l):=by
 intro p c;obtain⟨a,b,rfl⟩:=mS.1 c;show FSl g w s30 a.d;rw[h a b];exact VL g w
theorem Je(l:List Lac)(a:Lac):rnP (l++[a])=rnP l++[(a,s30)]:=by simp[rnP]
theorem UX(l m:List Lac):rnP (l++m)=rnP l++rnP m:=by simp[rnP]
theorem Ln(l:List Lac):(rnP l).length=l.length:=by simp[rnP]
theorem Ii(m:Nat):(Al m).length=6*m:=by
 induction m with
 | zero=>rfl
 | succ m ih=>rw[Al,H',ih];show _+6=_;omega
def AC(k:Int)(j:Nat):List Lac:=(List.range j).map λn:Nat=>acN k (n:Int)
theorem BX(k:Int)(j:Nat):AC k (j+1)=AC k j++[acN k (j:Int)]:=by simp[AC,List.range_succ]
theorem YX(k:Int)(j:Nat):(AC k j).length=j:=by simp[AC]
theorem JK{many:Nat}(h:RdV w x 5 (acV l))(P:∀ p∈l,Sl w p.2.v p.1.d)(hm:l.length+6*many<=1000000) :
  Calls prog 8 #[x.v,iv (many:Int)] w λe w'=>∃ y:S3,e=.returned y.v/\OwN w.heap.size w' 39 5 y (acV (l++rnP (BY many)))/\Bw w w':=by
 have t:x.n=l.length:=by have:=h.len;rw[Lb]at this;omega
 refine tIn [Fa.ac x l] func8 ⟨⟨h.fz,λp R=>⟨P p R,λ_ _ _=>rfl⟩⟩,trivial⟩ (tR 7 [] λV _ _=>gu 1 0 x (acV l) 23 23 39 5 56 zLa (λF=>F.1.1.rd) [Fa.dt l] (λF=>⟨F.1.2,trivial⟩) rfl (by simp[TQ]) (Ul l) (by rw[t];unfold maxLen;omega) (by omega) λu _ _ n0=>tR 8 [] λW _ _=>EN 39 [(1,iv (many:Int)),(5,S3.v u),(6,iv 0)] [] [] [Fa.oa 0 u (l++rnP (AC 9 0))] (λo g f a=>∃ (j:Nat) (y:S3),o=5-j/\g=[(1,iv (many:Int)),(5,S3.v y),(6,iv (j:Int))]/\f=[]/\a=[Fa.oa 0 y (l++rnP (AC 9 j))]/\j<=5/\y.n=l.length+j) (5) ⟨0,u,rfl,rfl,rfl,rfl,by omega,by omega⟩ (λF=>⟨by rw[show rnP (AC 9 0)=[]from rfl,mV];exact⟨F.1,F.2.1⟩,trivial⟩) ?_);rintro k _ _ _ ⟨j,y,rfl,rfl,rfl,rfl,Q,m⟩ _ _ _ J O;refine tR 6 [] λX _ _=>?_;by_cases h1:j<5
 .refine tI ((decide ((j:Int)<5))) true (O' (by omega)) (tR 8 [0,0] λq _ _=>PF 4 0 (x:=y) 23 23 39 5 56 zLa ⟨(q 0),0,none⟩ 1 1 [iv 9,iv (j:Int),iv 0,iv 0,sn] (λF=>F.1.1) [Fa.dt ((l++rnP (AC 9 j))++[(acN 9 (j:Int),s30)])] (λF=>⟨Dat.snoc F.1.2 (VL _ _),trivial⟩) rfl (by simp[TQ]) rfl (by simp[Value.oneCell']) (λF K=>C1 K 0 (q 0) [iv 9,iv (j:Int),iv 0,iv 0,sn] 39 .z true (by kernel_rfl)) (by unfold maxLen;omega) (by omega) λU _ _ n6=>tR 5 [] λY _ _=>tV 1 (iv ((j:Int)+1)) (λF C=>(Bg 13 (j:Int) underlying3 (by omega))) (tR 2 [] λZ _ _=>tB O (5-(j+1)) (by omega) [false] ⟨j+1,U,rfl,rfl,rfl,rfl,by omega,by omega⟩ (λF=>by rw[BX,Je,<- mC];exact⟨⟨(by rw[Ej];exact F.1),F.2.1⟩,trivial⟩)))
 .refine tI ((decide ((j:Int)<5))) false (E' (by omega)) ?_;obtain rfl:j=5:=by omega
  refine tR 7 [] λa0 _ _=>EN 39 [(1,iv (many:Int)),(5,S3.v y),(7,iv 0)] [] [] [Fa.oa 0 y (l++rnP (Aw++Al 0))] (λo g f a=>∃ (i:Nat) (y:S3),o=many-i/\g=[(1,iv (many:Int)),(5,S3.v y),(7,iv (i:Int))]/\f=[]/\a=[Fa.oa 0 y (l++rnP (Aw++Al i))]/\i<=many/\y.n=l.length+(5+6*i)) (many) ⟨0,y,rfl,rfl,rfl,rfl,by omega,by omega⟩ (λF=>⟨F.1,trivial⟩) ?_;rintro k _ _ _ ⟨i,y,rfl,rfl,rfl,rfl,hi,m⟩ _ _ _ Jb r;refine tR 7 [] λD _ _=>?_;by_cases h2:i<many
  .refine tI ((decide ((i:Int)<(many:Int)))) true (O' (by omega)) (tR 9 [] λE _ _=>EN 39 [(1,iv (many:Int)),(5,S3.v y),(7,iv (i:Int)),(8,iv 0)] [] [] [Fa.oa 0 y (l++rnP (Aw++Al i++AC 3 0))] (λo g f a=>∃ (j:Nat) (y:S3),o=5-j/\g=[(1,iv (many:Int)),(5,S3.v y),(7,iv (i:Int)),(8,iv (j:Int))]/\f=[]/\a=[Fa.oa 0 y (l++rnP (Aw++Al i++AC 3 j))]/\j<=5/\y.n=l.length+(5+6*i+j)) (5) ⟨0,y,rfl,rfl,rfl,rfl,by omega,by omega⟩ (λF=>⟨by rw[show AC 3 0=[]from rfl,mV];exact F.1,trivial⟩) ?_);rintro k _ _ _ ⟨j,y,rfl,rfl,rfl,rfl,Q,m⟩ _ _ _ Jc s;refine tR 6 [] λG _ _=>?_;by_cases h3:j<5
   .refine tI ((decide ((j:Int)<5))) true (O' (by omega)) (tR 8 [0,0] λb _ _=>PF 4 0 (x:=y) 23 23 39 5 56 zLa ⟨(b 0),0,none⟩ 1 1 [iv 3,iv (j:Int),iv 0,iv 0,sn] (λF=>F.1.1) [Fa.dt ((l++rnP (Aw++Al i++AC 3 j))++[(acN 3 (j:Int),s30)])] (λF=>⟨Dat.snoc F.1.2 (VL _ _),trivial⟩) rfl (by simp[TQ]) rfl (by simp[Value.oneCell']) (λF K=>C1 K 0 (b 0) [iv 3,iv (j:Int),iv 0,iv 0,sn] 39 .z true (by kernel_rfl)) (by unfold maxLen;omega) (by omega) λA _ _ S=>tR 5 [] λH _ _=>tV 1 (iv ((j:Int)+1)) (λF C=>(Bg 27 (j:Int) underlying3 (by omega))) (tR 2 [] λI _ _=>tB s (5-(j+1)) (by omega) [false] ⟨j+1,A,rfl,rfl,rfl,rfl,by omega,by omega⟩ (λF=>by rw[BX,<- mC (Aw++Al i),Je,<- mC l];exact⟨⟨(by rw[Ej];exact F.1),F.2.1⟩,trivial⟩)))
   .refine tI ((decide ((j:Int)<5))) false (E' (by omega)) ?_;obtain rfl:j=5:=by omega
    refine tR 5 [0,0] λc _ _=>PF 3 0 (x:=y) 23 23 39 5 56 zLa ⟨(c 0),0,none⟩ 1 1 [iv 7,iv 0,iv 0,iv 0,sn] (λF=>F.1.1) [Fa.dt ((l++rnP (Aw++Al i++AC 3 5))++[(acN 7 0,s30)])] (λF=>⟨Dat.snoc F.1.2 (VL _ _),trivial⟩) rfl (by simp[TQ]) rfl (by simp[Value.oneCell']) (λF K=>C1 K 0 (c 0) [iv 7,iv 0,iv 0,iv 0,sn] 39 .z true (by kernel_rfl)) (by unfold maxLen;omega) (by omega) λB _ _ T=>tR 5 [] λL _ _=>tV 1 (iv ((i:Int)+1)) (λF C=>(Bg 23 (i:Int) underlying3 (by omega))) (tR 2 [] λM _ _=>tB r (many-(i+1)) (by omega) [false] ⟨i+1,B,rfl,rfl,rfl,rfl,by omega,by omega⟩ (λF=>by rw[show Aw++Al (i+1)=Aw++Al i++AC 3 5++[acN 7 0]by rw[Al,<- mC,mC _ (AC 3 5)];rfl,Je,<- mC l];exact⟨⟨(by rw[Ej];exact F.1),F.2.1⟩,trivial⟩))
  .refine tI ((decide ((i:Int)<(many:Int)))) false (E' (by omega)) ?_;obtain rfl:i=many:=by omega
   refine tR 6 [] λN _ _=>tX λF C=>qE (S3.v y) λ_=>⟨y,rfl,F.1.1.own C,CgQ.af C⟩
theorem YW(k:Int)(j:Nat):∀ a∈AC k j,a.d=[]:=by
 intro a b;obtain⟨n,_,rfl⟩:=mS.1 b;rfl
theorem Y1(m:Nat):∀ a∈Al m,a.d=[]:=by
 induction m with
 | zero=>intro a b;cases b
 | succ m ih =>
  intro a b;rcases U'.1 b with h|h
  .exact ih a h
  .rcases U'.1 h with h|h
   .exact YW 3 5 a h
   .rw[D'.1 h];rfl
theorem TF(m:Nat):∀ a∈BY m,a.d=[]:=by
 intro a b;rcases U'.1 b with h|h
 .exact YW 9 5 a h
 .exact Y1 m a h
theorem Fu(m:Nat):(BY m).length=5+6*m:=by unfold BY;rw[H',Ii];rfl
theorem lS(h:AcR w x L l)(g:x.a=some ⟨b,off,none⟩)(f:L[i]?=some a):w.cell? ⟨b,off+5*i,none⟩=some (iv a.k):=by
 obtain⟨j,d,y,c,e,_,_⟩:=h.spot f;rw[g]at c
 cases c;exact e 0 _ rfl
theorem Wk(h:L[i]?=some a):Fp (L.take (i+1))=if hvy a then Fp (L.take i)+20 else Fp (L.take i):=by
 unfold Fp;rw[pm,h,oq];cases hh:hvy a<;>simp[hh];omega
theorem UK(L:List Lac):Fp L<=100+20*L.length:=by
 unfold Fp;have:=pi hvy L;omega
theorem YG(m:Nat)(n:Int):(Cz m n).length=11+6*m:=by unfold Cz;rw[H',H',Fu,Fu,nE];omega
theorem TL(h:AcR w x L l)(hm:L.length<=2000) :
  Calls prog 4 #[x.v,iv n] w λe w'=>∃ y:S3,e=.returned y.v/\OwN w.heap.size w' 39 5 y (acV (l++rnP (Iu L n)))/\Bw w w':=by
 have U:x.n=L.length:=h.n;have c4:l.length=L.length:=by rw[<- h.e,mR]
 refine tIn [Fa.ac x l] func4 ⟨⟨h.r.fz,λp hp=>⟨h.d p hp,λ_ _ _=>rfl⟩⟩,trivial⟩ (tR 14 [] λc6 _ _=>EN 44 [(0,S3.v x),(1,iv n),(5,iv 100),(6,iv 0)] [] [] [Fa.ac x l] (λV D B f=>∃ (i m:Nat),V=L.length-i/\D=[(0,S3.v x),(1,iv n),(5,iv (m:Int)),(6,iv (i:Int))]/\B=[]/\f=[Fa.ac x l]/\i<=L.length/\m=Fp (L.take i)) (L.length) ⟨0,100,rfl,rfl,rfl,rfl,by omega,rfl⟩ (λF=>⟨F.1,trivial⟩) ?_);rintro k _ _ _ ⟨i,m,rfl,rfl,rfl,rfl,hi,g⟩ _ _ _ J o;refine tR 8 [] λc7 _ _=>?_;by_cases h1:i<L.length
 .refine tI ((decide ((i:Int)<(x.n:Int)))) true (O' (by omega)) ?_;have s:=UK (L.take i);rw[<- g,Y']at s
  obtain⟨a,S⟩:∃ a,L[i]?=some a:=⟨_,G' (by omega)⟩;refine tF λF _=>?_;obtain⟨b,W,yd,I,_,_,hin⟩:=(AcR.of F.1 h.e).spot S;refine tR 7 [] λc8 _ _=>tV 2 (pt b (W+5*i)) (λF C=>(ZW (c:=x.c) I i hin)) (tR 1 [] λc9 _ _=>tV 4 (iv a.k) (λF C=>(Dc underlying3 rfl (lS (AcR.of F.1 h.e) I S))) (tR 1 [] λd0 _ _=>KS 44 (λD B f=>∃ (N:Nat),D=[(0,S3.v x),(1,iv n),(5,iv (N:Int)),(6,iv (i:Int))]/\B=[]/\f=[Fa.ac x l]/\N=(if hvy a then m+20 else m)) (λJ o=>?_) ?_))
  .refine tR 7 [] λd1 _ _=>?_;by_cases A:a.k=1
   .refine tI ((a.k==1)) true (by simpa using A) (tR 1 [] λd2 _ _=>tI ((a.k==1)) true (by simpa using A) (tR 2 [] λd3 _ _=>tV 1 (iv ((m:Int)+20)) (λF C=>(Mw (x:=(.tmp 25)) (y:=(.const (iv 20))) (m:Int) 20 underlying3 (by omega))) (tR 3 [] λd4 _ _=>tD o [] ⟨m+20,rfl,rfl,rfl,(if_pos (by simp[hvy,A])).symm⟩ (λF=>⟨F.1,trivial⟩))))
   .refine tI ((a.k==1)) false (by simpa using A) (tR 5 [] λa1 _ _=>?_);by_cases E:a.k=2
    .refine tI ((a.k==2)) true (by simpa using E) (tR 1 [] λa2 _ _=>tI ((a.k==2)) true (by simpa using E) (tR 2 [] λa3 _ _=>tV 1 (iv ((m:Int)+20)) (λF C=>(Mw (x:=(.tmp 25)) (y:=(.const (iv 20))) (m:Int) 20 underlying3 (by omega))) (tR 3 [] λa4 _ _=>tD o [] ⟨m+20,rfl,rfl,rfl,(if_pos (by simp[hvy,E])).symm⟩ (λF=>⟨F.1,trivial⟩))))
    .refine tI ((a.k==2)) false (by simpa using E) (tR 5 [] λa5 _ _=>?_);by_cases G:a.k=6
     .refine tI ((a.k==6)) true (by simpa using G) (tR 1 [] λa6 _ _=>tI ((a.k==6)) true (by simpa using G) (tR 2 [] λa7 _ _=>tV 1 (iv ((m:Int)+20)) (λF C=>(Mw (x:=(.tmp 25)) (y:=(.const (iv 20))) (m:Int) 20 underlying3 (by omega))) (tR 3 [] λa8 _ _=>tD o [] ⟨m+20,rfl,rfl,rfl,(if_pos (by simp[hvy,G])).symm⟩ (λF=>⟨F.1,trivial⟩))))
     .refine tI ((a.k==6)) false (by simpa using G) (tR 4 [] λa9 _ _=>?_);by_cases M:a.k=8
      .refine tI ((a.k==8)) true (by simpa using M) (tR 2 [] λb0 _ _=>tV 1 (iv ((m:Int)+20)) (λF C=>(Mw (x:=(.tmp 25)) (y:=(.const (iv 20))) (m:Int) 20 underlying3 (by omega))) (tR 3 [] λb1 _ _=>tD o [] ⟨m+20,rfl,rfl,rfl,(if_pos (by simp[hvy,M])).symm⟩ (λF=>⟨F.1,trivial⟩)))
      .refine tI ((a.k==8)) false (by simpa using M) (tR 2 [] λb2 _ _=>tD o [] ⟨m,rfl,rfl,rfl,(if_neg (by simp[hvy,A,E,G,M])).symm⟩ (λF=>⟨F.1,trivial⟩))
  rintro _ _ _ ⟨N,rfl,rfl,rfl,T⟩ _ _ _;refine tR 3 [] λb3 _ _=>tV 1 (iv ((i:Int)+1)) (λF C=>(Bg 13 (i:Int) underlying3 (by omega))) (tR 2 [] λb4 _ _=>tB o (L.length-(i+1)) (by omega) [] ⟨i+1,N,rfl,rfl,rfl,rfl,by omega,(by rw[T,Wk S,<- g])⟩ (λF=>⟨F.1,trivial⟩))
 .refine tI ((decide ((i:Int)<(x.n:Int)))) false (E' (by omega)) ?_;rw[show L.take i=L from mN (by omega)]at g
  have s:=UK L;rw[<- g]at s
  refine tR 4 [] λb5 _ _=>gu 1 0 x (acV l) 23 23 39 5 56 zLa (λF=>F.1.1.rd) [Fa.dt l] (λF=>⟨F.1.2,trivial⟩) rfl (by simp[TQ]) (Ul l) (by rw[U];unfold maxLen;omega) (by omega) λZ _ _ n0=>tR 8 [] λb6 _ _=>EN 44 [(1,iv n),(5,iv (m:Int)),(7,S3.v Z),(8,iv 0)] [] [] [Fa.oa 0 Z (l++rnP [])] (λV D B f=>∃ (j:Nat) (y:S3) (Q:List Lac),V=2-j/\D=[(1,iv n),(5,iv (m:Int)),(7,S3.v y),(8,iv (j:Int))]/\B=[]/\f=[Fa.oa 0 y (l++rnP Q)]/\j<=2/\Q.length<=j*300000/\Q=(List.replicate j (Cz m n)).flatten) (2) ⟨0,Z,[],rfl,rfl,rfl,rfl,by omega,by simp,by simp⟩ (λF=>⟨by rw[show rnP []=[]from rfl,mV];exact⟨F.1,F.2.1⟩,trivial⟩) ?_;rintro k _ _ _ ⟨j,y,Q,rfl,rfl,rfl,rfl,hj,c3,hQ⟩ _ _ _ J o;refine tR 6 [] λb7 _ _=>?_;by_cases A:j<2
  .refine tI ((decide ((j:Int)<2))) true (O' (by omega)) (tR 6 [] λb8 _ _=>tG 1 [] 0 (λF C=>JK (many:=0) (AcR.oo F.1 rfl).r (AcR.oo F.1 rfl).d (by rw[H',Ln];omega)) λNz=>?_);rintro _ _ ⟨X,rfl,H,O⟩;have t:X.n=((l++rnP Q)++rnP (BY 0)).length:=by have:=H.len;rw[Lb]at this;omega
   simp only[H',Ln,Fu]at t;refine⟨_,[Fa.oa 0 X ((l++rnP Q)++rnP (BY 0))],_,_,_,_,rfl,O,H,λ_=>⟨λF R _=>⟨⟨R,Dat.app F.1.2 (Lm _ _ (TF _))⟩,trivial⟩,?_⟩⟩;refine tR 8 [0,0] λq _ _=>PF 4 0 (x:=X) 23 23 39 5 56 zLa ⟨(q 0),0,none⟩ 1 1 [iv 2,iv n,iv 0,iv 0,sn] (λF=>F.1.1) [Fa.dt ((l++rnP Q++rnP (BY 0))++[(acN 2 n,s30)])] (λF=>⟨Dat.snoc F.1.2 (VL _ _),trivial⟩) rfl (by simp[TQ]) rfl (by simp[Value.oneCell']) (λF K=>C1 K 0 (q 0) [iv 2,iv n,iv 0,iv 0,sn] 39 .z true (by kernel_rfl)) (by unfold maxLen;omega) (by omega) λa0 _ _ c5=>tCv [Fa.oa 0 a0 (l++rnP (Q++BY 0++[acN 2 n]))] (λF=>by rw[Je,UX,<- mC l,<- mC l];exact⟨⟨(by rw[Ej];exact F.1),F.2.1⟩,trivial⟩) (tR 5 [] λb9 _ _=>tG 2 [false] 0 (λF C=>JK (many:=m) (AcR.oo F.1 rfl).r (AcR.oo F.1 rfl).d (by rw[H',Ln,H',H',Fu,nE];omega)) λNz=>?_);rintro _ _ ⟨Y,rfl,H,P⟩;have u:Y.n=((l++rnP (Q++BY 0++[acN 2 n]))++rnP (BY m)).length:=by have:=H.len;rw[Lb]at this;omega
   simp only[H',Ln,Fu,nE]at u;refine⟨_,[Fa.oa 0 Y ((l++rnP (Q++BY 0++[acN 2 n]))++rnP (BY m))],_,_,_,_,rfl,P,H,λ_=>⟨λF R _=>⟨⟨R,Dat.app F.1.2 (Lm _ _ (TF _))⟩,trivial⟩,?_⟩⟩;refine tR 5 [] λc0 _ _=>tV 1 (iv ((j:Int)+1)) (λF C=>(Bg 31 (j:Int) underlying3 (by omega))) (tR 2 [] λc1 _ _=>?_);exact tB o (2-(j+1)) (by omega) [] ⟨j+1,Y,Q++Cz m n,rfl,rfl,rfl,rfl,by omega,(by rw[H',YG];omega),(by rw[hQ];rcases(show j=0\/j=1 by omega)with rfl|rfl<;>simp)⟩ (λF=>by rw[show Q++Cz m n=Q++BY 0++[acN 2 n]++BY m by simp[Cz,List.append_assoc],UX _ (BY m),<- mC l];exact F)
  .refine tI ((decide ((j:Int)<2))) false (E' (by omega)) ?_;obtain rfl:j=2:=by omega
   refine tR 6 [] λc2 _ _=>?_;have hS:Q=Iu L n:=by rw[hQ,g];simp[Iu]
   rw[<- hS];exact tX λF C=>qE (S3.v y) λ_=>⟨y,rfl,F.1.1.own C,CgQ.af C⟩
theorem Px{tv:S3}(h:OutF g w ly tv ys M):OutW w M ly tv ys:=⟨h.rP.rd,λj a=>(h.log j a).rd.rc,h.ew.rd⟩
theorem jk(h:AcR w x L l)(n:∀ a∈L,LacOk a)(m:L.length<=100000)(b:X1 w){M:Meet}(j:AH.eb L=M) :
  Calls prog 11 #[x.v] w λe w'=>∃ (ly tv:S3) (ys:Nat->S3),e=.returned (.tuple #[.agg (Hq M ly tv),iv 0])/\OutW w' M ly tv ys/\OutN w.heap.size M ly tv ys/\Bw w w':=by
 subst j;refine(eS (h.sk (by omega)) (λi c=>by rw[Pk c];exact n _ (np c)) m b.1 b.2.1 b.2.2).mono ?_;rw[X4];rintro e w' ⟨k,ly,tv,ys,d,f,g⟩;exact⟨ly,tv,ys,d,f,g,k⟩
theorem ai(h:AcR w x L l)(y:∀ a∈L,LacOk a)(t:L.length<=100000)(s:X1 w){M:Meet}(r:AH.eb L=M) :
  Calls prog 7 #[x.v] w λe w'=>∃ (ly tv:S3) (ys:Nat->S3),e=.returned (.tuple #[.agg (Hq M ly tv),.bool true])/\OutW w' M ly tv ys/\OutN w.heap.size M ly tv ys/\Bw w w':=by
 refine tIn [] func7 trivial (tR 8 [1,0] λb _ _=>tF λ_ k=>?_);have d:=k.size;refine tC 1 (λF C=>jk (h.af (CgQ.af C)) y t (tb5 s C) r) λo=>?_;rintro _ _ ⟨ly,tv,ys,rfl,j,i,p⟩;refine⟨_,Fa.ot ly tv ys M::_,rfl,p,λF=>⟨Pw j i o,F⟩,?_⟩;refine tR 14 [0,0,1,0,9,0,1,2,4,6,8] λf _ _=>KS 20 (λq m c=>∃ (_:Unit),q=[(2,pt (b 0) 0),(3,.bool ((ly.n:Int)==5))]/\m=[⟨(b 0),.cells (Hq M ly tv) 32,.l,false⟩,⟨(f 0),.cells (Hq M ly tv) 32,.z,false⟩]/\c=[Fa.ot ly tv ys M]) (λJ g=>?_) ?_
 .refine PG 5 9 ?_ ?_
  .refine tR 7 [1,12,14,16,19,0,0,20] λA _ _=>tD g [true,true] ⟨(),rfl,rfl,rfl⟩ (λF=>⟨F.1,trivial⟩)
  .refine tR 7 [0,0,11,1,12,14,16,20] λB _ _=>tD g [true,true] ⟨(),rfl,rfl,rfl⟩ (λF=>⟨F.1,trivial⟩)
 rintro _ _ _ ⟨_,rfl,rfl,rfl⟩ _ _ _;have u:(((ly.n:Nat):Int)==5)=true:=by rw[j.n5];rfl
 exact tX λF C=>qE2 2 3 32 0 (b 0) (Hq M ly tv) (.bool ((ly.n:Int)==5)) λ_=>⟨ly,tv,ys,by rw[u],Px F.1,i.mono d,CgQ.af C⟩
theorem gm(c:x.a=some ⟨b,off,none⟩)(j:Nat)(d:j<x.n):(Instr.indexAt 28 x.v (iv (j:Int))).run prog W=.ok (pt b (off+j)) W:=by
 obtain⟨f,h,g⟩:=x;simp only at c d;subst c;exact NG (P:=prog) (e:=35) (z:=1) underlying28 (by kernel_rfl) (by kernel_rfl) d _ (by rw[ra])
theorem Lj(h:RdV w ly 1 [S3.v (ys 0),S3.v (ys 1),S3.v (ys 2),S3.v (ys 3),S3.v (ys 4)])(c:ly.a=some ⟨b,off,none⟩)(d:j<5):w.cell? ⟨b,off+j,none⟩=some (S3.v (ys j)):=by
 rcases h.ex with h1|⟨b',off',h1,h2,h3⟩
 .have:=h.len;simp at this;omega
 .rw[c]at h1;cases h1
  refine h3 j _ ?_;rcases rk d with rfl|rfl|rfl|rfl|rfl<;>rfl
theorem gv{l:List Tol}(h:RdV w x 5 (l.flatMap FY)):x.n=l.length:=by
 have:=h.len;rw[Fk (f:=FY) (sz:=5) (λ_=>rfl)]at this
 omega
end
section
variable{P:Program}{fn:Func}{R:Ending->World->Prop}{w0:World}{Φ:List Fa}{g:Gh}{w:World}
theorem tW{s:Xs}(i:Nat)(v:Value){S:Sem Value}(c:AllF g w Φ->Kn w0.heap.size g w s.L->S.run P w=.ok v w)(b:GT P fn R w0 Φ (nxt s i v s.L).s g w)(d:Dz s i=some (S>>=λv=>pure (.value v)):=by kernel_rfl)(a:(nxt s i undef s.L).o.map Ob.l'=(nxt s i undef s.L).o.map Ob.r':=by kernel_rfl):GT P fn R w0 Φ s g w:=⟨λF C=>Af λK=>qV i v (c F K) (b.ex F C) d a⟩
end
theorem lw{B:Nat}{g:Gh}{w:World}{L:List Sh}(h:Kn B g w L)(k b:Nat)(news:List Value)(e:TypeId)(t:Tg)(v:Bool)(d:L[k]?=some ⟨b,.cells news.toArray e,t,v⟩){j:Nat}{u:Value}(c:news[j]?=some u):w.cell? ⟨b,j,none⟩=some u:=by
 have:=C1 h k b news e t v d j u c;have a:(⟨b,0,none⟩:Addr).add j=⟨b,j,none⟩:=by unfold Addr.add;split<;>simp_all
 rwa [a]at this
theorem ZV{W:World}{b k n:Nat}(a:n<5):(Instr.indexAt 27 (pt b k) (iv (n:Int))).run prog W=.ok (pt b (k+n)) W:=by
 rcases rk a with rfl|rfl|rfl|rfl|rfl<;>kernel_rfl
theorem gf{M:Meet}{c tv:S3}{n:Nat}(a:n<5){u:Bool}(b:(M.ae n).up=u):(Hq M c tv).toList[1+n]?=some (.bool u):=by
 subst b;rcases rk a with rfl|rfl|rfl|rfl|rfl<;>rfl
end
section
structure Alw where
 ca:Bool
 ld:Bool
 cr:Bool
 st:Bool
structure NInv(A:Alw)(i:Nat)(D:List Int->Prop)(Q:Let->Prop)(P:Nod->Prop):Prop where
 take:A.ca=true->∀ p l,P p->Q l->l.dst=i->p.up=true->P (p.take l)
 one:∀ p c,P p->p.up=true->p.ab[p.done]?=some c->doE p.ni c=0->P (Nod.hZ { p with ni:=doS p.ni c,done:=p.done+1 } c)
 ask:∀ p,P p->p.up=true->P (p.kc i).1/\∀ l∈(p.kc i).2,Q l
 prop:∀ p,P p->p.up=true->P p.cn
 rC:∀ p,P p->p.up=true->P p.rC
 run:∀ p q l,P p->p.up=true->p.bu=q::l->¬ p.sy<(p.d.length:Int)->P { p.lr i q with bu:=l }/\∀ m∈p.rm i q,Q m
 ry:∀ p,P p->p.up=true->p.leads=true->P (E5 p i 5)/\∀ l∈Dq p i 5,Q l
 lead:A.ld=true->∀ p,P p->p.up=true->P (p.lead i)
 sub:∀ p d ts,P p->D d->p.up=true->P (p.rK i d ts).1
 lp:A.cr=true->∀ p k,P p->0<=k->p.up=true->P (p.lp k)
 start:A.st=true->∀ p,P p->p.up=false->P p.start
theorem OC(p:Nod)(i:Nat)(q:Pend)(x:List Pend):({ p with bu:=x }:Nod).lr i q={ p.lr i q with bu:=x }:=by
 cases q with
 | began b vs=>unfold Nod.lr;simp only;split<;>rfl
 | prop v =>
  unfold Nod.lr Nod.count;simp only;split
  .rfl
  .split<;>rfl
 | _=>rfl
theorem D6(p:Nod)(i:Nat)(q:Pend):(p.lr i q).bu=p.bu/\(p.lr i q).up=p.up/\(p.lr i q).d=p.d/\(p.lr i q).sy=p.sy:=by
 cases q with
 | began b vs=>unfold Nod.lr;simp only;split<;>exact⟨rfl,rfl,rfl,rfl⟩
 | prop v =>
  unfold Nod.lr Nod.count;simp only;split
  .exact⟨rfl,rfl,rfl,rfl⟩
  .split<;>exact⟨rfl,rfl,rfl,rfl⟩
 | _=>exact⟨rfl,rfl,rfl,rfl⟩
theorem MF(p:Nod)(i:Nat)(q:Pend)(x:List Pend):({ p with bu:=x }:Nod).rm i q=p.rm i q:=by cases q<;>rfl
theorem DN(p:Nod)(c:Cmd):(p.hZ c).up=p.up/\(p.hZ c).ab=p.ab/\(p.hZ c).done=p.done/\(p.hZ c).ni=p.ni:=by unfold Nod.hZ;split<;>exact⟨rfl,rfl,rfl,rfl⟩
theorem S8(p:Nod)(l:List Cmd):(p.dT l).up=p.up:=by unfold Nod.dT;split<;>rfl
theorem I7(p:Nod)(i:Nat):(p.kc i).1.up=p.up:=by
 unfold Nod.kc;split
 .rfl
 .split
  .exact S8 _ _
  .rfl
theorem fN(p:Nod)(v:Vt):(p.cl v).1.up=p.up:=by
 unfold Nod.cl;split
 .rfl
 .split
  .rfl
  .split<;>rfl
theorem Ex(p:Nod):p.cn.up=p.up:=by
 unfold Nod.cn;split
 .rfl
 .split
  .rfl
  .split
   .rfl
   .exact fN p _
theorem jw(p:Nod):p.rC.up=p.up:=by unfold Nod.rC;split<;>rfl
section
variable{A:Alw}{i:Nat}{D:List Int->Prop}{Q:Let->Prop}{P:Nod->Prop}
theorem NInv.rD(h:NInv A i D Q P)(l:List Cmd)(p:Nod)(e:List Tol)(d:P p)(a:p.up=true)(f:p.ab.drop p.done=l):P (rD i l p e).1/\(Go.Proofs.YtgbabbapcibnlaaGreatDoor.rD i l p e).1.up=true:=by
 induction l generalizing p e with
 | nil=>exact⟨d,a⟩
 | cons c l ih =>
  rw[Go.Proofs.YtgbabbapcibnlaaGreatDoor.rD];split
  .exact⟨d,a⟩
  .rename_i he
   have g:p.ab[p.done]?=some c:=by
    have:=congrArg (·[0]?) f;simpa using this
   have b:=DN { p with ni:=doS p.ni c,done:=p.done+1 } c;refine ih _ _ (h.one p c d a g (mE.1 he)) (b.1.trans a) ?_;rw[b.2.1,b.2.2.1];show p.ab.drop (p.done+1)=l;rw[<- oZ,f];rfl
theorem NInv.ov(h:NInv A i D Q P)(l:List Pend)(p:Nod)(ls:List Let)(b:P { p with bu:=l })(c:p.up=true)(k:p.bu=[])(j:¬ p.sy<(p.d.length:Int))(g:∀ m∈ls,Q m):P (ov i l p ls).1/\(∀ m∈(Go.Proofs.YtgbabbapcibnlaaGreatDoor.ov i l p ls).2,Q m)/\(Go.Proofs.YtgbabbapcibnlaaGreatDoor.ov i l p ls).1.up=true:=by
 induction l generalizing p ls with
 | nil =>
  refine⟨?_,g,c⟩;have:({ p with bu:=[] }:Nod)=p:=by cases p;simp_all
  rw[this]at b;exact b
 | cons q l ih =>
  have a:=D6 p i q;obtain⟨e,f⟩:=h.run { p with bu:=q::l } q l b c rfl j;rw[OC]at e
  rw[MF]at f
  exact ih (p.lr i q) (ls++p.rm i q) e (a.2.1.trans c) (a.1.trans k) (by rw[a.2.2.1,a.2.2.2];exact j) λm n=>(U'.1 n).elim (g m) (f m)
theorem NInv.piece(h:NInv A i D Q P)(p:Nod)(ls:List Let)(ts:List Tol)(x:P p)(y:p.up=true)(w:∀ m∈ls,Q m):P (p.piece i ls ts).1/\∀ m∈(p.piece i ls ts).2.1,Q m:=by
 obtain⟨q,l⟩:=h.rD _ p ts x y rfl;unfold Nod.piece;simp only;obtain⟨s,t⟩:=h.ask _ q l;have n:=(I7 (Go.Proofs.YtgbabbapcibnlaaGreatDoor.rD i (p.ab.drop p.done) p ts).1 i).trans l;have c1:=h.prop _ s n;have c:=(Ex ((Go.Proofs.YtgbabbapcibnlaaGreatDoor.rD i (p.ab.drop p.done) p ts).1.kc i).1).trans n;have a:∀ m∈ls++((Go.Proofs.YtgbabbapcibnlaaGreatDoor.rD i (p.ab.drop p.done) p ts).1.kc i).2,Q m:=λm f=>(U'.1 f).elim (w m) (t m);generalize ls++((Go.Proofs.YtgbabbapcibnlaaGreatDoor.rD i (p.ab.drop p.done) p ts).1.kc i).2=k at a ⊢;generalize ((Go.Proofs.YtgbabbapcibnlaaGreatDoor.rD i (p.ab.drop p.done) p ts).1.kc i).1.cn=r at c1 c ⊢;have b:P (r.nr i k).1/\(∀ m∈(r.nr i k).2,Q m)/\(r.nr i k).1.up=true:=by
  unfold Nod.nr;split
  .exact⟨c1,a,c⟩
  .rename_i hn
   have g:=h.rC r c1 c;have j:r.rC.bu=r.bu:=by unfold Nod.rC;split<;>rfl
   refine h.ov r.bu { r.rC with bu:=[] } k (by rw[<- j];exact g) ((jw r).trans c) rfl ?_ a;show ¬ r.rC.sy<(r.rC.d.length:Int);unfold Nod.rC;split
   .rename_i h1
    have:Dd r.d r.sy=0:=mE.1 λe=>hn ⟨h1,e⟩;have o:AO r.d r.sy:=by
     unfold Dd at this;split at this
     .assumption
     .cases this
    show ¬ I0 r.d r.sy<((Hr r.d r.sy).length:Int);unfold I0 Hr;rw[if_pos o,if_pos o];exact qv _
   .rename_i h1;exact h1
 unfold Nod.bw;split
 .rename_i hL
  obtain⟨u,v⟩:=h.ry _ b.1 b.2.2 hL;exact⟨u,λm f=>(U'.1 f).elim (b.2.1 m) (v m)⟩
 .exact⟨b.1,b.2.1⟩
end
section
structure GInv(Q:Let->Prop)(P:Nat->Nod->Prop)(M:Meet):Prop where
 ae:∀ i,i<5->P i (M.ae i)
 br:∀ l∈M.br,Q l
variable{A:Alw}{D:Nat->List Int->Prop}{M:Meet}{P:Nat->Nod->Prop}{Q:Let->Prop}{R:List Tol->Prop}{i:Nat}{k:Int}{p:Nod}{x:Lac}
theorem GInv.set(h:GInv Q P M){i:Nat}{p:Nod}{ls:List Let}{ts:List Tol}(c:P i p)(b:∀ l∈ls,Q l):GInv Q P (M.set i p ls ts) :=
 ⟨λj a=>by
  show P j (upN M.ae i p j);unfold upN;split
  .rename_i e;rw[e];exact c
  .exact h.ae j a,b⟩
theorem GInv.oh(b:∀ i,i<5->NInv A i (D i) Q (P i))(c:A.ca=true){M:Meet}(h:GInv Q P M){l:Let}(d:Q l)(a:l.dst<5):GInv Q P (M.oh l):=by
 unfold Meet.oh;split
 .rename_i hu
  exact h.set (ls:=M.br) (ts:=M.ew) ((b _ a).take c _ l (h.ae _ a) d rfl hu) h.br
 .exact h
theorem GInv.comes(b:∀ i,i<5->NInv A i (D i) Q (P i))(c:A.ca=true)(l:List Let){M:Meet}(h:GInv Q P M)(a:∀ m∈l,Q m/\m.dst<5):GInv Q P (l.foldl (λM l=>M.oh l) M):=by
 induction l generalizing M with
 | nil=>exact h
 | cons x l ih=>exact ih (h.oh b c (a x M').1 (a x M').2) λm d=>a m (I' _ d)
structure Alw.Ok(A:Alw)(x:Lac):Prop where
 ca:x.k=4\/x.k=6\/x.k=7->A.ca=true
 ld:x.k=2->A.ld=true
 cr:x.k=8->A.cr=true
 st:x.k=9->A.st=true
theorem GInv.act(g:∀ i,i<5->NInv A i (D i) Q (P i)){n:Nat}{M:Meet}(h:GInv Q P M)(B:MOk n M){x:Lac}(C:LacOk x)(q:A.Ok x)(F:x.k=1->D x.n.toNat x.d):GInv Q P (M.act x):=by
 have b:∀ {k:Int},x.k=k->Gi k=true->x.n.toNat<5:=λ{k} e E=>by have:=C.n (by rw[e];exact E);omega
 unfold Meet.act;simp only;by_cases r:x.k=1
 .rw[if_pos r];have c:=b r rfl;refine h.set ?_ h.br;unfold Nod.rK;by_cases f:(M.ae x.n.toNat).up=true
  .exact(g _ c).sub _ x.d M.ew (h.ae _ c) (F r) f
  .unfold Nod.rL;rw[if_pos (by simpa using f)];exact h.ae _ c
 .rw[if_neg r];by_cases s:x.k=2
  .rw[if_pos s];have c:=b s rfl;refine h.set ?_ h.br;split
   .rename_i f;exact(g _ c).lead (q.ld s) _ (h.ae _ c) f
   .exact h.ae _ c
  .rw[if_neg s];by_cases u:x.k=3
   .rw[if_pos u];have c:=b u rfl;by_cases f:(M.ae x.n.toNat).up=true
    .have:=(g _ c).piece _ M.br M.ew (h.ae _ c) f h.br;rw[if_pos f,if_pos f,if_pos f];exact h.set this.1 this.2
    .rw[if_neg f,if_neg f,if_neg f];exact h.set (h.ae _ c) h.br
   .rw[if_neg u];by_cases w:x.k=4\/x.k=5\/x.k=6
    .rw[if_pos w];unfold Meet.move;split
     .exact h
     .rename_i l v
      have j:=m8 v;have z:GInv Q P (if x.k≠6 then{ M with br:=M.br.eraseIdx (x.a.toNat%M.br.length) }else M):=by
       split
       .exact⟨h.ae,λm j=>h.br m (pC j)⟩
       .exact h
      simp only;split
      .rename_i h5
       exact z.oh g (q.ca (by omega)) (h.br l j) (B.br l j).dst
      .exact z
    .rw[if_neg w];by_cases y:x.k=7
     .rw[if_pos y];unfold Meet.rA;exact GInv.comes g (q.ca (by omega)) _ ⟨h.ae,λl v=>by cases v⟩ λm j=>⟨h.br m j,(B.br m j).dst⟩
     .rw[if_neg y];by_cases o:x.k=8
      .rw[if_pos o];have c:=b o rfl;refine h.set ?_ h.br;split
       .rename_i f;exact(g _ c).lp (q.cr o) _ x.p (h.ae _ c) (C.p (by rw[o];rfl)).1 f
       .exact h.ae _ c
      .rw[if_neg o];by_cases t:x.k=9
       .rw[if_pos t];have c:=b t rfl;refine h.set ?_ h.br;split
        .exact h.ae _ c
        .rename_i f;exact(g _ c).start (q.st t) _ (h.ae _ c) (by simpa using f)
       .rw[if_neg t];exact h
structure TInv(i:Nat)(D:List Int->Prop)(P:Nod->Prop)(R:List Tol->Prop):Prop where
 one:∀ p c ts,P p->p.up=true->p.ab[p.done]?=some c->doE p.ni c=0->(p.bN c).isSome=true->R ts->R (ts++[⟨i,c.c,c.s,doC p.ni c,doA p.ni c⟩])
 sub:∀ p d ts,P p->D d->p.up=true->opE d (p.done:Int)=0->Hp d (p.done:Int)∈p.ab.take p.done->R ts->R (ts++[⟨i,(Hp d (p.done:Int)).c,(Hp d (p.done:Int)).s,doC p.ni (Hp d (p.done:Int)),doA p.ni (Hp d (p.done:Int))⟩])
theorem TInv.rD{D:List Int->Prop}{P:Nod->Prop}(h:NInv A i D Q P)(t:TInv i D P R)(l:List Cmd)(p:Nod)(b:List Tol)(j:P p)(e:p.up=true)(g:p.ab.drop p.done=l)(a:R b):R (rD i l p b).2:=by
 induction l generalizing p b with
 | nil=>exact a
 | cons c l ih =>
  rw[Go.Proofs.YtgbabbapcibnlaaGreatDoor.rD];split
  .exact a
  .rename_i he
   have f:p.ab[p.done]?=some c:=by
    have:=congrArg (·[0]?) g;simpa using this
   have d:=DN { p with ni:=doS p.ni c,done:=p.done+1 } c;refine ih _ _ (h.one p c j e f (mE.1 he)) (d.1.trans e) ?_ ?_
   .rw[d.2.1,d.2.2.1];show p.ab.drop (p.done+1)=l;rw[<- oZ,g];rfl
   .split
    .rename_i ha;exact t.one p c b j e f (mE.1 he) ha a
    .exact a
theorem Oc(M:Meet)(l:Let):(M.oh l).ew=M.ew:=by unfold Meet.oh;split<;>rfl
theorem Sn(l:List Let)(M:Meet):(l.foldl (λM l=>M.oh l) M).ew=M.ew:=by
 induction l generalizing M with
 | nil=>rfl
 | cons x l ih=>exact(ih _).trans (Oc M x)
theorem Wp(M:Meet)(k:Int)(a:Nat):(M.move k a).ew=M.ew:=by
 unfold Meet.move;split
 .rfl
 .simp only;split
  .rw[Oc];split<;>rfl
  .split<;>rfl
theorem X7(M:Meet){x:Lac}(a:x.k≠1)(b:x.k≠3):(M.act x).ew=M.ew:=by
 unfold Meet.act;simp only;rw[if_neg a];split
 .rfl
 .split
  .exact Wp _ _ _
  .split
   .exact Sn _ _
   .split
    .rfl
    .split<;>rfl
theorem GInv.ew(g:∀ i,i<5->NInv A i (D i) Q (P i))(c:∀ i,i<5->TInv i (D i) (P i) R){M:Meet}(h:GInv Q P M)(a:R M.ew){x:Lac}(e:LacOk x)(f:x.k=1->D x.n.toNat x.d):R (M.act x).ew:=by
 by_cases b:x.k=1
 .have hi:x.n.toNat<5:=by have:=e.n (by rw[b];rfl);omega
  unfold Meet.act;simp only;rw[if_pos b];show R (Nod.rK _ _ _ _).2;unfold Nod.rK Nod.rL;split
  .exact a
  .rename_i hu
   split
   .exact a
   .rename_i he
    split
    .rename_i hm
     exact(c _ hi).sub _ _ _ (h.ae _ hi) (f b) (by simpa using hu) (mE.1 he) hm a
    .exact a
 .by_cases h3:x.k=3
  .have hi:x.n.toNat<5:=by have:=e.n (by rw[h3];rfl);omega
   unfold Meet.act;simp only;rw[if_neg b,if_neg (by omega),if_pos h3];show R (if _ then _ else _);split
   .rename_i hu
    exact TInv.rD (g _ hi) (c _ hi) _ _ _ (h.ae _ hi) hu rfl a
   .exact a
  .rw[X7 M b h3];exact a
theorem GInv.eb(c:∀ i,i<5->NInv A i (D i) Q (P i))(g:∀ i,i<5->TInv i (D i) (P i) R)(L:List Lac){n:Nat}{M:Meet}(b:MOk n M)(j:n+L.length<=1000000)(h:GInv Q P M)(e:R M.ew)(f:∀ x∈L,LacOk x/\A.Ok x/\(x.k=1->D x.n.toNat x.d)):GInv Q P (M.eb L)/\R (M.eb L).ew/\MOk (n+L.length) (M.eb L):=by
 induction L generalizing n M with
 | nil=>exact⟨h,e,b⟩
 | cons x L ih =>
  have a:=f x M';rw[m7]at j
  have:=ih (b.act (by omega) a.1) (by omega) (h.act c b a.1 a.2.1 a.2.2) (h.ew c g e a.1 a.2.2) λy l=>f y (I' _ l);rw[m7,show n+(L.length+1)=n+1+L.length by omega];exact this
theorem TInv.all(i:Nat)(D:List Int->Prop)(P:Nod->Prop):TInv i D P λ_=>True:=⟨λ_ _ _ _ _ _ _ _ _=>trivial,λ_ _ _ _ _ _ _ _ _=>trivial⟩
def Nod.ub(p:Nod):Bool × Nat:=(p.up,p.bad)
theorem Mt(p:Nod)(b:Bal):(p.au b).1.ub=p.ub:=by
 unfold Nod.au;split
 .rfl
 .split
  .rfl
  .split<;>rfl
theorem Vp(p:Nod)(v:Vt):(p.cl v).1.ub=p.ub:=by
 unfold Nod.cl;split
 .rfl
 .split
  .rfl
  .split<;>rfl
theorem LG(p:Nod)(j:Nat)(v:Vt):(p.count j v).ub=p.ub:=by
 unfold Nod.count;split
 .rfl
 .split<;>rfl
theorem O9(p:Nod)(to:Nat)(e:Int):(p.ed to e).ub=p.ub:=by unfold Nod.ed;split<;>rfl
theorem LJ(p:Nod)(l:List Cmd):(p.dT l).ub=p.ub:=by unfold Nod.dT;split<;>rfl
theorem PJ(p:Nod)(l:Let):(p.take l).ub=p.ub:=by
 unfold Nod.take;split
 .split
  .exact O9 _ _ _
  .exact Mt p l.gC
 .simp only;split<;>rfl
 .rfl
 .split
  .exact O9 _ _ _
  .exact Vp p l.cl
 .exact LG p _ _
 .split<;>rfl
 .simp only;split<;>exact LJ p l.fv
 .rfl
theorem eQ(p:Nod)(i:Nat)(q:Pend):(p.lr i q).ub=p.ub:=by
 cases q with
 | began b vs=>unfold Nod.lr;simp only;split<;>rfl
 | prop v=>exact LG p i v
 | _=>rfl
theorem Yp(i:Nat)(l:List Pend)(p:Nod)(a:List Let):(ov i l p a).1.ub=p.ub:=by
 induction l generalizing p a with
 | nil=>rfl
 | cons q l ih=>exact(ih _ _).trans (eQ p i q)
theorem Xq(p:Nod)(c:Cmd):(p.hZ c).ub=p.ub:=by unfold Nod.hZ;split<;>rfl
theorem im(i:Nat)(l:List Cmd)(p:Nod)(a:List Tol):(rD i l p a).1.ub=p.ub:=by
 induction l generalizing p a with
 | nil=>rfl
 | cons c l ih =>
  rw[rD];split
  .rfl
  .exact(ih _ _).trans (Xq _ _)
theorem cI(p:Nod)(i:Nat):(p.kc i).1.ub=p.ub:=by
 unfold Nod.kc;split
 .rfl
 .split
  .exact LJ _ _
  .rfl
theorem TB(p:Nod):p.cn.ub=p.ub:=by
 unfold Nod.cn;split
 .rfl
 .split
  .rfl
  .split
   .rfl
   .exact Vp p _
theorem bk(p:Nod)(i:Nat)(a:List Let):(p.nr i a).1.ub=p.ub:=by
 unfold Nod.nr;split
 .rfl
 .rw[Yp];unfold Nod.rC;split<;>rfl
theorem Xl(p:Nod)(i:Nat)(a:List Let):(p.bw i a).1.ub=p.ub:=by unfold Nod.bw;split<;>rfl
theorem ZN(p:Nod)(i:Nat)(a:List Let)(b:List Tol):(p.piece i a b).1.ub=p.ub:=by
 unfold Nod.piece;simp only;rw[Xl,bk,TB,cI,im]
theorem UG(p:Nod)(i:Nat):(p.lead i).ub=p.ub:=by
 unfold Nod.lead;simp only;split
 .rfl
 .exact Mt p _
theorem Uw(M:Meet)(l:Let)(j:Nat):((M.oh l).ae j).ub=(M.ae j).ub:=by
 unfold Meet.oh;split
 .show(upN M.ae l.dst _ j).ub=_;unfold upN;split
  .rename_i h;rw[h];exact PJ _ _
  .rfl
 .rfl
theorem Ya(l:List Let)(M:Meet)(j:Nat):((l.foldl (λM l=>M.oh l) M).ae j).ub=(M.ae j).ub:=by
 induction l generalizing M with
 | nil=>rfl
 | cons x l ih=>exact(ih _).trans (Uw M x j)
theorem dV(M:Meet)(k:Int)(a:Nat)(j:Nat):((M.move k a).ae j).ub=(M.ae j).ub:=by
 unfold Meet.move;split
 .rfl
 .simp only;split
  .rw[Uw];split<;>rfl
  .split<;>rfl
theorem Ji(M:Meet)(i:Nat)(p:Nod)(a:List Let)(b:List Tol)(j:Nat):(M.set i p a b).ae j=if j=i then p else M.ae j:=rfl
theorem gG(M:Meet){x:Lac}(f:x.k≠1)(g:x.k≠8)(h:x.k≠9)(j:Nat):((M.act x).ae j).ub=(M.ae j).ub:=by
 unfold Meet.act;simp only;rw[if_neg f];by_cases a:x.k=2
 .rw[if_pos a,Ji];split
  .rename_i e
   rw[e];split
   .exact UG _ _
   .rfl
  .rfl
 .rw[if_neg a];by_cases b:x.k=3
  .rw[if_pos b,Ji];split
   .rename_i e
    rw[e];split
    .exact ZN _ _ _ _
    .rfl
   .rfl
  .rw[if_neg b];by_cases c:x.k=4\/x.k=5\/x.k=6
   .rw[if_pos c];exact dV _ _ _ _
   .rw[if_neg c];by_cases d:x.k=7
    .rw[if_pos d];exact Ya _ _ _
    .rw[if_neg d,if_neg g,if_neg h]
theorem js(M:Meet){x:Lac}(h:x.k=1)(j:Nat):((M.act x).ae j).ub=if j=x.n.toNat/\(M.ae j).up=true/\opE x.d ((M.ae j).done:Int)≠0 then((M.ae j).up,(M.ae j).bad+1)else(M.ae j).ub:=by
 unfold Meet.act;simp only;rw[if_pos h,Ji];by_cases f:j=x.n.toNat
 .subst f;rw[if_pos rfl];unfold Nod.rK Nod.rL;by_cases b:(M.ae x.n.toNat).up=false
  .rw[if_pos b,if_neg (by rw[b];simp)]
  .rw[if_neg b];have g:(M.ae x.n.toNat).up=true:=by simpa using b
   by_cases a:opE x.d ((M.ae x.n.toNat).done:Int)≠0
   .rw[if_pos a,if_pos ⟨rfl,g,a⟩];rfl
   .rw[if_neg a,if_neg (c:=_/\_) (λe=>a e.2.2)];split
    .rfl
    .show(Nod.want _ _).ub=_;unfold Nod.want;split<;>rfl
 .rw[if_neg f,if_neg (λe=>f e.1)]
theorem AI(M:Meet)(L:List Lac)(x:Lac):M.eb (L++[x])=(M.eb L).act x:=by unfold Meet.eb;rw[po];rfl
theorem Vy{L:List Lac}(h:L[i]?=some x):M.eb (L.take (i+1))=(M.eb (L.take i)).act x:=by rw[pm,h];exact AI M (L.take i) x
theorem PU(L:List Lac)(h:∀ x∈L,LacOk x)(d:L.length<=100000):MOk L.length (AH.eb L):=by
 suffices ∀ i,i<=L.length->MOk i (AH.eb (L.take i))by have a:=this L.length (A' _);rwa [oz]at a
 intro i;induction i with
 | zero=>intro _;exact MOk.zero
 | succ i ih =>
  intro c;have b:L[i]?=some L[i]:=G' (by omega);rw[Vy b];exact(ih (by omega)).act (by omega) (h _ (np _))
theorem dm(g:Gr)(b:Bool):LacOk (Pf g b):=by
 have d:=Bf g.a 5 (by omega);have e:=Bf g.c 20 (by omega);have f:=Bf g.c 90 (by omega);have h:(pkB g).length<=63:=by
  have:(pkP g).length=63:=Mo (ZO g);unfold pkB;split
  .rw[Y'];omega
  .omega
 rw[<- DC];unfold Pf acN
 repeat' split
 all_goals simp[dM,Gi,I3,I4];try omega
theorem aF{P:Lac->Prop}(b:P (acN 7 0)){a:Bool}(c:∀ g,P (Pf g a))(s:Nat)(l:List Gr):∀ x∈MD a s l,P x:=by
 induction l generalizing s with
 | nil=>intro x hx;cases hx
 | cons g l ih =>
  intro x hx;rcases mJ.1 hx with rfl|hx
  .unfold WP;split
   .exact b
   .exact c g
  .exact ih _ x hx
theorem jl(l:List Gr)(m:Nat)(a:Bool):∀ x∈scr l m a,LacOk x:=aF (by rw[<- DC];decide) (λg=>dm g a) _ _
theorem aG(a:Bool)(s:Nat)(l:List Gr):(MD a s l).length=l.length:=by
 induction l generalizing s with
 | nil=>rfl
 | cons g l ih=>rw[MD,m7,ih,m7]
theorem eX(l:List Gr)(m:Nat)(a:Bool):(scr l m a).length<=m:=by unfold scr;rw[aG,Y'];omega
def Nod.tp(p:Nod):Prop:=AO p.d p.sy
theorem Vw{d:List Int}{s:Int}{may:Prop}[Decidable may]{b:List Int}(h:CK d s may b=0):AO (Ga d s may b) (GR d s may b):=by
 obtain⟨a,c,_⟩:=JZ h;unfold Ga GR;rw[if_pos h,if_pos h];unfold AO at *;rw[H',Bi];omega
theorem Ms(h:p.tp)(b:Bal):(p.au b).1.tp:=by
 unfold Nod.au;split
 .exact h
 .split
  .exact h
  .split
   .exact h
   .rename_i hw;exact Vw (mE.1 hw)
theorem PO(h:p.tp)(v:Vt):(p.cl v).1.tp:=by
 unfold Nod.cl;split
 .exact h
 .split
  .exact h
  .split
   .exact h
   .rename_i hw;exact Vw (mE.1 hw)
theorem O8(h:p.tp)(to:Nat)(e:Int):(p.ed to e).tp:=by unfold Nod.ed;split<;>exact h
theorem Yb(h:p.tp)(j:Nat)(v:Vt):(p.count j v).tp:=by
 unfold Nod.count;split
 .exact h
 .split<;>exact h
theorem S7(h:p.tp)(l:List Cmd):(p.dT l).tp:=by unfold Nod.dT;split<;>exact h
theorem IC(h:p.tp){k:Int}(c:0<=k):(p.lp k).tp/\(p.lp k).up=false/\(p.lp k).done=0/\(p.lp k).ab=[]:=by
 have a:Gq p.d p.sy k=0:=by unfold Gq;rw[if_neg (λe=>e h),if_neg (by omega)]
 unfold Nod.lp;rw[if_neg (λe=>e a)];refine⟨?_,rfl,rfl,rfl⟩;show AO (KF p.d p.sy k) (KG p.d p.sy k);unfold KF KG;rw[if_pos a,if_pos a];unfold Nod.tp AO at h;have b:0<=Gt p.d p.sy k/\Gt p.d p.sy k<=(p.d.length:Int):=by unfold Gt;split<;>omega
 unfold AO;rw[Y'];omega
theorem GI(h:p.tp):p.start.tp/\p.start.up=true/\p.start.done=0/\p.start.ab=[]:=by
 have b:Dd p.d p.sy=0:=if_pos h;have c:=YQ p.d p.d.length;unfold Nod.start;rw[if_neg (λe=>e b)];split
 .refine⟨?_,rfl,rfl,rfl⟩;show AO (JJ p.d p.sy) (M2 p.d p.sy);unfold JJ M2;have a:AO p.d p.sy:=h;rw[if_pos a,if_pos a];unfold Nod.tp AO at h;unfold AO;rw[Y'];unfold Ea;split<;>omega
 .exact⟨h,rfl,rfl,rfl⟩
theorem j0(A:Alw)(i:Nat):NInv A i (λ_=>True) (λ_=>True) Nod.tp where
 take:=λ_ p l h _ _ _=>by
  unfold Nod.take;split
  .split
   .exact O8 h _ _
   .exact Ms h l.gC
  .simp only;split<;>exact h
  .exact h
  .split
   .exact O8 h _ _
   .exact PO h l.cl
  .exact Yb h _ _
  .split<;>exact h
  .simp only;split<;>exact S7 h l.fv
  .exact h
 one:=λp c h _ _ _=>by unfold Nod.hZ;split<;>exact h
 ask:=λp h _=>⟨by
  unfold Nod.kc;split
  .exact h
  .split
   .unfold Nod.dT;split<;>exact h
   .exact h,λ_ _=>trivial⟩
 prop:=λp h _=>by
  unfold Nod.cn;split
  .exact h
  .split
   .exact h
   .split
    .exact h
    .exact PO h _
 rC:=λp h _=>by
  unfold Nod.rC;split
  .show AO (Hr p.d p.sy) (I0 p.d p.sy);unfold Hr I0;have b:AO p.d p.sy:=h;rw[if_pos b,if_pos b];unfold Nod.tp AO at h;unfold AO;omega
  .exact h
 run:=λp q l h _ _ _=>⟨by
  have a:=D6 p i q;show AO (p.lr i q).d (p.lr i q).sy;rw[a.2.2.1,a.2.2.2];exact h,λ_ _=>trivial⟩
 ry:=λp h _ _=>⟨h,λ_ _=>trivial⟩
 lead:=λ_ p h _=>by
  unfold Nod.lead;simp only;split
  .exact h
  .exact Ms h _
 sub:=λp d e h _ _=>by
  unfold Nod.rK Nod.rL;split
  .exact h
  .split
   .exact h
   .split
    .exact h
    .show(Nod.want _ _).tp;unfold Nod.want;split<;>exact h
 lp:=λ_ p k h a _=>(IC h a).1
 start:=λ_ p h _=>(GI h).1
def jH:Alw:=⟨true,true,true,true⟩
theorem cD(x:Lac):jH.Ok x:=⟨λ_=>rfl,λ_=>rfl,λ_=>rfl,λ_=>rfl⟩
theorem cA(L:List Lac)(h:∀ x∈L,LacOk x)(c:L.length<=100000){i:Nat}(a:i<5):((AH.eb L).ae i).tp :=
 (GInv.eb (R:=λ_=>True) (D:=λ_ _=>True) (Q:=λ_=>True) (P:=λ_=>Nod.tp) (λi _=>j0 jH i) (λi _=>TInv.all i _ _) L MOk.zero (by omega) ⟨λ_ _=>(by show AO [] 0;decide),λ_ _=>trivial⟩ trivial λx b=>⟨h x b,cD x,λ_=>trivial⟩).1.ae i a
theorem Vx(M:Meet){i:Nat}(b:i<5)(a:(M.ae i).tp)(j:Nat):((M.act (acN 9 (i:Int))).ae j).up=if j=i then true else(M.ae j).up:=by
 show(upN M.ae (i:Int).toNat _ j).up=_;unfold upN;rw[nz];split
 .split
  .assumption
  .exact(GI a).2.1
 .rfl
theorem gH(M:Meet){x:Lac}(c:x.k≠8){j:Nat}(a:(M.ae j).up=true):((M.act x).ae j).up=true:=by
 by_cases b:x.k=1
 .have:=congrArg Prod.fst (js M b j);split at this
  .exact this.trans a
  .exact this.trans a
 .by_cases h9:x.k=9
  .unfold Meet.act;simp only;rw[if_neg b,if_neg (by omega),if_neg (by omega),if_neg (by omega),if_neg (by omega),if_neg (by omega),if_pos h9,Ji];split
   .rename_i e;rw[<- e,if_pos a];exact a
   .exact a
  .exact(congrArg Prod.fst (gG M b c h9 j)).trans a
theorem cB(L:List Lac)(a:∀ x∈L,x.k≠8)(M:Meet){j:Nat}(b:(M.ae j).up=true):((M.eb L).ae j).up=true:=by
 induction L generalizing M with
 | nil=>exact b
 | cons x L ih=>exact ih (λy c=>a y (I' _ c)) _ (gH M (a x M') b)
theorem Az(M:Meet)(L K:List Lac):M.eb (L++K)=(M.eb L).eb K:=po
theorem ET{n:Int}(h:(k=2\/k=3\/k=9)/\0<=n/\n<=4):LacOk (acN k n):=by
 rw[<- DC];rcases h with⟨rfl|rfl|rfl,h1,h2⟩<;>simp[dM,acN,Gi,I3,I4]<;>omega
theorem Mc{P:Lac->Prop}(h:∀ n:Nat,n<5->P (acN k (n:Int))){j:Nat}(c:j<=5):∀ x∈AC k j,P x:=by
 intro x b;obtain⟨n,a,rfl⟩:=mS.1 b;exact h n (by have:=oc.1 a;omega)
theorem LM{P:Lac->Prop}(b:∀ n:Nat,n<5->P (acN 3 (n:Int)))(c:P (acN 7 0))(m:Nat):∀ x∈Al m,P x:=by
 induction m with
 | zero=>intro x a;cases a
 | succ m ih =>
  intro x a;rcases U'.1 a with h|h
  .exact ih x h
  .rcases U'.1 h with h|h
   .exact Mc b (A' _) x h
   .rw[D'.1 h];exact c
theorem MC{P:Lac->Prop}(c:∀ n:Nat,n<5->P (acN 9 (n:Int)))(a:∀ n:Nat,n<5->P (acN 3 (n:Int)))(b:P (acN 7 0))(m:Nat):∀ x∈BY m,P x:=by
 intro x d;rcases U'.1 d with h|h
 .exact Mc c (A' _) x h
 .exact LM a b m x h
theorem Lo(m:Nat):∀ x∈BY m,LacOk x:=MC (λn a=>ET ⟨.inr (.inr rfl),by omega,by omega⟩) (λn a=>ET ⟨.inr (.inl rfl),by omega,by omega⟩) (by rw[<- DC];decide) m
theorem jh(L:List Lac)(h:∀ x∈L,LacOk x)(m:Nat)(o:L.length+6*m+5<=100000){j:Nat}(b:j<5):((AH.eb (L++BY m)).ae j).up=true:=by
 unfold BY;rw[<- mC,Az];refine cB _ (LM (λ_ _=>by show(3:Int)≠8;decide) (by decide) m) _ ?_;have d:∀ k,k<=5->j<k->((AH.eb (L++AC 9 k)).ae j).up=true:=by
  intro k;induction k with
  | zero=>intro _ h;omega
  | succ k ih =>
   intro l c;have a:∀ x∈L++AC 9 k,LacOk x:=λx g=>(U'.1 g).elim (h x) λe=>Mc (λn p=>ET ⟨.inr (.inr rfl),by omega,by omega⟩) (by omega) x e;have f:=cA (L++AC 9 k) a (by rw[H',YX];omega) (i:=k) (by omega);rw[BX,<- mC,AI,Vx _ (by omega) f];split
   .rfl
   .exact ih (by omega) (by omega)
 exact d 5 (A' _) b
theorem Rw{P:Lac->Prop}(c:∀ n:Nat,n<5->P (acN 9 (n:Int)))(a:∀ n:Nat,n<5->P (acN 3 (n:Int)))(b:P (acN 7 0)){i:Int}(e:P (acN 2 i))(l:List Lac):∀ x∈Iu l i,P x:=by
 have d:∀ m,∀ x∈Cz m i,P x:=λm x hx=>by
  rcases U'.1 hx with hx|hx
  .rcases U'.1 hx with hx|hx
   .exact MC c a b 0 x hx
   .rw[D'.1 hx];exact e
  .exact MC c a b m x hx
 intro x hx;exact(U'.1 hx).elim (d _ x) (d _ x)
theorem aP(l:List Lac)(i:Int):(Iu l i).length<=1222+240*l.length:=by
 have b:(l.filter hvy).length<=l.length:=pi _ _;have a:∀ m,(BY m).length=5+6*m:=λm=>by unfold BY;rw[H',Ii];rfl
 unfold Iu Cz Fp;simp only[H',a,nE];omega
structure Wh where
 d:Nat->List Int->Prop
 ld:Prop
 cr:Prop
 dr:Prop
 tk:Prop
 st:Prop
def Wh.may(D:Wh)(x:Lac):Prop:=(x.k=1->D.d x.n.toNat x.d)/\(x.k=2->D.ld)/\(x.k=8->D.cr)/\(x.k=4\/x.k=5\/x.k=6\/x.k=7->D.dr/\D.tk)/\(x.k=9->D.st)
inductive Stp (D:Wh):Nat->Meet->Meet->Prop
 | take (M:Meet) (l:Let) (hl:l∈M.br) (hd:l.src<5/\l.dst<5) (hu:(M.ae l.dst).up=true) (ht:D.tk):Stp D 0 M (M.set l.dst ((M.ae l.dst).take l) M.br M.ew)
 | br (M:Meet) (ls:List Let) (h:∀ l∈ls,l∈M.br) (hd:D.dr):Stp D 0 M { M with br:=ls }
 | one (M:Meet) (i:Nat) (c:Cmd) (hi:i<5) (hu:(M.ae i).up=true) (hc:(M.ae i).ab[(M.ae i).done]?=some c) (he:doE (M.ae i).ni c=0) :
   Stp D 0 M (M.set i (Nod.hZ { M.ae i with ni:=doS (M.ae i).ni c,done:=(M.ae i).done+1 } c) M.br (if((M.ae i).bN c).isSome=true then M.ew++[⟨i,c.c,c.s,doC (M.ae i).ni c,doA (M.ae i).ni c⟩]else M.ew))
 | ask (M:Meet) (i:Nat) (hi:i<5) (hu:(M.ae i).up=true):Stp D 0 M (M.set i ((M.ae i).kc i).1 (M.br++((M.ae i).kc i).2) M.ew)
 | prop (M:Meet) (i:Nat) (hi:i<5) (hu:(M.ae i).up=true):Stp D 1 M (M.set i (M.ae i).cn M.br M.ew)
 | rC (M:Meet) (i:Nat) (hi:i<5) (hu:(M.ae i).up=true) (h:(M.ae i).sy<((M.ae i).d.length:Int)) (hT:AO (M.ae i).d (M.ae i).sy):Stp D 0 M (M.set i { M.ae i with sy:=((M.ae i).d.length:Int) } M.br M.ew)
 | run (M:Meet) (i:Nat) (hi:i<5) (hu:(M.ae i).up=true) (q:Pend) (l:List Pend) (hp:(M.ae i).bu=q::l) (hs:¬ (M.ae i).sy<((M.ae i).d.length:Int)):Stp D 0 M (M.set i { (M.ae i).lr i q with bu:=l } (M.br++(M.ae i).rm i q) M.ew)
 | ry (M:Meet) (i:Nat) (hi:i<5) (hu:(M.ae i).up=true) (hL:(M.ae i).leads=true):Stp D 0 M (M.set i (E5 (M.ae i) i 5) (M.br++Dq (M.ae i) i 5) M.ew)
 | lead (M:Meet) (i:Nat) (hi:i<5) (hu:(M.ae i).up=true) (hL:D.ld):Stp D 0 M (M.set i ((M.ae i).lead i) M.br M.ew)
 | sub (M:Meet) (i:Nat) (d:List Int) (hi:i<5) (hu:(M.ae i).up=true) (hD:D.d i d):Stp D 0 M (M.set i ((M.ae i).rK i d M.ew).1 M.br ((M.ae i).rK i d M.ew).2)
 | lp (M:Meet) (i:Nat) (k:Int) (hi:i<5) (hu:(M.ae i).up=true) (hk:0<=k) (hC:D.cr):Stp D 0 M (M.set i ((M.ae i).lp k) M.br M.ew)
 | start (M:Meet) (i:Nat) (hi:i<5) (hu:(M.ae i).up=false) (hs:D.st):Stp D 0 M (M.set i (M.ae i).start M.br M.ew)
inductive Sts (D:Wh):Nat->Meet->Meet->Prop
 | nil (n:Nat) (M:Meet):Sts D n M M
 | snoc {n c m:Nat} {M N K:Meet} (h:Sts D n M N) (s:Stp D c N K) (hm:n+c<=m):Sts D m M K
end
section
variable{D:Wh}
section
variable{K M N:Meet}{i m n:Nat}{α:Type}
theorem Sts.mono(h:Sts D n M N)(a:n<=m):Sts D m M N:=by
 cases h with
 | nil=>exact .nil m M
 | snoc h s hm=>exact .snoc h s (by omega)
theorem Sts.trans(h:Sts D n M N)(k:Sts D m N K):Sts D (n+m) M K:=by
 induction k with
 | nil=>exact h.mono (by omega)
 | snoc _ s hm ih=>exact(ih h).snoc s (by omega)
theorem Sts.s0(h:Sts D n M N)(s:Stp D 0 N K):Sts D n M K:=h.snoc s (A' _)
theorem Stp.s(h:Stp D 0 M N):Sts D n M N:=(Sts.nil n M).s0 h
theorem Sts.inv{I:Meet->Prop}(b:∀ c M N,Stp D c M N->I M->I N){n:Nat}{M N:Meet}(h:Sts D n M N)(a:I M):I N:=by
 induction h with
 | nil=>exact a
 | snoc _ s _ ih=>exact b _ _ _ s (ih a)
theorem MY(f:Nat->α)(i:Nat):upN f i (f i)=f:=by funext j;unfold upN;split<;>simp_all
theorem Vk(f:Nat->α)(i:Nat)(x y:α):upN (upN f i x) i y=upN f i y:=by funext j;unfold upN;split<;>rfl
theorem Ck(M:Meet)(i:Nat)(p q:Nod)(c a:List Let)(d b:List Tol):(M.set i p c d).set i q a b=M.set i q a b:=by unfold Meet.set;simp only[Vk]
theorem B1(M:Meet)(i:Nat)(p:Nod)(a:List Let)(b:List Tol):(M.set i p a b).ae i=p:=Df M.ae i p
theorem Ed(M:Meet)(l:Let):(M.oh l).br=M.br:=by unfold Meet.oh;split<;>rfl
theorem Od(M:Meet)(l:Let)(a:List Let):({ M with br:=a }:Meet).oh l={ M.oh l with br:=a }:=by
 unfold Meet.oh;show(if(M.ae l.dst).up=true then _ else _)=_;split<;>rfl
theorem Ie(l:List Let)(M:Meet)(a:List Let):l.foldl (λM l=>M.oh l) ({ M with br:=a }:Meet)={ l.foldl (λM l=>M.oh l) M with br:=a }:=by
 induction l generalizing M with
 | nil=>rfl
 | cons x l ih=>rw[qY,Od,ih];rfl
theorem Sts.oh(c:D.tk){n:Nat}{M N:Meet}(h:Sts D n M N){l:Let}(b:l∈N.br)(a:l.src<5/\l.dst<5):Sts D n M (N.oh l):=by
 unfold Meet.oh;split
 .rename_i hu;exact h.s0 (.take N l b a hu c)
 .exact h
theorem Sts.comes(c:D.tk)(l:List Let){n:Nat}{M N:Meet}(h:Sts D n M N)(a:∀ m∈l,m∈N.br/\m.src<5/\m.dst<5):Sts D n M (l.foldl (λM l=>M.oh l) N):=by
 induction l generalizing N with
 | nil=>exact h
 | cons x l ih=>exact ih (h.oh c (a x M').1 (a x M').2) λm b=>by rw[Ed];exact a m (I' _ b)
theorem Sts.rD(k:i<5)(l:List Cmd)(p:Nod){M:Meet}{d:List Let}{a:List Tol}(h:Sts D n M (M.set i p d a))(b:p.up=true)(g:p.ab.drop p.done=l) :
  Sts D n M (M.set i (rD i l p a).1 d (Go.Proofs.YtgbabbapcibnlaaGreatDoor.rD i l p a).2)/\(Go.Proofs.YtgbabbapcibnlaaGreatDoor.rD i l p a).1.up=true:=by
 induction l generalizing p a with
 | nil=>exact⟨h,b⟩
 | cons c l ih =>
  rw[Go.Proofs.YtgbabbapcibnlaaGreatDoor.rD];split
  .exact⟨h,b⟩
  .rename_i he
   have j:p.ab[p.done]?=some c:=by have:=congrArg (·[0]?) g;simpa using this
   have f:=DN { p with ni:=doS p.ni c,done:=p.done+1 } c;have e:=B1 M i p d a;have s:=Stp.one (D:=D) (M.set i p d a) i c k (by rw[e];exact b) (by rw[e];exact j) (by rw[e];exact mE.1 he);rw[e,Ck]at s
   refine ih _ (h.s0 s) (f.1.trans b) ?_;rw[f.2.1,f.2.2.1];show p.ab.drop (p.done+1)=l;rw[<- oZ,g];rfl
theorem Sts.ov(g:i<5)(l:List Pend)(p:Nod){M:Meet}{ls:List Let}{ts:List Tol}(h:Sts D n M (M.set i { p with bu:=l } ls ts))(b:p.up=true)(f:p.bu=[])(c:¬ p.sy<(p.d.length:Int)) :
  Sts D n M (M.set i (ov i l p ls).1 (Go.Proofs.YtgbabbapcibnlaaGreatDoor.ov i l p ls).2 ts)/\(Go.Proofs.YtgbabbapcibnlaaGreatDoor.ov i l p ls).1.up=true:=by
 induction l generalizing p ls with
 | nil =>
  have:({ p with bu:=[] }:Nod)=p:=by cases p;simp_all
  rw[this]at h;exact⟨h,b⟩
 | cons q l ih =>
  have a:=D6 p i q;have e:=B1 M i { p with bu:=q::l } ls ts;have s:=Stp.run (D:=D) (M.set i { p with bu:=q::l } ls ts) i g (by rw[e];exact b) q l (by rw[e]) (by rw[e];exact c);rw[e,Ck,OC,MF]at s
  exact ih (p.lr i q) (h.s0 s) (a.2.1.trans b) (a.1.trans f) (by rw[a.2.2.1,a.2.2.2];exact c)
theorem Sts.piece(c:i<5)(M:Meet)(x:(M.ae i).up=true):Sts D 1 M (M.set i ((M.ae i).piece i M.br M.ew).1 ((M.ae i).piece i M.br M.ew).2.1 ((M.ae i).piece i M.br M.ew).2.2):=by
 have w:Sts D 0 M (M.set i (M.ae i) M.br M.ew):=by rw[show M.set i (M.ae i) M.br M.ew=M by unfold Meet.set;rw[MY]];exact .nil 0 M
 obtain⟨q,l⟩:=Sts.rD c _ (M.ae i) w x rfl;unfold Nod.piece;simp only;generalize Go.Proofs.YtgbabbapcibnlaaGreatDoor.rD i ((M.ae i).ab.drop (M.ae i).done) (M.ae i) M.ew=a at q l ⊢;have e:=B1 M i a.1 M.br a.2;have s:=Stp.ask (D:=D) (M.set i a.1 M.br a.2) i c (by rw[e];exact l);rw[e,Ck]at s
 have t:=q.s0 s;have n:=(I7 a.1 i).trans l;clear e s q;generalize (a.1.kc i)=b at t n ⊢;have e:=B1 M i b.1 (M.br++b.2) a.2;have s:=Stp.prop (D:=D) (M.set i b.1 (M.br++b.2) a.2) i c (by rw[e];exact n);rw[e,Ck]at s
 have g:=t.snoc s (m:=1) (by omega);have h:=(Ex b.1).trans n;clear e s t;change Sts D 1 M (M.set i b.1.cn (M.br++b.2) a.2)at g;generalize b.1.cn=r at g h ⊢;generalize M.br++b.2=k at g ⊢;have j:Sts D 1 M (M.set i (r.nr i k).1 (r.nr i k).2 a.2)/\(r.nr i k).1.up=true:=by
  unfold Nod.nr;split
  .exact⟨g,h⟩
  .rename_i hn
   have e:=B1 M i r k a.2;unfold Nod.rC;split
   .rename_i h1
    have o:Dd r.d r.sy=0:=mE.1 λe=>hn ⟨h1,e⟩;have p:AO r.d r.sy:=by
     unfold Dd at o;split at o
     .assumption
     .cases o
    have s:=Stp.rC (D:=D) (M.set i r k a.2) i c (by rw[e];exact h) (by rw[e];exact h1) (by rw[e];exact p);rw[e,Ck]at s
    have u:Hr r.d r.sy=r.d:=if_pos p;have v:I0 r.d r.sy=(r.d.length:Int):=if_pos p;rw[u,v];exact Sts.ov c r.bu { r with sy:=(r.d.length:Int),bu:=[] } (g.s0 s) h rfl (qv _)
   .rename_i h1
    exact Sts.ov c r.bu { r with bu:=[] } g h rfl h1
 generalize r.nr i k=f at j ⊢;unfold Nod.bw;split
 .rename_i hL
  have e:=B1 M i f.1 f.2 a.2;have s:=Stp.ry (D:=D) (M.set i f.1 f.2 a.2) i c (by rw[e];exact j.2) (by rw[e];exact hL);rw[e,Ck]at s
  exact j.1.s0 s
 .exact j.1
theorem EL(M:Meet)(i:Nat):M.set i (M.ae i) M.br M.ew=M:=by unfold Meet.set;rw[MY]
theorem OT(g:MOk n M){x:Lac}(v:LacOk x)(j:D.may x):Sts D 1 M (M.act x):=by
 obtain⟨j,y,z,i,A⟩:=j;have b:∀ {k:Int},x.k=k->Gi k=true->x.n.toNat<5:=λ{k} e w=>by have:=v.n (by rw[e];exact w);omega
 unfold Meet.act;simp only;split
 .rename_i h1
  by_cases c:(M.ae x.n.toNat).up=true
  .exact(Stp.sub M _ x.d (b h1 rfl) c (j h1)).s
  .unfold Nod.rK Nod.rL;rw[if_pos (by simpa using c)];rw[EL];exact .nil 1 M
 .split
  .rename_i hk
   split
   .rename_i c;exact(Stp.lead M _ (b hk rfl) c (y hk)).s
   .rw[EL];exact .nil 1 M
  .split
   .rename_i h3
    by_cases c:(M.ae x.n.toNat).up=true
    .rw[if_pos c,if_pos c,if_pos c];exact Sts.piece (b h3 rfl) M c
    .rw[if_neg c,if_neg c,if_neg c,EL];exact .nil 1 M
   .split
    .rename_i hk4
     obtain⟨o,r⟩:=i (by omega);unfold Meet.move;split
     .exact .nil 1 M
     .rename_i l q
      have f:=m8 q;have B:=And.intro (g.br l f).src (g.br l f).dst;have u:∀ N:Meet,Sts D 1 M N->N.br=M.br->Sts D 1 M (if x.k≠6 then{ N with br:=M.br.eraseIdx (x.a.toNat%M.br.length) }else N):=λN h e=>by
       split
       .exact h.s0 (.br N _ (λm f=>by rw[e];exact pC f) o)
       .exact h
      simp only;split
      .have:=u (M.oh l) ((Sts.nil 1 M).oh r f B) (Ed M l);by_cases t:x.k≠6
       .rw[if_pos t]at this ⊢;rw[Od];exact this
       .rw[if_neg t]at this ⊢;exact this
      .exact u M (.nil 1 M) rfl
    .split
     .rename_i hk7
      unfold Meet.rA;rw[Ie];exact(Sts.comes (i (by omega)).2 M.br (.nil 1 M) λm f=>⟨f,(g.br m f).src,(g.br m f).dst⟩).s0 (.br _ [] (λl q=>by cases q) (i (by omega)).1)
     .split
      .rename_i hk
       split
       .rename_i c;exact(Stp.lp M _ x.p (b hk rfl) c (v.p (by rw[hk];rfl)).1 (z hk)).s
       .rw[EL];exact .nil 1 M
      .split
       .rename_i h9
        split
        .rw[EL];exact .nil 1 M
        .rename_i c;exact(Stp.start M _ (b h9 rfl) (by simpa using c) (A h9)).s
       .exact .nil 1 M
theorem PV(L:List Lac){n:Nat}{M:Meet}(b:MOk n M)(d:n+L.length<=1000000)(c:∀ x∈L,LacOk x/\D.may x):Sts D L.length M (M.eb L):=by
 induction L generalizing n M with
 | nil=>exact .nil _ M
 | cons x L ih =>
  have a:=c x M';rw[m7]at d
  rw[m7,qM];exact(OT b a.1 a.2).trans (ih (b.act (by omega) a.1) (by omega) λy e=>c y (I' _ e))
end
end
section
def whT:Wh:=⟨λ_ _=>True,True,True,True,True,True⟩
theorem fS(x:Lac):whT.may x:=⟨λ_=>trivial,λ_=>trivial,λ_=>trivial,λ_=>⟨trivial,trivial⟩,λ_=>trivial⟩
inductive Rk where
 | pr (b:Bal)
 | vt (v:Vt)
def Rk.body:Rk->List Int
 | .pr b=>Bv b
 | .vt v=>Bk v
def Rk.ap(a:Acc):Rk->Acc
 | .pr b=>⟨b,a.vs⟩
 | .vt v=>⟨v.b,Bp a.vs v⟩
def Rk.err(a:Acc):Rk->Int
 | .pr b=>Cn a b
 | .vt v=>AV a v
def Rk.ok(a:Acc):Rk->Prop
 | .pr b=>Cn a b=0/\a.p≠b
 | .vt v=>AV a v=0/\v∉a.vs
variable{M:Meet}{a:Acc}{b:Bal}{dr qs rs rs':List Rk}{i j n:Nat}{l:List Cmd}{p:Nod}{r:Rk}{v:Vt}{vs:List Vt}
theorem Rk.ok.err(h:Rk.ok a r):Rk.err a r=0:=by cases r<;>exact h.1
def BD(rs:List Rk):Acc:=rs.foldl Rk.ap a0
theorem BZ(a:List Rk)(r:Rk):BD (a++[r])=Rk.ap (BD a) r:=by unfold BD;rw[po];rfl
def AN(rs:List Rk):Prop:=∀ i r,rs[i]?=some r->Rk.ok (BD (rs.take i)) r
theorem AN.nil:AN []:=λi r h=>by simp at h
theorem AN.left(h:AN (rs++qs)):AN rs:=λi r e=>by
 have a:=(V'.1 e).1;have:=h i r (by rw[mM a];exact e)
 rwa [na (by omega)]at this
theorem AN.pre(h:AN qs)(a:rs <+: qs):AN rs:=by obtain⟨x,rfl⟩:=a;exact h.left
theorem AN.snoc(h:AN rs)(a:Rk.ok (BD rs) r):AN (rs++[r]):=λi q e=>by
 rcases nw i rs.length with hi|hi
 .rw[mM hi]at e
  rw[na (by omega)];exact h i q e
 .have:=(V'.1 e).1;rw[H',nE]at this
  obtain rfl:i=rs.length:=by omega
  rw[mO (A' _)]at e
  simp at e;subst e;rw[na (A' _),oz];exact a
theorem AN.last(h:AN (rs++[r])):Rk.ok (BD rs) r:=by
 have:=h rs.length r (by simp)
 rwa [na (A' _),oz]at this
theorem AN.ind{P:List Rk->Prop}(b:P [])(c:∀ a r,AN a->Rk.ok (BD a) r->P a->P (a++[r])){a:List Rk}(h:AN a):P a:=by
 have:∀ k,k<=a.length->P (a.take k):=by
  intro k;induction k with
  | zero=>intro _;exact b
  | succ k ih =>
   intro d;have e:a.take (k+1)=a.take k++[a[k]]:=by rw[mQ (by omega)]
   rw[e];exact c _ _ (h.pre (pz _ _)) (h k _ (G' (by omega))) (ih (by omega))
 have:=this a.length (A' _)
 rwa [oz]at this
theorem Ag.tY(h:Ag a)(c:Ab b)(i:¬ b.lt a.p):Ag ⟨b,a.vs⟩:=by
 refine⟨.inl c,λv d=>⟨(h.2.1 v d).1,λg=>?_⟩,h.2.2⟩;have e:=(h.2.1 v d).1.2.1;have f:=(h.2.1 v d).2;rw[EZ c.pr e.pr]at g
 rw[EZ h.1 e.pr]at f
 rw[EZ c.pr h.1]at i
 omega
theorem Ag.sY(h:Ag a)(d:Ah v)(e:¬ v.b.lt a.p):Ag ⟨v.b,Bp a.vs v⟩:=by
 refine⟨.inl d.2.1,λu c=>?_,JA v h.2.2⟩;rcases(BH h.2.2).1 c with rfl|⟨c,_⟩
 .refine⟨d,λg=>?_⟩;change u.b.lt u.b at g;unfold Bal.lt at g;omega
 .exact(h.tY d.2.1 e).2.1 u c
theorem Lc:Ag a0:=⟨.inr ⟨rfl,rfl⟩,λv a=>(P' a).elim,trivial⟩
theorem Rk.may(h:Ag a){r:Rk}(c:Rk.err a r=0):Ag (Rk.ap a r):=by
 cases r with
 | pr b=>have:=Cp c;exact h.tY this.2.1 this.2.2
 | vt v=>have:=Ar c;exact h.sY this.2.1 this.2.2
theorem AN.acc(h:AN rs):Ag (BD rs):=h.ind (P:=λrs=>Ag (BD rs)) Lc λrs r _ a b=>by rw[BZ];exact Rk.may b a.err
theorem Bq{a:Bal}(c:Aq a)(d:Aq b)(h:¬ a.lt b):b.key<=a.key:=by rw[EZ c d]at h;omega
theorem Rk.ss(h:Ag a){r:Rk}(c:Rk.err a r=0):a.p.key<=(Rk.ap a r).p.key:=by
 cases r with
 | pr b=>have:=Cp c;exact Bq this.2.1.pr h.1 this.2.2
 | vt v=>have:=Ar c;exact Bq this.2.1.2.1.pr h.1 this.2.2
theorem Jf(h:AN rs):∀ v∈(BD rs).vs,Rk.vt v∈rs:=h.ind (P:=λrs=>∀ v∈(BD rs).vs,Rk.vt v∈rs) (λv a=>by cases a) λrs r d e c v a=>by
 rw[BZ]at a
 cases r with
 | pr b=>exact mG _ (c v a)
 | vt u =>
  rcases(BH d.acc.2.2).1 a with rfl|⟨a,_⟩
  .exact mD _ M'
  .exact mG _ (c v a)
theorem Ag.le(h:Ag a){v:Vt}(c:v∈a.vs):v.b.key<=a.p.key:=Bq h.1 (h.2.1 v c).1.2.1.pr (h.2.1 v c).2
theorem Mb(h:Ag a){v:Vt}(f:AV a v=0){u:Vt}(c:u∈a.vs):∃ x∈Bp a.vs v,x.bt=u.bt/\u.b.key<=x.b.key:=by
 have d:=Ar f;by_cases e:u.bt=v.bt
 .exact⟨v,(BH h.2.2).2 (.inl rfl),e.symm,mT (h.le c) (Bq d.2.1.2.1.pr h.1 d.2.2)⟩
 .exact⟨u,(BH h.2.2).2 (.inr ⟨c,e⟩),rfl,mA _⟩
theorem Rr(h:AN rs):∀ v,Rk.vt v∈rs->v.b.key<=(BD rs).p.key/\∃ u∈(BD rs).vs,u.bt=v.bt/\v.b.key<=u.b.key:=h.ind (P:=λrs=>∀ v,Rk.vt v∈rs->v.b.key<=(BD rs).p.key/\∃ u∈(BD rs).vs,u.bt=v.bt/\v.b.key<=u.b.key) (λv hv=>by cases hv) λrs r c a e v hv=>by
 have d:=Rk.ss c.acc a.err;rw[BZ];rcases U'.1 hv with hv|hv
 .obtain⟨h1,u,h2,h3,h4⟩:=e v hv;refine⟨mT h1 d,?_⟩;cases r with
  | pr b=>exact⟨u,h2,h3,h4⟩
  | vt w =>
   obtain⟨x,f,g,i⟩:=Mb c.acc a.err h2;exact⟨x,f,g.trans h3,mT h4 i⟩
 .rw[<- D'.1 hv]at a ⊢
  exact⟨mA _,v,(BH c.acc.2.2).2 (.inl rfl),rfl,mA _⟩
theorem D5(h:AN (rs++qs)):(BD rs).p.key<=(BD (rs++qs)).p.key/\∀ v,Rk.vt v∈qs->(BD rs).p.key<=v.b.key:=by
 have:∀ k,k<=qs.length->(BD rs).p.key<=(BD (rs++qs.take k)).p.key/\∀ v,Rk.vt v∈qs.take k->(BD rs).p.key<=v.b.key:=by
  intro k;induction k with
  | zero=>intro _;rw[nT,mV];exact⟨mA _,λv hv=>by cases hv⟩
  | succ k ih =>
   intro i;obtain⟨c,g⟩:=ih (by omega);have e:qs.take (k+1)=qs.take k++[qs[k]]:=by rw[mQ (by omega)]
   have a:AN (rs++qs.take k++[qs[k]]):=h.pre (by rw[mC,<- e];exact List.prefix_append_right_inj rs |>.2 (pz _ _));have d:=Rk.ss a.left.acc a.last.err;rw[<- BZ]at d
   rw[e,<- mC];refine⟨mT c d,λv hv=>?_⟩;rcases U'.1 hv with hv|hv
   .exact g v hv
   .have hl:=a.last;rw[<- D'.1 hv]at hl
    have f:=Ar hl.err;exact mT c (Bq f.2.1.2.1.pr a.left.acc.1 f.2.2)
 have:=this qs.length (A' _)
 rwa [oz]at this
def fl(rs:List Rk):List Int:=AD (rs.map Rk.body)
theorem dl(a:List Rk)(r:Rk):fl (a++[r])=fl a++AL r.body:=by unfold fl;rw[mX,CG];simp[AD]
theorem SF(b a:List Rk):fl (b++a)=fl b++fl a:=by unfold fl;rw[mX,CG]
theorem Y4(h:rs <+: qs):(fl rs).length<=(fl qs).length:=by obtain⟨x,rfl⟩:=h;rw[SF,H'];omega
theorem jV(h:rs <+: qs)(a:(fl qs).length<=(fl rs).length):rs=qs:=by
 obtain⟨x,rfl⟩:=h;rw[SF,H']at a
 have:=Q2 (x.map Rk.body);rw[mR]at this
 unfold fl at a;obtain rfl:x=[]:=Z' (by omega);rw[mV]
theorem AN.ua(h:AN rs):Chn ((List.range (rs.length+1)).map λj=>BD (rs.take j)) (rs.map Rk.body):=by
 refine⟨by simp,by simp[BD],λi b a c g f l=>?_⟩;simp only[nm,nZ]at g f l;obtain⟨r,e,rfl⟩:=g;obtain⟨j,n,rfl⟩:=f;obtain⟨k,o,rfl⟩:=l;have m:=(V'.1 e).1;rw[oB (by omega)]at n o
 cases n;cases o;have d:=(h i r e).err;have p:rs[i]=r:=by rw[G' m]at e;exact nh e
 rw[mQ m,BZ,p];generalize BD (rs.take i)=a at d ⊢;cases r with
 | pr b=>show DJ a (Bv b)=_;rw[Yr a (Cp d).2.1];exact if_pos d
 | vt v=>show DJ a (Bk v)=_;rw[Ys a (Ar d).2.1];exact if_pos d
structure TpU(p:Nod)(dr rs:List Rk):Prop where
 ok:AN rs
 pre:dr <+: rs
 d:p.d=fl rs
 sy:p.sy=((fl dr).length:Int)
 vo:p.vo=BD rs
 len:p.d.length<=100000
structure TpD(p:Nod)(dr:List Rk):Prop where
 ok:AN dr
 sK:Ea p.d=((fl dr).length,BD dr)
 tk:p.d.take (fl dr).length=fl dr
 sy:p.sy=(p.d.length:Int)
 len:p.d.length<=100000
theorem TpU.sg(h:TpU p dr rs):AO p.d p.sy:=by
 have:=Y4 h.pre;have:=h.d;refine⟨h.len,by rw[h.sy];omega,?_⟩;rw[h.sy,h.d];omega
theorem TpU.zero:TpU Da [] []:=⟨AN.nil,mH _,rfl,rfl,rfl,by decide⟩
theorem TpU.all(h:TpU p dr rs)(a:¬ p.sy<(p.d.length:Int)):dr=rs:=jV h.pre (by rw[h.sy,h.d]at a;omega)
theorem TpU.lp(h:TpU p dr rs){k:Int}(u:0<=k):∃ dr',dr <+: dr'/\dr' <+: rs/\TpD (p.lp k) dr':=by
 have o:=h.sg;have b:Gq p.d p.sy k=0:=by unfold Gq;rw[if_neg (λe=>e o),if_neg (by omega)]
 have f:=o;unfold AO at f;have t:p.sy<=Gt p.d p.sy k/\Gt p.d p.sy k<=(p.d.length:Int):=by unfold Gt;split<;>omega
 obtain⟨j,a,r,l,m,n,h5⟩:=h.ok.ua.tO (Gt p.d p.sy k).toNat;rw[mR]at r h5
 rw[nm,oB (by omega)]at l
 obtain rfl:BD (rs.take j)=a:=by simpa using l
 have i:AD ((rs.map Rk.body).take j)=fl (rs.take j):=by unfold fl;rw[qg]
 rw[i]at m n
 have c:(p.lp k).d=(fl rs).take (Gt p.d p.sy k).toNat:=by
  unfold Nod.lp;rw[if_neg (λe=>e b)];show KF p.d p.sy k=_;unfold KF;rw[if_pos b,h.d]
 have s:(p.lp k).sy=Gt p.d p.sy k:=by
  unfold Nod.lp;rw[if_neg (λe=>e b)];show KG p.d p.sy k=_;unfold KG;rw[if_pos b]
 have q:((fl rs).take (Gt p.d p.sy k).toNat).length=(Gt p.d p.sy k).toNat:=by rw[Y',<- h.d];omega
 refine⟨rs.take j,?_,pz _ _,h.ok.pre (pz _ _),by rw[c];exact m,?_,?_,?_⟩
 .obtain⟨x,hx⟩:=h.pre;rcases nw j dr.length with g|g
  .exfalso;rcases h5 with h5|h5
   .rw[<- hx,H']at h5;omega
   .have hp:rs.take (j+1) <+: dr:=by rw[<- hx,na (by omega)];exact pz _ _
    have:=Y4 hp;rw[show AD ((rs.map Rk.body).take (j+1))=fl (rs.take (j+1))by unfold fl;rw[qg]]at h5
    have:=h.sy;omega
  .rw[<- hx,List.take_append];rw[mN g];exact nS _ _
 .rw[c,o0,nU n];have e:fl rs=fl (rs.take j)++fl (rs.drop j):=by rw[<- SF,nN]
  rw[show(fl rs).take (fl (rs.take j)).length=(fl (rs.take j)++fl (rs.drop j)).take (fl (rs.take j)).length by rw[<- e],na (A' _),oz]
 .rw[s,c,q];omega
 .rw[c,q];have:=h.len;omega
theorem TpD.start(h:TpD p dr):TpU p.start dr dr:=by
 have c:AO p.d p.sy:=⟨h.len,by rw[h.sy];omega,by rw[h.sy];omega⟩;have g:Dd p.d p.sy=0:=if_pos c;have i:NH p.d p.sy=((fl dr).length:Int):=by unfold NH;rw[if_pos c,h.sK]
 have j:GA p.d p.sy=BD dr:=by unfold GA;rw[if_pos c,h.sK]
 have a:=UV p.d;rw[h.sK]at a
 have a:(fl dr).length<=p.d.length:=a;have f:=h.len;unfold Nod.start;rw[if_neg (λe=>e g),i,j];split
 .rename_i hlt
  have b:JJ p.d p.sy=fl dr:=by unfold JJ;rw[if_pos c,h.sK];exact h.tk
  have k:M2 p.d p.sy=((fl dr).length:Int):=by unfold M2;rw[if_pos c,h.sK];exact if_pos (by rw[h.sy];exact hlt)
  exact⟨h.ok,mH _,b,k,rfl,by show(JJ p.d p.sy).length<=_;rw[b];omega⟩
 .rename_i hge
  have b:p.d=fl dr:=by have:=h.tk;rwa [mN (by omega)]at this
  exact⟨h.ok,mH _,b,by show p.sy=_;rw[h.sy,<- b],rfl,f⟩
theorem TpU.rC(h:TpU p dr rs):TpU { p with sy:=(p.d.length:Int) } rs rs:=⟨h.ok,mH _,h.d,by show(p.d.length:Int)=_;rw[h.d],h.vo,h.len⟩
def Nod.tv(p:Nod)(d:List Int)(s:Int)(a:Acc):Nod:={ p with d:=d,sy:=s,vo:=a }
theorem TpU.write(h:TpU p dr rs){r:Rk}(a:Rk.ok p.vo r)(b:p.d.length+(r.body.length+5)<=100000):TpU (p.tv (p.d++AL r.body) p.sy (Rk.ap p.vo r)) dr (rs++[r]):=by
 rw[h.vo]at a
 refine⟨h.ok.snoc a,h.pre.trans (nS _ _),?_,h.sy,?_,?_⟩
 .show p.d++_=_;rw[h.d,dl]
 .show Rk.ap p.vo r=_;rw[h.vo,BZ]
 .show(p.d++AL r.body).length<=_;rw[H',Bi];omega
theorem TpU.au(h:TpU p dr rs)(b:Bal):((p.au b).2.2≠0/\(p.au b).1=p) \/
  ((p.au b).2.2=0/\Cn p.vo b=0/\(p.au b).2.1=p.vo.vs/\∃ rs',rs <+: rs'/\TpU (p.au b).1 dr rs'/\(∀ v,Rk.vt v∈rs'↔Rk.vt v∈rs)/\(BD rs').p=b/\(BD rs').vs=p.vo.vs/\∃ d a,(p.au b).1=p.tv d p.sy a):=by
 unfold Nod.au;split
 .rename_i c;exact .inl ⟨c,rfl⟩
 .rename_i c
  have c:=mE.1 c;split
  .rename_i h2
   refine .inr ⟨rfl,c,rfl,rs,mH _,?_,λ_=>Iff.rfl,?_,?_,p.d,p.vo,?_⟩
   .rw[h2];exact h
   .rw[<- h.vo];exact h2.symm
   .rw[<- h.vo]
   .rw[h2];rfl
  .rename_i h2
   split
   .rename_i f;exact .inl ⟨f,rfl⟩
   .rename_i f
    have f:=mE.1 f;have j:=JZ f;have g:Ga p.d p.sy (Ab b) (Bv b)=p.d++AL (Bv b):=if_pos f;have i:GR p.d p.sy (Ab b) (Bv b)=p.sy:=if_pos f;rw[g,i];refine .inr ⟨rfl,c,rfl,rs++[Rk.pr b],nS _ _,(h.write (r:=.pr b) ⟨c,λe=>h2 e.symm⟩ j.2.1),λv=>by simp,?_,?_,_,_,rfl⟩
    .rw[BZ];rfl
    .rw[BZ,h.vo];rfl
theorem VX{l:List Vt}(h:BR l){v:Vt}(hv:v∈l):Bp l v=l:=by
 induction l with
 | nil=>cases hv
 | cons u us ih =>
  rw[Bp];rcases mJ.1 hv with rfl|hv
  .rw[if_neg (qv _),if_pos rfl]
  .rw[if_pos (h.1 v hv),ih h.2 hv]
theorem TpU.cl(h:TpU p dr rs)(v:Vt):((p.cl v).2≠0/\(p.cl v).1=p) \/
  ((p.cl v).2=0/\AV p.vo v=0/\∃ rs',rs <+: rs'/\TpU (p.cl v).1 dr rs'/\(∀ u,Rk.vt u∈rs'↔u=v\/Rk.vt u∈rs)/\(BD rs').p=v.b/\∃ d a,(p.cl v).1=p.tv d p.sy a):=by
 unfold Nod.cl;split
 .rename_i c;exact .inl ⟨c,rfl⟩
 .rename_i c
  have c:=mE.1 c;have i:=Ar c;split
  .rename_i h2
   have m:=i.1.le h2;have l:=Bq i.2.1.2.1.pr i.1.1 i.2.2;have e:v.b=p.vo.p:=DB i.2.1.2.1.pr i.1.1 (by omega);have j:(⟨v.b,Bp p.vo.vs v⟩:Acc)=p.vo:=by rw[VX i.1.2.2 h2,e]
   rw[j];refine .inr ⟨rfl,c,rs,mH _,h,λu=>⟨.inr,λhu=>?_⟩,by rw[<- h.vo];exact e.symm,p.d,p.vo,rfl⟩;rcases hu with rfl|hu
   .exact Jf h.ok u (by rw[<- h.vo];exact h2)
   .exact hu
  .rename_i h2
   split
   .rename_i f;exact .inl ⟨f,rfl⟩
   .rename_i f
    have f:=mE.1 f;have n:=JZ f;have k:Ga p.d p.sy (Ah v) (Bk v)=p.d++AL (Bk v):=if_pos f;have j:GR p.d p.sy (Ah v) (Bk v)=p.sy:=if_pos f;rw[k,j];refine .inr ⟨rfl,c,rs++[Rk.vt v],nS _ _,h.write (r:=.vt v) ⟨c,h2⟩ n.2.1,λu=>?_,by rw[BZ];rfl,_,_,rfl⟩;rw[U',D'];exact⟨λg=>g.elim .inr λe=>.inl (Rk.vt.inj e),λg=>g.elim (λe=>.inr (by rw[e])) .inl⟩
structure Gs where
 dr:Nat->List Rk
 W:Bal->Nat->Cmd->Prop
def Gs.held(σ:Gs)(n:Nat)(v:Vt):Prop:=Rk.vt v∈σ.dr n
def Gs.H(σ:Gs)(n s:Nat)(b:Int)(c:Cmd):Prop:=∃ v,σ.held n v/\v.bt=(s:Int)/\v.b.key=b/\v.w=c
def Gs.P(σ:Gs)(n:Nat):Int:=(BD (σ.dr n)).p.key
def Gs.rO(σ:Gs)(v:Vt):Prop:=Ah v/\σ.W v.b v.bt.toNat v.w
def Gs.sH(σ:Gs)(s:Nat)(c:Cmd):Prop:=∃ b,Ch σ.H s b c
structure GsI(σ:Gs):Prop where
 ok:∀ n,AN (σ.dr n)
 sJ:PInv σ.H σ.P
 w1:∀ b s c c',σ.W b s c->σ.W b s c'->c=c'
 w2:∀ b s c,σ.W b s c->Ab b/\Ei σ.H σ.P s b.key c
 w3:∀ b s c,σ.W b s c->b.key<=σ.P b.n.toNat
 hv:∀ n v,σ.held n v->σ.rO v
structure Gs.le(σ τ:Gs):Prop where
 pre:∀ n,σ.dr n <+: τ.dr n
 W:∀ b s c,σ.W b s c->τ.W b s c
theorem Gs.le.refl(σ:Gs):σ.le σ:=⟨λ_=>mH _,λ_ _ _ h=>h⟩
variable{σ τ:Gs}
theorem Gs.le.trans{υ:Gs}(h:σ.le τ)(k:τ.le υ):σ.le υ:=⟨λn=>(h.pre n).trans (k.pre n),λb s c g=>k.W b s c (h.W b s c g)⟩
theorem Gs.le.held(h:σ.le τ){n:Nat}{v:Vt}(g:σ.held n v):τ.held n v:=(h.pre n).subset g
theorem Gs.le.H(h:σ.le τ){n s:Nat}{b:Int}{c:Cmd}(g:σ.H n s b c):τ.H n s b c:=by obtain⟨v,a,d⟩:=g;exact⟨v,h.held a,d⟩
theorem Gs.le.rO(h:σ.le τ){v:Vt}(g:σ.rO v):τ.rO v:=⟨g.1,h.W _ _ _ g.2⟩
theorem Gs.le.sH(h:σ.le τ){s:Nat}{c:Cmd}(g:σ.sH s c):τ.sH s c:=by obtain⟨b,Q,a,d⟩:=g;exact⟨b,Q,a,λq f e=>h.H (d q f e)⟩
theorem Gs.le.P(h:σ.le τ)(a:GsI τ)(n:Nat):σ.P n<=τ.P n:=by
 obtain⟨x,b⟩:=h.pre n;have:=a.ok n;unfold Gs.P;rw[<- b]at this ⊢
 exact(D5 this).1
structure Gs.sL(i:Nat)(σ τ:Gs):Prop where
 le:σ.le τ
 new:∀ b s c,τ.W b s c->σ.W b s c\/b.n=(i:Int)
 ue:∀ n,n≠i->τ.dr n=σ.dr n
theorem Gs.sL.refl(i:Nat)(σ:Gs):Gs.sL i σ σ:=⟨.refl σ,λ_ _ _ h=>.inl h,λ_ _=>rfl⟩
def Gs.ext(σ:Gs)(i:Nat)(qs:List Rk):Gs:=⟨upN σ.dr i (σ.dr i++qs),σ.W⟩
theorem Ih(σ:Gs)(i:Nat)(a:List Rk):(σ.ext i a).dr i=σ.dr i++a:=Df _ _ _
theorem LK(σ:Gs){i n:Nat}(a:List Rk)(h:n≠i):(σ.ext i a).dr n=σ.dr n:=Dv _ _ h
theorem Pe(σ:Gs)(i:Nat)(a:List Rk):Gs.sL i σ (σ.ext i a):=⟨⟨λn=>by
 by_cases e:n=i
 .subst e;rw[Ih];exact nS _ _
 .rw[LK σ a e];exact mH _,λ_ _ _ h=>h⟩,λ_ _ _ h=>.inl h,λn h=>LK σ a h⟩
theorem Qy(σ:Gs)(i:Nat)(r:Rk):(σ.ext i [r]).P=upP σ.P i (Rk.ap (BD (σ.dr i)) r).p.key:=by
 funext n
 unfold Gs.P upP;split
 .rename_i e;subst e;rw[Ih,BZ]
 .rename_i e;rw[LK σ _ e]
theorem IJ:(σ.ext i qs).held n v↔σ.held n v\/(n=i/\Rk.vt v∈qs):=by
 unfold Gs.held;by_cases e:n=i
 .subst e;rw[Ih,U'];simp
 .rw[LK σ qs e];simp[e]
theorem GsI.tM(h:GsI σ){i:Nat}{r:Rk}(D:Rk.ok (BD (σ.dr i)) r)(F:∀ v,r=.vt v->σ.rO v):GsI (σ.ext i [r]):=by
 have l:=(h.ok i).acc;have t:=Rk.ss l D.err;have f:=(Pe σ i [r]).le;have q:∀ n,AN ((σ.ext i [r]).dr n):=λn=>by
  by_cases e:n=i
  .subst e;rw[Ih];exact(h.ok n).snoc D
  .rw[LK σ _ e];exact h.ok n
 have d:σ.P i<=(Rk.ap (BD (σ.dr i)) r).p.key:=t;have B:∀ n,σ.P n<=(σ.ext i [r]).P n:=λn=>by rw[Qy];exact MZ d n
 have o:∀ n v,(σ.ext i [r]).held n v->(σ.ext i [r]).rO v:=λn v g=>by
  rcases IJ.1 g with g|⟨_,g⟩
  .exact f.rO (h.hv n v g)
  .exact f.rO (F v (D'.1 g).symm)
 cases r with
 | pr b =>
  have j:(σ.ext i [.pr b]).H=σ.H:=by
   funext n s a c
   exact propext ⟨λ⟨v,g,k⟩=>⟨v,(IJ.1 g).resolve_right λe=>by simp at e,k⟩,λ⟨v,g,k⟩=>⟨v,f.held g,k⟩⟩
  refine⟨q,?_,h.w1,λa s c g=>⟨(h.w2 a s c g).1,?_⟩,λa s c g=>mT (h.w3 a s c g) (B _),o⟩
  .rw[j,Qy];exact h.sJ.au d
  .rw[j,Qy];exact(h.w2 a s c g).2.up d
 | vt v =>
  obtain⟨z,C⟩:=F v rfl;have I:v.bt=(v.bt.toNat:Int):=by have:=z.1;omega
  have j:(σ.ext i [.vt v]).H=gL σ.H i v.bt.toNat v.b.key v.w:=by
   funext n s a c
   refine propext ⟨λ⟨u,g,G,x,y⟩=>?_,λg=>?_⟩
   .rcases IJ.1 g with g|⟨g1,g2⟩
    .exact .inl ⟨u,g,G,x,y⟩
    .have e:u=v:=Rk.vt.inj (D'.1 g2);subst e;exact .inr ⟨g1,by omega,x.symm,y.symm⟩
   .rcases g with⟨u,g,k⟩|⟨rfl,rfl,rfl,rfl⟩
    .exact⟨u,f.held g,k⟩
    .exact⟨v,IJ.2 (.inr ⟨rfl,D'.2 rfl⟩),I,rfl,rfl⟩
  refine⟨q,?_,h.w1,λa s c g=>⟨(h.w2 a s c g).1,?_⟩,λa s c g=>mT (h.w3 a s c g) (B _),o⟩
  .rw[j,Qy];refine h.sJ.cl d (by have:=z.2.1.pos;show 0<v.b.key;omega) (h.w2 _ _ _ C).2 λm J ⟨u,g,G,x,y⟩=>?_;have E:=h.hv m u g;have e:u.b=v.b:=DB E.1.2.1.pr z.2.1.pr x;have A:=E.2;rw[e,show u.bt.toNat=v.bt.toNat by omega,y]at A
   exact h.w1 _ _ _ _ A C
  .rw[j,Qy];exact(h.w2 a s c g).2.cl d
theorem dg(σ:Gs)(i:Nat)(r:Rk)(a:List Rk):(σ.ext i [r]).ext i a=σ.ext i (r::a):=by unfold Gs.ext;simp only[Df,Vk,mC,List.singleton_append]
theorem GsI.ext(h:GsI σ){i:Nat}(a:List Rk)(b:AN (σ.dr i++a))(c:∀ v,Rk.vt v∈a->σ.rO v):GsI (σ.ext i a):=by
 induction a generalizing σ with
 | nil =>
  have:σ.ext i []=σ:=by unfold Gs.ext;rw[mV,MY]
  rw[this];exact h
 | cons r a ih =>
  rw[<- dg];have d:AN (σ.dr i++[r]):=b.pre ⟨a,by simp⟩;refine ih (h.tM d.last λv e=>c v (by rw[e];exact M')) ?_ λv g=>(Pe σ i [r]).le.rO (c v (I' _ g));rw[Ih,mC];exact b
structure PrmOk(dr:List Rk)(b:Bal)(vs:List Vt):Prop where
 le:b.key<=(BD dr).p.key
 sub:∀ v∈vs,Rk.vt v∈dr/\v.b.key<=b.key
 tS:∀ v,Rk.vt v∈dr->v.b.key<b.key->∃ u∈vs,u.bt=v.bt/\v.b.key<=u.b.key
 acc:Ag ⟨b,vs⟩
theorem PrmOk.mono(h:PrmOk dr b vs)(e:dr <+: rs)(d:AN rs):PrmOk rs b vs:=by
 obtain⟨x,rfl⟩:=e;have c:=D5 d;refine⟨mT h.le c.1,λv hv=>⟨mG _ (h.sub v hv).1,(h.sub v hv).2⟩,λv hv a=>?_,h.acc⟩;rcases U'.1 hv with hv|hv
 .exact h.tS v hv a
 .have:=c.2 v hv;have:=h.le;omega
theorem PrmOk.of(c:AN rs){b:Bal}{d:List Vt}(e:(BD rs).p=b)(a:(BD rs).vs=d):PrmOk rs b d:=by
 subst e a;exact⟨mA _,λv a=>⟨Jf c v a,c.acc.le a⟩,λv a _=>(Rr c v a).2,c.acc⟩
structure RdI(σ:Gs)(i:Nat)(r:Rnd):Prop where
 gC:r.gC=Ba\/(Ab r.gC/\r.gC.n=(i:Int))
 next:∀ s c,σ.W r.gC s c->s<r.next
 own:∀ j,j<5->r.rh j=true->r.gC.key<=σ.P i
 an:∀ j,j<5->∀ v∈(r.an j).vs,σ.held j v/\v.b.key<=r.gC.key/\(r.rh j=false->v.b=r.gC)
 prom:∀ j,j<5->r.rh j=true->r.gC.key<=σ.P j/\∀ v,σ.held j v->v.b.key<r.gC.key->∃ u∈(r.an j).vs,u.bt=v.bt/\v.b.key<=u.b.key
 acc:∀ j,j<5->Ag (r.an j)/\(r.rh j=true->(r.an j).p=r.gC)
def PnI(σ:Gs)(rs:List Rk)(r:Rnd):Pend->Prop
 | .began b vs=>PrmOk rs b vs/\b.key<=r.gC.key
 | .prom _ b vs=>PrmOk rs b vs/\b.key<=σ.P b.n.toNat
 | .voted _ v=>Rk.vt v∈rs
 | .prop v=>Rk.vt v∈rs
 | .ed _ b=>Aq b/\b.key<=(BD rs).p.key
 | _=>True
structure UpI(σ:Gs)(i:Nat)(p:Nod)(rs:List Rk):Prop where
 tp:TpU p (σ.dr i) rs
 rO:∀ v,Rk.vt v∈rs->σ.rO v
 rd:RdI σ i p.av
 bp:p.av.gC.key<=p.vo.p.key
 pe:∀ q∈p.bu,PnI σ rs p.av q
def AgL(σ:Gs)(l:List Cmd)(k:Nat):Prop:=∀ s c,l[s]?=some c->σ.sH (k+s) c
structure NdI(σ:Gs)(i:Nat)(p:Nod):Prop where
 up:p.up=true->∃ rs,UpI σ i p rs
 dn:p.up=false->TpD p (σ.dr i)
 ag:AgL σ p.ab 0
structure LtI(σ:Gs)(l:Let):Prop where
 k0:l.kind=0->l.gC.key<=σ.P l.gC.n.toNat
 k1:l.kind=1->PrmOk (σ.dr l.src) l.gC l.mv/\l.gC.key<=σ.P l.gC.n.toNat/\AgL σ l.fv 0
 k2:l.kind=2->Aq l.gC/\l.gC.key<=σ.P l.src
 k3:l.kind=3->σ.rO l.cl
 k4:l.kind=4->σ.held l.src l.cl
 k5:l.kind=5->AgL σ l.fv l.bt
structure AgI(σ:Gs)(M:Meet):Prop where
 gs:GsI σ
 nd:∀ i,i<5->NdI σ i (M.ae i)
 lt:∀ l∈M.br,LtI σ l
theorem AgL.mono(h:σ.le τ){l:List Cmd}{k:Nat}(g:AgL σ l k):AgL τ l k:=λs c e=>h.sH (g s c e)
theorem RdI.mono(h:σ.le τ)(f:GsI τ){i:Nat}{r:Rnd}(g:RdI σ i r)(m:∀ s c,τ.W r.gC s c->s<r.next):RdI τ i r:=by
 refine⟨g.gC,m,λj a d=>mT (g.own j a d) (h.P f i),λj a v e=>⟨h.held (g.an j a v e).1,(g.an j a v e).2⟩,λj a d=>⟨mT (g.prom j a d).1 (h.P f j),λv e k=>?_⟩,g.acc⟩;obtain⟨x,n⟩:=h.pre j;have l:=f.ok j;have hv':Rk.vt v∈τ.dr j:=e;rw[<- n]at l hv'
 rcases U'.1 hv' with hv'|hv'
 .exact(g.prom j a d).2 v hv' k
 .have h1:=(D5 l).2 v hv';have o:=(g.prom j a d).1;have p:σ.P j<=v.b.key:=h1;omega
theorem PnI.mono(h:σ.le τ)(f:GsI τ){e a:List Rk}(c:e <+: a)(d:AN a){r r':Rnd}(i:r.gC.key<=r'.gC.key){q:Pend}(g:PnI σ e r q):PnI τ a r' q:=by
 cases q with
 | began b vs=>exact⟨g.1.mono c d,mT g.2 i⟩
 | prom to b vs=>exact⟨g.1.mono c d,mT g.2 (h.P f _)⟩
 | voted to v=>exact c.subset g
 | prop v=>exact c.subset g
 | ed to b=>obtain⟨x,rfl⟩:=c;exact⟨g.1,mT g.2 (D5 d).1⟩
 | _=>trivial
theorem NdI.mono(h:Gs.sL i σ τ)(a:GsI τ)(n:GsI σ)(d:j≠i){p:Nod}(g:NdI σ j p):NdI τ j p:=by
 have e:=h.ue j d;refine⟨λl=>?_,λb=>by rw[e];exact g.dn b,g.ag.mono h.le⟩;obtain⟨o,k⟩:=g.up l;refine⟨o,by rw[e];exact k.tp,λv m=>h.le.rO (k.rO v m),k.rd.mono h.le a λs c hW=>?_,k.bp,λq f=>(k.pe q f).mono h.le a (mH _) k.tp.ok (mA _)⟩;rcases h.new _ _ _ hW with hW|hW
 .exact k.rd.next s c hW
 .rcases k.rd.gC with hb|⟨_,hb⟩
  .have:=(a.w2 _ _ _ ‹_›).1;rw[hb]at this
   exact absurd this (by decide)
  .rw[hb]at hW;omega
theorem LtI.mono(h:σ.le τ)(a:GsI τ){l:Let}(g:LtI σ l):LtI τ l :=
 ⟨λe=>mT (g.k0 e) (h.P a _),λe=>⟨(g.k1 e).1.mono (h.pre _) (a.ok _),mT (g.k1 e).2.1 (h.P a _),(g.k1 e).2.2.mono h⟩,λe=>⟨(g.k2 e).1,mT (g.k2 e).2 (h.P a _)⟩,λe=>h.rO (g.k3 e),λe=>h.held (g.k4 e),λe=>(g.k5 e).mono h⟩
theorem AgI.set(h:AgI σ M){i:Nat}(b:Gs.sL i σ τ)(a:GsI τ){p:Nod}(g:NdI τ i p){ls:List Let}(d:∀ l∈ls,l∈M.br\/LtI τ l)(ts:List Tol):AgI τ (M.set i p ls ts) :=
 ⟨a,λj c=>by
  show NdI τ j (upN M.ae i p j);unfold upN;split
  .rename_i e;rw[e];exact g
  .rename_i e;exact(h.nd j c).mono b a h.gs e,λl f=>(d l f).elim (λk=>(h.lt l k).mono b.le a) id⟩
theorem Um{r:Rnd}(h:∀ j,j<5->∀ v∈(r.an j).vs,σ.held j v){s:Nat}(a:CZ r.jv (s:Int)=0):σ.sH s (CR r.jv (s:Int)):=by
 have k:CR r.jv (s:Int)=((Hj (Dy r.jv (s:Int)) r.jv.length).map (·.w)).getD ⟨0,0,0,0,0⟩:=if_pos a;unfold CZ at a;split at a
 .cases a
 .split at a
  .cases a
  .rename_i d
   have d:=mE.1 d;split at a
   .rename_i hO
    obtain⟨v,g⟩:=nL.1 hO;rw[k,g];have m:=List.find?_some g;have i:5<2*BQ (Dy r.jv (s:Int)) v:=mZ m;have e:Dy r.jv (s:Int)=Ae (r.an 0).vs (s:Int)++(Ae (r.an 1).vs (s:Int)++(Ae (r.an 2).vs (s:Int)++(Ae (r.an 3).vs (s:Int)++Ae (r.an 4).vs (s:Int)))):=by
     unfold Dy Rnd.jv Ae;simp[List.filter_append]
    rw[e,C6,C6,C6,C6]at i
    have c:∀ j,j<5->BR (r.an j).vs:=λj l=>(d (r.an j) (by unfold Rnd.jv;rcases rk l with rfl|rfl|rfl|rfl|rfl<;>simp)).2.2;have o:=IU (c 0 (by omega)) (s:Int) v;have p:=IU (c 1 (by omega)) (s:Int) v;have t:=IU (c 2 (by omega)) (s:Int) v;have u:=IU (c 3 (by omega)) (s:Int) v;have x:=IU (c 4 (by omega)) (s:Int) v;refine⟨v.b.key,λq=>decide (v∈(r.an q).vs/\v.bt=(s:Int)),?_,λq n f=>?_⟩
    .show 3<=(decide (v∈(r.an 0).vs/\v.bt=(s:Int))).toNat+(decide (v∈(r.an 1).vs/\v.bt=(s:Int))).toNat+(decide (v∈(r.an 2).vs/\v.bt=(s:Int))).toNat+(decide (v∈(r.an 3).vs/\v.bt=(s:Int))).toNat+(decide (v∈(r.an 4).vs/\v.bt=(s:Int))).toNat;omega
    .obtain⟨h1,h2⟩:=mZ f;exact⟨v,h q n v h1,h2,rfl,rfl⟩
   .cases a
theorem AgL.snoc(h:AgL σ l 0){c:Cmd}(a:σ.sH l.length c):AgL σ (l++[c]) 0:=λs d e=>by
 rcases nw s l.length with g|g
 .rw[mM g]at e;exact h s d e
 .have:=(V'.1 e).1;rw[H',nE]at this
  obtain rfl:s=l.length:=by omega
  rw[mO (A' _)]at e
  simp at e;subst e;rw[nt];exact a
theorem UJ{r:Rnd}(h:∀ j,j<5->∀ v∈(r.an j).vs,σ.held j v)(k:Nat){l:List Cmd}(a:AgL σ l 0):AgL σ (FF k r l) 0:=by
 induction k generalizing l with
 | zero=>exact a
 | succ k ih =>
  rw[FF];split
  .rename_i he;exact ih (a.snoc (Um h he))
  .exact a
theorem QF{b:List Cmd}{a:Nat}(d:AgL σ l 0)(f:AgL σ b a)(h:a<=l.length):AgL σ (l++b.drop (l.length-a)) 0:=λs c e=>by
 rcases nw s l.length with g|g
 .rw[mM g]at e;exact d s c e
 .rw[mO g,nC]at e
  have:=f _ c e
  rwa [show a+(l.length-a+(s-l.length))=0+s by omega]at this
theorem VV(a:Acc)(l:List Vt):∀ v∈(Dj a l).vs,v∈a.vs\/v∈l:=by
 induction l generalizing a with
 | nil=>exact λv b=>.inl b
 | cons u l ih =>
  intro v b;rw[Dj]at b
  rcases ih _ v b with h|h
  .by_cases he:AV a u=0
   .rw[if_pos he]at h
    have h:v∈Bu a u:=h;rw[(DA he).2]at h
    rcases(BH (Ar he).1.2.2).1 h with rfl|⟨h,_⟩
    .exact .inr M'
    .exact .inl h
   .rw[if_neg he]at h;exact .inl h
  .exact .inr (I' _ h)
theorem VU(a:Acc)(l:List Vt):∀ u∈a.vs,∃ x∈(Dj a l).vs,x.bt=u.bt/\u.b.key<=x.b.key:=by
 induction l generalizing a with
 | nil=>exact λu d=>⟨u,d,rfl,mA _⟩
 | cons w l ih =>
  intro u d;rw[Dj];by_cases c:AV a w=0
  .rw[if_pos c];obtain⟨x,e,f,g⟩:=Mb (Ar c).1 c d;obtain⟨y,h,i,j⟩:=ih ⟨BN a w,Bu a w⟩ x (by show x∈Bu a w;rw[(DA c).2];exact e);exact⟨y,h,i.trans f,mT g j⟩
  .rw[if_neg c];exact ih a u d
theorem VT(a:Acc)(l:List Vt)(c:Ag a)(g:a.p=b)(h:∀ v∈l,v.b.key<=b.key):Ag (Dj a l)/\(Dj a l).p=b:=by
 induction l generalizing a with
 | nil=>exact⟨c,g⟩
 | cons u l ih =>
  rw[Dj];by_cases d:AV a u=0
  .rw[if_pos d];have f:=Ar d;have e:u.b=b:=by
    have k:=Bq f.2.1.2.1.pr c.1 f.2.2;have m:=h u M';rw[g]at k
    exact DB f.2.1.2.1.pr (g▸c.1) (by omega)
   have j:(⟨BN a u,Bu a u⟩:Acc)=⟨u.b,Bp a.vs u⟩:=by rw[(DA d).1,(DA d).2]
   rw[j];exact ih _ (c.sY f.2.1 f.2.2) e λv i=>h v (I' _ i)
  .rw[if_neg d];exact ih a c g λv i=>h v (I' _ i)
theorem RdI.rG{r:Rnd}(h:RdI σ i r){j:Nat}{vs:List Vt}(f:PrmOk (σ.dr j) r.gC vs)(s:r.gC.key<=σ.P i):RdI σ i (r.rG j vs):=by
 refine⟨h.gC,h.next,λ_ _ _=>s,λk c v a=>?_,λk c n=>?_,λk c=>?_⟩
 rotate_right
 .show Ag (upN r.an j (Dj ⟨r.gC,vs⟩ (r.an j).vs) k)/\(upN r.rh j true k=true->(upN r.an j (Dj ⟨r.gC,vs⟩ (r.an j).vs) k).p=r.gC);unfold upN;split
  .rename_i e;subst e
   have:=VT (b:=r.gC) ⟨r.gC,vs⟩ (r.an k).vs f.acc rfl λv a=>(h.an k c v a).2.1;exact⟨this.1,λ_=>this.2⟩
  .exact h.acc k c
 .have a:v∈(upN r.an j (Dj ⟨r.gC,vs⟩ (r.an j).vs) k).vs:=a;by_cases e:k=j
  .subst e;rw[Df]at a
   rcases VV _ _ v a with g|g
   .exact⟨(f.sub v g).1,(f.sub v g).2,λe=>by rw[show(r.rG k vs).rh k=true from Df _ _ _]at e;cases e⟩
   .have:=h.an k c v g;exact⟨this.1,this.2.1,λe=>by rw[show(r.rG k vs).rh k=true from Df _ _ _]at e;cases e⟩
  .rw[Dv _ _ e]at a
   have:=h.an k c v a;exact⟨this.1,this.2.1,λo=>this.2.2 (by rwa [show(r.rG j vs).rh k=r.rh k from Dv _ _ e]at o)⟩
 .by_cases e:k=j
  .subst e;refine⟨f.le,λv a d=>?_⟩;obtain⟨u,l,m,q⟩:=f.tS v a d;obtain⟨x,t,w,y⟩:=VU ⟨r.gC,vs⟩ (r.an k).vs u l;exact⟨x,by show x∈(upN r.an k _ k).vs;rw[Df];exact t,w.trans m,mT q y⟩
  .rw[show(r.rG j vs).rh k=r.rh k from Dv _ _ e]at n
   have:=h.prom k c n;exact⟨this.1,λv a d=>by
    obtain⟨u,l,m⟩:=this.2 v a d;exact⟨u,by show u∈(upN r.an j _ k).vs;rw[Dv _ _ e];exact l,m⟩⟩
theorem RdI.count{r:Rnd}(h:RdI σ i r){j:Nat}{v:Vt}(l:v.b=r.gC)(f:AV (r.an j) v=0)(o:σ.held j v):RdI σ i { r with an:=upN r.an j ⟨BN (r.an j) v,Bu (r.an j) v⟩ }:=by
 have d:=Ar f;have g:Bu (r.an j) v=Bp (r.an j).vs v:=(DA f).2;refine⟨h.gC,h.next,h.own,λk c u a=>?_,λk c n=>⟨(h.prom k c n).1,λu a m=>?_⟩,λk c=>?_⟩
 rotate_right
 .show Ag (upN r.an j ⟨BN (r.an j) v,Bu (r.an j) v⟩ k)/\(r.rh k=true->(upN r.an j ⟨BN (r.an j) v,Bu (r.an j) v⟩ k).p=r.gC);unfold upN;split
  .rw[(DA f).1,g];exact⟨d.1.sY d.2.1 d.2.2,λ_=>l⟩
  .exact h.acc k c
 .have a:u∈(upN r.an j ⟨BN (r.an j) v,Bu (r.an j) v⟩ k).vs:=a;by_cases e:k=j
  .subst e;rw[Df]at a
   have a:u∈Bu (r.an k) v:=a;rw[g]at a
   rcases(BH d.1.2.2).1 a with rfl|⟨a,_⟩
   .exact⟨o,by rw[l];exact mA _,λ_=>l⟩
   .exact h.an k c u a
  .rw[Dv _ _ e]at a;exact h.an k c u a
 .obtain⟨x,h1,h2,h3⟩:=(h.prom k c n).2 u a m;by_cases e:k=j
  .subst e;obtain⟨y,q,s,t⟩:=Mb d.1 f h1;exact⟨y,by show y∈(upN r.an k _ k).vs;rw[Df];show y∈Bu (r.an k) v;rw[g];exact q,s.trans h2,mT h3 t⟩
  .exact⟨x,by show x∈(upN r.an j _ k).vs;rw[Dv _ _ e];exact h1,h2,h3⟩
theorem UpI.pd{q:Nod}(h:UpI σ i p rs)(b:q.d=p.d)(j:q.sy=p.sy)(c:q.vo=p.vo)(f:RdI σ i q.av)(a:q.av.gC=p.av.gC)(e:∀ x∈q.bu,x∈p.bu\/PnI σ rs q.av x):UpI σ i q rs :=
 ⟨⟨h.tp.ok,h.tp.pre,b.trans h.tp.d,j.trans h.tp.sy,c.trans h.tp.vo,by rw[b];exact h.tp.len⟩,h.rO,f,by rw[a,c];exact h.bp,λx k=>(e x k).elim (λg=>by
  have:=h.pe x g;cases x<;>first|exact this|exact trivial|(refine⟨this.1,?_⟩;first|exact this.2|(rw[a];exact this.2))) id⟩
theorem UpI.count(h:UpI σ i p rs)(a:AgL σ p.ab 0){j:Nat}{v:Vt}(d:σ.held j v):UpI σ i (p.count j v) rs/\AgL σ (p.count j v).ab 0:=by
 unfold Nod.count;split
 .exact⟨h,a⟩
 .rename_i b
  have b:=mE.1 b;split
  .exact⟨h,a⟩
  .rename_i he
   have c:=h.rd.count b (mE.1 he) d;exact⟨h.pd rfl rfl rfl c rfl λx g=>.inl g,UJ (λj e v f=>(c.an j e v f).1) 41 a⟩
theorem NdI.mk'(b:p.up=true)(h:UpI σ i p rs)(a:AgL σ p.ab 0):NdI σ i p:=⟨λ_=>⟨rs,h⟩,λe=>(by rw[b]at e;cases e),a⟩
theorem AgL.nil(σ:Gs)(k:Nat):AgL σ [] k:=λs c e=>by simp at e
theorem AgL.drop(h:AgL σ l 0)(k:Nat):AgL σ (l.drop k) k:=λs c e=>by
 rw[nC]at e
 have:=h _ c e
 rwa [nt]at this
theorem UpI.wait(h:UpI σ i p rs){x:Pend}(a:PnI σ rs p.av x):UpI σ i (p.wait x) rs :=
 h.pd rfl rfl rfl h.rd rfl λy b=>(U'.1 b).imp id λe=>by rw[D'.1 e];exact a
theorem UpI.ed(h:UpI σ i p rs)(to:Nat)(e:Int):UpI σ i (p.ed to e) rs:=by
 unfold Nod.ed;split
 .exact h.wait (by show Aq p.vo.p/\p.vo.p.key<=_;rw[h.tp.vo];exact⟨h.tp.ok.acc.1,mA _⟩)
 .exact h
theorem O7(p:Nod)(to:Nat)(e:Int):(p.ed to e).ab=p.ab:=by unfold Nod.ed;split<;>rfl
theorem UpI.wrote{q:Nod}(h:UpI σ i p rs)(f:σ.le τ)(k:GsI τ)(e:τ.dr i=σ.dr i)(a:TpU q (σ.dr i) rs')(l:rs <+: rs')(n:∀ v,Rk.vt v∈rs'->τ.rO v){r:Rnd}(m:RdI τ i r)(b:p.av.gC.key<=r.gC.key)(c:r.gC.key<=q.vo.p.key){x:Pend}(o:PnI τ rs' r x)(j:q.bu=p.bu):UpI τ i (Nod.wait { q with av:=r } x) rs' :=
 ⟨by rw[e];exact⟨a.ok,a.pre,a.d,a.sy,a.vo,a.len⟩,n,m,c,λy s=>by
  rcases U'.1 s with g|g
  .have g:y∈q.bu:=g;rw[j]at g
   exact(h.pe y g).mono f k l a.ok b
  .rw[D'.1 g];exact o⟩
theorem FC(h:UpI σ i p rs)(l:List Cmd):UpI σ i (p.dT l) rs/\(p.dT l).ab=p.ab:=by
 unfold Nod.dT;split
 .exact⟨h.pd rfl rfl rfl ⟨h.rd.gC,h.rd.next,h.rd.own,h.rd.an,h.rd.prom,h.rd.acc⟩ rfl λx a=>.inl a,rfl⟩
 .exact⟨h,rfl⟩
theorem QE(h:UpI σ i p rs)(a:AgL σ p.ab 0):UpI σ i p.rp rs/\AgL σ p.rp.ab 0:=⟨h.pd rfl rfl rfl h.rd rfl λx d=>.inl d,UJ (λj b v c=>(h.rd.an j b v c).1) 41 a⟩
theorem NdI.take(C:GsI σ){i:Nat}{p:Nod}(h:NdI σ i p)(D:p.up=true){l:Let}(u:LtI σ l)(G:l.src<5):NdI σ i (p.take l):=by
 obtain⟨f,k⟩:=h.up D;have c:=h.ag
 suffices g:∃ b,UpI σ i (p.take l) b/\AgL σ (p.take l).ab 0 by
  obtain⟨b,w,o⟩:=g;exact NdI.mk' ((congrArg Prod.fst (PJ p l)).trans D) w o
 unfold Nod.take;split
 .rename_i hk
  rcases k.tp.au l.gC with⟨e,he⟩|⟨e,he,hvs,b,hp,ht,hm,hpb,hpv,d,a,hq⟩
  .rw[if_pos e];exact⟨f,k.ed _ _,by rw[O7];exact c⟩
  .rw[if_neg (λg=>g e)];have m:=Cp he;refine⟨b,?_,?_⟩
   .refine k.wrote (q:=(p.au l.gC).1) (r:=(p.au l.gC).1.av) (.refl σ) C rfl ht hp (λv B=>k.rO v ((hm v).1 B)) ?_ ?_ ?_ ⟨PrmOk.of ht.ok hpb (hpv.trans hvs.symm),u.k0 hk⟩ (by rw[hq];rfl)
    .rw[hq];exact k.rd
    .rw[hq];exact mA _
    .rw[ht.vo,hpb,hq];exact mT k.bp (Bq m.2.1.pr m.1.1 m.2.2)
   .show AgL σ (p.au l.gC).1.ab 0;rw[hq];exact c
 .rename_i hk
  obtain⟨w,o,E⟩:=u.k1 hk;have y:AgL σ (p.ln 0 l.fv).ab 0:=QF c E (mW _);have s:UpI σ i (p.ln 0 l.fv) f:=k.pd rfl rfl rfl k.rd rfl λx j=>.inl j;generalize p.ln 0 l.fv=K at y s ⊢;simp only;split
  .exact⟨f,s,y⟩
  .rename_i hc
   have A:K.leads=true:=by cases hh:K.leads with|true=>rfl|false=>exact absurd (.inl hh) hc
   have t:l.gC=K.av.gC:=mE.1 λe=>hc (.inr (.inl e));have z:K.av.gC≠Ba:=(mZ A).1;rw[t]at w o
   have F:=(s.rd.gC.resolve_left z).2;rw[F,nz]at o
   have n:=s.rd.rG w o;exact⟨f,QE (p:={ K with av:={ K.av.rG l.src l.mv with bw:=upN K.av.bw l.src l.fv.length } }) (s.pd rfl rfl rfl ⟨n.gC,n.next,n.own,n.an,n.prom,n.acc⟩ rfl λx j=>.inl j) y⟩
 .exact⟨f,k.pd rfl rfl rfl k.rd rfl λx j=>.inl j,c⟩
 .rename_i hk
  rcases k.tp.cl l.cl with⟨e,he⟩|⟨e,he,b,hp,ht,hm,hpb,d,a,hq⟩
  .rw[if_pos e];exact⟨f,k.ed _ _,by rw[O7];exact c⟩
  .rw[if_neg (λg=>g e)];have m:=Ar he;refine⟨b,?_,?_⟩
   .refine k.wrote (q:=(p.cl l.cl).1) (r:=(p.cl l.cl).1.av) (.refl σ) C rfl ht hp (λv B=>((hm v).1 B).elim (λe=>by rw[e];exact u.k3 hk) (k.rO v)) ?_ ?_ ?_ ((hm _).2 (.inl rfl)) (by rw[hq];rfl)
    .rw[hq];exact k.rd
    .rw[hq];exact mA _
    .rw[ht.vo,hpb,hq];exact mT k.bp (Bq m.2.1.2.1.pr m.1.1 m.2.2)
   .show AgL σ (p.cl l.cl).1.ab 0;rw[hq];exact c
 .rename_i hk
  exact⟨f,k.count c (u.k4 hk)⟩
 .rename_i hk
  split
  .exact⟨f,k.wait trivial,c⟩
  .rename_i hlt;exact⟨f,k.pd rfl rfl rfl k.rd rfl λx j=>.inl j,QF c (u.k5 hk) (by omega)⟩
 .have:=FC k l.fv;simp only;split
  .exact⟨f,this.1.wait trivial,by show AgL σ (p.dT l.fv).ab 0;rw[this.2];exact c⟩
  .exact⟨f,this.1,by rw[this.2];exact c⟩
 .exact⟨f,k,c⟩
theorem WC(W:GsI σ){i:Nat}{p:Nod}(h:RdI σ i p.av)(X:Ab p.av.gC)(Y:p.av.rz=true){s:Nat}(hs:p.av.next<=s){c:Cmd}(t:p.rj s=some c):Ei σ.H σ.P s p.av.gC.key c:=by
 have h5:5<2*J5 p.av.rh:=mZ Y;have m:∀ j,j<5->∀ v∈(p.av.an j).vs,v.bt=(s:Int)->v∈Ae (p.av.jv.map (·.vs)).flatten (s:Int):=λj F v M e=>by
  refine Bd.2 ⟨oX.2 ⟨(p.av.an j).vs,mS.2 ⟨p.av.an j,?_,rfl⟩,M⟩,e⟩;unfold Rnd.jv;rcases rk F with rfl|rfl|rfl|rfl|rfl<;>simp
 refine⟨p.av.rh,by omega,λq n o=>(h.prom q n o).1,?_⟩;unfold Nod.rj at t;split at t
 .cases t
 .rename_i d
  have d:=mE.1 d;have D:DR (p.av.jv.map (·.vs)) (s:Int)=(Ge (p.av.jv.map (·.vs)) (s:Int)).isSome:=if_pos d;have S:H6 (p.av.jv.map (·.vs)) (s:Int)=((Ge (p.av.jv.map (·.vs)) (s:Int)).map (·.w)).getD ⟨0,0,0,0,0⟩:=if_pos d;have r:∀ l∈p.av.jv.map (·.vs),∀ v∈l,Ah v:=by
   unfold Cl at d;split at d
   .cases d
   .split at d
    .assumption
    .cases d
  have L:∀ v∈Ae (p.av.jv.map (·.vs)).flatten (s:Int),Aq v.b:=λv M=>by
   obtain⟨l,k,f⟩:=oX.1 (Bd.1 M).1;exact(r l k v f).2.1.pr
  rcases RT _ L with⟨h0,E⟩|⟨x,E,hx,hmax⟩
  .left;intro q n o U V ⟨v,g,R,Z,k3⟩;refine Int.not_lt.1 λz=>?_;obtain⟨u,k,f,_⟩:=(h.prom q n o).2 v g (by omega);have:=m q n u k (f.trans R);rw[h0]at this;cases this
  .right;have E:Ge (p.av.jv.map (·.vs)) (s:Int)=some x:=E;rw[E]at D S
   have D:DR (p.av.jv.map (·.vs)) (s:Int)=true:=D;rw[if_pos D]at t
   have G:c=x.w:=(nh t).symm.trans S;obtain⟨O,Q⟩:=Bd.1 hx;obtain⟨j,F,N⟩:∃ j,j<5/\x∈(p.av.an j).vs:=by
    obtain⟨l,k,f⟩:=oX.1 O;obtain⟨a,C,rfl⟩:=mS.1 k;unfold Rnd.jv at C;simp only[mJ,P',or_false]at C;rcases C with rfl|rfl|rfl|rfl|rfl
    .exact⟨0,by omega,f⟩
    .exact⟨1,by omega,f⟩
    .exact⟨2,by omega,f⟩
    .exact⟨3,by omega,f⟩
    .exact⟨4,by omega,f⟩
   obtain⟨y,I,J⟩:=h.an j F x N;have B:=W.hv j x y;have A:x.b≠p.av.gC:=λe=>by
    have k:=B.2;rw[e]at k
    have:=h.next _ _ k;omega
   have z:x.b.key<p.av.gC.key:=by
    rcases Int.lt_or_eq_of_le I with g|g
    .exact g
    .exact absurd (DB B.1.2.1.pr X.pr g) A
   have K:p.av.rh j=true:=by
    cases hh:p.av.rh j with
    | true=>rfl
    | false=>exact absurd (J hh) A
   refine⟨x.b.key,z,⟨j,F,K,x,y,Q,rfl,G.symm⟩,λq n o U V ⟨v,g,R,Z,k3⟩ T=>?_⟩;obtain⟨u,k,f,C⟩:=(h.prom q n o).2 v g (by omega);have:=hmax u (m q n u k (f.trans R));omega
def Gs.prop(σ:Gs)(b:Bal)(s:Nat)(c:Cmd):Gs:=⟨σ.dr,λb' s' c'=>σ.W b' s' c'\/(b'=b/\s'=s/\c'=c)⟩
theorem GsI.prop(h:GsI σ){b:Bal}{s:Nat}{c:Cmd}(e:Ab b)(d:Ei σ.H σ.P s b.key c)(f:b.key<=σ.P b.n.toNat)(a:∀ c',¬ σ.W b s c'):GsI (σ.prop b s c):=by
 refine⟨h.ok,h.sJ,?_,?_,?_,λn v g=>⟨(h.hv n v g).1,.inl (h.hv n v g).2⟩⟩
 .rintro b' s' c1 c2 (g|⟨rfl,rfl,rfl⟩) (k|⟨e1,e2,e3⟩)
  .exact h.w1 _ _ _ _ g k
  .subst e1 e2;exact absurd g (a _)
  .exact absurd k (a _)
  .exact e3.symm
 .rintro b' s' c' (g|⟨rfl,rfl,rfl⟩)
  .exact h.w2 _ _ _ g
  .exact⟨e,d⟩
 .rintro b' s' c' (g|⟨rfl,rfl,rfl⟩)
  .exact h.w3 _ _ _ g
  .exact f
theorem NdI.cn(x:GsI σ){i:Nat}{p:Nod}(h:NdI σ i p)(D:p.up=true):∃ τ ex,Gs.sL i σ τ/\GsI τ/\NdI τ i p.cn/\(∀ b s c,τ.W b s c->σ.W b s c\/ex=some (b,s))/\∀ b s,ex=some (b,s)->s<40/\b=p.av.gC:=by
 obtain⟨rs,k⟩:=h.up D;have f:∃ τ ex,Gs.sL i σ τ/\GsI τ/\NdI τ i p/\(∀ b s c,τ.W b s c->σ.W b s c\/ex=some (b,s))/\∀ b s,ex=some (b,s)->s<40/\b=p.av.gC:=⟨σ,none,.refl i σ,x,h,λ_ _ _ h=>.inl h,λ_ _ e=>by cases e⟩;have o:=(Ex p).trans D
 revert o
 unfold Nod.cn;split
 .exact λ_=>f
 .rename_i hc
  have z:p.leads=true:=by cases hh:p.leads with|true=>rfl|false=>exact absurd (.inl hh) hc
  have n:p.av.rz=true:=by cases hh:p.av.rz with|true=>rfl|false=>exact absurd (.inr (.inl hh)) hc
  have A:p.av.next<=p.ab.length:=Nat.not_lt.1 λe=>hc (.inr (.inr e));cases hn:p.rj p.ab.length with
  | none=>exact λ_=>f
  | some c =>
   simp only;rcases k.tp.cl ⟨(p.ab.length:Int),p.av.gC,c⟩with⟨e,he⟩|⟨e,he,rs',hp,ht,hm,hpb,d,a,w⟩
   .rw[if_pos e];exact λ_=>f
   .rw[if_neg (λg=>g e)];intro o;have E:=Ar he;have y:p.av.gC≠Ba:=(mZ z).1;obtain⟨C,t⟩:=k.rd.gC.resolve_left y;have G:=WC x k.rd C n A hn;have H:∀ m,¬ σ.W p.av.gC p.ab.length m:=λm g=>by have:=k.rd.next _ _ g;omega
    have I:p.av.gC.key<=σ.P i:=by
     obtain⟨q,w,F,_⟩:=IQ p.av.rh p.av.rh (by have:5<2*J5 p.av.rh:=mZ n;omega) (by have:5<2*J5 p.av.rh:=mZ n;omega);exact k.rd.own q w F
    have l:=x.prop C G (by rw[t,nz];exact I) H;have j:Gs.sL i σ (σ.prop p.av.gC p.ab.length c):=⟨⟨λ_=>mH _,λ_ _ _ g=>.inl g⟩,λb s m g=>g.imp id λe=>by rw[e.1];exact t,λ_ _=>rfl⟩;have B:(σ.prop p.av.gC p.ab.length c).rO ⟨(p.ab.length:Int),p.av.gC,c⟩:=⟨E.2.1,.inr ⟨rfl,nz _,rfl⟩⟩;have K:=k.rd.mono (τ:=σ.prop p.av.gC p.ab.length c) (r:=p.av) j.le l;refine⟨_,some (p.av.gC,p.ab.length),j,l,NdI.mk' (rs:=rs') o ?_ ?_,λb s m g=>g.imp id λe=>by rw[e.1,e.2.1],λb s e=>?_⟩
    .refine k.wrote (q:=(p.cl ⟨(p.ab.length:Int),p.av.gC,c⟩).1) (r:={ p.av with next:=p.ab.length+1 }) j.le l rfl ht hp (λv J=>((hm v).1 J).elim (λe=>by rw[e];exact B) λg=>j.le.rO (k.rO v g)) ?_ (mA _) ?_ ((hm _).2 (.inl rfl)) (by rw[w];rfl)
     .have g:=k.rd;refine RdI.mono (σ:=σ) j.le l (r:={ p.av with next:=p.ab.length+1 }) ⟨g.gC,λs m u=>j' (g.next s m u) (by show p.av.next<=p.ab.length+1;omega),g.own,g.an,g.prom,g.acc⟩ λs m u=>?_;rcases u with u|⟨_,rfl,_⟩
      .exact j' (g.next s m u) (by show p.av.next<=p.ab.length+1;omega)
      .exact Nat.lt_succ_self _
     .rw[ht.vo,hpb];exact mA _
    .show AgL _ (p.cl ⟨(p.ab.length:Int),p.av.gC,c⟩).1.ab 0;rw[w];exact h.ag.mono j.le
    .cases e;have:=E.2.1.1.2;exact⟨by simp only at this;omega,rfl⟩
theorem LtI.none{l:Let}(h:l.kind=6):LtI σ l:=⟨λe=>by omega,λe=>by omega,λe=>by omega,λe=>by omega,λe=>by omega,λe=>by omega⟩
theorem LtI.news{l:Let}(h:l.kind=5)(a:AgL σ l.fv l.bt):LtI σ l:=⟨λe=>by omega,λe=>by omega,λe=>by omega,λe=>by omega,λe=>by omega,λ_=>a⟩
theorem NdI.run(C:GsI σ){i:Nat}(H:i<5){p:Nod}(h:NdI σ i p)(j:p.up=true){q:Pend}{l:List Pend}(A:p.bu=q::l)(E:¬ p.sy<(p.d.length:Int)):NdI σ i { p.lr i q with bu:=l }/\∀ m∈p.rm i q,LtI σ m:=by
 obtain⟨B,k⟩:=h.up j;have f:=k.tp.all E;have c:=k.pe q (by rw[A];exact M');have t:∀ x∈l,x∈p.bu:=λx u=>by rw[A];exact I' _ u
 have o:∀ {p':Nod},UpI σ i p' B->p'.bu=p.bu->UpI σ i { p' with bu:=l } B:=λ{p'} g e=>g.pd rfl rfl rfl g.rd rfl λx u=>.inl (by rw[e];exact t x u);cases q with
 | began b vs =>
  unfold Nod.lr Nod.rm;simp only;split
  .exact⟨NdI.mk' j (o k rfl) h.ag,λm a=>by cases a⟩
  .rename_i e
   have e:=mE.1 e;obtain⟨w,G⟩:=c;have r:=k.tp.ok.acc;rw[<- k.tp.vo]at r
   have z:=k.bp;have y:p.av.gC=b:=by
    rw[<- e];refine DB ?_ r.1 (by rw[e]at z ⊢;omega);rcases k.rd.gC with g|g
    .rw[g];exact .inr ⟨rfl,rfl⟩
    .exact g.1.pr
   have s:b.key<=σ.P i:=by have:=w.le;rw[<- f]at this;exact this
   rw[<- f,<- y]at w
   rw[<- y]at s
   refine⟨NdI.mk' j (o (p':={ p with av:=p.av.rG i vs }) (k.pd rfl rfl rfl (k.rd.rG w s) rfl λx u=>.inl u) rfl) h.ag,λm a=>?_⟩;obtain⟨to,_,rfl⟩:=CJ a;refine⟨λ_=>?_,λe=>(by cases e),λe=>(by cases e),λe=>(by cases e),λe=>(by cases e),λe=>(by cases e)⟩;show b.key<=σ.P b.n.toNat;rw[<- y];rcases k.rd.gC with g|g
   .rw[g];have F:=(C.ok (Ba.n.toNat)).acc.1;have:0<=σ.P (Ba.n.toNat):=by
     unfold Aq Ab at F;unfold Gs.P Bal.key;omega
    exact this
   .rw[g.2,nz];exact s
 | prom to b vs =>
  refine⟨NdI.mk' j (o k rfl) h.ag,λm a=>?_⟩;rw[D'.1 a];refine⟨λe=>(by cases e),λ_=>⟨?_,c.2,h.ag⟩,λe=>(by cases e),λe=>(by cases e),λe=>(by cases e),λe=>(by cases e)⟩;show PrmOk (σ.dr i) b vs;rw[f];exact c.1
 | voted to v =>
  refine⟨NdI.mk' j (o k rfl) h.ag,λm a=>?_⟩;rw[D'.1 a];refine⟨λe=>(by cases e),λe=>(by cases e),λe=>(by cases e),λe=>(by cases e),λ_=>?_,λe=>(by cases e)⟩;show Rk.vt v∈σ.dr i;rw[f];exact c
 | ed to b =>
  refine⟨NdI.mk' j (o k rfl) h.ag,λm a=>?_⟩;rw[D'.1 a];refine⟨λe=>(by cases e),λe=>(by cases e),λ_=>?_,λe=>(by cases e),λe=>(by cases e),λe=>(by cases e)⟩;show Aq b/\b.key<=(BD (σ.dr i)).p.key;rw[f];exact c
 | prop v =>
  have D:σ.held i v:=by show Rk.vt v∈σ.dr i;rw[f];exact c
  have g:=k.count h.ag D;refine⟨NdI.mk' ((congrArg Prod.fst (LG p i v)).trans j) (o g.1 (D6 p i (.prop v)).1) g.2,λm a=>?_⟩;obtain⟨to,_,rfl⟩:=CJ a;exact⟨λe=>(by cases e),λe=>(by cases e),λe=>(by cases e),λ_=>k.rO v c,λe=>(by cases e),λe=>(by cases e)⟩
 | askNews to=>exact⟨NdI.mk' j (o k rfl) h.ag,λm a=>by rw[D'.1 a];exact LtI.none rfl⟩
 | start=>exact⟨NdI.mk' j (o k rfl) h.ag,λm a=>by obtain⟨to,_,rfl⟩:=CJ a;exact LtI.none rfl⟩
 | tell to bt=>exact⟨NdI.mk' j (o k rfl) h.ag,λm a=>by rw[D'.1 a];exact LtI.news rfl (h.ag.drop bt)⟩
theorem NdI.lead(w:GsI σ){i:Nat}(E:i<5){p:Nod}(h:NdI σ i p)(y:p.up=true):NdI σ i (p.lead i):=by
 obtain⟨rs,k⟩:=h.up y;have f:(p.lead i).up=true:=(congrArg Prod.fst (UG p i)).trans y
 revert f
 unfold Nod.lead;simp only;generalize m:(⟨max p.cF p.vo.p.r+1,(i:Int)⟩:Bal)=b;rcases k.tp.au b with⟨e,he⟩|⟨e,he,hvs,rs',hp,ht,hm,hpb,hpv,d,a,hq⟩
 .rw[if_pos e];exact λ_=>h
 .rw[if_neg (λg=>g e)];intro f;have A:=Cp he;have C:p.vo.p.key<b.key:=by
   have:=A.1.1;rw[<- m];unfold Aq Ab at this;show 5*p.vo.p.r+p.vo.p.n<5*(max p.cF p.vo.p.r+1)+(i:Int);omega
  refine NdI.mk' (rs:=rs') f ?_ ?_
  .refine k.wrote (q:=(p.au b).1) (r:=⟨b,λ_=>false,λ_=>DU,λ_=>p.ab.length,0,[]⟩) (.refl σ) w rfl ht hp (λv o=>k.rO v ((hm v).1 o)) ?_ ?_ ?_ ⟨PrmOk.of ht.ok hpb (hpv.trans hvs.symm),mA _⟩ (by rw[hq];rfl)
   .refine⟨.inr ⟨A.2.1,by rw[<- m]⟩,λs c B=>?_,λj _ e=>(by cases e),λj _ v o=>(by cases o),λj _ e=>(by cases e),λj _=>⟨Lc,λe=>(by cases e)⟩⟩;have l:=w.w3 _ _ _ B;rw[show b.n.toNat=i by rw[<- m];exact nz i]at l
    obtain⟨x,z⟩:=k.tp.pre;have t:=k.tp.ok;rw[<- z]at t
    have u:=(D5 t).1;rw[z,<- k.tp.vo]at u
    have D:σ.P i<=p.vo.p.key:=u;have l:b.key<=σ.P i:=l;omega
   .have:=k.bp;show _<=b.key;omega
   .rw[ht.vo,hpb];exact mA _
  .show AgL σ (p.au b).1.ab 0;rw[hq];exact h.ag
theorem JV(k:Nat):∀ m∈Dq p i k,m.kind=5/\m.fv=p.ab.drop m.bt:=by
 induction k with
 | zero=>intro m hm;cases hm
 | succ k ih =>
  intro m hm;rw[Dq]at hm
  rcases U'.1 hm with hm|hm
  .exact ih m hm
  .split at hm
   .rw[D'.1 hm];exact⟨rfl,rfl⟩
   .cases hm
theorem AgI.step{D:Wh}{N:Meet}(h:AgI σ M)(s:Stp D n M N):∃ τ ex,σ.le τ/\AgI τ N/\(∀ b s c,τ.W b s c->σ.W b s c\/ex=some (b,s))/\∀ b s,ex=some (b,s)->n=1/\s<40/\∃ i,i<5/\b=(M.ae i).av.gC:=by
 have r:=h.gs;have done:∀ {i:Nat} {p:Nod} {G:List Let} {L:List Tol},NdI σ i p->(∀ l∈G,l∈M.br\/LtI σ l)->∃ τ ex,σ.le τ/\AgI τ (M.set i p G L)/\(∀ b s c,τ.W b s c->σ.W b s c\/ex=some (b,s))/\∀ b s,ex=some (b,s)->n=1/\s<40/\∃ i,i<5/\b=(M.ae i).av.gC:=λ{i p G L} E f=>⟨σ,none,.refl σ,h.set (.refl _ σ) r E f L,λ_ _ _ h=>.inl h,λ_ _ e=>by cases e⟩;have same:∀ l∈M.br,l∈M.br\/LtI σ l:=λl f=>.inl f;have app:∀ {ms:List Let},(∀ m∈ms,LtI σ m)->∀ l∈M.br++ms,l∈M.br\/LtI σ l:=λg l f=>(U'.1 f).imp id (g l);cases s with
 | take _ l f hd hu _=>exact done ((h.nd _ hd.2).take r hu (h.lt l f) hd.1) same
 | br _ G f _=>exact⟨σ,none,.refl σ,⟨r,h.nd,λl g=>h.lt l (f l g)⟩,λ_ _ _ h=>.inl h,λ_ _ e=>by cases e⟩
 | one _ i c hi hu hc he =>
  refine done ?_ same;obtain⟨rs,k⟩:=(h.nd i hi).up hu;have Q:=DN { M.ae i with ni:=doS (M.ae i).ni c,done:=(M.ae i).done+1 } c;refine NdI.mk' (Q.1.trans hu) (rs:=rs) ?_ (by rw[Q.2.1];exact(h.nd i hi).ag);unfold Nod.hZ;split<;>exact k.pd rfl rfl rfl k.rd rfl λx a=>.inl a
 | ask _ i hi hu =>
  obtain⟨rs,k⟩:=(h.nd i hi).up hu;have z:=(h.nd i hi).ag;have C:=(I7 (M.ae i) i).trans hu;generalize E:M.ae i=p at k z C ⊢;refine done (NdI.mk' (rs:=rs) C ?_ ?_) (app ?_)
  .unfold Nod.kc;split
   .exact k.pd rfl rfl rfl k.rd rfl λx a=>.inl a
   .split
    .exact(FC (p:={ p with bN:=(AY p.vo.p p.bN (p.bn.take 40)).2 }) (k.pd rfl rfl rfl k.rd rfl λx a=>.inl a) _).1
    .exact k.pd rfl rfl rfl k.rd rfl λx a=>.inl a
  .unfold Nod.kc;split
   .exact z
   .split
    .show AgL σ (Nod.dT _ _).ab 0;rw[(FC (p:={ p with bN:=(AY p.vo.p p.bN (p.bn.take 40)).2 }) (k.pd rfl rfl rfl k.rd rfl λx a=>.inl a) _).2];exact z
    .exact z
  .intro m u;unfold Nod.kc at u;split at u
   .cases u
   .split at u
    .cases u
    .rw[D'.1 u];exact LtI.none rfl
 | prop _ i hi hu =>
  obtain⟨τ,ex,o,w,V,X,O⟩:=(h.nd i hi).cn r hu;exact⟨τ,ex,o.le,h.set o w V (λl f=>.inl f) _,X,λb s e=>⟨rfl,(O b s e).1,i,hi,(O b s e).2⟩⟩
 | rC _ i hi hu hlt H =>
  obtain⟨rs,k⟩:=(h.nd i hi).up hu;obtain⟨x,a⟩:=k.tp.pre;have w:=r.ext (i:=i) x (by rw[a];exact k.tp.ok) λv t=>k.rO v (by rw[<- a];exact mD _ t);have o:=Pe σ i x;refine⟨σ.ext i x,none,o.le,h.set o w (NdI.mk' (p:={ M.ae i with sy:=((M.ae i).d.length:Int) }) (rs:=rs) hu ⟨?_,λv t=>o.le.rO (k.rO v t),k.rd.mono o.le w λs c I=>k.rd.next s c I,k.bp,λq F=>(k.pe q F).mono o.le w (mH _) k.tp.ok (mA _)⟩ ((h.nd i hi).ag.mono o.le)) (λl f=>.inl f) _,λ_ _ _ h=>.inl h,λ_ _ e=>by cases e⟩;rw[Ih,a];exact k.tp.rC
 | run _ i hi hu q l E hs =>
  have g:=(h.nd i hi).run r hi hu E hs;exact done g.1 (app g.2)
 | ry _ i hi hu hL =>
  obtain⟨rs,k⟩:=(h.nd i hi).up hu;refine done (NdI.mk' (rs:=rs) hu (k.pd rfl rfl rfl ⟨k.rd.gC,k.rd.next,k.rd.own,k.rd.an,k.rd.prom,k.rd.acc⟩ rfl λx a=>.inl a) (h.nd i hi).ag) (app λm u=>?_);obtain⟨T,U⟩:=JV 5 m u;exact LtI.news T (by rw[U];exact(h.nd i hi).ag.drop _)
 | lead _ i hi hu _=>exact done ((h.nd i hi).lead r hi hu) same
 | sub _ i d hi hu P =>
  obtain⟨rs,k⟩:=(h.nd i hi).up hu;have z:=(h.nd i hi).ag;refine done ?_ same;unfold Nod.rK Nod.rL;split
  .exact h.nd i hi
  .split
   .exact NdI.mk' (rs:=rs) hu (k.pd rfl rfl rfl k.rd rfl λx a=>.inl a) z
   .split
    .exact h.nd i hi
    .show NdI σ i (Nod.want _ _);unfold Nod.want;split
     .exact h.nd i hi
     .exact NdI.mk' (rs:=rs) hu (k.pd rfl rfl rfl k.rd rfl λx a=>.inl a) z
 | lp _ i c hi hu hc _ =>
  obtain⟨rs,k⟩:=(h.nd i hi).up hu;obtain⟨S,⟨x,a⟩,⟨y,R⟩,P⟩:=k.tp.lp hc;have w:=r.ext (i:=i) x (k.tp.ok.pre ⟨y,by rw[a];exact R⟩) λv t=>k.rO v (by rw[<- R,<- a];exact mG _ (mD _ t));have o:=Pe σ i x;have A:=IC (p:=M.ae i) k.tp.sg hc;exact⟨σ.ext i x,none,o.le,h.set o w ⟨λe=>(by rw[A.2.1]at e;cases e),λ_=>(by rw[Ih,a];exact P),by rw[A.2.2.2];exact AgL.nil _ _⟩ (λl f=>.inl f) _,λ_ _ _ h=>.inl h,λ_ _ e=>by cases e⟩
 | start _ i hi hu _ =>
  have k:=(h.nd i hi).dn hu;have H:AO (M.ae i).d (M.ae i).sy:=⟨k.len,by rw[k.sy];omega,by rw[k.sy];omega⟩;have B:=GI (p:=M.ae i) H;have K:=k.start;have J:(M.ae i).start.av=eM/\(M.ae i).start.bu=[.start]:=by
   unfold Nod.start;rw[if_neg (λe=>e (if_pos H))];split<;>exact⟨rfl,rfl⟩
  refine done (NdI.mk' (rs:=σ.dr i) B.2.1 ⟨K,λv t=>r.hv i v t,?_,?_,λq F=>?_⟩ (by rw[B.2.2.2];exact AgL.nil _ _)) same
  .rw[J.1];exact⟨.inl rfl,λs c I=>absurd (r.w2 _ _ _ I).1 (by decide),λj _ e=>(by cases e),λj _ v t=>(by cases t),λj _ e=>(by cases e),λj _=>⟨Lc,λe=>(by cases e)⟩⟩
  .rw[J.1,K.vo];have Y:=K.ok.acc.1;show(0:Int)<=_;unfold Aq Ab at Y;unfold Bal.key;omega
  .rw[J.2]at F
   rw[D'.1 F];trivial
theorem AgI.zero:AgI ⟨λ_=>[],λ_ _ _=>False⟩ AH :=
 ⟨⟨λ_=>AN.nil,⟨λn s b c ⟨v,g,_⟩=>(by cases g),λn k s b c h ⟨v,g,_⟩=>(by cases g),λn s b c ⟨v,g,_⟩=>(by cases g)⟩,λ_ _ _ _ g=>g.elim,λ_ _ _ g=>g.elim,λ_ _ _ g=>g.elim,λn v g=>(by cases g)⟩,
  λi _=>NdI.mk' (rs:=[]) rfl ⟨TpU.zero,λv g=>(by cases g),⟨.inl rfl,λ_ _ g=>g.elim,λj _ e=>(by cases e),λj _ v f=>(by cases f),λj _ e=>(by cases e),λj _=>⟨Lc,λe=>(by cases e)⟩⟩,mA _,λq d=>(by cases d)⟩ (AgL.nil _ _),λl a=>by cases a⟩
end
end
end Go.Proofs.YtgbabbapcibnlaaGreatDoor
