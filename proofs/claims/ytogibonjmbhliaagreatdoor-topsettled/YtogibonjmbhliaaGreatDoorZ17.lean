/- Part 17 of the walk. -/
import Derived.Test.YtogibonjmbhliaaGreatDoorZ16
set_option maxRecDepth 100000
set_option maxHeartbeats 4000000
open Go.Proofs.Tryz
set_option linter.unusedVariables false
namespace Go.Proofs.YtogibonjmbhliaaGreatDoor
section
open Go.RowKit
section
variable{n tc tr tu k c s m v:Int}(h:paE n tc tr tu k c s m v=0)
include h
end
section
variable{G:List Gr}{L:List Lac}{M:Meet}{W w:World}{a:List Cmd}{b i j off:Nat}{cr:Bool}{g:Gh}{l:List (Lac × S3)}{ly tv x:S3}{n:Int}{ys:Nat->S3}
theorem Mq{a b d k c s m v:Int}(h:paE n a b d k c s m v=0):(paL n a b d k c s m v).length=63:=by
 rw[ZS h,nc,G9,Ir]
theorem mx(x:S3)(k:Nat)(f:k<=x.c)(d:∃ b off,x.a=some ⟨b,off,none⟩):(Instr.sliceAt 39 x.v none (some (iv (k:Int))) none).run prog W=.ok (S3.v ⟨x.a,k,x.c⟩) W:=by
 obtain⟨b,off,d⟩:=d;obtain⟨h,i,g⟩:=x;simp only at d f;subst d;have e:prog.elem 39=5:=by kernel_rfl
 rw[run_sliceAt_slice _ _ _ _ _ _ fK,run_slice_h (P:=prog) (w:=W) _ _ _ _ fK .i64 k (by omega) (by show(k:Int)<=((g:Nat):Int);omega),e,Iw];simp[Result.andThen,sliced,Addr.add]
theorem FSl.take{l:List Int}(h:FSl g w x l)(k:Nat)(y:k<=l.length):FSl g w ⟨x.a,k,x.c⟩ (l.take k):=by
 have f:=JU h.s;obtain⟨⟨⟨a,m,j,v,f,d⟩,u,n⟩,o⟩:=h;simp only[Value.slice.injEq]at j;obtain⟨rfl,r,rfl⟩:=j;refine⟨⟨⟨_,_,by simp only[Value.slice.injEq,and_true,true_and,X'];omega,by rw[X'];omega,f,?_⟩,by rw[X'];omega,λz t=>n z (mT t)⟩,λq=>o λe=>q (by rw[e];simp)⟩;rcases d with d|⟨b,off,ha,hbs,hcell⟩
 .exact .inl (by rw[d];simp)
 .refine .inr ⟨b,off,ha,hbs,λi p=>?_⟩;rw[X']at p
  rw[show(l.take k).getD i 0=l.getD i 0 by simp[List.getD,show i<k by omega]];exact hcell i (by omega)
theorem FSl.addr{l:List Int}(h:FSl g w x l)(j:l≠[]):(∃ b off,x.a=some ⟨b,off,none⟩)/\l.length<=x.c:=by
 obtain⟨⟨⟨a,f,e,i,p,d⟩,m,n⟩,o⟩:=h;simp only[Value.slice.injEq]at e;obtain⟨rfl,k,rfl⟩:=e;rcases d with d|⟨b,off,ha,_⟩
 .exact absurd d j
 .exact⟨⟨b,off,ha⟩,i⟩
theorem WC{g:Gr}(h:GrOk g)(hT:Tabs w) :
  Calls prog 14 #[.agg #[iv g.k,iv g.a,iv g.b,iv g.c,iv g.d]] w λe w'=>∃ y:S3,e=.returned y.v/\Sl w' y.v (pkB g)/\Nb w.heap.size y (pkB g)/\Bw w w':=by
 have A:(pkP g).length=63:=Mq (ZY g);have r4:=Bq g.c 4 (by omega);refine tIn [] func14 trivial (tR 18 [0,0,0,0,0,0,0] λr _ _=>tC1 11 (λF C=>RP h.b h.c h.d h.a h.d) λ_=>tR 16 [0,0,1,0,1,1,0,2,0,0] λi _ _=>tC1 2 (λF C=>Cn h.d 17) λ_=>tR 1 [] λa1 _ _=>KX 56 (λZ X q=>∃ (E G:Int),Z=[(1,pt (r 0) 0),(3,pt (i 0) 0),(4,pt (i 1) 0)]/\X=[⟨(r 0),.cells #[iv g.k,iv g.a,iv g.b,iv g.c,iv g.d] 44,.z,false⟩,⟨(i 0),.cells #[iv (wK g.b),iv (pick g.c 4),iv (pick g.d 6),iv (pick g.a 4),iv (wV g.b g.d)] 49,.z,false⟩,⟨(i 1),.cells #[iv E,iv G,iv 60] 59,.l,false⟩]/\q=[]/\E=pkT g/\G=pkR g) (λJ I=>?_) ?_)
 .refine tR 6 [] λa2 _ _=>?_;by_cases f:pick g.d 17=15
  .refine tI (((pick g.d 17)==15)) true (by simpa using f) (tR 5 [2,0] λa3 _ _=>tD I [true,true,true] ⟨pick g.c 4,0,rfl,rfl,rfl,(if_neg (by omega)).symm,(if_pos f).symm⟩ (λF=>trivial))
  .refine tI (((pick g.d 17)==15)) false (by simpa using f) (tR 5 [] λa4 _ _=>?_);by_cases u:pick g.d 17=16
   .refine tI (((pick g.d 17)==16)) true (by simpa using u) (tR 3 [2] λa5 _ _=>tV 2 (iv (pick g.c 4+1)) (λF C=>(AI (x:=(.tmp 31)) (y:=(.const (iv 1))) (pick g.c 4) 1 underlying3 (by omega))) (tV 3 (iv ((pick g.c 4+1)%4)) (λF C=>(aC (x:=(.tmp 32)) (y:=(.const (iv 4))) (pick g.c 4+1) 4 underlying3 (by omega) (by omega) (by decide) (by decide))) (tR 4 [2,0] λO _ _=>tD I [true,true,true] ⟨(pick g.c 4+1)%4,7,rfl,rfl,rfl,(if_pos u).symm,(if_neg f).symm⟩ (λF=>trivial))))
   .refine tI (((pick g.d 17)==16)) false (by simpa using u) (tR 2 [] λP _ _=>tD I [true,true,true] ⟨pick g.c 4,7,rfl,rfl,rfl,(if_neg u).symm,(if_neg f).symm⟩ (λF=>trivial))
 rintro _ _ _ ⟨E,G,rfl,rfl,rfl,o,p⟩ _ _ _;refine tR 6 [11,0,2,0,6,2,8,1] λQ _ _=>tC1 2 (λF C=>Cn h.a 1000) λ_=>tF λ_ W=>?_;have j:=W.size;have M:=ZY g;rw[<- o,<- p]at M
 have N:pkP g=paL (pick g.a 1000) E G 60 (wK g.b) (pick g.c 4) (pick g.d 6) (pick g.a 4) (wV g.b g.d):=by rw[o,p];rfl
 refine tC 5 (λF C=>eF M (tbA hT C)) λY=>?_;rintro _ _ ⟨y,rfl,K,D,H⟩;refine⟨_,Fa.sl y (pkP g)::_,rfl,H,λF=>⟨(by rw[N];exact Ps K D Y),F⟩,?_⟩;rw[<- N]at K D
 have a0:=JU K;refine tR 11 [12,14,16,18,20,0] λR _ _=>tC1 2 (λF C=>Cn h.d 23) λ_=>?_;by_cases f:pick g.d 23=22
 .refine tV 3 (.bool true) (λF C=>(Ft (t:=3) (m:=pick g.d 23) (n:=22) (x:=(.tmp 46)) (y:=(.const (iv 22))) (by simpa using f))) (tR 6 [] λS _ _=>tI ((decide (30<(y.n:Int)))) true (M' (by omega)) (tR 2 [] λT _ _=>tF λF _=>?_));have L:=FSl.addr F.1 (λe=>by rw[e]at A;cases A);refine tV 1 (S3.v ⟨y.a,30,y.c⟩) (λF C=>(mx y 30 (by omega) L.1)) (tR 7 [] λU _ _=>?_);rw[show pkB g=_ from if_pos ⟨f,by omega⟩];exact tE (S3.v ⟨y.a,30,y.c⟩) λF B=>⟨⟨y.a,30,y.c⟩,rfl,(F.1.take 30 (by omega)).s,λ_ a ha=>D.mono j (λe=>by rw[e]at A;cases A) a ha,B⟩
 .refine tV 3 (.bool false) (λF C=>(Ft (t:=3) (m:=pick g.d 23) (n:=22) (x:=(.tmp 46)) (y:=(.const (iv 22))) (by simpa using f))) (tR 13 [] λV _ _=>?_);rw[show pkB g=_ from if_neg (λe=>f e.1)];exact tE (S3.v y) λF B=>⟨y,rfl,F.1.s,D.mono j,B⟩
theorem gL{g:Gr}(h:GrOk g)(hT:Tabs w){x:Lac}(i:Ph g cr=x) :
  Calls prog 10 #[.agg #[iv g.k,iv g.a,iv g.b,iv g.c,iv g.d],.bool cr] w λe w'=>∃ y:S3,e=.returned (.agg #[iv x.k,iv x.n,iv x.a,iv x.p,y.v])/\Sl w' y.v x.d/\Nb w.heap.size y x.d/\Bw w w':=by
 refine tIn [] func10 trivial (tR 9 [0,0,1,0,0] λj _ _=>tC1 2 (λF C=>Cn h.a 5) λ_=>tR 7 [0] λa0 _ _=>tC1 2 (λF C=>Cn h.k 24) λ_=>?_);unfold Ph at i;refine tR 9 [] λa1 _ _=>?_;by_cases f:pick g.k 24<3
 .refine tI ((decide ((pick g.k 24)<3))) true (by simpa using f) ?_;rw[if_pos f]at i
  refine tR 4 [0] λa2 _ _=>tF λ_ Cs=>?_;have o:=Cs.size;refine tC 2 (λF C=>WC h (tbA hT C)) λNz=>?_;rintro _ _ ⟨y,rfl,hy,q,b8⟩;refine⟨_,Fa.sl y (pkB g)::_,rfl,b8,λF=>⟨Ps hy q Nz,F⟩,?_⟩;refine tR 3 [1,0] λa3 _ _=>?_;subst i;exact tX λF C=>qE1 4 41 1 (j 1) #[iv 1,iv (pick g.a 5),iv 0,iv 0,S3.v y] λ_=>⟨y,rfl,F.1.s,q.mono o,CgQ.af C⟩
 .refine tI ((decide ((pick g.k 24)<3))) false (by simpa using f) ?_;rw[if_neg f]at i
  refine tR 6 [] λr _ _=>?_;by_cases f:pick g.k 24<5
  .refine tI ((decide ((pick g.k 24)<5))) true (by simpa using f) ?_;rw[if_pos f]at i
   refine tR 6 [1,0] λu _ _=>?_;subst i;exact tX λF C=>qE1 4 41 1 (j 1) #[iv 2,iv (pick g.a 5),iv 0,iv 0,S3.v s30] λ_=>⟨s30,rfl,EA _,λe=>absurd rfl e,CgQ.af C⟩
  .refine tI ((decide ((pick g.k 24)<5))) false (by simpa using f) ?_;rw[if_neg f]at i
   refine tR 6 [] λz _ _=>?_;by_cases f:pick g.k 24<14
   .refine tI ((decide ((pick g.k 24)<14))) true (by simpa using f) ?_;rw[if_pos f]at i
    refine tR 6 [1,0] λA _ _=>?_;subst i;exact tX λF C=>qE1 4 41 1 (j 1) #[iv 3,iv (pick g.a 5),iv 0,iv 0,S3.v s30] λ_=>⟨s30,rfl,EA _,λe=>absurd rfl e,CgQ.af C⟩
   .refine tI ((decide ((pick g.k 24)<14))) false (by simpa using f) ?_;rw[if_neg f]at i
    refine tR 6 [] λB _ _=>?_;by_cases f:pick g.k 24=14
    .refine tI (((pick g.k 24)==14)) true (by simpa using f) ?_;rw[if_pos f]at i
     refine tR 4 [0] λD _ _=>tC1 2 (λF C=>Cn h.c 20) λ_=>tR 3 [1,0] λE _ _=>?_;subst i;exact tX λF C=>qE1 4 41 1 (j 1) #[iv 4,iv 0,iv (pick g.c 20),iv 0,S3.v s30] λ_=>⟨s30,rfl,EA _,λe=>absurd rfl e,CgQ.af C⟩
    .refine tI (((pick g.k 24)==14)) false (by simpa using f) ?_;rw[if_neg f]at i
     refine tR 6 [] λG _ _=>?_;by_cases f:pick g.k 24=15
     .refine tI (((pick g.k 24)==15)) true (by simpa using f) ?_;rw[if_pos f]at i
      refine tR 4 [0] λH _ _=>tC1 2 (λF C=>Cn h.c 20) λ_=>tR 3 [1,0] λI _ _=>?_;subst i;exact tX λF C=>qE1 4 41 1 (j 1) #[iv 5,iv 0,iv (pick g.c 20),iv 0,S3.v s30] λ_=>⟨s30,rfl,EA _,λe=>absurd rfl e,CgQ.af C⟩
     .refine tI (((pick g.k 24)==15)) false (by simpa using f) ?_;rw[if_neg f]at i
      refine tR 6 [] λJ _ _=>?_;by_cases f:pick g.k 24=16
      .refine tI (((pick g.k 24)==16)) true (by simpa using f) ?_;rw[if_pos f]at i
       refine tR 4 [0] λK _ _=>tC1 2 (λF C=>Cn h.c 20) λ_=>tR 3 [1,0] λL _ _=>?_;subst i;exact tX λF C=>qE1 4 41 1 (j 1) #[iv 6,iv 0,iv (pick g.c 20),iv 0,S3.v s30] λ_=>⟨s30,rfl,EA _,λe=>absurd rfl e,CgQ.af C⟩
      .refine tI (((pick g.k 24)==16)) false (by simpa using f) ?_;rw[if_neg f]at i
       refine tR 3 [] λM _ _=>?_;by_cases f:pick g.k 24=17
       .refine tV 1 (.bool true) (λF C=>(Ft (t:=3) (m:=pick g.k 24) (n:=17) (x:=(.tmp 52)) (y:=(.const (iv 17))) (by simpa using f))) (tR 5 [] λN _ _=>?_);by_cases l:cr=true
        .refine tI (cr) true l ?_;rw[if_pos ⟨f,l⟩]at i
         refine tR 5 [0] λO _ _=>tC1 3 (λF C=>Cn h.c 90) λ_=>tR 3 [1,0] λP _ _=>?_;subst i;exact tX λF C=>qE1 4 41 1 (j 1) #[iv 8,iv (pick g.a 5),iv 0,iv (pick g.c 90),S3.v s30] λ_=>⟨s30,rfl,EA _,λe=>absurd rfl e,CgQ.af C⟩
        .refine tI (cr) false (by simpa using l) ?_;rw[if_neg (λe=>l e.2)]at i
         refine tR 3 [] λQ _ _=>?_;by_cases f:pick g.k 24=18
         .refine tV 1 (.bool true) (λF C=>(Ft (t:=3) (m:=pick g.k 24) (n:=18) (x:=(.tmp 63)) (y:=(.const (iv 18))) (by simpa using f))) (tR 5 [] λR _ _=>?_);by_cases l:cr=true
          .refine tI (cr) true l ?_;rw[if_pos ⟨f,l⟩]at i
           refine tR 6 [1,0] λS _ _=>?_;subst i;exact tX λF C=>qE1 4 41 1 (j 1) #[iv 9,iv (pick g.a 5),iv 0,iv 0,S3.v s30] λ_=>⟨s30,rfl,EA _,λe=>absurd rfl e,CgQ.af C⟩
          .refine tI (cr) false (by simpa using l) ?_;rw[if_neg (λe=>l e.2)]at i
           refine tR 7 [1,0] λT _ _=>?_;subst i;exact tX λF C=>qE1 4 41 1 (j 1) #[iv 7,iv 0,iv 0,iv 0,S3.v s30] λ_=>⟨s30,rfl,EA _,λe=>absurd rfl e,CgQ.af C⟩
         .refine tV 1 (.bool false) (λF C=>(Ft (t:=3) (m:=pick g.k 24) (n:=18) (x:=(.tmp 63)) (y:=(.const (iv 18))) (by simpa using f))) ?_;rw[if_neg (λe=>f e.1)]at i
          refine tR 13 [1,0] λU _ _=>?_;subst i;exact tX λF C=>qE1 4 41 1 (j 1) #[iv 7,iv 0,iv 0,iv 0,S3.v s30] λ_=>⟨s30,rfl,EA _,λe=>absurd rfl e,CgQ.af C⟩
       .refine tV 1 (.bool false) (λF C=>(Ft (t:=3) (m:=pick g.k 24) (n:=17) (x:=(.tmp 52)) (y:=(.const (iv 17))) (by simpa using f))) ?_;rw[if_neg (λe=>f e.1)]at i
        refine tR 9 [] λV _ _=>?_;by_cases f:pick g.k 24=18
        .refine tV 1 (.bool true) (λF C=>(Ft (t:=3) (m:=pick g.k 24) (n:=18) (x:=(.tmp 63)) (y:=(.const (iv 18))) (by simpa using f))) (tR 5 [] λW _ _=>?_);by_cases l:cr=true
         .refine tI (cr) true l ?_;rw[if_pos ⟨f,l⟩]at i
          refine tR 6 [1,0] λX _ _=>?_;subst i;exact tX λF C=>qE1 4 41 1 (j 1) #[iv 9,iv (pick g.a 5),iv 0,iv 0,S3.v s30] λ_=>⟨s30,rfl,EA _,λe=>absurd rfl e,CgQ.af C⟩
         .refine tI (cr) false (by simpa using l) ?_;rw[if_neg (λe=>l e.2)]at i
          refine tR 7 [1,0] λY _ _=>?_;subst i;exact tX λF C=>qE1 4 41 1 (j 1) #[iv 7,iv 0,iv 0,iv 0,S3.v s30] λ_=>⟨s30,rfl,EA _,λe=>absurd rfl e,CgQ.af C⟩
        .refine tV 1 (.bool false) (λF C=>(Ft (t:=3) (m:=pick g.k 24) (n:=18) (x:=(.tmp 63)) (y:=(.const (iv 18))) (by simpa using f))) ?_;rw[if_neg (λe=>f e.1)]at i
         refine tR 13 [1,0] λZ _ _=>?_;subst i;exact tX λF C=>qE1 4 41 1 (j 1) #[iv 7,iv 0,iv 0,iv 0,S3.v s30] λ_=>⟨s30,rfl,EA _,λe=>absurd rfl e,CgQ.af C⟩
theorem mo{k:Nat}(g:Gr)(h:∀ j u,(grV g)[j]?=some u->W.cell? ⟨b,k+j,none⟩=some u):(Instr.loadAt 44 (pt b k)).run prog W=.ok (.agg #[iv g.k,iv g.a,iv g.b,iv g.c,iv g.d]) W:=by
 have e:=run_loadVar_mid (P:=prog) W b k 44 (grV g) _ h underlying44 rfl (by kernel_rfl);simp only[Instr.loadAt,Instr.sureAddr,Sem.run_bind,Sem.run_pure,Result.andThen_ok];exact e
theorem kO(c:x.a=some ⟨b,off,none⟩)(j:Nat)(d:j<x.n):(Instr.indexAt 22 x.v (iv (j:Int))).run prog W=.ok (pt b (off+5*j)) W:=by
 obtain⟨f,h,g⟩:=x;simp only at c d;subst c;exact NH (P:=prog) (e:=44) (z:=5) underlying22 (by kernel_rfl) (by kernel_rfl) d _ rfl
theorem kn{l:S3}{g:Gr}(h:RdV w l 5 (grL G))(m:l.a=some ⟨b,off,none⟩)(d:G[i]?=some g){u:Value}(o:(grV g)[j]?=some u):w.cell? ⟨b,off+5*i+j,none⟩=some u:=by
 have p:l.n=G.length:=by have:=h.len;rw[show(grL G).length=G.length*5 from Gw (f:=grV) (λ_=>rfl) G]at this;omega
 obtain⟨q,e,c,_,k⟩:=h.spot (i:=i) (by rw[p];exact(V'.1 d).1);rw[m]at c
 cases c;exact k j u (Lm (f:=grV) (λ_=>rfl) G d o)
theorem WW{l:S3}{most:Nat}(h:RdV w l 5 (grL G))(hG:∀ g∈G,GrOk g)(hm:most<=100)(hT:Tabs w) :
  Calls prog 4 #[l.v,iv (most:Int),.bool cr] w λe w'=>∃ (y:S3) (P:List (Lac × S3)),e=.returned y.v/\P.map (·.1)=scr G most cr/\AcN w.heap.size w' y P/\Bw w w':=by
 have a9:l.n=G.length:=by have:=h.len;rw[show(grL G).length=G.length*5 from Gw (f:=grV) (λ_=>rfl) G]at this;omega
 refine tIn [Fa.zv l 5 (grL G)] func4 ⟨h.fz,trivial⟩ (tR 18 [] λb5 _ _=>DT 41 [(0,S3.v l),(1,iv (most:Int)),(2,.bool cr),(7,sn),(8,iv 0),(9,iv 0)] [] [] [Fa.zv l 5 (grL G),Fa.oa 0 s30 []] (λkk ee LL M=>∃ (i s:Nat) (y:S3) (P:List (Lac × S3)),kk=min G.length most-i/\ee=[(0,S3.v l),(1,iv (most:Int)),(2,.bool cr),(7,S3.v y),(8,iv (s:Int)),(9,iv (i:Int))]/\LL=[]/\M=[Fa.zv l 5 (grL G),Fa.oa 0 y P]/\i<=min G.length most/\y.n=i/\s<=i/\scr G most cr=P.map (·.1)++MF cr s ((G.take most).drop i)/\(∀ p∈P,Nb w.heap.size p.2 p.1.d)) (min G.length most) ⟨0,0,s30,[],rfl,rfl,rfl,rfl,by omega,rfl,by omega,rfl,λp q=>by cases q⟩ (λF=>⟨F.1,⟨OwnS.nil _ _ _ _ _ _,λp q=>by cases q⟩,trivial⟩) ?_);rintro k _ _ _ ⟨i,s,y,P,rfl,rfl,rfl,rfl,R,b1,b0,o,E⟩ _ _ _ J N;refine tR 6 [] λb6 _ _=>?_;by_cases h1:i<G.length
 .refine tV 3 (.bool true) (λF C=>(rLt (t:=3) (m:=(i:Int)) (n:=(l.n:Int)) (x:=(.tmp 11)) (y:=(.tmp 13)) (M' (by omega)))) (tR 6 [] λb7 _ _=>?_);by_cases h2:i<most
  .refine tI ((decide ((i:Int)<(most:Int)))) true (M' (by omega)) ?_;have R:i<(G.take most).length:=by rw[X'];omega
   obtain⟨g,O⟩:∃ g,(G.take most)[i]?=some g:=⟨_,G' R⟩;have H:G[i]?=some g:=by rw[nQ,if_pos h2]at O;exact O
   have Q:=hG g (nm H);rw[ny R,show(G.take most)[i]=g from(V'.1 O).2,MF]at o
   refine tF λF _=>?_;obtain⟨b,T,I,_,a8⟩:=F.1.rd.spot (i:=i) (by omega);refine tR 7 [] λb9 _ _=>tV 2 (pt b (T+5*i)) (λF C=>(kO I i (by omega))) (tV 3 (.agg #[iv g.k,iv g.a,iv g.b,iv g.c,iv g.d]) (λF C=>(mo g λj u hj=>kn F.1.rd I H hj)) (tR 1 [] λc0 _ _=>?_));obtain⟨x,X⟩:∃ x,Ph g cr=x:=⟨_,rfl⟩;refine tF λ_ Cs=>?_;have L:=Cs.size;refine tC 5 (λF C=>gL Q (tbA hT C) X) λNz=>?_;rintro _ _ ⟨d,rfl,hd,S,b8⟩;refine⟨_,Fa.sl d x.d::_,rfl,b8,λF=>⟨Ps hd S Nz,F⟩,?_⟩;rw[X]at o
   refine tR 10 [1,0,0,0,0] λc1 _ _=>?_;by_cases D:x.k=1
   .refine tI ((x.k==1)) true (by simpa using D) (tR 3 [] λY _ _=>tV 1 (iv ((s:Int)+1)) (λF C=>(AI (x:=(.tmp 31)) (y:=(.const (iv 1))) (s:Int) 1 underlying3 (by omega))) (tR 7 [] λZ _ _=>?_));rw[show fg s x=s+1 from if_pos D]at o
    by_cases h4:6<s+1
    .refine tI ((decide (6<((s:Int)+1)))) true (M' (by omega)) ?_;rw[show WV s x=acN 7 0 from if_pos ⟨D,by omega⟩]at o
     refine tR 8 [0,0,0,0,0] λr _ _=>PK 3 0 (x:=y) 23 23 41 5 56 zLa ⟨(r 0),0,none⟩ 1 1 [iv 7,iv 0,iv 0,iv 0,sn] (λF=>F.2.2.1.1) [Fa.zv l 5 (grL G),Fa.dt (P++[(acN 7 0,s30)])] (λF=>⟨F.2.1,Dat.snoc F.2.2.1.2 (VR _ _),trivial⟩) rfl (by simp[TQ]) rfl (by simp[Value.oneCell']) (λF K=>Cz K 1 (r 0) [iv 7,iv 0,iv 0,iv 0,sn] 41 .z true (by kernel_rfl)) (by unfold maxLen;omega) (by omega) λU _ _ b2=>tR 5 [] λa0 _ _=>tV 1 (iv ((i:Int)+1)) (λF C=>(AI (x:=(.tmp 20)) (y:=(.const (iv 1))) (i:Int) 1 underlying3 (by omega))) (tR 2 [] λa1 _ _=>tB N (min G.length most-(i+1)) (by omega) [false,false] ⟨i+1,(s+1),U,P++[(acN 7 0,s30)],rfl,rfl,rfl,rfl,by omega,by omega,by omega,(by rw[o,nh,mH];rfl),λp q=>(U'.1 q).elim (E p) λe=>by rw[E'.1 e];exact λe=>absurd rfl e⟩ (λF=>⟨F.2.1,⟨(by rw[Ek];exact F.1),F.2.2.1⟩,trivial⟩))
    .refine tI ((decide (6<((s:Int)+1)))) false (D' (by omega)) ?_;rw[show WV s x=x from if_neg (λe=>h4 (by omega))]at o
     refine tR 5 [0,0,0] λA _ _=>PK 3 0 (x:=y) 23 23 41 5 56 zLa ⟨(A 0),0,none⟩ 1 1 [iv x.k,iv x.n,iv x.a,iv x.p,S3.v d] (λF=>F.2.2.1.1) [Fa.zv l 5 (grL G),Fa.dt (P++[(x,d)])] (λF=>⟨F.2.1,Dat.snoc F.2.2.1.2 (F.1),trivial⟩) rfl (by simp[TQ]) rfl (by simp[Value.oneCell']) (λF K=>Cz K 1 (A 0) [iv x.k,iv x.n,iv x.a,iv x.p,S3.v d] 41 .z true (by kernel_rfl)) (by unfold maxLen;omega) (by omega) λV _ _ b3=>tR 5 [] λa2 _ _=>tV 1 (iv ((i:Int)+1)) (λF C=>(AI (x:=(.tmp 20)) (y:=(.const (iv 1))) (i:Int) 1 underlying3 (by omega))) (tR 2 [] λa3 _ _=>tB N (min G.length most-(i+1)) (by omega) [false,false] ⟨i+1,(s+1),V,P++[(x,d)],rfl,rfl,rfl,rfl,by omega,by omega,by omega,(by rw[o,nh,mH];rfl),λp q=>(U'.1 q).elim (E p) λe=>by rw[E'.1 e];exact S.mono L⟩ (λF=>⟨F.2.1,⟨(by rw[Ek];exact F.1),F.2.2.1⟩,trivial⟩))
   .refine tI ((x.k==1)) false (by simpa using D) ?_;rw[show fg s x=s from if_neg D,show WV s x=x from if_neg (λe=>D e.1)]at o
    refine tR 5 [0,0,0] λB _ _=>PK 3 0 (x:=y) 23 23 41 5 56 zLa ⟨(B 0),0,none⟩ 1 1 [iv x.k,iv x.n,iv x.a,iv x.p,S3.v d] (λF=>F.2.2.1.1) [Fa.zv l 5 (grL G),Fa.dt (P++[(x,d)])] (λF=>⟨F.2.1,Dat.snoc F.2.2.1.2 (F.1),trivial⟩) rfl (by simp[TQ]) rfl (by simp[Value.oneCell']) (λF K=>Cz K 1 (B 0) [iv x.k,iv x.n,iv x.a,iv x.p,S3.v d] 41 .z true (by kernel_rfl)) (by unfold maxLen;omega) (by omega) λW _ _ b4=>tR 5 [] λa4 _ _=>tV 1 (iv ((i:Int)+1)) (λF C=>(AI (x:=(.tmp 20)) (y:=(.const (iv 1))) (i:Int) 1 underlying3 (by omega))) (tR 2 [] λa5 _ _=>tB N (min G.length most-(i+1)) (by omega) [false,false] ⟨i+1,s,W,P++[(x,d)],rfl,rfl,rfl,rfl,by omega,by omega,by omega,(by rw[o,nh,mH];rfl),λp q=>(U'.1 q).elim (E p) λe=>by rw[E'.1 e];exact S.mono L⟩ (λF=>⟨F.2.1,⟨(by rw[Ek];exact F.1),F.2.2.1⟩,trivial⟩))
  .refine tI ((decide ((i:Int)<(most:Int)))) false (D' (by omega)) (tR 6 [] λa6 _ _=>?_);rw[nw (by rw[X'];omega),MF,na]at o
   exact tX λF C=>qE (S3.v y) λ_=>⟨y,P,rfl,o.symm,AcN.of F.2.1 C E,CgQ.af C⟩
 .refine tV 3 (.bool false) (λF C=>(rLt (t:=3) (m:=(i:Int)) (n:=(l.n:Int)) (x:=(.tmp 11)) (y:=(.tmp 13)) (D' (by omega)))) (tR 13 [] λa7 _ _=>?_);rw[nw (by rw[X'];omega),MF,na]at o
  exact tX λF C=>qE (S3.v y) λ_=>⟨y,P,rfl,o.symm,AcN.of F.2.1 C E,CgQ.af C⟩
def rnP(l:List Lac):List (Lac × S3):=l.map λa=>(a,s30)
theorem eX(l:List Lac):(rnP l).map (·.1)=l:=by simp[rnP,Function.comp_def]
theorem PC(g:Gh)(w:World){l:List Lac}(h:∀ a∈l,a.d=[]):Dat g w (rnP l):=by
 intro p c;obtain⟨a,b,rfl⟩:=mW.1 c;show FSl g w s30 a.d;rw[h a b];exact VR g w
theorem Jg(l:List Lac)(a:Lac):rnP (l++[a])=rnP l++[(a,s30)]:=by simp[rnP]
theorem Vd(l m:List Lac):rnP (l++m)=rnP l++rnP m:=by simp[rnP]
theorem Lq(l:List Lac):(rnP l).length=l.length:=by simp[rnP]
theorem Ij(m:Nat):(Al m).length=6*m:=by
 induction m with
 | zero=>rfl
 | succ m ih=>rw[Al,H',ih];show _+6=_;omega
def AC(k:Int)(j:Nat):List Lac:=(List.range j).map λn:Nat=>acN k (n:Int)
theorem BX(k:Int)(j:Nat):AC k (j+1)=AC k j++[acN k (j:Int)]:=by simp[AC,List.range_succ]
theorem Zf(k:Int)(j:Nat):(AC k j).length=j:=by simp[AC]
theorem OB{many:Nat}(h:RdV w x 5 (acV l))(P:∀ p∈l,Sl w p.2.v p.1.d)(hm:l.length+6*many<=1000000) :
  Calls prog 12 #[x.v,iv (many:Int)] w λe w'=>∃ y:S3,e=.returned y.v/\OwN w.heap.size w' 41 5 y (acV (l++rnP (Dn many)))/\Bw w w':=by
 have t:x.n=l.length:=by have:=h.len;rw[Lh]at this;omega
 refine tIn [Fa.ac x l] func12 ⟨⟨h.fz,λp R=>⟨P p R,λ_ _ _=>rfl⟩⟩,trivial⟩ (tR 7 [] λV _ _=>gA 1 0 x (acV l) 23 23 41 5 56 zLa (λF=>F.1.1.rd) [Fa.dt l] (λF=>⟨F.1.2,trivial⟩) rfl (by simp[TQ]) (Up l) (by rw[t];unfold maxLen;omega) (by omega) λu _ _ n0=>tR 8 [] λW _ _=>DT 39 [(1,iv (many:Int)),(5,S3.v u),(6,iv 0)] [] [] [Fa.oa 0 u (l++rnP (AC 9 0))] (λo g f a=>∃ (j:Nat) (y:S3),o=5-j/\g=[(1,iv (many:Int)),(5,S3.v y),(6,iv (j:Int))]/\f=[]/\a=[Fa.oa 0 y (l++rnP (AC 9 j))]/\j<=5/\y.n=l.length+j) (5) ⟨0,u,rfl,rfl,rfl,rfl,by omega,by omega⟩ (λF=>⟨by rw[show rnP (AC 9 0)=[]from rfl,na];exact⟨F.1,F.2.1⟩,trivial⟩) ?_);rintro k _ _ _ ⟨j,y,rfl,rfl,rfl,rfl,Q,m⟩ _ _ _ J O;refine tR 6 [] λX _ _=>?_;by_cases h1:j<5
 .refine tI ((decide ((j:Int)<5))) true (M' (by omega)) (tR 8 [0,0] λq _ _=>PK 4 0 (x:=y) 23 23 41 5 56 zLa ⟨(q 0),0,none⟩ 1 1 [iv 9,iv (j:Int),iv 0,iv 0,sn] (λF=>F.1.1) [Fa.dt ((l++rnP (AC 9 j))++[(acN 9 (j:Int),s30)])] (λF=>⟨Dat.snoc F.1.2 (VR _ _),trivial⟩) rfl (by simp[TQ]) rfl (by simp[Value.oneCell']) (λF K=>Cz K 0 (q 0) [iv 9,iv (j:Int),iv 0,iv 0,sn] 41 .z true (by kernel_rfl)) (by unfold maxLen;omega) (by omega) λU _ _ n6=>tR 5 [] λY _ _=>tV 1 (iv ((j:Int)+1)) (λF C=>(AI (x:=(.tmp 13)) (y:=(.const (iv 1))) (j:Int) 1 underlying3 (by omega))) (tR 2 [] λZ _ _=>tB O (5-(j+1)) (by omega) [false] ⟨j+1,U,rfl,rfl,rfl,rfl,by omega,by omega⟩ (λF=>by rw[BX,Jg,<- mH];exact⟨⟨(by rw[Ek];exact F.1),F.2.1⟩,trivial⟩)))
 .refine tI ((decide ((j:Int)<5))) false (D' (by omega)) ?_;obtain rfl:j=5:=by omega
  refine tR 7 [] λa0 _ _=>DT 39 [(1,iv (many:Int)),(5,S3.v y),(7,iv 0)] [] [] [Fa.oa 0 y (l++rnP (Ax++Al 0))] (λo g f a=>∃ (i:Nat) (y:S3),o=many-i/\g=[(1,iv (many:Int)),(5,S3.v y),(7,iv (i:Int))]/\f=[]/\a=[Fa.oa 0 y (l++rnP (Ax++Al i))]/\i<=many/\y.n=l.length+(5+6*i)) (many) ⟨0,y,rfl,rfl,rfl,rfl,by omega,by omega⟩ (λF=>⟨F.1,trivial⟩) ?_;rintro k _ _ _ ⟨i,y,rfl,rfl,rfl,rfl,hi,m⟩ _ _ _ Jb r;refine tR 7 [] λD _ _=>?_;by_cases h2:i<many
  .refine tI ((decide ((i:Int)<(many:Int)))) true (M' (by omega)) (tR 9 [] λE _ _=>DT 39 [(1,iv (many:Int)),(5,S3.v y),(7,iv (i:Int)),(8,iv 0)] [] [] [Fa.oa 0 y (l++rnP (Ax++Al i++AC 3 0))] (λo g f a=>∃ (j:Nat) (y:S3),o=5-j/\g=[(1,iv (many:Int)),(5,S3.v y),(7,iv (i:Int)),(8,iv (j:Int))]/\f=[]/\a=[Fa.oa 0 y (l++rnP (Ax++Al i++AC 3 j))]/\j<=5/\y.n=l.length+(5+6*i+j)) (5) ⟨0,y,rfl,rfl,rfl,rfl,by omega,by omega⟩ (λF=>⟨by rw[show AC 3 0=[]from rfl,na];exact F.1,trivial⟩) ?_);rintro k _ _ _ ⟨j,y,rfl,rfl,rfl,rfl,Q,m⟩ _ _ _ Jc s;refine tR 6 [] λG _ _=>?_;by_cases h3:j<5
   .refine tI ((decide ((j:Int)<5))) true (M' (by omega)) (tR 8 [0,0] λb _ _=>PK 4 0 (x:=y) 23 23 41 5 56 zLa ⟨(b 0),0,none⟩ 1 1 [iv 3,iv (j:Int),iv 0,iv 0,sn] (λF=>F.1.1) [Fa.dt ((l++rnP (Ax++Al i++AC 3 j))++[(acN 3 (j:Int),s30)])] (λF=>⟨Dat.snoc F.1.2 (VR _ _),trivial⟩) rfl (by simp[TQ]) rfl (by simp[Value.oneCell']) (λF K=>Cz K 0 (b 0) [iv 3,iv (j:Int),iv 0,iv 0,sn] 41 .z true (by kernel_rfl)) (by unfold maxLen;omega) (by omega) λA _ _ S=>tR 5 [] λH _ _=>tV 1 (iv ((j:Int)+1)) (λF C=>(AI (x:=(.tmp 27)) (y:=(.const (iv 1))) (j:Int) 1 underlying3 (by omega))) (tR 2 [] λI _ _=>tB s (5-(j+1)) (by omega) [false] ⟨j+1,A,rfl,rfl,rfl,rfl,by omega,by omega⟩ (λF=>by rw[BX,<- mH (Ax++Al i),Jg,<- mH l];exact⟨⟨(by rw[Ek];exact F.1),F.2.1⟩,trivial⟩)))
   .refine tI ((decide ((j:Int)<5))) false (D' (by omega)) ?_;obtain rfl:j=5:=by omega
    refine tR 5 [0,0] λc _ _=>PK 3 0 (x:=y) 23 23 41 5 56 zLa ⟨(c 0),0,none⟩ 1 1 [iv 7,iv 0,iv 0,iv 0,sn] (λF=>F.1.1) [Fa.dt ((l++rnP (Ax++Al i++AC 3 5))++[(acN 7 0,s30)])] (λF=>⟨Dat.snoc F.1.2 (VR _ _),trivial⟩) rfl (by simp[TQ]) rfl (by simp[Value.oneCell']) (λF K=>Cz K 0 (c 0) [iv 7,iv 0,iv 0,iv 0,sn] 41 .z true (by kernel_rfl)) (by unfold maxLen;omega) (by omega) λB _ _ T=>tR 5 [] λL _ _=>tV 1 (iv ((i:Int)+1)) (λF C=>(AI (x:=(.tmp 23)) (y:=(.const (iv 1))) (i:Int) 1 underlying3 (by omega))) (tR 2 [] λM _ _=>tB r (many-(i+1)) (by omega) [false] ⟨i+1,B,rfl,rfl,rfl,rfl,by omega,by omega⟩ (λF=>by rw[show Ax++Al (i+1)=Ax++Al i++AC 3 5++[acN 7 0]by rw[Al,<- mH,mH _ (AC 3 5)];rfl,Jg,<- mH l];exact⟨⟨(by rw[Ek];exact F.1),F.2.1⟩,trivial⟩))
  .refine tI ((decide ((i:Int)<(many:Int)))) false (D' (by omega)) ?_;obtain rfl:i=many:=by omega
   refine tR 6 [] λN _ _=>tX λF C=>qE (S3.v y) λ_=>⟨y,rfl,F.1.1.own C,CgQ.af C⟩
theorem Ze(k:Int)(j:Nat):∀ a∈AC k j,a.d=[]:=by
 intro a b;obtain⟨n,_,rfl⟩:=mW.1 b;rfl
theorem Y9(m:Nat):∀ a∈Al m,a.d=[]:=by
 induction m with
 | zero=>intro a b;cases b
 | succ m ih =>
  intro a b;rcases U'.1 b with h|h
  .exact ih a h
  .rcases U'.1 h with h|h
   .exact Ze 3 5 a h
   .rw[E'.1 h];rfl
theorem aH(m:Nat):∀ a∈Dn m,a.d=[]:=by
 intro a b;rcases U'.1 b with h|h
 .exact Ze 9 5 a h
 .exact Y9 m a h
theorem GB(m:Nat):(Dn m).length=5+6*m:=by unfold Dn;rw[H',Ij];rfl
theorem lY{a:Lac}(h:AcR w x L l)(g:x.a=some ⟨b,off,none⟩)(f:L[i]?=some a):w.cell? ⟨b,off+5*i,none⟩=some (iv a.k):=by
 obtain⟨j,d,y,c,e,_,_⟩:=h.spot f;rw[g]at c
 cases c;exact e 0 _ rfl
theorem Wq{a:Lac}(h:L[i]?=some a):Fp (L.take (i+1))=if hvy a then Fp (L.take i)+20 else Fp (L.take i):=by
 unfold Fp;rw[pB,h,oE];cases hh:hvy a<;>simp[hh];omega
theorem UQ(L:List Lac):Fp L<=100+20*L.length:=by
 unfold Fp;have:=py hvy L;omega
theorem YO(m:Nat)(n:Int):(Cy m n).length=11+6*m:=by unfold Cy;rw[H',H',GB,GB,nL];omega
theorem TU(h:AcR w x L l)(hm:L.length<=2000) :
  Calls prog 6 #[x.v,iv n] w λe w'=>∃ y:S3,e=.returned y.v/\OwN w.heap.size w' 41 5 y (acV (l++rnP (Hq L n)))/\Bw w w':=by
 have U:x.n=L.length:=h.n;have c4:l.length=L.length:=by rw[<- h.e,mV]
 refine tIn [Fa.ac x l] func6 ⟨⟨h.r.fz,λp hp=>⟨h.d p hp,λ_ _ _=>rfl⟩⟩,trivial⟩ (tR 14 [] λc6 _ _=>DT 44 [(0,S3.v x),(1,iv n),(5,iv 100),(6,iv 0)] [] [] [Fa.ac x l] (λV D B f=>∃ (i m:Nat),V=L.length-i/\D=[(0,S3.v x),(1,iv n),(5,iv (m:Int)),(6,iv (i:Int))]/\B=[]/\f=[Fa.ac x l]/\i<=L.length/\m=Fp (L.take i)) (L.length) ⟨0,100,rfl,rfl,rfl,rfl,by omega,rfl⟩ (λF=>⟨F.1,trivial⟩) ?_);rintro k _ _ _ ⟨i,m,rfl,rfl,rfl,rfl,hi,g⟩ _ _ _ J o;refine tR 8 [] λc7 _ _=>?_;by_cases h1:i<L.length
 .refine tI ((decide ((i:Int)<(x.n:Int)))) true (M' (by omega)) ?_;have s:=UQ (L.take i);rw[<- g,X']at s
  obtain⟨a,S⟩:∃ a,L[i]?=some a:=⟨_,G' (by omega)⟩;refine tF λF _=>?_;obtain⟨b,W,yd,I,_,_,hin⟩:=(AcR.of F.1 h.e).spot S;refine tR 7 [] λc8 _ _=>tV 2 (pt b (W+5*i)) (λF C=>(aA (c:=x.c) I i hin)) (tR 1 [] λc9 _ _=>tV 4 (iv a.k) (λF C=>(Db underlying3 rfl (lY (AcR.of F.1 h.e) I S))) (tR 1 [] λd0 _ _=>KX 44 (λD B f=>∃ (N:Nat),D=[(0,S3.v x),(1,iv n),(5,iv (N:Int)),(6,iv (i:Int))]/\B=[]/\f=[Fa.ac x l]/\N=(if hvy a then m+20 else m)) (λJ o=>?_) ?_))
  .refine tR 7 [] λd1 _ _=>?_;by_cases A:a.k=1
   .refine tI ((a.k==1)) true (by simpa using A) (tR 1 [] λd2 _ _=>tI ((a.k==1)) true (by simpa using A) (tR 2 [] λd3 _ _=>tV 1 (iv ((m:Int)+20)) (λF C=>(AI (x:=(.tmp 25)) (y:=(.const (iv 20))) (m:Int) 20 underlying3 (by omega))) (tR 3 [] λd4 _ _=>tD o [] ⟨m+20,rfl,rfl,rfl,(if_pos (by simp[hvy,A])).symm⟩ (λF=>⟨F.1,trivial⟩))))
   .refine tI ((a.k==1)) false (by simpa using A) (tR 5 [] λa1 _ _=>?_);by_cases E:a.k=2
    .refine tI ((a.k==2)) true (by simpa using E) (tR 1 [] λa2 _ _=>tI ((a.k==2)) true (by simpa using E) (tR 2 [] λa3 _ _=>tV 1 (iv ((m:Int)+20)) (λF C=>(AI (x:=(.tmp 25)) (y:=(.const (iv 20))) (m:Int) 20 underlying3 (by omega))) (tR 3 [] λa4 _ _=>tD o [] ⟨m+20,rfl,rfl,rfl,(if_pos (by simp[hvy,E])).symm⟩ (λF=>⟨F.1,trivial⟩))))
    .refine tI ((a.k==2)) false (by simpa using E) (tR 5 [] λa5 _ _=>?_);by_cases G:a.k=6
     .refine tI ((a.k==6)) true (by simpa using G) (tR 1 [] λa6 _ _=>tI ((a.k==6)) true (by simpa using G) (tR 2 [] λa7 _ _=>tV 1 (iv ((m:Int)+20)) (λF C=>(AI (x:=(.tmp 25)) (y:=(.const (iv 20))) (m:Int) 20 underlying3 (by omega))) (tR 3 [] λa8 _ _=>tD o [] ⟨m+20,rfl,rfl,rfl,(if_pos (by simp[hvy,G])).symm⟩ (λF=>⟨F.1,trivial⟩))))
     .refine tI ((a.k==6)) false (by simpa using G) (tR 4 [] λa9 _ _=>?_);by_cases M:a.k=8
      .refine tI ((a.k==8)) true (by simpa using M) (tR 2 [] λb0 _ _=>tV 1 (iv ((m:Int)+20)) (λF C=>(AI (x:=(.tmp 25)) (y:=(.const (iv 20))) (m:Int) 20 underlying3 (by omega))) (tR 3 [] λb1 _ _=>tD o [] ⟨m+20,rfl,rfl,rfl,(if_pos (by simp[hvy,M])).symm⟩ (λF=>⟨F.1,trivial⟩)))
      .refine tI ((a.k==8)) false (by simpa using M) (tR 2 [] λb2 _ _=>tD o [] ⟨m,rfl,rfl,rfl,(if_neg (by simp[hvy,A,E,G,M])).symm⟩ (λF=>⟨F.1,trivial⟩))
  rintro _ _ _ ⟨N,rfl,rfl,rfl,T⟩ _ _ _;refine tR 3 [] λb3 _ _=>tV 1 (iv ((i:Int)+1)) (λF C=>(AI (x:=(.tmp 13)) (y:=(.const (iv 1))) (i:Int) 1 underlying3 (by omega))) (tR 2 [] λb4 _ _=>tB o (L.length-(i+1)) (by omega) [] ⟨i+1,N,rfl,rfl,rfl,rfl,by omega,(by rw[T,Wq S,<- g])⟩ (λF=>⟨F.1,trivial⟩))
 .refine tI ((decide ((i:Int)<(x.n:Int)))) false (D' (by omega)) ?_;rw[show L.take i=L from mR (by omega)]at g
  have s:=UQ L;rw[<- g]at s
  refine tR 4 [] λb5 _ _=>gA 1 0 x (acV l) 23 23 41 5 56 zLa (λF=>F.1.1.rd) [Fa.dt l] (λF=>⟨F.1.2,trivial⟩) rfl (by simp[TQ]) (Up l) (by rw[U];unfold maxLen;omega) (by omega) λZ _ _ n0=>tR 8 [] λb6 _ _=>DT 44 [(1,iv n),(5,iv (m:Int)),(7,S3.v Z),(8,iv 0)] [] [] [Fa.oa 0 Z (l++rnP [])] (λV D B f=>∃ (j:Nat) (y:S3) (Q:List Lac),V=2-j/\D=[(1,iv n),(5,iv (m:Int)),(7,S3.v y),(8,iv (j:Int))]/\B=[]/\f=[Fa.oa 0 y (l++rnP Q)]/\j<=2/\Q.length<=j*300000/\Q=(List.replicate j (Cy m n)).flatten) (2) ⟨0,Z,[],rfl,rfl,rfl,rfl,by omega,by simp,by simp⟩ (λF=>⟨by rw[show rnP []=[]from rfl,na];exact⟨F.1,F.2.1⟩,trivial⟩) ?_;rintro k _ _ _ ⟨j,y,Q,rfl,rfl,rfl,rfl,hj,c3,hQ⟩ _ _ _ J o;refine tR 6 [] λb7 _ _=>?_;by_cases A:j<2
  .refine tI ((decide ((j:Int)<2))) true (M' (by omega)) (tR 6 [] λb8 _ _=>tG 1 [] 0 (λF C=>OB (many:=0) (AcR.oo F.1 rfl).r (AcR.oo F.1 rfl).d (by rw[H',Lq];omega)) λNz=>?_);rintro _ _ ⟨X,rfl,H,O⟩;have t:X.n=((l++rnP Q)++rnP (Dn 0)).length:=by have:=H.len;rw[Lh]at this;omega
   simp only[H',Lq,GB]at t;refine⟨_,[Fa.oa 0 X ((l++rnP Q)++rnP (Dn 0))],_,_,_,_,rfl,O,H,λ_=>⟨λF R _=>⟨⟨R,Dat.app F.1.2 (PC _ _ (aH _))⟩,trivial⟩,?_⟩⟩;refine tR 8 [0,0] λq _ _=>PK 4 0 (x:=X) 23 23 41 5 56 zLa ⟨(q 0),0,none⟩ 1 1 [iv 2,iv n,iv 0,iv 0,sn] (λF=>F.1.1) [Fa.dt ((l++rnP Q++rnP (Dn 0))++[(acN 2 n,s30)])] (λF=>⟨Dat.snoc F.1.2 (VR _ _),trivial⟩) rfl (by simp[TQ]) rfl (by simp[Value.oneCell']) (λF K=>Cz K 0 (q 0) [iv 2,iv n,iv 0,iv 0,sn] 41 .z true (by kernel_rfl)) (by unfold maxLen;omega) (by omega) λa0 _ _ c5=>tCv [Fa.oa 0 a0 (l++rnP (Q++Dn 0++[acN 2 n]))] (λF=>by rw[Jg,Vd,<- mH l,<- mH l];exact⟨⟨(by rw[Ek];exact F.1),F.2.1⟩,trivial⟩) (tR 5 [] λb9 _ _=>tG 2 [false] 0 (λF C=>OB (many:=m) (AcR.oo F.1 rfl).r (AcR.oo F.1 rfl).d (by rw[H',Lq,H',H',GB,nL];omega)) λNz=>?_);rintro _ _ ⟨Y,rfl,H,P⟩;have u:Y.n=((l++rnP (Q++Dn 0++[acN 2 n]))++rnP (Dn m)).length:=by have:=H.len;rw[Lh]at this;omega
   simp only[H',Lq,GB,nL]at u;refine⟨_,[Fa.oa 0 Y ((l++rnP (Q++Dn 0++[acN 2 n]))++rnP (Dn m))],_,_,_,_,rfl,P,H,λ_=>⟨λF R _=>⟨⟨R,Dat.app F.1.2 (PC _ _ (aH _))⟩,trivial⟩,?_⟩⟩;refine tR 5 [] λc0 _ _=>tV 1 (iv ((j:Int)+1)) (λF C=>(AI (x:=(.tmp 31)) (y:=(.const (iv 1))) (j:Int) 1 underlying3 (by omega))) (tR 2 [] λc1 _ _=>?_);exact tB o (2-(j+1)) (by omega) [] ⟨j+1,Y,Q++Cy m n,rfl,rfl,rfl,rfl,by omega,(by rw[H',YO];omega),(by rw[hQ];rcases(show j=0\/j=1 by omega)with rfl|rfl<;>simp)⟩ (λF=>by rw[show Q++Cy m n=Q++Dn 0++[acN 2 n]++Dn m by simp[Cy,List.append_assoc],Vd _ (Dn m),<- mH l];exact F)
  .refine tI ((decide ((j:Int)<2))) false (D' (by omega)) ?_;obtain rfl:j=2:=by omega
   refine tR 6 [] λc2 _ _=>?_;have hS:Q=Hq L n:=by rw[hQ,g];simp[Hq]
   rw[<- hS];exact tX λF C=>qE (S3.v y) λ_=>⟨y,rfl,F.1.1.own C,CgQ.af C⟩
theorem Pz(h:OutF g w ly tv ys M):OutW w M ly tv ys:=⟨h.rT.rd,λj a=>(h.log j a).rd.rc,h.eo.rd⟩
theorem jq(h:AcR w x L l)(n:∀ a∈L,LacOk a)(m:L.length<=100000)(b:X9 w)(j:Au.dW L=M) :
  Calls prog 11 #[x.v] w λe w'=>∃ (ly tv:S3) (ys:Nat->S3),e=.returned (.tuple #[.agg (IX M ly tv),iv 0])/\OutW w' M ly tv ys/\OutN w.heap.size M ly tv ys/\Bw w w':=by
 subst j;refine(fd (h.sk (by omega)) (λi c=>by rw[Pn c];exact n _ (nC c)) m b.1 b.2.1 b.2.2).mono ?_;rw[XC];rintro e w' ⟨k,ly,tv,ys,d,f,g⟩;exact⟨ly,tv,ys,d,f,g,k⟩
theorem aD(h:AcR w x L l)(y:∀ a∈L,LacOk a)(t:L.length<=100000)(s:X9 w)(r:Au.dW L=M) :
  Calls prog 5 #[x.v] w λe w'=>∃ (ly tv:S3) (ys:Nat->S3),e=.returned (.tuple #[.agg (IX M ly tv),.bool true])/\OutW w' M ly tv ys/\OutN w.heap.size M ly tv ys/\Bw w w':=by
 refine tIn [] func5 trivial (tR 8 [1,0] λb _ _=>tF λ_ k=>?_);have d:=k.size;refine tC 1 (λF C=>jq (h.af (CgQ.af C)) y t (tb5 s C) r) λo=>?_;rintro _ _ ⟨ly,tv,ys,rfl,j,i,p⟩;refine⟨_,Fa.ot ly tv ys M::_,rfl,p,λF=>⟨Py j i o,F⟩,?_⟩;refine tR 14 [0,0,1,0,9,0,1,2,4,6,8] λf _ _=>KX 20 (λq m c=>∃ (_:Unit),q=[(2,pt (b 0) 0),(3,.bool ((ly.n:Int)==5))]/\m=[⟨(b 0),.cells (IX M ly tv) 30,.l,false⟩,⟨(f 0),.cells (IX M ly tv) 30,.z,false⟩]/\c=[Fa.ot ly tv ys M]) (λJ g=>?_) ?_
 .refine PL 5 9 ?_ ?_
  .refine tR 7 [1,12,14,16,19,0,0,20] λA _ _=>tD g [true,true] ⟨(),rfl,rfl,rfl⟩ (λF=>⟨F.1,trivial⟩)
  .refine tR 7 [0,0,11,1,12,14,16,20] λB _ _=>tD g [true,true] ⟨(),rfl,rfl,rfl⟩ (λF=>⟨F.1,trivial⟩)
 rintro _ _ _ ⟨_,rfl,rfl,rfl⟩ _ _ _;have u:(((ly.n:Nat):Int)==5)=true:=by rw[j.n5];rfl
 exact tX λF C=>qE2 2 3 30 0 (b 0) (IX M ly tv) (.bool ((ly.n:Int)==5)) λ_=>⟨ly,tv,ys,by rw[u],Pz F.1,i.mono d,CgQ.af C⟩
def lgN(M:Meet):Nat->Option Nat
 | 0=>none
 | n+1=>if(((lgN M n).map M.log).getD []).length<(M.log n).length then some n else lgN M n
def lgY(ys:Nat->S3)(o:Option Nat):S3:=(o.map ys).getD s30
theorem Zr{n:Nat}(h:lgN M n=some j):j<n:=by
 induction n with
 | zero=>cases h
 | succ n ih =>
  rw[lgN]at h
  split at h
  .cases h;omega
  .have:=ih h;omega
theorem Te(h:OutF g w ly tv ys M){n:Nat}(hn:n<=5):FzV g w (lgY ys (lgN M n)) 5 (cmL (((lgN M n).map M.log).getD [])):=by
 cases hh:lgN M n with
 | none=>exact⟨⟨rfl,A' _,λ_=>rfl,.inl rfl⟩,λe=>absurd rfl e⟩
 | some j=>exact h.log j (j' (Zr hh) hn)
theorem Rp(c:x.a=some ⟨b,off,none⟩)(j:Nat)(d:j<x.n):(Instr.indexAt 26 x.v (iv (j:Int))).run prog W=.ok (pt b (off+j)) W:=by
 obtain⟨f,h,g⟩:=x;simp only at c d;subst c;exact NH (P:=prog) (e:=35) (z:=1) underlying26 (by kernel_rfl) (by kernel_rfl) d _ (by rw[ry])
theorem IP(h:RdV w ly 1 [S3.v (ys 0),S3.v (ys 1),S3.v (ys 2),S3.v (ys 3),S3.v (ys 4)])(c:ly.a=some ⟨b,off,none⟩)(d:j<5):w.cell? ⟨b,off+j,none⟩=some (S3.v (ys j)):=by
 rcases h.ex with h1|⟨b',off',h1,h2,h3⟩
 .have:=h.len;simp at this;omega
 .rw[c]at h1;cases h1
  refine h3 j _ ?_;rcases rk d with rfl|rfl|rfl|rfl|rfl<;>rfl
theorem Tf(h:OutW w M ly tv ys) :
  Calls prog 8 #[.agg (IX M ly tv)] w λe w'=>e=.returned (S3.v (lgY ys (lgN M 5)))/\Bw w w':=by
 have O:=h.n5;refine tIn [Fa.ot ly tv ys M] func8 ⟨⟨h.rT.fz,λj t=>(h.log j t).rv.fz,h.eo.fz⟩,trivial⟩ (tR 15 [0,0] λc _ _=>DT 27 [(1,pt (c 0) 0),(3,sn),(4,iv 0)] [true] [⟨(c 0),.cells #[iv (M.br.length:Int),.bool (M.ae 0).up,.bool (M.ae 1).up,.bool (M.ae 2).up,.bool (M.ae 3).up,.bool (M.ae 4).up,S3.v ly,iv ((M.ae 0).bad:Int),iv ((M.ae 1).bad:Int),iv ((M.ae 2).bad:Int),iv ((M.ae 3).bad:Int),iv ((M.ae 4).bad:Int),S3.v tv] 30,.z,false⟩] [Fa.ot ly tv ys M] (λu q p f=>∃ (i:Nat),u=5-i/\q=[(1,pt (c 0) 0),(3,S3.v (lgY ys (lgN M i))),(4,iv (i:Int))]/\p=[⟨(c 0),.cells (IX M ly tv) 30,.z,false⟩]/\f=[Fa.ot ly tv ys M]/\i<=5) (5) ⟨0,rfl,rfl,rfl,rfl,by omega⟩ (λF=>F) ?_);rintro k _ _ _ ⟨i,rfl,rfl,rfl,rfl,N⟩ _ _ _ J g;refine tR 9 [0] λA _ _=>?_;by_cases K:i<5
 .refine tI ((decide ((i:Int)<(ly.n:Int)))) true (M' (by omega)) (tF λF _=>?_);obtain⟨b,d,a,_⟩:=F.1.rT.rd.spot (i:=i) (by omega);have r:=VB (F.1.log i (by omega)).rd;have s:=VB (Te F.1 (n:=i) (by omega)).rd;refine tR 8 [0] λD _ _=>tV 3 (pt b (d+i)) (λF C=>(Rp a i (by omega))) (tV 4 (S3.v (ys i)) (λF C=>(Db underlying35 rfl (IP F.1.rT.rd a (by omega)))) (tR 5 [] λE _ _=>?_));by_cases L:(((lgN M i).map M.log).getD []).length<(M.log i).length
  .refine tI ((decide (((lgY ys (lgN M i)).n:Int)<((ys i).n:Int)))) true (M' (by omega)) (tR 4 [0] λG _ _=>tV 3 (pt b (d+i)) (λF C=>(Rp a i (by omega))) (tV 4 (S3.v (ys i)) (λF C=>(Db underlying35 rfl (IP F.1.rT.rd a (by omega)))) (tR 5 [] λH _ _=>tV 1 (iv ((i:Int)+1)) (λF C=>(AI (x:=(.tmp 10)) (y:=(.const (iv 1))) (i:Int) 1 underlying3 (by omega))) (tR 2 [] λI _ _=>tB g (5-(i+1)) (by omega) [true] ⟨i+1,rfl,(by rw[show lgN M (i+1)=some i from if_pos (by omega)]),rfl,rfl,by omega⟩ (λF=>F)))))
  .refine tI ((decide (((lgY ys (lgN M i)).n:Int)<((ys i).n:Int)))) false (D' (by omega)) (tR 4 [] λl _ _=>tV 1 (iv ((i:Int)+1)) (λF C=>(AI (x:=(.tmp 10)) (y:=(.const (iv 1))) (i:Int) 1 underlying3 (by omega))) (tR 2 [] λm _ _=>tB g (5-(i+1)) (by omega) [true] ⟨i+1,rfl,(by rw[show lgN M (i+1)=lgN M i from if_neg (by omega)]),rfl,rfl,by omega⟩ (λF=>F)))
 .refine tI ((decide ((i:Int)<(ly.n:Int)))) false (D' (by omega)) (tR 6 [] λo _ _=>?_);obtain rfl:i=5:=by omega
  exact tE (S3.v (lgY ys (lgN M 5))) λ_ B=>⟨rfl,B⟩
def alk:List Cmd->List Cmd->Bool
 | c::a,d::b=>decide (c=d)&&alk a b
 | _,_=>true
theorem Us(a:List Cmd):alk a []=true:=by cases a<;>rfl
theorem Ur{b:List Cmd}(h:¬ (i<a.length/\i<b.length)):alk (a.drop i) (b.drop i)=true:=by
 by_cases c:i<a.length
 .rw[show b.drop i=[]from nw (by omega),Us]
 .rw[show a.drop i=[]from nw (by omega)];rfl
theorem XG{b:List Cmd}{c d:Cmd}(g:a[i]?=some c)(h:b[i]?=some d):alk (a.drop i) (b.drop i)=(decide (c=d)&&alk (a.drop (i+1)) (b.drop (i+1))):=by
 obtain⟨e,rfl⟩:=V'.1 g;obtain⟨f,rfl⟩:=V'.1 h;rw[ny e,ny f,alk]
theorem mj(a b c d e f g h i j:Int):∀ w,(binOp .neq 49 (.agg #[.int .i64 a,.int .i64 b,.int .i64 c,.int .i64 d,.int .i64 e]) (.agg #[.int .i64 f,.int .i64 g,.int .i64 h,.int .i64 i,.int .i64 j])).run prog w=.ok (.bool (!decide (a=f/\b=g/\c=h/\d=i/\e=j))) w:=by
 intro w;rw[run_neq_struct,run_equalIn_agg w 9999 _ _ _ (by kernel_rfl) (by kernel_rfl)];unfold Program.fieldsOf;rw[underlying49];have k:=underlying3;simp[Op.eqFields,go_sem,k]
 repeat' split
 all_goals simp_all
theorem kW{x y:Operand}(a b:Cmd):(do Go.eqGuard .neq 49 x y (.agg #[iv a.k,iv a.c,iv a.s,iv a.n,iv a.v]) (.agg #[iv b.k,iv b.c,iv b.s,iv b.n,iv b.v]);Go.binOp .neq 49 (.agg #[iv a.k,iv a.c,iv a.s,iv a.n,iv a.v]) (.agg #[iv b.k,iv b.c,iv b.s,iv b.n,iv b.v]):Sem Value).run prog W=.ok (.bool (!decide (a=b))) W:=by
 have d:=mj a.k a.c a.s a.n a.v b.k b.c b.s b.n b.v W;rw[Pc]at d
 have e:(Go.eqGuard .neq 49 x y (.agg #[iv a.k,iv a.c,iv a.s,iv a.n,iv a.v]) (.agg #[iv b.k,iv b.c,iv b.s,iv b.n,iv b.v])).run prog W=.ok () W:=by kernel_rfl
 rw[Sem.run_bind,e,Result.andThen_ok];exact d
theorem PY{y:S3}{b:List Cmd}(h:RdV w x 5 (cmL a))(k:RdV w y 5 (cmL b))(hb:a.length<1000000){r:Bool}(P:alk a b=r) :
  Calls prog 9 #[x.v,y.v] w λe w'=>e=.returned (.bool r)/\Bw w w':=by
 have hx:=VB h;have hy:=VB k;refine tIn [Fa.zv x 5 (cmL a),Fa.zv y 5 (cmL b)] func9 ⟨h.fz,k.fz,trivial⟩ (tR 10 [] λT _ _=>DT 27 [(0,S3.v x),(1,S3.v y),(5,iv 0)] [] [] [Fa.zv x 5 (cmL a),Fa.zv y 5 (cmL b)] (λQ A z f=>∃ (i:Nat),Q=a.length-i/\A=[(0,S3.v x),(1,S3.v y),(5,iv (i:Int))]/\z=[]/\f=[Fa.zv x 5 (cmL a),Fa.zv y 5 (cmL b)]/\i<=a.length/\alk (a.drop i) (b.drop i)=r) (a.length) ⟨0,rfl,rfl,rfl,rfl,by omega,P⟩ (λF=>F) ?_);rintro k _ _ _ ⟨i,rfl,rfl,rfl,rfl,hi,g⟩ _ _ _ J q;refine tR 6 [] λU _ _=>?_;by_cases Y:i<a.length
 .refine tV 3 (.bool true) (λF C=>(rLt (t:=3) (m:=(i:Int)) (n:=(x.n:Int)) (x:=(.tmp 6)) (y:=(.tmp 8)) (M' (by omega)))) (tR 7 [] λV _ _=>?_);by_cases Z:i<b.length
  .refine tI ((decide ((i:Int)<(y.n:Int)))) true (M' (by omega)) ?_;obtain⟨c,D⟩:∃ c,a[i]?=some c:=⟨_,G' (by omega)⟩;obtain⟨d,E⟩:∃ d,b[i]?=some d:=⟨_,G' (by omega)⟩;rw[XG D E]at g
   refine tF λF _=>?_;obtain⟨bx,R,l⟩:=F.1.rd.rc.addr (k:=i) (by omega);obtain⟨sP,S,o⟩:=F.2.1.rd.rc.addr (k:=i) (by omega);refine tR 7 [9,0,2] λW _ _=>tT 2 (pt bx (R+5*i)) (λ_=>(My l i (by omega))) (tR 2 [8,10] λX _ _=>tT 6 (pt sP (S+5*i)) (λ_=>(My o i (by omega))) (KX 27 (λA z f=>∃ (_:Unit),A=[(0,S3.v x),(1,S3.v y),(5,iv (i:Int)),(26,.bool (!decide (c=d)))]/\z=[]/\f=[Fa.zv x 5 (cmL a),Fa.zv y 5 (cmL b)]) (λJ q=>?_) ?_))
   .refine PL 3 7 ?_ ?_
    .refine tV 3 (.agg #[iv c.k,iv c.c,iv c.s,iv c.n,iv c.v]) (λF C=>(P8 c λG u j=>F.1.rd.rc.cellAt l D j)) (tV 7 (.agg #[iv d.k,iv d.c,iv d.s,iv d.n,iv d.v]) (λF C=>(P8 d λG u j=>F.2.1.rd.rc.cellAt o E j)) (tT 8 (.bool (!decide (c=d))) (λ_=>(kW (x:=(.tmp 21)) (y:=(.tmp 25)) c d)) (tR 1 [] λH _ _=>tD q [] ⟨(),rfl,rfl,rfl⟩ (λF=>F))))
    .refine tV 7 (.agg #[iv d.k,iv d.c,iv d.s,iv d.n,iv d.v]) (λF C=>(P8 d λG u j=>F.2.1.rd.rc.cellAt o E j)) (tV 3 (.agg #[iv c.k,iv c.c,iv c.s,iv c.n,iv c.v]) (λF C=>(P8 c λG u j=>F.1.rd.rc.cellAt l D j)) (tT 8 (.bool (!decide (c=d))) (λ_=>(kW (x:=(.tmp 21)) (y:=(.tmp 25)) c d)) (tR 1 [] λI _ _=>tD q [] ⟨(),rfl,rfl,rfl⟩ (λF=>F))))
   rintro _ _ _ ⟨_,rfl,rfl,rfl⟩ _ _ _;by_cases p:¬ c=d
   .refine tI ((!decide (c=d))) true (by simpa using p) (tR 4 [] λK _ _=>?_);rw[D' p]at g
    subst g;exact tE (.bool false) λ_ B=>⟨rfl,B⟩
   .refine tI ((!decide (c=d))) false (by simpa using p) ?_;rw[M' (mI.1 p),Bool.true_and]at g
    refine tR 4 [] λL _ _=>tV 1 (iv ((i:Int)+1)) (λF C=>(AI (x:=(.tmp 16)) (y:=(.const (iv 1))) (i:Int) 1 underlying3 (by omega))) (tR 2 [] λM _ _=>tB q (a.length-(i+1)) (by omega) [] ⟨i+1,rfl,rfl,rfl,rfl,by omega,g⟩ (λF=>F))
  .refine tI ((decide ((i:Int)<(y.n:Int)))) false (D' (by omega)) (tR 5 [] λN _ _=>?_);rw[Ur (by omega)]at g
   subst g;exact tE (.bool true) λ_ B=>⟨rfl,B⟩
 .refine tV 3 (.bool false) (λF C=>(rLt (t:=3) (m:=(i:Int)) (n:=(x.n:Int)) (x:=(.tmp 6)) (y:=(.tmp 8)) (D' (by omega)))) (tR 13 [] λO _ _=>?_);rw[Ur (by omega)]at g
  subst g;exact tE (.bool true) λ_ B=>⟨rfl,B⟩
end
section
variable{P:Program}{fn:Func}{R:Ending->World->Prop}{w0:World}{Φ:List Fa}{g:Gh}{w:World}
theorem tW{s:Xs}(i:Nat)(v:Value){S:Sem Value}(c:AllF g w Φ->Kn w0.heap.size g w s.L->S.run P w=.ok v w)(b:GT P fn R w0 Φ (nxt s i v s.L).s g w)(d:Dy s i=some (S>>=λv=>pure (.value v)):=by kernel_rfl)(a:(nxt s i undef s.L).o.map Ob.l'=(nxt s i undef s.L).o.map Ob.r':=by kernel_rfl):GT P fn R w0 Φ s g w:=⟨λF C=>Af λK=>qV i v (c F K) (b.ex F C) d a⟩
end
theorem my{B:Nat}{g:Gh}{w:World}{L:List Sh}(h:Kn B g w L)(k b:Nat)(news:List Value)(e:TypeId)(t:Tg)(v:Bool)(d:L[k]?=some ⟨b,.cells news.toArray e,t,v⟩){j:Nat}{u:Value}(c:news[j]?=some u):w.cell? ⟨b,j,none⟩=some u:=by
 have:=Cz h k b news e t v d j u c;have a:(⟨b,0,none⟩:Addr).add j=⟨b,j,none⟩:=by unfold Addr.add;split<;>simp_all
 rwa [a]at this
theorem jf{W:World}{b k n:Nat}(hn:n<5):(Instr.indexAt 25 (pt b k) (iv (n:Int))).run prog W=.ok (pt b (k+n)) W:=by
 rcases rk hn with rfl|rfl|rfl|rfl|rfl<;>kernel_rfl
theorem kG{M:Meet}{b tv:S3}{n:Nat}(hn:n<5){u:Bool}(a:(M.ae n).up=u):(IX M b tv).toList[1+n]?=some (.bool u):=by
 subst a;rcases rk hn with rfl|rfl|rfl|rfl|rfl<;>rfl
end
section
structure Alw where
 ca:Bool
 ld:Bool
 cr:Bool
 st:Bool
structure NInv(A:Alw)(i:Nat)(D:List Int->Prop)(Q:Let->Prop)(P:Nod->Prop):Prop where
 take:A.ca=true->∀ p l,P p->Q l->l.dst=i->p.up=true->P (p.take l)
 one:∀ p c,P p->p.up=true->p.ab[p.done]?=some c->doE p.lr c=0->P (Nod.fv { p with lr:=doS p.lr c,done:=p.done+1 } c)
 ask:∀ p,P p->p.up=true->P (p.hZ i).1/\∀ l∈(p.hZ i).2,Q l
 prop:∀ p,P p->p.up=true->P p.cl
 rF:∀ p,P p->p.up=true->P p.rF
 run:∀ p q l,P p->p.up=true->p.bt=q::l->¬ p.sy<(p.d.length:Int)->P { p.ln i q with bt:=l }/\∀ m∈p.rz i q,Q m
 rC:∀ p,P p->p.up=true->p.leads=true->P (E6 p i 5)/\∀ l∈Dp p i 5,Q l
 lead:A.ld=true->∀ p,P p->p.up=true->P (p.lead i)
 sub:∀ p d ts,P p->D d->p.up=true->P (p.rN i d ts).1
 kc:A.cr=true->∀ p k,P p->0<=k->p.up=true->P (p.kc k)
 start:A.st=true->∀ p,P p->p.up=false->P p.start
theorem OD(p:Nod)(i:Nat)(q:Pend)(x:List Pend):({ p with bt:=x }:Nod).ln i q={ p.ln i q with bt:=x }:=by
 cases q with
 | began b vs=>unfold Nod.ln;simp only;split<;>rfl
 | prop v =>
  unfold Nod.ln Nod.count;simp only;split
  .rfl
  .split<;>rfl
 | _=>rfl
theorem D6(p:Nod)(i:Nat)(q:Pend):(p.ln i q).bt=p.bt/\(p.ln i q).up=p.up/\(p.ln i q).d=p.d/\(p.ln i q).sy=p.sy:=by
 cases q with
 | began b vs=>unfold Nod.ln;simp only;split<;>exact⟨rfl,rfl,rfl,rfl⟩
 | prop v =>
  unfold Nod.ln Nod.count;simp only;split
  .exact⟨rfl,rfl,rfl,rfl⟩
  .split<;>exact⟨rfl,rfl,rfl,rfl⟩
 | _=>exact⟨rfl,rfl,rfl,rfl⟩
theorem MH(p:Nod)(i:Nat)(q:Pend)(x:List Pend):({ p with bt:=x }:Nod).rz i q=p.rz i q:=by cases q<;>rfl
theorem DN(p:Nod)(c:Cmd):(p.fv c).up=p.up/\(p.fv c).ab=p.ab/\(p.fv c).done=p.done/\(p.fv c).lr=p.lr:=by unfold Nod.fv;split<;>exact⟨rfl,rfl,rfl,rfl⟩
theorem SC(p:Nod)(l:List Cmd):(p.dT l).up=p.up:=by unfold Nod.dT;split<;>rfl
theorem I7(p:Nod)(i:Nat):(p.hZ i).1.up=p.up:=by
 unfold Nod.hZ;split
 .rfl
 .split
  .exact SC _ _
  .rfl
theorem fV(p:Nod)(v:Vt):(p.bN v).1.up=p.up:=by
 unfold Nod.bN;split
 .rfl
 .split
  .rfl
  .split<;>rfl
theorem Ey(p:Nod):p.cl.up=p.up:=by
 unfold Nod.cl;split
 .rfl
 .split
  .rfl
  .split
   .rfl
   .exact fV p _
theorem j2(p:Nod):p.rF.up=p.up:=by unfold Nod.rF;split<;>rfl
section
variable{A:Alw}{i:Nat}{D:List Int->Prop}{Q:Let->Prop}{P:Nod->Prop}
theorem NInv.rG(h:NInv A i D Q P)(l:List Cmd)(p:Nod)(ts:List Tol)(d:P p)(a:p.up=true)(e:p.ab.drop p.done=l):P (rG i l p ts).1/\(Go.Proofs.YtogibonjmbhliaaGreatDoor.rG i l p ts).1.up=true:=by
 induction l generalizing p ts with
 | nil=>exact⟨d,a⟩
 | cons c l ih =>
  rw[Go.Proofs.YtogibonjmbhliaaGreatDoor.rG];split
  .exact⟨d,a⟩
  .rename_i he
   have f:p.ab[p.done]?=some c:=by
    have:=congrArg (·[0]?) e;simpa using this
   have b:=DN { p with lr:=doS p.lr c,done:=p.done+1 } c;refine ih _ _ (h.one p c d a f (mI.1 he)) (b.1.trans a) ?_;rw[b.2.1,b.2.2.1];show p.ab.drop (p.done+1)=l;rw[<- pi,e];rfl
theorem NInv.nn(h:NInv A i D Q P)(l:List Pend)(p:Nod)(ls:List Let)(b:P { p with bt:=l })(c:p.up=true)(k:p.bt=[])(j:¬ p.sy<(p.d.length:Int))(g:∀ m∈ls,Q m):P (nn i l p ls).1/\(∀ m∈(Go.Proofs.YtogibonjmbhliaaGreatDoor.nn i l p ls).2,Q m)/\(Go.Proofs.YtogibonjmbhliaaGreatDoor.nn i l p ls).1.up=true:=by
 induction l generalizing p ls with
 | nil =>
  refine⟨?_,g,c⟩;have:({ p with bt:=[] }:Nod)=p:=by cases p;simp_all
  rw[this]at b;exact b
 | cons q l ih =>
  have a:=D6 p i q;obtain⟨e,f⟩:=h.run { p with bt:=q::l } q l b c rfl j;rw[OD]at e
  rw[MH]at f
  exact ih (p.ln i q) (ls++p.rz i q) e (a.2.1.trans c) (a.1.trans k) (by rw[a.2.2.1,a.2.2.2];exact j) λm n=>(U'.1 n).elim (g m) (f m)
theorem NInv.piece(h:NInv A i D Q P)(p:Nod)(ls:List Let)(ts:List Tol)(x:P p)(y:p.up=true)(w:∀ m∈ls,Q m):P (p.piece i ls ts).1/\∀ m∈(p.piece i ls ts).2.1,Q m:=by
 obtain⟨q,l⟩:=h.rG _ p ts x y rfl;unfold Nod.piece;simp only;obtain⟨s,t⟩:=h.ask _ q l;have n:=(I7 (Go.Proofs.YtogibonjmbhliaaGreatDoor.rG i (p.ab.drop p.done) p ts).1 i).trans l;have c1:=h.prop _ s n;have c:=(Ey ((Go.Proofs.YtogibonjmbhliaaGreatDoor.rG i (p.ab.drop p.done) p ts).1.hZ i).1).trans n;have a:∀ m∈ls++((Go.Proofs.YtogibonjmbhliaaGreatDoor.rG i (p.ab.drop p.done) p ts).1.hZ i).2,Q m:=λm f=>(U'.1 f).elim (w m) (t m);generalize ls++((Go.Proofs.YtogibonjmbhliaaGreatDoor.rG i (p.ab.drop p.done) p ts).1.hZ i).2=k at a ⊢;generalize ((Go.Proofs.YtogibonjmbhliaaGreatDoor.rG i (p.ab.drop p.done) p ts).1.hZ i).1.cl=r at c1 c ⊢;have b:P (r.mv i k).1/\(∀ m∈(r.mv i k).2,Q m)/\(r.mv i k).1.up=true:=by
  unfold Nod.mv;split
  .exact⟨c1,a,c⟩
  .rename_i hn
   have g:=h.rF r c1 c;have j:r.rF.bt=r.bt:=by unfold Nod.rF;split<;>rfl
   refine h.nn r.bt { r.rF with bt:=[] } k (by rw[<- j];exact g) ((j2 r).trans c) rfl ?_ a;show ¬ r.rF.sy<(r.rF.d.length:Int);unfold Nod.rF;split
   .rename_i h1
    have:Dc r.d r.sy=0:=mI.1 λe=>hn ⟨h1,e⟩;have o:AP r.d r.sy:=by
     unfold Dc at this;split at this
     .assumption
     .cases this
    show ¬ I0 r.d r.sy<((Hr r.d r.sy).length:Int);unfold I0 Hr;rw[if_pos o,if_pos o];exact qJ _
   .rename_i h1;exact h1
 unfold Nod.bu;split
 .rename_i hL
  obtain⟨u,v⟩:=h.rC _ b.1 b.2.2 hL;exact⟨u,λm f=>(U'.1 f).elim (b.2.1 m) (v m)⟩
 .exact⟨b.1,b.2.1⟩
end
section
structure GInv(Q:Let->Prop)(P:Nat->Nod->Prop)(M:Meet):Prop where
 ae:∀ i,i<5->P i (M.ae i)
 br:∀ l∈M.br,Q l
variable{A:Alw}{D:Nat->List Int->Prop}{M:Meet}{P:Nat->Nod->Prop}{Q:Let->Prop}{R:List Tol->Prop}{i j n:Nat}{k:Int}{p:Nod}{x:Lac}
theorem GInv.set(h:GInv Q P M){ls:List Let}{ts:List Tol}(c:P i p)(b:∀ l∈ls,Q l):GInv Q P (M.set i p ls ts) :=
 ⟨λj a=>by
  show P j (upN M.ae i p j);unfold upN;split
  .rename_i e;rw[e];exact c
  .exact h.ae j a,b⟩
theorem GInv.ni(b:∀ i,i<5->NInv A i (D i) Q (P i))(c:A.ca=true)(h:GInv Q P M){l:Let}(d:Q l)(a:l.dst<5):GInv Q P (M.ni l):=by
 unfold Meet.ni;split
 .rename_i hu
  exact h.set (ls:=M.br) (ts:=M.eo) ((b _ a).take c _ l (h.ae _ a) d rfl hu) h.br
 .exact h
theorem GInv.comes(b:∀ i,i<5->NInv A i (D i) Q (P i))(c:A.ca=true)(l:List Let)(h:GInv Q P M)(a:∀ m∈l,Q m/\m.dst<5):GInv Q P (l.foldl (λM l=>M.ni l) M):=by
 induction l generalizing M with
 | nil=>exact h
 | cons x l ih=>exact ih (h.ni b c (a x O').1 (a x O').2) λm d=>a m (I' _ d)
structure Alw.Ok(A:Alw)(x:Lac):Prop where
 ca:x.k=4\/x.k=6\/x.k=7->A.ca=true
 ld:x.k=2->A.ld=true
 cr:x.k=8->A.cr=true
 st:x.k=9->A.st=true
theorem GInv.act(g:∀ i,i<5->NInv A i (D i) Q (P i))(h:GInv Q P M)(B:MOk n M)(C:LacOk x)(q:A.Ok x)(F:x.k=1->D x.n.toNat x.d):GInv Q P (M.act x):=by
 have b:∀ {k:Int},x.k=k->Gf k=true->x.n.toNat<5:=λ{k} e E=>by have:=C.n (by rw[e];exact E);omega
 unfold Meet.act;simp only;by_cases r:x.k=1
 .rw[if_pos r];have c:=b r rfl;refine h.set ?_ h.br;unfold Nod.rN;by_cases f:(M.ae x.n.toNat).up=true
  .exact(g _ c).sub _ x.d M.eo (h.ae _ c) (F r) f
  .unfold Nod.rO;rw[if_pos (by simpa using f)];exact h.ae _ c
 .rw[if_neg r];by_cases s:x.k=2
  .rw[if_pos s];have c:=b s rfl;refine h.set ?_ h.br;split
   .rename_i f;exact(g _ c).lead (q.ld s) _ (h.ae _ c) f
   .exact h.ae _ c
  .rw[if_neg s];by_cases u:x.k=3
   .rw[if_pos u];have c:=b u rfl;by_cases f:(M.ae x.n.toNat).up=true
    .have:=(g _ c).piece _ M.br M.eo (h.ae _ c) f h.br;rw[if_pos f,if_pos f,if_pos f];exact h.set this.1 this.2
    .rw[if_neg f,if_neg f,if_neg f];exact h.set (h.ae _ c) h.br
   .rw[if_neg u];by_cases w:x.k=4\/x.k=5\/x.k=6
    .rw[if_pos w];unfold Meet.move;split
     .exact h
     .rename_i l v
      have j:=nm v;have z:GInv Q P (if x.k≠6 then{ M with br:=M.br.eraseIdx (x.a.toNat%M.br.length) }else M):=by
       split
       .exact⟨h.ae,λm j=>h.br m (pJ j)⟩
       .exact h
      simp only;split
      .rename_i h5
       exact z.ni g (q.ca (by omega)) (h.br l j) (B.br l j).dst
      .exact z
    .rw[if_neg w];by_cases y:x.k=7
     .rw[if_pos y];unfold Meet.rE;exact GInv.comes g (q.ca (by omega)) _ ⟨h.ae,λl v=>by cases v⟩ λm j=>⟨h.br m j,(B.br m j).dst⟩
     .rw[if_neg y];by_cases o:x.k=8
      .rw[if_pos o];have c:=b o rfl;refine h.set ?_ h.br;split
       .rename_i f;exact(g _ c).kc (q.cr o) _ x.p (h.ae _ c) (C.p (by rw[o];rfl)).1 f
       .exact h.ae _ c
      .rw[if_neg o];by_cases t:x.k=9
       .rw[if_pos t];have c:=b t rfl;refine h.set ?_ h.br;split
        .exact h.ae _ c
        .rename_i f;exact(g _ c).start (q.st t) _ (h.ae _ c) (by simpa using f)
       .rw[if_neg t];exact h
structure TInv(i:Nat)(D:List Int->Prop)(P:Nod->Prop)(R:List Tol->Prop):Prop where
 one:∀ p c ts,P p->p.up=true->p.ab[p.done]?=some c->doE p.lr c=0->(p.bw c).isSome=true->R ts->R (ts++[⟨i,c.c,c.s,doC p.lr c,doA p.lr c⟩])
 sub:∀ p d ts,P p->D d->p.up=true->opE d (p.done:Int)=0->Ho d (p.done:Int)∈p.ab.take p.done->R ts->R (ts++[⟨i,(Ho d (p.done:Int)).c,(Ho d (p.done:Int)).s,doC p.lr (Ho d (p.done:Int)),doA p.lr (Ho d (p.done:Int))⟩])
theorem TInv.rG{D:List Int->Prop}{P:Nod->Prop}(h:NInv A i D Q P)(t:TInv i D P R)(l:List Cmd)(p:Nod)(ts:List Tol)(g:P p)(d:p.up=true)(f:p.ab.drop p.done=l)(a:R ts):R (rG i l p ts).2:=by
 induction l generalizing p ts with
 | nil=>exact a
 | cons c l ih =>
  rw[Go.Proofs.YtogibonjmbhliaaGreatDoor.rG];split
  .exact a
  .rename_i he
   have e:p.ab[p.done]?=some c:=by
    have:=congrArg (·[0]?) f;simpa using this
   have b:=DN { p with lr:=doS p.lr c,done:=p.done+1 } c;refine ih _ _ (h.one p c g d e (mI.1 he)) (b.1.trans d) ?_ ?_
   .rw[b.2.1,b.2.2.1];show p.ab.drop (p.done+1)=l;rw[<- pi,f];rfl
   .split
    .rename_i ha;exact t.one p c ts g d e (mI.1 he) ha a
    .exact a
theorem Oc(M:Meet)(l:Let):(M.ni l).eo=M.eo:=by unfold Meet.ni;split<;>rfl
theorem Sq(l:List Let)(M:Meet):(l.foldl (λM l=>M.ni l) M).eo=M.eo:=by
 induction l generalizing M with
 | nil=>rfl
 | cons x l ih=>exact(ih _).trans (Oc M x)
theorem Wv(M:Meet)(k:Int)(a:Nat):(M.move k a).eo=M.eo:=by
 unfold Meet.move;split
 .rfl
 .simp only;split
  .rw[Oc];split<;>rfl
  .split<;>rfl
theorem XE(M:Meet)(a:x.k≠1)(b:x.k≠3):(M.act x).eo=M.eo:=by
 unfold Meet.act;simp only;rw[if_neg a];split
 .rfl
 .split
  .exact Wv _ _ _
  .split
   .exact Sq _ _
   .split
    .rfl
    .split<;>rfl
theorem GInv.eo(g:∀ i,i<5->NInv A i (D i) Q (P i))(c:∀ i,i<5->TInv i (D i) (P i) R)(h:GInv Q P M)(a:R M.eo)(e:LacOk x)(f:x.k=1->D x.n.toNat x.d):R (M.act x).eo:=by
 by_cases b:x.k=1
 .have hi:x.n.toNat<5:=by have:=e.n (by rw[b];rfl);omega
  unfold Meet.act;simp only;rw[if_pos b];show R (Nod.rN _ _ _ _).2;unfold Nod.rN Nod.rO;split
  .exact a
  .rename_i hu
   split
   .exact a
   .rename_i he
    split
    .rename_i hm
     exact(c _ hi).sub _ _ _ (h.ae _ hi) (f b) (by simpa using hu) (mI.1 he) hm a
    .exact a
 .by_cases h3:x.k=3
  .have hi:x.n.toNat<5:=by have:=e.n (by rw[h3];rfl);omega
   unfold Meet.act;simp only;rw[if_neg b,if_neg (by omega),if_pos h3];show R (if _ then _ else _);split
   .rename_i hu
    exact TInv.rG (g _ hi) (c _ hi) _ _ _ (h.ae _ hi) hu rfl a
   .exact a
  .rw[XE M b h3];exact a
theorem GInv.dW(c:∀ i,i<5->NInv A i (D i) Q (P i))(g:∀ i,i<5->TInv i (D i) (P i) R)(L:List Lac)(b:MOk n M)(hn:n+L.length<=1000000)(h:GInv Q P M)(e:R M.eo)(f:∀ x∈L,LacOk x/\A.Ok x/\(x.k=1->D x.n.toNat x.d)):GInv Q P (M.dW L)/\R (M.dW L).eo/\MOk (n+L.length) (M.dW L):=by
 induction L generalizing n M with
 | nil=>exact⟨h,e,b⟩
 | cons x L ih =>
  have a:=f x O';rw[nc]at hn
  have:=ih (b.act (by omega) a.1) (by omega) (h.act c b a.1 a.2.1 a.2.2) (h.eo c g e a.1 a.2.2) λy j=>f y (I' _ j);rw[nc,show n+(L.length+1)=n+1+L.length by omega];exact this
theorem TInv.all(i:Nat)(D:List Int->Prop)(P:Nod->Prop):TInv i D P λ_=>True:=⟨λ_ _ _ _ _ _ _ _ _=>trivial,λ_ _ _ _ _ _ _ _ _=>trivial⟩
def Nod.ub(p:Nod):Bool × Nat:=(p.up,p.bad)
theorem Mv(p:Nod)(b:Bal):(p.al b).1.ub=p.ub:=by
 unfold Nod.al;split
 .rfl
 .split
  .rfl
  .split<;>rfl
theorem Vv(p:Nod)(v:Vt):(p.bN v).1.ub=p.ub:=by
 unfold Nod.bN;split
 .rfl
 .split
  .rfl
  .split<;>rfl
theorem LI(p:Nod)(j:Nat)(v:Vt):(p.count j v).ub=p.ub:=by
 unfold Nod.count;split
 .rfl
 .split<;>rfl
theorem O9(p:Nod)(to:Nat)(e:Int):(p.eb to e).ub=p.ub:=by unfold Nod.eb;split<;>rfl
theorem LM(p:Nod)(l:List Cmd):(p.dT l).ub=p.ub:=by unfold Nod.dT;split<;>rfl
theorem PO(p:Nod)(l:Let):(p.take l).ub=p.ub:=by
 unfold Nod.take;split
 .split
  .exact O9 _ _ _
  .exact Mv p l.fa
 .simp only;split<;>rfl
 .rfl
 .split
  .exact O9 _ _ _
  .exact Vv p l.bN
 .exact LI p _ _
 .split<;>rfl
 .simp only;split<;>exact LM p l.ed
 .rfl
theorem fc(p:Nod)(i:Nat)(q:Pend):(p.ln i q).ub=p.ub:=by
 cases q with
 | began b vs=>unfold Nod.ln;simp only;split<;>rfl
 | prop v=>exact LI p i v
 | _=>rfl
theorem Yx(i:Nat)(l:List Pend)(p:Nod)(ls:List Let):(nn i l p ls).1.ub=p.ub:=by
 induction l generalizing p ls with
 | nil=>rfl
 | cons q l ih=>exact(ih _ _).trans (fc p i q)
theorem Xx(p:Nod)(c:Cmd):(p.fv c).ub=p.ub:=by unfold Nod.fv;split<;>rfl
theorem ir(i:Nat)(l:List Cmd)(p:Nod)(ts:List Tol):(rG i l p ts).1.ub=p.ub:=by
 induction l generalizing p ts with
 | nil=>rfl
 | cons c l ih =>
  rw[rG];split
  .rfl
  .exact(ih _ _).trans (Xx _ _)
theorem cP(p:Nod)(i:Nat):(p.hZ i).1.ub=p.ub:=by
 unfold Nod.hZ;split
 .rfl
 .split
  .exact LM _ _
  .rfl
theorem TG(p:Nod):p.cl.ub=p.ub:=by
 unfold Nod.cl;split
 .rfl
 .split
  .rfl
  .split
   .rfl
   .exact Vv p _
theorem bE(p:Nod)(i:Nat)(ls:List Let):(p.mv i ls).1.ub=p.ub:=by
 unfold Nod.mv;split
 .rfl
 .rw[Yx];unfold Nod.rF;split<;>rfl
theorem Xr(p:Nod)(i:Nat)(ls:List Let):(p.bu i ls).1.ub=p.ub:=by unfold Nod.bu;split<;>rfl
theorem ZX(p:Nod)(i:Nat)(ls:List Let)(ts:List Tol):(p.piece i ls ts).1.ub=p.ub:=by
 unfold Nod.piece;simp only;rw[Xr,bE,TG,cP,ir]
theorem UM(p:Nod)(i:Nat):(p.lead i).ub=p.ub:=by
 unfold Nod.lead;simp only;split
 .rfl
 .exact Mv p _
theorem U6(M:Meet)(l:Let)(j:Nat):((M.ni l).ae j).ub=(M.ae j).ub:=by
 unfold Meet.ni;split
 .show(upN M.ae l.dst _ j).ub=_;unfold upN;split
  .rename_i h;rw[h];exact PO _ _
  .rfl
 .rfl
theorem Yi(l:List Let)(M:Meet)(j:Nat):((l.foldl (λM l=>M.ni l) M).ae j).ub=(M.ae j).ub:=by
 induction l generalizing M with
 | nil=>rfl
 | cons x l ih=>exact(ih _).trans (U6 M x j)
theorem eh(M:Meet)(k:Int)(a:Nat)(j:Nat):((M.move k a).ae j).ub=(M.ae j).ub:=by
 unfold Meet.move;split
 .rfl
 .simp only;split
  .rw[U6];split<;>rfl
  .split<;>rfl
theorem Jk(M:Meet)(i:Nat)(p:Nod)(ls:List Let)(ts:List Tol)(j:Nat):(M.set i p ls ts).ae j=if j=i then p else M.ae j:=rfl
theorem gM(M:Meet)(f:x.k≠1)(g:x.k≠8)(h:x.k≠9)(j:Nat):((M.act x).ae j).ub=(M.ae j).ub:=by
 unfold Meet.act;simp only;rw[if_neg f];by_cases a:x.k=2
 .rw[if_pos a,Jk];split
  .rename_i e
   rw[e];split
   .exact UM _ _
   .rfl
  .rfl
 .rw[if_neg a];by_cases b:x.k=3
  .rw[if_pos b,Jk];split
   .rename_i e
    rw[e];split
    .exact ZX _ _ _ _
    .rfl
   .rfl
  .rw[if_neg b];by_cases c:x.k=4\/x.k=5\/x.k=6
   .rw[if_pos c];exact eh _ _ _ _
   .rw[if_neg c];by_cases d:x.k=7
    .rw[if_pos d];exact Yi _ _ _
    .rw[if_neg d,if_neg g,if_neg h]
theorem jz(M:Meet)(h:x.k=1)(j:Nat):((M.act x).ae j).ub=if j=x.n.toNat/\(M.ae j).up=true/\opE x.d ((M.ae j).done:Int)≠0 then((M.ae j).up,(M.ae j).bad+1)else(M.ae j).ub:=by
 unfold Meet.act;simp only;rw[if_pos h,Jk];by_cases f:j=x.n.toNat
 .subst f;rw[if_pos rfl];unfold Nod.rN Nod.rO;by_cases b:(M.ae x.n.toNat).up=false
  .rw[if_pos b,if_neg (by rw[b];simp)]
  .rw[if_neg b];have g:(M.ae x.n.toNat).up=true:=by simpa using b
   by_cases a:opE x.d ((M.ae x.n.toNat).done:Int)≠0
   .rw[if_pos a,if_pos ⟨rfl,g,a⟩];rfl
   .rw[if_neg a,if_neg (c:=_/\_) (λe=>a e.2.2)];split
    .rfl
    .show(Nod.want _ _).ub=_;unfold Nod.want;split<;>rfl
 .rw[if_neg f,if_neg (λe=>f e.1)]
theorem AJ(M:Meet)(L:List Lac)(x:Lac):M.dW (L++[x])=(M.dW L).act x:=by unfold Meet.dW;rw[pC];rfl
theorem V3{L:List Lac}(h:L[i]?=some x):M.dW (L.take (i+1))=(M.dW (L.take i)).act x:=by rw[pB,h];exact AJ M (L.take i) x
theorem I6(L:List Lac)(h:∀ x∈L,LacOk x)(d:L.length<=100000):MOk L.length (Au.dW L):=by
 suffices ∀ i,i<=L.length->MOk i (Au.dW (L.take i))by have a:=this L.length (A' _);rwa [oG]at a
 intro i;induction i with
 | zero=>intro _;exact MOk.zero
 | succ i ih =>
  intro c;have b:L[i]?=some L[i]:=G' (by omega);rw[V3 b];exact(ih (by omega)).act (by omega) (h _ (nC _))
theorem dz(g:Gr)(cr:Bool):LacOk (Ph g cr):=by
 have b:=Bq g.a 5 (by omega);have d:=Bq g.c 20 (by omega);have e:=Bq g.c 90 (by omega);have f:(pkB g).length<=63:=by
  have:(pkP g).length=63:=Mq (ZY g);unfold pkB;split
  .rw[X'];omega
  .omega
 rw[<- DC];unfold Ph acN
 repeat' split
 all_goals simp[dV,Gf,I2,I3];try omega
theorem aN{P:Lac->Prop}(a:P (acN 7 0)){cr:Bool}(b:∀ g,P (Ph g cr))(s:Nat)(l:List Gr):∀ x∈MF cr s l,P x:=by
 induction l generalizing s with
 | nil=>intro x hx;cases hx
 | cons g l ih =>
  intro x hx;rcases mN.1 hx with rfl|hx
  .unfold WV;split
   .exact a
   .exact b g
  .exact ih _ x hx
theorem jr(l:List Gr)(m:Nat)(cr:Bool):∀ x∈scr l m cr,LacOk x:=aN (by rw[<- DC];decide) (λg=>dz g cr) _ _
theorem aO(cr:Bool)(s:Nat)(l:List Gr):(MF cr s l).length=l.length:=by
 induction l generalizing s with
 | nil=>rfl
 | cons g l ih=>rw[MF,nc,ih,nc]
theorem fh(l:List Gr)(m:Nat)(cr:Bool):(scr l m cr).length<=m:=by unfold scr;rw[aO,X'];omega
def Nod.tp(p:Nod):Prop:=AP p.d p.sy
theorem V1{d:List Int}{s:Int}{may:Prop}[Decidable may]{b:List Int}(h:CJ d s may b=0):AP (FY d s may b) (GR d s may b):=by
 obtain⟨a,c,_⟩:=Ke h;unfold FY GR;rw[if_pos h,if_pos h];unfold AP at *;rw[H',Bh];omega
theorem Mu(h:p.tp)(b:Bal):(p.al b).1.tp:=by
 unfold Nod.al;split
 .exact h
 .split
  .exact h
  .split
   .exact h
   .rename_i hw;exact V1 (mI.1 hw)
theorem PT(h:p.tp)(v:Vt):(p.bN v).1.tp:=by
 unfold Nod.bN;split
 .exact h
 .split
  .exact h
  .split
   .exact h
   .rename_i hw;exact V1 (mI.1 hw)
theorem O8(h:p.tp)(to:Nat)(e:Int):(p.eb to e).tp:=by unfold Nod.eb;split<;>exact h
theorem Yj(h:p.tp)(j:Nat)(v:Vt):(p.count j v).tp:=by
 unfold Nod.count;split
 .exact h
 .split<;>exact h
theorem SA(h:p.tp)(l:List Cmd):(p.dT l).tp:=by unfold Nod.dT;split<;>exact h
theorem IC(h:p.tp)(c:0<=k):(p.kc k).tp/\(p.kc k).up=false/\(p.kc k).done=0/\(p.kc k).ab=[]:=by
 have a:Gn p.d p.sy k=0:=by unfold Gn;rw[if_neg (λe=>e h),if_neg (by omega)]
 unfold Nod.kc;rw[if_neg (λe=>e a)];refine⟨?_,rfl,rfl,rfl⟩;show AP (KK p.d p.sy k) (KL p.d p.sy k);unfold KK KL;rw[if_pos a,if_pos a];unfold Nod.tp AP at h;have b:0<=Gp p.d p.sy k/\Gp p.d p.sy k<=(p.d.length:Int):=by unfold Gp;split<;>omega
 unfold AP;rw[X'];omega
theorem GH(h:p.tp):p.start.tp/\p.start.up=true/\p.start.done=0/\p.start.ab=[]:=by
 have b:Dc p.d p.sy=0:=if_pos h;have c:=YY p.d p.d.length;unfold Nod.start;rw[if_neg (λe=>e b)];split
 .refine⟨?_,rfl,rfl,rfl⟩;show AP (JN p.d p.sy) (MB p.d p.sy);unfold JN MB;have a:AP p.d p.sy:=h;rw[if_pos a,if_pos a];unfold Nod.tp AP at h;unfold AP;rw[X'];unfold Eb;split<;>omega
 .exact⟨h,rfl,rfl,rfl⟩
theorem j6(A:Alw)(i:Nat):NInv A i (λ_=>True) (λ_=>True) Nod.tp where
 take:=λ_ p l h _ _ _=>by
  unfold Nod.take;split
  .split
   .exact O8 h _ _
   .exact Mu h l.fa
  .simp only;split<;>exact h
  .exact h
  .split
   .exact O8 h _ _
   .exact PT h l.bN
  .exact Yj h _ _
  .split<;>exact h
  .simp only;split<;>exact SA h l.ed
  .exact h
 one:=λp c h _ _ _=>by unfold Nod.fv;split<;>exact h
 ask:=λp h _=>⟨by
  unfold Nod.hZ;split
  .exact h
  .split
   .unfold Nod.dT;split<;>exact h
   .exact h,λ_ _=>trivial⟩
 prop:=λp h _=>by
  unfold Nod.cl;split
  .exact h
  .split
   .exact h
   .split
    .exact h
    .exact PT h _
 rF:=λp h _=>by
  unfold Nod.rF;split
  .show AP (Hr p.d p.sy) (I0 p.d p.sy);unfold Hr I0;have b:AP p.d p.sy:=h;rw[if_pos b,if_pos b];unfold Nod.tp AP at h;unfold AP;omega
  .exact h
 run:=λp q l h _ _ _=>⟨by
  have a:=D6 p i q;show AP (p.ln i q).d (p.ln i q).sy;rw[a.2.2.1,a.2.2.2];exact h,λ_ _=>trivial⟩
 rC:=λp h _ _=>⟨h,λ_ _=>trivial⟩
 lead:=λ_ p h _=>by
  unfold Nod.lead;simp only;split
  .exact h
  .exact Mu h _
 sub:=λp d e h _ _=>by
  unfold Nod.rN Nod.rO;split
  .exact h
  .split
   .exact h
   .split
    .exact h
    .show(Nod.want _ _).tp;unfold Nod.want;split<;>exact h
 kc:=λ_ p k h a _=>(IC h a).1
 start:=λ_ p h _=>(GH h).1
def jO:Alw:=⟨true,true,true,true⟩
theorem cL(x:Lac):jO.Ok x:=⟨λ_=>rfl,λ_=>rfl,λ_=>rfl,λ_=>rfl⟩
theorem cI(L:List Lac)(h:∀ x∈L,LacOk x)(c:L.length<=100000)(a:i<5):((Au.dW L).ae i).tp :=
 (GInv.dW (R:=λ_=>True) (D:=λ_ _=>True) (Q:=λ_=>True) (P:=λ_=>Nod.tp) (λi _=>j6 jO i) (λi _=>TInv.all i _ _) L MOk.zero (by omega) ⟨λ_ _=>(by show AP [] 0;decide),λ_ _=>trivial⟩ trivial λx b=>⟨h x b,cL x,λ_=>trivial⟩).1.ae i a
theorem V2(M:Meet)(b:i<5)(a:(M.ae i).tp)(j:Nat):((M.act (acN 9 (i:Int))).ae j).up=if j=i then true else(M.ae j).up:=by
 show(upN M.ae (i:Int).toNat _ j).up=_;unfold upN;rw[nI];split
 .split
  .assumption
  .exact(GH a).2.1
 .rfl
theorem gN(M:Meet)(c:x.k≠8)(a:(M.ae j).up=true):((M.act x).ae j).up=true:=by
 by_cases b:x.k=1
 .have:=congrArg Prod.fst (jz M b j);split at this
  .exact this.trans a
  .exact this.trans a
 .by_cases h9:x.k=9
  .unfold Meet.act;simp only;rw[if_neg b,if_neg (by omega),if_neg (by omega),if_neg (by omega),if_neg (by omega),if_neg (by omega),if_pos h9,Jk];split
   .rename_i e;rw[<- e,if_pos a];exact a
   .exact a
  .exact(congrArg Prod.fst (gM M b c h9 j)).trans a
theorem cJ(L:List Lac)(a:∀ x∈L,x.k≠8)(M:Meet)(b:(M.ae j).up=true):((M.dW L).ae j).up=true:=by
 induction L generalizing M with
 | nil=>exact b
 | cons x L ih=>exact ih (λy c=>a y (I' _ c)) _ (gN M (a x O') b)
theorem AG(M:Meet)(L K:List Lac):M.dW (L++K)=(M.dW L).dW K:=pC
theorem ET{n:Int}(h:(k=2\/k=3\/k=9)/\0<=n/\n<=4):LacOk (acN k n):=by
 rw[<- DC];rcases h with⟨rfl|rfl|rfl,h1,h2⟩<;>simp[dV,acN,Gf,I2,I3]<;>omega
theorem Me{P:Lac->Prop}(h:∀ n:Nat,n<5->P (acN k (n:Int)))(c:j<=5):∀ x∈AC k j,P x:=by
 intro x b;obtain⟨n,a,rfl⟩:=mW.1 b;exact h n (by have:=ou.1 a;omega)
theorem LO{P:Lac->Prop}(b:∀ n:Nat,n<5->P (acN 3 (n:Int)))(c:P (acN 7 0))(m:Nat):∀ x∈Al m,P x:=by
 induction m with
 | zero=>intro x a;cases a
 | succ m ih =>
  intro x a;rcases U'.1 a with h|h
  .exact ih x h
  .rcases U'.1 h with h|h
   .exact Me b (A' _) x h
   .rw[E'.1 h];exact c
theorem ME{P:Lac->Prop}(c:∀ n:Nat,n<5->P (acN 9 (n:Int)))(a:∀ n:Nat,n<5->P (acN 3 (n:Int)))(b:P (acN 7 0))(m:Nat):∀ x∈Dn m,P x:=by
 intro x d;rcases U'.1 d with h|h
 .exact Me c (A' _) x h
 .exact LO a b m x h
theorem PD(m:Nat):∀ x∈Dn m,LacOk x:=ME (λn a=>ET ⟨.inr (.inr rfl),by omega,by omega⟩) (λn a=>ET ⟨.inr (.inl rfl),by omega,by omega⟩) (by rw[<- DC];decide) m
theorem jn(L:List Lac)(h:∀ x∈L,LacOk x)(m:Nat)(o:L.length+6*m+5<=100000)(b:j<5):((Au.dW (L++Dn m)).ae j).up=true:=by
 unfold Dn;rw[<- mH,AG];refine cJ _ (LO (λ_ _=>by show(3:Int)≠8;decide) (by decide) m) _ ?_;have d:∀ k,k<=5->j<k->((Au.dW (L++AC 9 k)).ae j).up=true:=by
  intro k;induction k with
  | zero=>intro _ h;omega
  | succ k ih =>
   intro l c;have a:∀ x∈L++AC 9 k,LacOk x:=λx g=>(U'.1 g).elim (h x) λe=>Me (λn p=>ET ⟨.inr (.inr rfl),by omega,by omega⟩) (by omega) x e;have f:=cI (L++AC 9 k) a (by rw[H',Zf];omega) (i:=k) (by omega);rw[BX,<- mH,AJ,V2 _ (by omega) f];split
   .rfl
   .exact ih (by omega) (by omega)
 exact d 5 (A' _) b
theorem R0{P:Lac->Prop}(c:∀ n:Nat,n<5->P (acN 9 (n:Int)))(a:∀ n:Nat,n<5->P (acN 3 (n:Int)))(b:P (acN 7 0)){i:Int}(e:P (acN 2 i))(l:List Lac):∀ x∈Hq l i,P x:=by
 have d:∀ m,∀ x∈Cy m i,P x:=λm x hx=>by
  rcases U'.1 hx with hx|hx
  .rcases U'.1 hx with hx|hx
   .exact ME c a b 0 x hx
   .rw[E'.1 hx];exact e
  .exact ME c a b m x hx
 intro x hx;exact(U'.1 hx).elim (d _ x) (d _ x)
theorem aX(l:List Lac)(i:Int):(Hq l i).length<=1222+240*l.length:=by
 have b:(l.filter hvy).length<=l.length:=py _ _;have a:∀ m,(Dn m).length=5+6*m:=λm=>by unfold Dn;rw[H',Ij];rfl
 unfold Hq Cy Fp;simp only[H',a,nL];omega
structure Wh where
 d:Nat->List Int->Prop
 ld:Prop
 cr:Prop
 dr:Prop
 tk:Prop
 st:Prop
def Wh.may(D:Wh)(x:Lac):Prop:=(x.k=1->D.d x.n.toNat x.d)/\(x.k=2->D.ld)/\(x.k=8->D.cr)/\(x.k=4\/x.k=5\/x.k=6\/x.k=7->D.dr/\D.tk)/\(x.k=9->D.st)
inductive Stp (D:Wh):Nat->Meet->Meet->Prop
 | take (M:Meet) (l:Let) (hl:l∈M.br) (hd:l.src<5/\l.dst<5) (hu:(M.ae l.dst).up=true) (ht:D.tk):Stp D 0 M (M.set l.dst ((M.ae l.dst).take l) M.br M.eo)
 | br (M:Meet) (ls:List Let) (h:∀ l∈ls,l∈M.br) (hd:D.dr):Stp D 0 M { M with br:=ls }
 | one (M:Meet) (i:Nat) (c:Cmd) (hi:i<5) (hu:(M.ae i).up=true) (hc:(M.ae i).ab[(M.ae i).done]?=some c) (he:doE (M.ae i).lr c=0) :
   Stp D 0 M (M.set i (Nod.fv { M.ae i with lr:=doS (M.ae i).lr c,done:=(M.ae i).done+1 } c) M.br (if((M.ae i).bw c).isSome=true then M.eo++[⟨i,c.c,c.s,doC (M.ae i).lr c,doA (M.ae i).lr c⟩]else M.eo))
 | ask (M:Meet) (i:Nat) (hi:i<5) (hu:(M.ae i).up=true):Stp D 0 M (M.set i ((M.ae i).hZ i).1 (M.br++((M.ae i).hZ i).2) M.eo)
 | prop (M:Meet) (i:Nat) (hi:i<5) (hu:(M.ae i).up=true):Stp D 1 M (M.set i (M.ae i).cl M.br M.eo)
 | rF (M:Meet) (i:Nat) (hi:i<5) (hu:(M.ae i).up=true) (h:(M.ae i).sy<((M.ae i).d.length:Int)) (hT:AP (M.ae i).d (M.ae i).sy):Stp D 0 M (M.set i { M.ae i with sy:=((M.ae i).d.length:Int) } M.br M.eo)
 | run (M:Meet) (i:Nat) (hi:i<5) (hu:(M.ae i).up=true) (q:Pend) (l:List Pend) (hp:(M.ae i).bt=q::l) (hs:¬ (M.ae i).sy<((M.ae i).d.length:Int)):Stp D 0 M (M.set i { (M.ae i).ln i q with bt:=l } (M.br++(M.ae i).rz i q) M.eo)
 | rC (M:Meet) (i:Nat) (hi:i<5) (hu:(M.ae i).up=true) (hL:(M.ae i).leads=true):Stp D 0 M (M.set i (E6 (M.ae i) i 5) (M.br++Dp (M.ae i) i 5) M.eo)
 | lead (M:Meet) (i:Nat) (hi:i<5) (hu:(M.ae i).up=true) (hL:D.ld):Stp D 0 M (M.set i ((M.ae i).lead i) M.br M.eo)
 | sub (M:Meet) (i:Nat) (d:List Int) (hi:i<5) (hu:(M.ae i).up=true) (hD:D.d i d):Stp D 0 M (M.set i ((M.ae i).rN i d M.eo).1 M.br ((M.ae i).rN i d M.eo).2)
 | kc (M:Meet) (i:Nat) (k:Int) (hi:i<5) (hu:(M.ae i).up=true) (hk:0<=k) (hC:D.cr):Stp D 0 M (M.set i ((M.ae i).kc k) M.br M.eo)
 | start (M:Meet) (i:Nat) (hi:i<5) (hu:(M.ae i).up=false) (hs:D.st):Stp D 0 M (M.set i (M.ae i).start M.br M.eo)
inductive Sts (D:Wh):Nat->Meet->Meet->Prop
 | nil (n:Nat) (M:Meet):Sts D n M M
 | snoc {n c m:Nat} {M N K:Meet} (h:Sts D n M N) (s:Stp D c N K) (hm:n+c<=m):Sts D m M K
end
section
variable{D:Wh}
section
variable{K M N:Meet}{i m n:Nat}{ls:List Let}{ts:List Tol}{α:Type}
theorem Sts.mono(h:Sts D n M N)(hn:n<=m):Sts D m M N:=by
 cases h with
 | nil=>exact .nil m M
 | snoc h s hm=>exact .snoc h s (by omega)
theorem Sts.trans(h:Sts D n M N)(k:Sts D m N K):Sts D (n+m) M K:=by
 induction k with
 | nil=>exact h.mono (by omega)
 | snoc _ s hm ih=>exact(ih h).snoc s (by omega)
theorem Sts.s0(h:Sts D n M N)(s:Stp D 0 N K):Sts D n M K:=h.snoc s (A' _)
theorem Stp.s(h:Stp D 0 M N):Sts D n M N:=(Sts.nil n M).s0 h
theorem Sts.inv{I:Meet->Prop}(b:∀ c M N,Stp D c M N->I M->I N)(h:Sts D n M N)(a:I M):I N:=by
 induction h with
 | nil=>exact a
 | snoc _ s _ ih=>exact b _ _ _ s (ih a)
theorem MZ(f:Nat->α)(i:Nat):upN f i (f i)=f:=by funext j;unfold upN;split<;>simp_all
theorem Vp(f:Nat->α)(i:Nat)(x y:α):upN (upN f i x) i y=upN f i y:=by funext j;unfold upN;split<;>rfl
theorem Cj(M:Meet)(i:Nat)(p q:Nod)(ls a:List Let)(ts b:List Tol):(M.set i p ls ts).set i q a b=M.set i q a b:=by unfold Meet.set;simp only[Vp]
theorem B1(M:Meet)(i:Nat)(p:Nod)(ls:List Let)(ts:List Tol):(M.set i p ls ts).ae i=p:=De M.ae i p
theorem Ee(M:Meet)(l:Let):(M.ni l).br=M.br:=by unfold Meet.ni;split<;>rfl
theorem Od(M:Meet)(l:Let)(ls:List Let):({ M with br:=ls }:Meet).ni l={ M.ni l with br:=ls }:=by
 unfold Meet.ni;show(if(M.ae l.dst).up=true then _ else _)=_;split<;>rfl
theorem If(l:List Let)(M:Meet)(ls:List Let):l.foldl (λM l=>M.ni l) ({ M with br:=ls }:Meet)={ l.foldl (λM l=>M.ni l) M with br:=ls }:=by
 induction l generalizing M with
 | nil=>rfl
 | cons x l ih=>rw[rm,Od,ih];rfl
theorem Sts.ni(c:D.tk)(h:Sts D n M N){l:Let}(b:l∈N.br)(a:l.src<5/\l.dst<5):Sts D n M (N.ni l):=by
 unfold Meet.ni;split
 .rename_i hu;exact h.s0 (.take N l b a hu c)
 .exact h
theorem Sts.comes(c:D.tk)(l:List Let)(h:Sts D n M N)(a:∀ m∈l,m∈N.br/\m.src<5/\m.dst<5):Sts D n M (l.foldl (λM l=>M.ni l) N):=by
 induction l generalizing N with
 | nil=>exact h
 | cons x l ih=>exact ih (h.ni c (a x O').1 (a x O').2) λm b=>by rw[Ee];exact a m (I' _ b)
theorem Sts.rG(g:i<5)(l:List Cmd)(p:Nod)(h:Sts D n M (M.set i p ls ts))(a:p.up=true)(d:p.ab.drop p.done=l) :
  Sts D n M (M.set i (rG i l p ts).1 ls (Go.Proofs.YtogibonjmbhliaaGreatDoor.rG i l p ts).2)/\(Go.Proofs.YtogibonjmbhliaaGreatDoor.rG i l p ts).1.up=true:=by
 induction l generalizing p ts with
 | nil=>exact⟨h,a⟩
 | cons c l ih =>
  rw[Go.Proofs.YtogibonjmbhliaaGreatDoor.rG];split
  .exact⟨h,a⟩
  .rename_i he
   have f:p.ab[p.done]?=some c:=by have:=congrArg (·[0]?) d;simpa using this
   have b:=DN { p with lr:=doS p.lr c,done:=p.done+1 } c;have e:=B1 M i p ls ts;have s:=Stp.one (D:=D) (M.set i p ls ts) i c g (by rw[e];exact a) (by rw[e];exact f) (by rw[e];exact mI.1 he);rw[e,Cj]at s
   refine ih _ (h.s0 s) (b.1.trans a) ?_;rw[b.2.1,b.2.2.1];show p.ab.drop (p.done+1)=l;rw[<- pi,d];rfl
theorem Sts.nn(g:i<5)(l:List Pend)(p:Nod)(h:Sts D n M (M.set i { p with bt:=l } ls ts))(b:p.up=true)(f:p.bt=[])(c:¬ p.sy<(p.d.length:Int)) :
  Sts D n M (M.set i (nn i l p ls).1 (Go.Proofs.YtogibonjmbhliaaGreatDoor.nn i l p ls).2 ts)/\(Go.Proofs.YtogibonjmbhliaaGreatDoor.nn i l p ls).1.up=true:=by
 induction l generalizing p ls with
 | nil =>
  have:({ p with bt:=[] }:Nod)=p:=by cases p;simp_all
  rw[this]at h;exact⟨h,b⟩
 | cons q l ih =>
  have a:=D6 p i q;have e:=B1 M i { p with bt:=q::l } ls ts;have s:=Stp.run (D:=D) (M.set i { p with bt:=q::l } ls ts) i g (by rw[e];exact b) q l (by rw[e]) (by rw[e];exact c);rw[e,Cj,OD,MH]at s
  exact ih (p.ln i q) (h.s0 s) (a.2.1.trans b) (a.1.trans f) (by rw[a.2.2.1,a.2.2.2];exact c)
theorem Sts.piece(c:i<5)(M:Meet)(x:(M.ae i).up=true):Sts D 1 M (M.set i ((M.ae i).piece i M.br M.eo).1 ((M.ae i).piece i M.br M.eo).2.1 ((M.ae i).piece i M.br M.eo).2.2):=by
 have w:Sts D 0 M (M.set i (M.ae i) M.br M.eo):=by rw[show M.set i (M.ae i) M.br M.eo=M by unfold Meet.set;rw[MZ]];exact .nil 0 M
 obtain⟨q,l⟩:=Sts.rG c _ (M.ae i) w x rfl;unfold Nod.piece;simp only;generalize Go.Proofs.YtogibonjmbhliaaGreatDoor.rG i ((M.ae i).ab.drop (M.ae i).done) (M.ae i) M.eo=a at q l ⊢;have e:=B1 M i a.1 M.br a.2;have s:=Stp.ask (D:=D) (M.set i a.1 M.br a.2) i c (by rw[e];exact l);rw[e,Cj]at s
 have t:=q.s0 s;have n:=(I7 a.1 i).trans l;clear e s q;generalize (a.1.hZ i)=b at t n ⊢;have e:=B1 M i b.1 (M.br++b.2) a.2;have s:=Stp.prop (D:=D) (M.set i b.1 (M.br++b.2) a.2) i c (by rw[e];exact n);rw[e,Cj]at s
 have g:=t.snoc s (m:=1) (by omega);have h:=(Ey b.1).trans n;clear e s t;change Sts D 1 M (M.set i b.1.cl (M.br++b.2) a.2)at g;generalize b.1.cl=r at g h ⊢;generalize M.br++b.2=k at g ⊢;have j:Sts D 1 M (M.set i (r.mv i k).1 (r.mv i k).2 a.2)/\(r.mv i k).1.up=true:=by
  unfold Nod.mv;split
  .exact⟨g,h⟩
  .rename_i hn
   have e:=B1 M i r k a.2;unfold Nod.rF;split
   .rename_i h1
    have o:Dc r.d r.sy=0:=mI.1 λe=>hn ⟨h1,e⟩;have p:AP r.d r.sy:=by
     unfold Dc at o;split at o
     .assumption
     .cases o
    have s:=Stp.rF (D:=D) (M.set i r k a.2) i c (by rw[e];exact h) (by rw[e];exact h1) (by rw[e];exact p);rw[e,Cj]at s
    have u:Hr r.d r.sy=r.d:=if_pos p;have v:I0 r.d r.sy=(r.d.length:Int):=if_pos p;rw[u,v];exact Sts.nn c r.bt { r with sy:=(r.d.length:Int),bt:=[] } (g.s0 s) h rfl (qJ _)
   .rename_i h1
    exact Sts.nn c r.bt { r with bt:=[] } g h rfl h1
 generalize r.mv i k=f at j ⊢;unfold Nod.bu;split
 .rename_i hL
  have e:=B1 M i f.1 f.2 a.2;have s:=Stp.rC (D:=D) (M.set i f.1 f.2 a.2) i c (by rw[e];exact j.2) (by rw[e];exact hL);rw[e,Cj]at s
  exact j.1.s0 s
 .exact j.1
theorem EM(M:Meet)(i:Nat):M.set i (M.ae i) M.br M.eo=M:=by unfold Meet.set;rw[MZ]
theorem OU(g:MOk n M){x:Lac}(v:LacOk x)(j:D.may x):Sts D 1 M (M.act x):=by
 obtain⟨j,y,z,i,A⟩:=j;have b:∀ {k:Int},x.k=k->Gf k=true->x.n.toNat<5:=λ{k} e w=>by have:=v.n (by rw[e];exact w);omega
 unfold Meet.act;simp only;split
 .rename_i h1
  by_cases c:(M.ae x.n.toNat).up=true
  .exact(Stp.sub M _ x.d (b h1 rfl) c (j h1)).s
  .unfold Nod.rN Nod.rO;rw[if_pos (by simpa using c)];rw[EM];exact .nil 1 M
 .split
  .rename_i hk
   split
   .rename_i c;exact(Stp.lead M _ (b hk rfl) c (y hk)).s
   .rw[EM];exact .nil 1 M
  .split
   .rename_i h3
    by_cases c:(M.ae x.n.toNat).up=true
    .rw[if_pos c,if_pos c,if_pos c];exact Sts.piece (b h3 rfl) M c
    .rw[if_neg c,if_neg c,if_neg c,EM];exact .nil 1 M
   .split
    .rename_i hk4
     obtain⟨o,r⟩:=i (by omega);unfold Meet.move;split
     .exact .nil 1 M
     .rename_i l q
      have f:=nm q;have B:=And.intro (g.br l f).src (g.br l f).dst;have u:∀ N:Meet,Sts D 1 M N->N.br=M.br->Sts D 1 M (if x.k≠6 then{ N with br:=M.br.eraseIdx (x.a.toNat%M.br.length) }else N):=λN h e=>by
       split
       .exact h.s0 (.br N _ (λm f=>by rw[e];exact pJ f) o)
       .exact h
      simp only;split
      .have:=u (M.ni l) ((Sts.nil 1 M).ni r f B) (Ee M l);by_cases t:x.k≠6
       .rw[if_pos t]at this ⊢;rw[Od];exact this
       .rw[if_neg t]at this ⊢;exact this
      .exact u M (.nil 1 M) rfl
    .split
     .rename_i hk7
      unfold Meet.rE;rw[If];exact(Sts.comes (i (by omega)).2 M.br (.nil 1 M) λm f=>⟨f,(g.br m f).src,(g.br m f).dst⟩).s0 (.br _ [] (λl q=>by cases q) (i (by omega)).1)
     .split
      .rename_i hk
       split
       .rename_i c;exact(Stp.kc M _ x.p (b hk rfl) c (v.p (by rw[hk];rfl)).1 (z hk)).s
       .rw[EM];exact .nil 1 M
      .split
       .rename_i h9
        split
        .rw[EM];exact .nil 1 M
        .rename_i c;exact(Stp.start M _ (b h9 rfl) (by simpa using c) (A h9)).s
       .exact .nil 1 M
theorem Ff(L:List Lac)(b:MOk n M)(hn:n+L.length<=1000000)(c:∀ x∈L,LacOk x/\D.may x):Sts D L.length M (M.dW L):=by
 induction L generalizing n M with
 | nil=>exact .nil _ M
 | cons x L ih =>
  have a:=c x O';rw[nc]at hn
  rw[nc,q'];exact(OU b a.1 a.2).trans (ih (b.act (by omega) a.1) (by omega) λy d=>c y (I' _ d))
end
end
section
def whT:Wh:=⟨λ_ _=>True,True,True,True,True,True⟩
theorem Jv(x:Lac):whT.may x:=⟨λ_=>trivial,λ_=>trivial,λ_=>trivial,λ_=>⟨trivial,trivial⟩,λ_=>trivial⟩
inductive Rk where
 | pr (b:Bal)
 | vt (v:Vt)
def Rk.body:Rk->List Int
 | .pr b=>Bv b
 | .vt v=>Bj v
def Rk.ap(a:Acc):Rk->Acc
 | .pr b=>⟨b,a.vs⟩
 | .vt v=>⟨v.b,Bo a.vs v⟩
def Rk.err(a:Acc):Rk->Int
 | .pr b=>Cl a b
 | .vt v=>AX a v
def Rk.ok(a:Acc):Rk->Prop
 | .pr b=>Cl a b=0/\a.p≠b
 | .vt v=>AX a v=0/\v∉a.vs
variable{a:Acc}{b:Bal}{c:Cmd}{dr qs rs:List Rk}{i j n s:Nat}{l:List Cmd}{p:Nod}{r:Rk}{v:Vt}{vs:List Vt}
theorem Rk.ok.err(h:Rk.ok a r):Rk.err a r=0:=by cases r<;>exact h.1
def BD(rs:List Rk):Acc:=rs.foldl Rk.ap a0
theorem BY(rs:List Rk)(r:Rk):BD (rs++[r])=Rk.ap (BD rs) r:=by unfold BD;rw[pC];rfl
def AO(rs:List Rk):Prop:=∀ i r,rs[i]?=some r->Rk.ok (BD (rs.take i)) r
theorem AO.nil:AO []:=λi r h=>by simp at h
theorem AO.left(h:AO (rs++qs)):AO rs:=λi r e=>by
 have a:=(V'.1 e).1;have:=h i r (by rw[mQ a];exact e)
 rwa [nt (by omega)]at this
theorem AO.pre(h:AO qs)(a:rs <+: qs):AO rs:=by obtain⟨x,rfl⟩:=a;exact h.left
theorem AO.snoc(h:AO rs)(a:Rk.ok (BD rs) r):AO (rs++[r]):=λi q e=>by
 rcases nG i rs.length with hi|hi
 .rw[mQ hi]at e
  rw[nt (by omega)];exact h i q e
 .have:=(V'.1 e).1;rw[H',nL]at this
  obtain rfl:i=rs.length:=by omega
  rw[mS (A' _)]at e
  simp at e;subst e;rw[nt (A' _),oG];exact a
theorem AO.last(h:AO (rs++[r])):Rk.ok (BD rs) r:=by
 have:=h rs.length r (by simp)
 rwa [nt (A' _),oG]at this
theorem AO.ind{P:List Rk->Prop}(a:P [])(b:∀ rs r,AO rs->Rk.ok (BD rs) r->P rs->P (rs++[r]))(h:AO rs):P rs:=by
 have:∀ k,k<=rs.length->P (rs.take k):=by
  intro k;induction k with
  | zero=>intro _;exact a
  | succ k ih =>
   intro c;have e:rs.take (k+1)=rs.take k++[rs[k]]:=by rw[mU (by omega)]
   rw[e];exact b _ _ (h.pre (pf _ _)) (h k _ (G' (by omega))) (ih (by omega))
 have:=this rs.length (A' _)
 rwa [oG]at this
theorem Ag.ua(h:Ag a)(c:Ab b)(i:¬ b.lt a.p):Ag ⟨b,a.vs⟩:=by
 refine⟨.inl c,λv d=>⟨(h.2.1 v d).1,λg=>?_⟩,h.2.2⟩;have e:=(h.2.1 v d).1.2.1;have f:=(h.2.1 v d).2;rw[EZ c.pr e.pr]at g
 rw[EZ h.1 e.pr]at f
 rw[EZ c.pr h.1]at i
 omega
theorem Ag.te(h:Ag a)(d:Ah v)(e:¬ v.b.lt a.p):Ag ⟨v.b,Bo a.vs v⟩:=by
 refine⟨.inl d.2.1,λu c=>?_,JF v h.2.2⟩;rcases(BH h.2.2).1 c with rfl|⟨c,_⟩
 .refine⟨d,λg=>?_⟩;change u.b.lt u.b at g;unfold Bal.lt at g;omega
 .exact(h.ua d.2.1 e).2.1 u c
theorem Li:Ag a0:=⟨.inr ⟨rfl,rfl⟩,λv a=>(P' a).elim,trivial⟩
theorem Rk.may(h:Ag a)(c:Rk.err a r=0):Ag (Rk.ap a r):=by
 cases r with
 | pr b=>have:=Co c;exact h.ua this.2.1 this.2.2
 | vt v=>have:=Ar c;exact h.te this.2.1 this.2.2
theorem AO.acc(h:AO rs):Ag (BD rs):=h.ind (P:=λrs=>Ag (BD rs)) Li λrs r _ a b=>by rw[BY];exact Rk.may b a.err
theorem Bp{a:Bal}(c:Aq a)(d:Aq b)(h:¬ a.lt b):b.key<=a.key:=by rw[EZ c d]at h;omega
theorem Rk.sB(h:Ag a)(c:Rk.err a r=0):a.p.key<=(Rk.ap a r).p.key:=by
 cases r with
 | pr b=>have:=Co c;exact Bp this.2.1.pr h.1 this.2.2
 | vt v=>have:=Ar c;exact Bp this.2.1.2.1.pr h.1 this.2.2
theorem Jh(h:AO rs):∀ v∈(BD rs).vs,Rk.vt v∈rs:=h.ind (P:=λrs=>∀ v∈(BD rs).vs,Rk.vt v∈rs) (λv a=>by cases a) λrs r d e c v a=>by
 rw[BY]at a
 cases r with
 | pr b=>exact mJ _ (c v a)
 | vt u =>
  rcases(BH d.acc.2.2).1 a with rfl|⟨a,_⟩
  .exact mG _ O'
  .exact mJ _ (c v a)
theorem Ag.le(h:Ag a)(c:v∈a.vs):v.b.key<=a.p.key:=Bp h.1 (h.2.1 v c).1.2.1.pr (h.2.1 v c).2
theorem Md(h:Ag a)(f:AX a v=0){u:Vt}(c:u∈a.vs):∃ x∈Bo a.vs v,x.bn=u.bn/\u.b.key<=x.b.key:=by
 have d:=Ar f;by_cases e:u.bn=v.bn
 .exact⟨v,(BH h.2.2).2 (.inl rfl),e.symm,mX (h.le c) (Bp d.2.1.2.1.pr h.1 d.2.2)⟩
 .exact⟨u,(BH h.2.2).2 (.inr ⟨c,e⟩),rfl,mE _⟩
theorem Rv(h:AO rs):∀ v,Rk.vt v∈rs->v.b.key<=(BD rs).p.key/\∃ u∈(BD rs).vs,u.bn=v.bn/\v.b.key<=u.b.key:=h.ind (P:=λrs=>∀ v,Rk.vt v∈rs->v.b.key<=(BD rs).p.key/\∃ u∈(BD rs).vs,u.bn=v.bn/\v.b.key<=u.b.key) (λv hv=>by cases hv) λrs r c a e v hv=>by
 have d:=Rk.sB c.acc a.err;rw[BY];rcases U'.1 hv with hv|hv
 .obtain⟨h1,u,h2,h3,h4⟩:=e v hv;refine⟨mX h1 d,?_⟩;cases r with
  | pr b=>exact⟨u,h2,h3,h4⟩
  | vt w =>
   obtain⟨x,f,g,i⟩:=Md c.acc a.err h2;exact⟨x,f,g.trans h3,mX h4 i⟩
 .rw[<- E'.1 hv]at a ⊢
  exact⟨mE _,v,(BH c.acc.2.2).2 (.inl rfl),rfl,mE _⟩
theorem D5(h:AO (rs++qs)):(BD rs).p.key<=(BD (rs++qs)).p.key/\∀ v,Rk.vt v∈qs->(BD rs).p.key<=v.b.key:=by
 have:∀ k,k<=qs.length->(BD rs).p.key<=(BD (rs++qs.take k)).p.key/\∀ v,Rk.vt v∈qs.take k->(BD rs).p.key<=v.b.key:=by
  intro k;induction k with
  | zero=>intro _;rw[n7,na];exact⟨mE _,λv hv=>by cases hv⟩
  | succ k ih =>
   intro i;obtain⟨c,g⟩:=ih (by omega);have e:qs.take (k+1)=qs.take k++[qs[k]]:=by rw[mU (by omega)]
   have a:AO (rs++qs.take k++[qs[k]]):=h.pre (by rw[mH,<- e];exact List.prefix_append_right_inj rs |>.2 (pf _ _));have d:=Rk.sB a.left.acc a.last.err;rw[<- BY]at d
   rw[e,<- mH];refine⟨mX c d,λv hv=>?_⟩;rcases U'.1 hv with hv|hv
   .exact g v hv
   .have hl:=a.last;rw[<- E'.1 hv]at hl
    have f:=Ar hl.err;exact mX c (Bp f.2.1.2.1.pr a.left.acc.1 f.2.2)
 have:=this qs.length (A' _)
 rwa [oG]at this
def fl(rs:List Rk):List Int:=AD (rs.map Rk.body)
theorem dy(rs:List Rk)(r:Rk):fl (rs++[r])=fl rs++AM r.body:=by unfold fl;rw[nh,CF];simp[AD]
theorem SI(rs a:List Rk):fl (rs++a)=fl rs++fl a:=by unfold fl;rw[nh,CF]
theorem YC(h:rs <+: qs):(fl rs).length<=(fl qs).length:=by obtain⟨x,rfl⟩:=h;rw[SI,H'];omega
theorem ka(h:rs <+: qs)(a:(fl qs).length<=(fl rs).length):rs=qs:=by
 obtain⟨x,rfl⟩:=h;rw[SI,H']at a
 have:=Q5 (x.map Rk.body);rw[mV]at this
 unfold fl at a;obtain rfl:x=[]:=Z' (by omega);rw[na]
theorem AO.ug(h:AO rs):Chn ((List.range (rs.length+1)).map λj=>BD (rs.take j)) (rs.map Rk.body):=by
 refine⟨by simp,by simp[BD],λi b a c g f l=>?_⟩;simp only[nB,ol]at g f l;obtain⟨r,e,rfl⟩:=g;obtain⟨j,n,rfl⟩:=f;obtain⟨k,o,rfl⟩:=l;have m:=(V'.1 e).1;rw[oI (by omega)]at n o
 cases n;cases o;have d:=(h i r e).err;have p:rs[i]=r:=by rw[G' m]at e;exact nA e
 rw[mU m,BY,p];generalize BD (rs.take i)=a at d ⊢;cases r with
 | pr b=>show DJ a (Bv b)=_;rw[Yz a (Co d).2.1];exact if_pos d
 | vt v=>show DJ a (Bj v)=_;rw[Y0 a (Ar d).2.1];exact if_pos d
structure TpU(p:Nod)(dr rs:List Rk):Prop where
 ok:AO rs
 pre:dr <+: rs
 d:p.d=fl rs
 sy:p.sy=((fl dr).length:Int)
 vo:p.vo=BD rs
 len:p.d.length<=100000
structure TpD(p:Nod)(dr:List Rk):Prop where
 ok:AO dr
 sQ:Eb p.d=((fl dr).length,BD dr)
 tk:p.d.take (fl dr).length=fl dr
 sy:p.sy=(p.d.length:Int)
 len:p.d.length<=100000
theorem TpU.si(h:TpU p dr rs):AP p.d p.sy:=by
 have:=YC h.pre;have:=h.d;refine⟨h.len,by rw[h.sy];omega,?_⟩;rw[h.sy,h.d];omega
theorem TpU.zero:TpU CZ [] []:=⟨AO.nil,mL _,rfl,rfl,rfl,by decide⟩
theorem TpU.all(h:TpU p dr rs)(a:¬ p.sy<(p.d.length:Int)):dr=rs:=ka h.pre (by rw[h.sy,h.d]at a;omega)
theorem TpU.kc(h:TpU p dr rs){k:Int}(u:0<=k):∃ dr',dr <+: dr'/\dr' <+: rs/\TpD (p.kc k) dr':=by
 have o:=h.si;have b:Gn p.d p.sy k=0:=by unfold Gn;rw[if_neg (λe=>e o),if_neg (by omega)]
 have f:=o;unfold AP at f;have t:p.sy<=Gp p.d p.sy k/\Gp p.d p.sy k<=(p.d.length:Int):=by unfold Gp;split<;>omega
 obtain⟨j,a,r,l,m,n,h5⟩:=h.ok.ug.tQ (Gp p.d p.sy k).toNat;rw[mV]at r h5
 rw[nB,oI (by omega)]at l
 obtain rfl:BD (rs.take j)=a:=by simpa using l
 have i:AD ((rs.map Rk.body).take j)=fl (rs.take j):=by unfold fl;rw[qo]
 rw[i]at m n
 have c:(p.kc k).d=(fl rs).take (Gp p.d p.sy k).toNat:=by
  unfold Nod.kc;rw[if_neg (λe=>e b)];show KK p.d p.sy k=_;unfold KK;rw[if_pos b,h.d]
 have s:(p.kc k).sy=Gp p.d p.sy k:=by
  unfold Nod.kc;rw[if_neg (λe=>e b)];show KL p.d p.sy k=_;unfold KL;rw[if_pos b]
 have q:((fl rs).take (Gp p.d p.sy k).toNat).length=(Gp p.d p.sy k).toNat:=by rw[X',<- h.d];omega
 refine⟨rs.take j,?_,pf _ _,h.ok.pre (pf _ _),by rw[c];exact m,?_,?_,?_⟩
 .obtain⟨x,hx⟩:=h.pre;rcases nG j dr.length with g|g
  .exfalso;rcases h5 with h5|h5
   .rw[<- hx,H']at h5;omega
   .have hp:rs.take (j+1) <+: dr:=by rw[<- hx,nt (by omega)];exact pf _ _
    have:=YC hp;rw[show AD ((rs.map Rk.body).take (j+1))=fl (rs.take (j+1))by unfold fl;rw[qo]]at h5
    have:=h.sy;omega
  .rw[<- hx,List.take_append];rw[mR g];exact nZ _ _
 .rw[c,pj,n8 n];have e:fl rs=fl (rs.take j)++fl (rs.drop j):=by rw[<- SI,nU]
  rw[show(fl rs).take (fl (rs.take j)).length=(fl (rs.take j)++fl (rs.drop j)).take (fl (rs.take j)).length by rw[<- e],nt (A' _),oG]
 .rw[s,c,q];omega
 .rw[c,q];have:=h.len;omega
theorem TpD.start(h:TpD p dr):TpU p.start dr dr:=by
 have c:AP p.d p.sy:=⟨h.len,by rw[h.sy];omega,by rw[h.sy];omega⟩;have g:Dc p.d p.sy=0:=if_pos c;have i:NI p.d p.sy=((fl dr).length:Int):=by unfold NI;rw[if_pos c,h.sQ]
 have j:G8 p.d p.sy=BD dr:=by unfold G8;rw[if_pos c,h.sQ]
 have a:=Vb p.d;rw[h.sQ]at a
 have a:(fl dr).length<=p.d.length:=a;have f:=h.len;unfold Nod.start;rw[if_neg (λe=>e g),i,j];split
 .rename_i hlt
  have b:JN p.d p.sy=fl dr:=by unfold JN;rw[if_pos c,h.sQ];exact h.tk
  have k:MB p.d p.sy=((fl dr).length:Int):=by unfold MB;rw[if_pos c,h.sQ];exact if_pos (by rw[h.sy];exact hlt)
  exact⟨h.ok,mL _,b,k,rfl,by show(JN p.d p.sy).length<=_;rw[b];omega⟩
 .rename_i hge
  have b:p.d=fl dr:=by have:=h.tk;rwa [mR (by omega)]at this
  exact⟨h.ok,mL _,b,by show p.sy=_;rw[h.sy,<- b],rfl,f⟩
theorem TpU.rF(h:TpU p dr rs):TpU { p with sy:=(p.d.length:Int) } rs rs:=⟨h.ok,mL _,h.d,by show(p.d.length:Int)=_;rw[h.d],h.vo,h.len⟩
def Nod.tv(p:Nod)(d:List Int)(s:Int)(a:Acc):Nod:={ p with d:=d,sy:=s,vo:=a }
theorem TpU.write(h:TpU p dr rs)(a:Rk.ok p.vo r)(b:p.d.length+(r.body.length+5)<=100000):TpU (p.tv (p.d++AM r.body) p.sy (Rk.ap p.vo r)) dr (rs++[r]):=by
 rw[h.vo]at a
 refine⟨h.ok.snoc a,h.pre.trans (nZ _ _),?_,h.sy,?_,?_⟩
 .show p.d++_=_;rw[h.d,dy]
 .show Rk.ap p.vo r=_;rw[h.vo,BY]
 .show(p.d++AM r.body).length<=_;rw[H',Bh];omega
theorem TpU.al(h:TpU p dr rs)(b:Bal):((p.al b).2.2≠0/\(p.al b).1=p) \/
  ((p.al b).2.2=0/\Cl p.vo b=0/\(p.al b).2.1=p.vo.vs/\∃ rs',rs <+: rs'/\TpU (p.al b).1 dr rs'/\(∀ v,Rk.vt v∈rs'↔Rk.vt v∈rs)/\(BD rs').p=b/\(BD rs').vs=p.vo.vs/\∃ d a,(p.al b).1=p.tv d p.sy a):=by
 unfold Nod.al;split
 .rename_i c;exact .inl ⟨c,rfl⟩
 .rename_i c
  have c:=mI.1 c;split
  .rename_i h2
   refine .inr ⟨rfl,c,rfl,rs,mL _,?_,λ_=>Iff.rfl,?_,?_,p.d,p.vo,?_⟩
   .rw[h2];exact h
   .rw[<- h.vo];exact h2.symm
   .rw[<- h.vo]
   .rw[h2];rfl
  .rename_i h2
   split
   .rename_i f;exact .inl ⟨f,rfl⟩
   .rename_i f
    have f:=mI.1 f;have j:=Ke f;have g:FY p.d p.sy (Ab b) (Bv b)=p.d++AM (Bv b):=if_pos f;have i:GR p.d p.sy (Ab b) (Bv b)=p.sy:=if_pos f;rw[g,i];refine .inr ⟨rfl,c,rfl,rs++[Rk.pr b],nZ _ _,(h.write (r:=.pr b) ⟨c,λe=>h2 e.symm⟩ j.2.1),λv=>by simp,?_,?_,_,_,rfl⟩
    .rw[BY];rfl
    .rw[BY,h.vo];rfl
theorem Wd{l:List Vt}(h:BR l)(hv:v∈l):Bo l v=l:=by
 induction l with
 | nil=>cases hv
 | cons u us ih =>
  rw[Bo];rcases mN.1 hv with rfl|hv
  .rw[if_neg (qJ _),if_pos rfl]
  .rw[if_pos (h.1 v hv),ih h.2 hv]
theorem TpU.bN(h:TpU p dr rs)(v:Vt):((p.bN v).2≠0/\(p.bN v).1=p) \/
  ((p.bN v).2=0/\AX p.vo v=0/\∃ rs',rs <+: rs'/\TpU (p.bN v).1 dr rs'/\(∀ u,Rk.vt u∈rs'↔u=v\/Rk.vt u∈rs)/\(BD rs').p=v.b/\∃ d a,(p.bN v).1=p.tv d p.sy a):=by
 unfold Nod.bN;split
 .rename_i c;exact .inl ⟨c,rfl⟩
 .rename_i c
  have c:=mI.1 c;have i:=Ar c;split
  .rename_i h2
   have m:=i.1.le h2;have l:=Bp i.2.1.2.1.pr i.1.1 i.2.2;have e:v.b=p.vo.p:=DB i.2.1.2.1.pr i.1.1 (by omega);have j:(⟨v.b,Bo p.vo.vs v⟩:Acc)=p.vo:=by rw[Wd i.1.2.2 h2,e]
   rw[j];refine .inr ⟨rfl,c,rs,mL _,h,λu=>⟨.inr,λhu=>?_⟩,by rw[<- h.vo];exact e.symm,p.d,p.vo,rfl⟩;rcases hu with rfl|hu
   .exact Jh h.ok u (by rw[<- h.vo];exact h2)
   .exact hu
  .rename_i h2
   split
   .rename_i f;exact .inl ⟨f,rfl⟩
   .rename_i f
    have f:=mI.1 f;have n:=Ke f;have k:FY p.d p.sy (Ah v) (Bj v)=p.d++AM (Bj v):=if_pos f;have j:GR p.d p.sy (Ah v) (Bj v)=p.sy:=if_pos f;rw[k,j];refine .inr ⟨rfl,c,rs++[Rk.vt v],nZ _ _,h.write (r:=.vt v) ⟨c,h2⟩ n.2.1,λu=>?_,by rw[BY];rfl,_,_,rfl⟩;rw[U',E'];exact⟨λg=>g.elim .inr λe=>.inl (Rk.vt.inj e),λg=>g.elim (λe=>.inr (by rw[e])) .inl⟩
structure Gs where
 dr:Nat->List Rk
 W:Bal->Nat->Cmd->Prop
def Gs.held(σ:Gs)(n:Nat)(v:Vt):Prop:=Rk.vt v∈σ.dr n
def Gs.H(σ:Gs)(n s:Nat)(b:Int)(c:Cmd):Prop:=∃ v,σ.held n v/\v.bn=(s:Int)/\v.b.key=b/\v.w=c
def Gs.P(σ:Gs)(n:Nat):Int:=(BD (σ.dr n)).p.key
def Gs.rU(σ:Gs)(v:Vt):Prop:=Ah v/\σ.W v.b v.bn.toNat v.w
def Gs.sL(σ:Gs)(s:Nat)(c:Cmd):Prop:=∃ b,Ch σ.H s b c
structure GsI(σ:Gs):Prop where
 ok:∀ n,AO (σ.dr n)
 sE:PInv σ.H σ.P
 w1:∀ b s c c',σ.W b s c->σ.W b s c'->c=c'
 w2:∀ b s c,σ.W b s c->Ab b/\Ej σ.H σ.P s b.key c
 w3:∀ b s c,σ.W b s c->b.key<=σ.P b.n.toNat
 hv:∀ n v,σ.held n v->σ.rU v
structure Gs.le(σ τ:Gs):Prop where
 pre:∀ n,σ.dr n <+: τ.dr n
 W:∀ b s c,σ.W b s c->τ.W b s c
theorem Gs.le.refl(σ:Gs):σ.le σ:=⟨λ_=>mL _,λ_ _ _ h=>h⟩
variable{σ τ:Gs}
theorem Gs.le.trans{υ:Gs}(h:σ.le τ)(k:τ.le υ):σ.le υ:=⟨λn=>(h.pre n).trans (k.pre n),λb s c g=>k.W b s c (h.W b s c g)⟩
theorem Gs.le.held(h:σ.le τ)(g:σ.held n v):τ.held n v:=(h.pre n).subset g
theorem Gs.le.H(h:σ.le τ){b:Int}(g:σ.H n s b c):τ.H n s b c:=by obtain⟨v,a,d⟩:=g;exact⟨v,h.held a,d⟩
theorem Gs.le.rU(h:σ.le τ)(g:σ.rU v):τ.rU v:=⟨g.1,h.W _ _ _ g.2⟩
theorem Gs.le.sL(h:σ.le τ)(g:σ.sL s c):τ.sL s c:=by obtain⟨b,Q,a,d⟩:=g;exact⟨b,Q,a,λq f e=>h.H (d q f e)⟩
theorem Gs.le.P(h:σ.le τ)(a:GsI τ)(n:Nat):σ.P n<=τ.P n:=by
 obtain⟨x,b⟩:=h.pre n;have:=a.ok n;unfold Gs.P;rw[<- b]at this ⊢
 exact(D5 this).1
structure Gs.sP(i:Nat)(σ τ:Gs):Prop where
 le:σ.le τ
 new:∀ b s c,τ.W b s c->σ.W b s c\/b.n=(i:Int)
 uj:∀ n,n≠i->τ.dr n=σ.dr n
theorem Gs.sP.refl(i:Nat)(σ:Gs):Gs.sP i σ σ:=⟨.refl σ,λ_ _ _ h=>.inl h,λ_ _=>rfl⟩
def Gs.ext(σ:Gs)(i:Nat)(qs:List Rk):Gs:=⟨upN σ.dr i (σ.dr i++qs),σ.W⟩
theorem Ii(σ:Gs)(i:Nat)(a:List Rk):(σ.ext i a).dr i=σ.dr i++a:=De _ _ _
theorem LN(σ:Gs)(a:List Rk)(h:n≠i):(σ.ext i a).dr n=σ.dr n:=Du _ _ h
theorem Pg(σ:Gs)(i:Nat)(a:List Rk):Gs.sP i σ (σ.ext i a):=⟨⟨λn=>by
 by_cases e:n=i
 .subst e;rw[Ii];exact nZ _ _
 .rw[LN σ a e];exact mL _,λ_ _ _ h=>h⟩,λ_ _ _ h=>.inl h,λn h=>LN σ a h⟩
theorem Q3(σ:Gs)(i:Nat)(r:Rk):(σ.ext i [r]).P=upP σ.P i (Rk.ap (BD (σ.dr i)) r).p.key:=by
 funext n
 unfold Gs.P upP;split
 .rename_i e;subst e;rw[Ii,BY]
 .rename_i e;rw[LN σ _ e]
theorem IJ:(σ.ext i qs).held n v↔σ.held n v\/(n=i/\Rk.vt v∈qs):=by
 unfold Gs.held;by_cases e:n=i
 .subst e;rw[Ii,U'];simp
 .rw[LN σ qs e];simp[e]
theorem GsI.tS(h:GsI σ)(D:Rk.ok (BD (σ.dr i)) r)(F:∀ v,r=.vt v->σ.rU v):GsI (σ.ext i [r]):=by
 have l:=(h.ok i).acc;have t:=Rk.sB l D.err;have f:=(Pg σ i [r]).le;have q:∀ n,AO ((σ.ext i [r]).dr n):=λn=>by
  by_cases e:n=i
  .subst e;rw[Ii];exact(h.ok n).snoc D
  .rw[LN σ _ e];exact h.ok n
 have d:σ.P i<=(Rk.ap (BD (σ.dr i)) r).p.key:=t;have B:∀ n,σ.P n<=(σ.ext i [r]).P n:=λn=>by rw[Q3];exact Na d n
 have o:∀ n v,(σ.ext i [r]).held n v->(σ.ext i [r]).rU v:=λn v g=>by
  rcases IJ.1 g with g|⟨_,g⟩
  .exact f.rU (h.hv n v g)
  .exact f.rU (F v (E'.1 g).symm)
 cases r with
 | pr b =>
  have j:(σ.ext i [.pr b]).H=σ.H:=by
   funext n s a c
   exact propext ⟨λ⟨v,g,k⟩=>⟨v,(IJ.1 g).resolve_right λe=>by simp at e,k⟩,λ⟨v,g,k⟩=>⟨v,f.held g,k⟩⟩
  refine⟨q,?_,h.w1,λa s c g=>⟨(h.w2 a s c g).1,?_⟩,λa s c g=>mX (h.w3 a s c g) (B _),o⟩
  .rw[j,Q3];exact h.sE.al d
  .rw[j,Q3];exact(h.w2 a s c g).2.up d
 | vt v =>
  obtain⟨z,C⟩:=F v rfl;have I:v.bn=(v.bn.toNat:Int):=by have:=z.1;omega
  have j:(σ.ext i [.vt v]).H=gP σ.H i v.bn.toNat v.b.key v.w:=by
   funext n s a c
   refine propext ⟨λ⟨u,g,G,x,y⟩=>?_,λg=>?_⟩
   .rcases IJ.1 g with g|⟨g1,g2⟩
    .exact .inl ⟨u,g,G,x,y⟩
    .have e:u=v:=Rk.vt.inj (E'.1 g2);subst e;exact .inr ⟨g1,by omega,x.symm,y.symm⟩
   .rcases g with⟨u,g,k⟩|⟨rfl,rfl,rfl,rfl⟩
    .exact⟨u,f.held g,k⟩
    .exact⟨v,IJ.2 (.inr ⟨rfl,E'.2 rfl⟩),I,rfl,rfl⟩
  refine⟨q,?_,h.w1,λa s c g=>⟨(h.w2 a s c g).1,?_⟩,λa s c g=>mX (h.w3 a s c g) (B _),o⟩
  .rw[j,Q3];refine h.sE.bN d (by have:=z.2.1.pos;show 0<v.b.key;omega) (h.w2 _ _ _ C).2 λm J ⟨u,g,G,x,y⟩=>?_;have E:=h.hv m u g;have e:u.b=v.b:=DB E.1.2.1.pr z.2.1.pr x;have A:=E.2;rw[e,show u.bn.toNat=v.bn.toNat by omega,y]at A
   exact h.w1 _ _ _ _ A C
  .rw[j,Q3];exact(h.w2 a s c g).2.bN d
theorem dp(σ:Gs)(i:Nat)(r:Rk)(a:List Rk):(σ.ext i [r]).ext i a=σ.ext i (r::a):=by unfold Gs.ext;simp only[De,Vp,mH,List.singleton_append]
theorem GsI.ext(h:GsI σ)(a:List Rk)(b:AO (σ.dr i++a))(c:∀ v,Rk.vt v∈a->σ.rU v):GsI (σ.ext i a):=by
 induction a generalizing σ with
 | nil =>
  have:σ.ext i []=σ:=by unfold Gs.ext;rw[na,MZ]
  rw[this];exact h
 | cons r a ih =>
  rw[<- dp];have d:AO (σ.dr i++[r]):=b.pre ⟨a,by simp⟩;refine ih (h.tS d.last λv e=>c v (by rw[e];exact O')) ?_ λv g=>(Pg σ i [r]).le.rU (c v (I' _ g));rw[Ii,mH];exact b
structure PrmOk(dr:List Rk)(b:Bal)(vs:List Vt):Prop where
 le:b.key<=(BD dr).p.key
 sub:∀ v∈vs,Rk.vt v∈dr/\v.b.key<=b.key
 tZ:∀ v,Rk.vt v∈dr->v.b.key<b.key->∃ u∈vs,u.bn=v.bn/\v.b.key<=u.b.key
 acc:Ag ⟨b,vs⟩
theorem PrmOk.mono(h:PrmOk dr b vs)(e:dr <+: rs)(d:AO rs):PrmOk rs b vs:=by
 obtain⟨x,rfl⟩:=e;have c:=D5 d;refine⟨mX h.le c.1,λv hv=>⟨mJ _ (h.sub v hv).1,(h.sub v hv).2⟩,λv hv a=>?_,h.acc⟩;rcases U'.1 hv with hv|hv
 .exact h.tZ v hv a
 .have:=c.2 v hv;have:=h.le;omega
theorem PrmOk.of(c:AO rs)(d:(BD rs).p=b)(a:(BD rs).vs=vs):PrmOk rs b vs:=by
 subst d a;exact⟨mE _,λv a=>⟨Jh c v a,c.acc.le a⟩,λv a _=>(Rv c v a).2,c.acc⟩
structure RdI(σ:Gs)(i:Nat)(r:Rnd):Prop where
 fa:r.fa=Bb\/(Ab r.fa/\r.fa.n=(i:Int))
 next:∀ s c,σ.W r.fa s c->s<r.next
 own:∀ j,j<5->r.oh j=true->r.fa.key<=σ.P i
 aj:∀ j,j<5->∀ v∈(r.aj j).vs,σ.held j v/\v.b.key<=r.fa.key/\(r.oh j=false->v.b=r.fa)
 prom:∀ j,j<5->r.oh j=true->r.fa.key<=σ.P j/\∀ v,σ.held j v->v.b.key<r.fa.key->∃ u∈(r.aj j).vs,u.bn=v.bn/\v.b.key<=u.b.key
 acc:∀ j,j<5->Ag (r.aj j)/\(r.oh j=true->(r.aj j).p=r.fa)
def PnI(σ:Gs)(rs:List Rk)(r:Rnd):Pend->Prop
 | .began b vs=>PrmOk rs b vs/\b.key<=r.fa.key
 | .prom _ b vs=>PrmOk rs b vs/\b.key<=σ.P b.n.toNat
 | .voted _ v=>Rk.vt v∈rs
 | .prop v=>Rk.vt v∈rs
 | .eb _ b=>Aq b/\b.key<=(BD rs).p.key
 | _=>True
structure UpI(σ:Gs)(i:Nat)(p:Nod)(rs:List Rk):Prop where
 tp:TpU p (σ.dr i) rs
 rU:∀ v,Rk.vt v∈rs->σ.rU v
 rd:RdI σ i p.an
 bp:p.an.fa.key<=p.vo.p.key
 pe:∀ q∈p.bt,PnI σ rs p.an q
def AgL(σ:Gs)(l:List Cmd)(k:Nat):Prop:=∀ s c,l[s]?=some c->σ.sL (k+s) c
structure NdI(σ:Gs)(i:Nat)(p:Nod):Prop where
 up:p.up=true->∃ rs,UpI σ i p rs
 dn:p.up=false->TpD p (σ.dr i)
 ag:AgL σ p.ab 0
structure LtI(σ:Gs)(l:Let):Prop where
 k0:l.kind=0->l.fa.key<=σ.P l.fa.n.toNat
 k1:l.kind=1->PrmOk (σ.dr l.src) l.fa l.lp/\l.fa.key<=σ.P l.fa.n.toNat/\AgL σ l.ed 0
 k2:l.kind=2->Aq l.fa/\l.fa.key<=σ.P l.src
 k3:l.kind=3->σ.rU l.bN
 k4:l.kind=4->σ.held l.src l.bN
 k5:l.kind=5->AgL σ l.ed l.bn
structure AgI(σ:Gs)(M:Meet):Prop where
 gs:GsI σ
 nd:∀ i,i<5->NdI σ i (M.ae i)
 lt:∀ l∈M.br,LtI σ l
theorem AgL.mono(h:σ.le τ){k:Nat}(g:AgL σ l k):AgL τ l k:=λs c e=>h.sL (g s c e)
theorem RdI.mono(h:σ.le τ)(f:GsI τ){r:Rnd}(g:RdI σ i r)(hn:∀ s c,τ.W r.fa s c->s<r.next):RdI τ i r:=by
 refine⟨g.fa,hn,λj a d=>mX (g.own j a d) (h.P f i),λj a v e=>⟨h.held (g.aj j a v e).1,(g.aj j a v e).2⟩,λj a d=>⟨mX (g.prom j a d).1 (h.P f j),λv e k=>?_⟩,g.acc⟩;obtain⟨x,m⟩:=h.pre j;have l:=f.ok j;have hv':Rk.vt v∈τ.dr j:=e;rw[<- m]at l hv'
 rcases U'.1 hv' with hv'|hv'
 .exact(g.prom j a d).2 v hv' k
 .have h1:=(D5 l).2 v hv';have n:=(g.prom j a d).1;have o:σ.P j<=v.b.key:=h1;omega
theorem PnI.mono(h:σ.le τ)(e:GsI τ){a:List Rk}(c:rs <+: a)(d:AO a){r r':Rnd}(f:r.fa.key<=r'.fa.key){q:Pend}(g:PnI σ rs r q):PnI τ a r' q:=by
 cases q with
 | began b vs=>exact⟨g.1.mono c d,mX g.2 f⟩
 | prom to b vs=>exact⟨g.1.mono c d,mX g.2 (h.P e _)⟩
 | voted to v=>exact c.subset g
 | prop v=>exact c.subset g
 | eb to b=>obtain⟨x,rfl⟩:=c;exact⟨g.1,mX g.2 (D5 d).1⟩
 | _=>trivial
theorem NdI.mono(h:Gs.sP i σ τ)(a:GsI τ)(n:GsI σ)(d:j≠i)(g:NdI σ j p):NdI τ j p:=by
 have e:=h.uj j d;refine⟨λl=>?_,λb=>by rw[e];exact g.dn b,g.ag.mono h.le⟩;obtain⟨o,k⟩:=g.up l;refine⟨o,by rw[e];exact k.tp,λv m=>h.le.rU (k.rU v m),k.rd.mono h.le a λs c hW=>?_,k.bp,λq f=>(k.pe q f).mono h.le a (mL _) k.tp.ok (mE _)⟩;rcases h.new _ _ _ hW with hW|hW
 .exact k.rd.next s c hW
 .rcases k.rd.fa with hb|⟨_,hb⟩
  .have:=(a.w2 _ _ _ ‹_›).1;rw[hb]at this
   exact absurd this (by decide)
  .rw[hb]at hW;omega
theorem LtI.mono(h:σ.le τ)(a:GsI τ){l:Let}(g:LtI σ l):LtI τ l :=
 ⟨λe=>mX (g.k0 e) (h.P a _),λe=>⟨(g.k1 e).1.mono (h.pre _) (a.ok _),mX (g.k1 e).2.1 (h.P a _),(g.k1 e).2.2.mono h⟩,λe=>⟨(g.k2 e).1,mX (g.k2 e).2 (h.P a _)⟩,λe=>h.rU (g.k3 e),λe=>h.held (g.k4 e),λe=>(g.k5 e).mono h⟩
theorem AgI.set{M:Meet}(h:AgI σ M)(b:Gs.sP i σ τ)(a:GsI τ)(g:NdI τ i p){ls:List Let}(d:∀ l∈ls,l∈M.br\/LtI τ l)(ts:List Tol):AgI τ (M.set i p ls ts) :=
 ⟨a,λj c=>by
  show NdI τ j (upN M.ae i p j);unfold upN;split
  .rename_i e;rw[e];exact g
  .rename_i e;exact(h.nd j c).mono b a h.gs e,λl f=>(d l f).elim (λk=>(h.lt l k).mono b.le a) id⟩
theorem Uq{r:Rnd}(h:∀ j,j<5->∀ v∈(r.aj j).vs,σ.held j v)(a:CY r.gC (s:Int)=0):σ.sL s (CQ r.gC (s:Int)):=by
 have k:CQ r.gC (s:Int)=((Hi (Dx r.gC (s:Int)) r.gC.length).map (·.w)).getD ⟨0,0,0,0,0⟩:=if_pos a;unfold CY at a;split at a
 .cases a
 .split at a
  .cases a
  .rename_i d
   have d:=mI.1 d;split at a
   .rename_i hO
    obtain⟨v,g⟩:=nS.1 hO;rw[k,g];have m:=List.find?_some g;have i:5<2*BQ (Dx r.gC (s:Int)) v:=ng m;have e:Dx r.gC (s:Int)=Ae (r.aj 0).vs (s:Int)++(Ae (r.aj 1).vs (s:Int)++(Ae (r.aj 2).vs (s:Int)++(Ae (r.aj 3).vs (s:Int)++Ae (r.aj 4).vs (s:Int)))):=by
     unfold Dx Rnd.gC Ae;simp[List.filter_append]
    rw[e,C1,C1,C1,C1]at i
    have c:∀ j,j<5->BR (r.aj j).vs:=λj l=>(d (r.aj j) (by unfold Rnd.gC;rcases rk l with rfl|rfl|rfl|rfl|rfl<;>simp)).2.2;have o:=IV (c 0 (by omega)) (s:Int) v;have p:=IV (c 1 (by omega)) (s:Int) v;have t:=IV (c 2 (by omega)) (s:Int) v;have u:=IV (c 3 (by omega)) (s:Int) v;have x:=IV (c 4 (by omega)) (s:Int) v;refine⟨v.b.key,λq=>decide (v∈(r.aj q).vs/\v.bn=(s:Int)),?_,λq n f=>?_⟩
    .show 3<=(decide (v∈(r.aj 0).vs/\v.bn=(s:Int))).toNat+(decide (v∈(r.aj 1).vs/\v.bn=(s:Int))).toNat+(decide (v∈(r.aj 2).vs/\v.bn=(s:Int))).toNat+(decide (v∈(r.aj 3).vs/\v.bn=(s:Int))).toNat+(decide (v∈(r.aj 4).vs/\v.bn=(s:Int))).toNat;omega
    .obtain⟨h1,h2⟩:=ng f;exact⟨v,h q n v h1,h2,rfl,rfl⟩
   .cases a
theorem AgL.snoc(h:AgL σ l 0)(a:σ.sL l.length c):AgL σ (l++[c]) 0:=λs d e=>by
 rcases nG s l.length with g|g
 .rw[mQ g]at e;exact h s d e
 .have:=(V'.1 e).1;rw[H',nL]at this
  obtain rfl:s=l.length:=by omega
  rw[mS (A' _)]at e
  simp at e;subst e;rw[nD];exact a
theorem UP{r:Rnd}(h:∀ j,j<5->∀ v∈(r.aj j).vs,σ.held j v)(k:Nat)(a:AgL σ l 0):AgL σ (FE k r l) 0:=by
 induction k generalizing l with
 | zero=>exact a
 | succ k ih =>
  rw[FE];split
  .rename_i he;exact ih (a.snoc (Uq h he))
  .exact a
theorem QI{ed:List Cmd}{bn:Nat}(a:AgL σ l 0)(b:AgL σ ed bn)(d:bn<=l.length):AgL σ (l++ed.drop (l.length-bn)) 0:=λs c e=>by
 rcases nG s l.length with g|g
 .rw[mQ g]at e;exact a s c e
 .rw[mS g,nJ]at e
  have:=b _ c e
  rwa [show bn+(l.length-bn+(s-l.length))=0+s by omega]at this
theorem Wb(a:Acc)(l:List Vt):∀ v∈(Dh a l).vs,v∈a.vs\/v∈l:=by
 induction l generalizing a with
 | nil=>exact λv b=>.inl b
 | cons u l ih =>
  intro v b;rw[Dh]at b
  rcases ih _ v b with h|h
  .by_cases he:AX a u=0
   .rw[if_pos he]at h
    have h:v∈Bu a u:=h;rw[(DA he).2]at h
    rcases(BH (Ar he).1.2.2).1 h with rfl|⟨h,_⟩
    .exact .inr O'
    .exact .inl h
   .rw[if_neg he]at h;exact .inl h
  .exact .inr (I' _ h)
theorem Wa(a:Acc)(l:List Vt):∀ u∈a.vs,∃ x∈(Dh a l).vs,x.bn=u.bn/\u.b.key<=x.b.key:=by
 induction l generalizing a with
 | nil=>exact λu d=>⟨u,d,rfl,mE _⟩
 | cons w l ih =>
  intro u d;rw[Dh];by_cases c:AX a w=0
  .rw[if_pos c];obtain⟨x,e,f,g⟩:=Md (Ar c).1 c d;obtain⟨y,h,i,j⟩:=ih ⟨BN a w,Bu a w⟩ x (by show x∈Bu a w;rw[(DA c).2];exact e);exact⟨y,h,i.trans f,mX g j⟩
  .rw[if_neg c];exact ih a u d
theorem VZ(a:Acc)(l:List Vt)(c:Ag a)(g:a.p=b)(h:∀ v∈l,v.b.key<=b.key):Ag (Dh a l)/\(Dh a l).p=b:=by
 induction l generalizing a with
 | nil=>exact⟨c,g⟩
 | cons u l ih =>
  rw[Dh];by_cases d:AX a u=0
  .rw[if_pos d];have f:=Ar d;have e:u.b=b:=by
    have k:=Bp f.2.1.2.1.pr c.1 f.2.2;have m:=h u O';rw[g]at k
    exact DB f.2.1.2.1.pr (g▸c.1) (by omega)
   have j:(⟨BN a u,Bu a u⟩:Acc)=⟨u.b,Bo a.vs u⟩:=by rw[(DA d).1,(DA d).2]
   rw[j];exact ih _ (c.te f.2.1 f.2.2) e λv i=>h v (I' _ i)
  .rw[if_neg d];exact ih a c g λv i=>h v (I' _ i)
theorem RdI.rK{r:Rnd}(h:RdI σ i r)(f:PrmOk (σ.dr j) r.fa vs)(s:r.fa.key<=σ.P i):RdI σ i (r.rK j vs):=by
 refine⟨h.fa,h.next,λ_ _ _=>s,λk c v a=>?_,λk c n=>?_,λk c=>?_⟩
 rotate_right
 .show Ag (upN r.aj j (Dh ⟨r.fa,vs⟩ (r.aj j).vs) k)/\(upN r.oh j true k=true->(upN r.aj j (Dh ⟨r.fa,vs⟩ (r.aj j).vs) k).p=r.fa);unfold upN;split
  .rename_i e;subst e
   have:=VZ (b:=r.fa) ⟨r.fa,vs⟩ (r.aj k).vs f.acc rfl λv a=>(h.aj k c v a).2.1;exact⟨this.1,λ_=>this.2⟩
  .exact h.acc k c
 .have a:v∈(upN r.aj j (Dh ⟨r.fa,vs⟩ (r.aj j).vs) k).vs:=a;by_cases e:k=j
  .subst e;rw[De]at a
   rcases Wb _ _ v a with g|g
   .exact⟨(f.sub v g).1,(f.sub v g).2,λe=>by rw[show(r.rK k vs).oh k=true from De _ _ _]at e;cases e⟩
   .have:=h.aj k c v g;exact⟨this.1,this.2.1,λe=>by rw[show(r.rK k vs).oh k=true from De _ _ _]at e;cases e⟩
  .rw[Du _ _ e]at a
   have:=h.aj k c v a;exact⟨this.1,this.2.1,λo=>this.2.2 (by rwa [show(r.rK j vs).oh k=r.oh k from Du _ _ e]at o)⟩
 .by_cases e:k=j
  .subst e;refine⟨f.le,λv a d=>?_⟩;obtain⟨u,l,m,q⟩:=f.tZ v a d;obtain⟨x,t,w,y⟩:=Wa ⟨r.fa,vs⟩ (r.aj k).vs u l;exact⟨x,by show x∈(upN r.aj k _ k).vs;rw[De];exact t,w.trans m,mX q y⟩
  .rw[show(r.rK j vs).oh k=r.oh k from Du _ _ e]at n
   have:=h.prom k c n;exact⟨this.1,λv a d=>by
    obtain⟨u,l,m⟩:=this.2 v a d;exact⟨u,by show u∈(upN r.aj j _ k).vs;rw[Du _ _ e];exact l,m⟩⟩
theorem RdI.count{r:Rnd}(h:RdI σ i r)(l:v.b=r.fa)(f:AX (r.aj j) v=0)(o:σ.held j v):RdI σ i { r with aj:=upN r.aj j ⟨BN (r.aj j) v,Bu (r.aj j) v⟩ }:=by
 have d:=Ar f;have g:Bu (r.aj j) v=Bo (r.aj j).vs v:=(DA f).2;refine⟨h.fa,h.next,h.own,λk c u a=>?_,λk c n=>⟨(h.prom k c n).1,λu a m=>?_⟩,λk c=>?_⟩
 rotate_right
 .show Ag (upN r.aj j ⟨BN (r.aj j) v,Bu (r.aj j) v⟩ k)/\(r.oh k=true->(upN r.aj j ⟨BN (r.aj j) v,Bu (r.aj j) v⟩ k).p=r.fa);unfold upN;split
  .rw[(DA f).1,g];exact⟨d.1.te d.2.1 d.2.2,λ_=>l⟩
  .exact h.acc k c
 .have a:u∈(upN r.aj j ⟨BN (r.aj j) v,Bu (r.aj j) v⟩ k).vs:=a;by_cases e:k=j
  .subst e;rw[De]at a
   have a:u∈Bu (r.aj k) v:=a;rw[g]at a
   rcases(BH d.1.2.2).1 a with rfl|⟨a,_⟩
   .exact⟨o,by rw[l];exact mE _,λ_=>l⟩
   .exact h.aj k c u a
  .rw[Du _ _ e]at a;exact h.aj k c u a
 .obtain⟨x,h1,h2,h3⟩:=(h.prom k c n).2 u a m;by_cases e:k=j
  .subst e;obtain⟨y,q,s,t⟩:=Md d.1 f h1;exact⟨y,by show y∈(upN r.aj k _ k).vs;rw[De];show y∈Bu (r.aj k) v;rw[g];exact q,s.trans h2,mX h3 t⟩
  .exact⟨x,by show x∈(upN r.aj j _ k).vs;rw[Du _ _ e];exact h1,h2,h3⟩
theorem UpI.nr{q:Nod}(h:UpI σ i p rs)(b:q.d=p.d)(j:q.sy=p.sy)(c:q.vo=p.vo)(f:RdI σ i q.an)(a:q.an.fa=p.an.fa)(e:∀ x∈q.bt,x∈p.bt\/PnI σ rs q.an x):UpI σ i q rs :=
 ⟨⟨h.tp.ok,h.tp.pre,b.trans h.tp.d,j.trans h.tp.sy,c.trans h.tp.vo,by rw[b];exact h.tp.len⟩,h.rU,f,by rw[a,c];exact h.bp,λx k=>(e x k).elim (λg=>by
  have:=h.pe x g;cases x<;>first|exact this|exact trivial|(refine⟨this.1,?_⟩;first|exact this.2|(rw[a];exact this.2))) id⟩
theorem UpI.count(h:UpI σ i p rs)(a:AgL σ p.ab 0)(d:σ.held j v):UpI σ i (p.count j v) rs/\AgL σ (p.count j v).ab 0:=by
 unfold Nod.count;split
 .exact⟨h,a⟩
 .rename_i b
  have b:=mI.1 b;split
  .exact⟨h,a⟩
  .rename_i he
   have c:=h.rd.count b (mI.1 he) d;exact⟨h.nr rfl rfl rfl c rfl λx g=>.inl g,UP (λj e v f=>(c.aj j e v f).1) 41 a⟩
end
end
end Go.Proofs.YtogibonjmbhliaaGreatDoor
