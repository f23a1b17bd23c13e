/- Part 17 of the walk. -/
import Derived.Test.YthohlalejhgbmaaGreatDoorZ16
set_option maxRecDepth 100000
set_option maxHeartbeats 4000000
open Go.Proofs.Tryz
set_option linter.unusedVariables false
namespace Go.Proofs.YthohlalejhgbmaaGreatDoor
section
open Go.RowKit
section
variable{n tc tr tu k c s m v:Int}(h:paE n tc tr tu k c s m v=0)
include h
end
section
theorem Ls{n a b d k c s m v:Int}(h:paE n a b d k c s m v=0):(paL n a b d k c s m v).length=63:=by
 rw[XU h,ke,FQ,GZ]
variable{G:List Gr}{L:List Lac}{M:Meet}{W w:World}{b j off:Nat}{cr:Bool}{g:Gh}{l:List (Lac × S3)}{ly x:S3}{ys:Nat->S3}
theorem j6(x:S3)(k:Nat)(f:k<=x.c)(d:∃ b off,x.a=some ⟨b,off,none⟩):(Instr.sliceAt 48 x.v none (some (iv (k:Int))) none).run prog W=.ok (S3.v ⟨x.a,k,x.c⟩) W:=by
 obtain⟨b,off,d⟩:=d;obtain⟨h,i,g⟩:=x;simp only at d f;subst d;have e:prog.elem 48=5:=by kernel_rfl
 rw[run_sliceAt_slice _ _ _ _ _ _ cS,run_slice_h (P:=prog) (w:=W) _ _ _ _ cS .i64 k (by omega) (by show(k:Int)<=((g:Nat):Int);omega),e,He];simp[Result.andThen,sliced,Addr.add]
theorem FSl.take{l:List Int}(h:FSl g w x l)(k:Nat)(y:k<=l.length):FSl g w ⟨x.a,k,x.c⟩ (l.take k):=by
 have f:=IY h.s;obtain⟨⟨⟨a,m,j,v,f,d⟩,u,n⟩,o⟩:=h;simp only[Value.slice.injEq]at j;obtain⟨rfl,r,rfl⟩:=j;refine⟨⟨⟨_,_,by simp only[Value.slice.injEq,and_true,true_and,X'];omega,by rw[X'];omega,f,?_⟩,by rw[X'];omega,λz t=>n z (jU t)⟩,λq=>o λe=>q (by rw[e];simp)⟩;rcases d with d|⟨b,off,ha,hbs,hcell⟩
 .exact .inl (by rw[d];simp)
 .refine .inr ⟨b,off,ha,hbs,λi p=>?_⟩;rw[X']at p
  rw[show(l.take k).getD i 0=l.getD i 0 by simp[List.getD,show i<k by omega]];exact hcell i (by omega)
theorem FSl.addr{l:List Int}(h:FSl g w x l)(j:l≠[]):(∃ b off,x.a=some ⟨b,off,none⟩)/\l.length<=x.c:=by
 obtain⟨⟨⟨a,f,e,i,p,d⟩,m,n⟩,o⟩:=h;simp only[Value.slice.injEq]at e;obtain⟨rfl,k,rfl⟩:=e;rcases d with d|⟨b,off,ha,_⟩
 .exact absurd d j
 .exact⟨⟨b,off,ha⟩,i⟩
theorem UT{g:Gr}(h:GrOk g)(hT:Tabs w) :
  Calls prog 17 #[.agg #[iv g.k,iv g.a,iv g.b,iv g.c,iv g.d]] w λe w'=>∃ y:S3,e=.returned y.v/\Sl w' y.v (pkB g)/\Nb w.heap.size y (pkB g)/\Bw w w':=by
 have A:(pkP g).length=63:=Ls (Ya g);have r4:=Bn g.c 4 (by omega);refine tIn [] func17 trivial (tR 18 [0,0,0,0,0,0,0] λr _ _=>tC1 11 (λF C=>Q6 h.b h.c h.d h.a h.d) λ_=>tR 16 [0,0,1,0,1,1,0,2,0,0] λi _ _=>tC1 2 (λF C=>Cf h.d 17) λ_=>tR 1 [] λa1 _ _=>JY 56 (λZ X q=>∃ (E G:Int),Z=[(1,pt (r 0) 0),(3,pt (i 0) 0),(4,pt (i 1) 0)]/\X=[⟨(r 0),.cells #[iv g.k,iv g.a,iv g.b,iv g.c,iv g.d] 58,.z,false⟩,⟨(i 0),.cells #[iv (wK g.b),iv (pick g.c 4),iv (pick g.d 6),iv (pick g.a 4),iv (wV g.b g.d)] 47,.z,false⟩,⟨(i 1),.cells #[iv E,iv G,iv 60] 115,.l,false⟩]/\q=[]/\E=pkT g/\G=pkR g) (λJ I=>?_) ?_)
 .refine tR 6 [] λa2 _ _=>?_;by_cases f:pick g.d 17=15
  .refine tI (((pick g.d 17)==15)) true (by simpa using f) (tR 5 [2,0] λa3 _ _=>tD I [true,true,true] ⟨pick g.c 4,0,rfl,rfl,rfl,(if_neg (by omega)).symm,(if_pos f).symm⟩ (λF=>trivial))
  .refine tI (((pick g.d 17)==15)) false (by simpa using f) (tR 5 [] λa4 _ _=>?_);by_cases u:pick g.d 17=16
   .refine tI (((pick g.d 17)==16)) true (by simpa using u) (tR 3 [2] λa5 _ _=>tV 2 (iv (pick g.c 4+1)) (λF C=>(AR 31 (pick g.c 4) underlying3 (by omega))) (tV 3 (iv ((pick g.c 4+1)%4)) (λF C=>(Yh (x:=(.tmp 32)) (y:=(.const (iv 4))) (pick g.c 4+1) 4 underlying3 (by omega) (by omega) (by decide) (by decide))) (tR 4 [2,0] λO _ _=>tD I [true,true,true] ⟨(pick g.c 4+1)%4,7,rfl,rfl,rfl,(if_pos u).symm,(if_neg f).symm⟩ (λF=>trivial))))
   .refine tI (((pick g.d 17)==16)) false (by simpa using u) (tR 2 [] λP _ _=>tD I [true,true,true] ⟨pick g.c 4,7,rfl,rfl,rfl,(if_neg u).symm,(if_neg f).symm⟩ (λF=>trivial))
 rintro _ _ _ ⟨E,G,rfl,rfl,rfl,o,p⟩ _ _ _;refine tR 6 [11,0,2,0,6,2,8,1] λQ _ _=>tC1 2 (λF C=>Cf h.a 1000) λ_=>tF λ_ W=>?_;have j:=W.size;have M:=Ya g;rw[<- o,<- p]at M
 have N:pkP g=paL (pick g.a 1000) E G 60 (wK g.b) (pick g.c 4) (pick g.d 6) (pick g.a 4) (wV g.b g.d):=by rw[o,p];rfl
 refine tC 5 (λF C=>bH M (tbA hT C)) λY=>?_;rintro _ _ ⟨y,rfl,K,D,H⟩;refine⟨_,Fa.sl y (pkP g)::_,rfl,H,λF=>⟨(by rw[N];exact Lm K D Y),F⟩,?_⟩;rw[<- N]at K D
 have a0:=IY K;refine tR 11 [12,14,16,18,20,0] λR _ _=>tC1 2 (λF C=>Cf h.d 23) λ_=>?_;by_cases f:pick g.d 23=22
 .refine tV 3 (.bool true) (λF C=>(EF (t:=3) (m:=pick g.d 23) (n:=22) (x:=(.tmp 46)) (y:=(.const (iv 22))) (by simpa using f))) (tR 6 [] λS _ _=>tI ((decide (30<(y.n:Int)))) true (I' (by omega)) (tR 2 [] λT _ _=>tF λF _=>?_));have L:=FSl.addr F.1 (λe=>by rw[e]at A;cases A);refine tV 1 (S3.v ⟨y.a,30,y.c⟩) (λF C=>(j6 y 30 (by omega) L.1)) (tR 7 [] λU _ _=>?_);rw[show pkB g=_ from if_pos ⟨f,by omega⟩];exact tE (S3.v ⟨y.a,30,y.c⟩) λF B=>⟨⟨y.a,30,y.c⟩,rfl,(F.1.take 30 (by omega)).s,λ_ a ha=>D.mono j (λe=>by rw[e]at A;cases A) a ha,B⟩
 .refine tV 3 (.bool false) (λF C=>(EF (t:=3) (m:=pick g.d 23) (n:=22) (x:=(.tmp 46)) (y:=(.const (iv 22))) (by simpa using f))) (tR 13 [] λV _ _=>?_);rw[show pkB g=_ from if_neg (λe=>f e.1)];exact tE (S3.v y) λF B=>⟨y,rfl,F.1.s,D.mono j,B⟩
theorem dV{g:Gr}(h:GrOk g)(hT:Tabs w){x:Lac}(i:Pt g cr=x) :
  Calls prog 9 #[.agg #[iv g.k,iv g.a,iv g.b,iv g.c,iv g.d],.bool cr] w λe w'=>∃ y:S3,e=.returned (.agg #[iv x.k,iv x.n,iv x.a,iv x.p,y.v])/\Sl w' y.v x.d/\Nb w.heap.size y x.d/\Bw w w':=by
 refine tIn [] func9 trivial (tR 9 [0,0,1,0,0] λj _ _=>tC1 2 (λF C=>Cf h.a 5) λ_=>tR 7 [0] λa0 _ _=>tC1 2 (λF C=>Cf h.k 24) λ_=>?_);unfold Pt at i;refine tR 9 [] λa1 _ _=>?_;by_cases f:pick g.k 24<3
 .refine tI ((decide ((pick g.k 24)<3))) true (by simpa using f) ?_;rw[if_pos f]at i
  refine tR 4 [0] λa2 _ _=>tF λ_ Cs=>?_;have o:=Cs.size;refine tC 2 (λF C=>UT h (tbA hT C)) λNz=>?_;rintro _ _ ⟨y,rfl,hy,q,b8⟩;refine⟨_,Fa.sl y (pkB g)::_,rfl,b8,λF=>⟨Lm hy q Nz,F⟩,?_⟩;refine tR 3 [1,0] λa3 _ _=>?_;subst i;exact tX λF C=>qE1 4 55 1 (j 1) #[iv 1,iv (pick g.a 5),iv 0,iv 0,S3.v y] λ_=>⟨y,rfl,F.1.s,q.mono o,CgQ.ab C⟩
 .refine tI ((decide ((pick g.k 24)<3))) false (by simpa using f) ?_;rw[if_neg f]at i
  refine tR 6 [] λr _ _=>?_;by_cases f:pick g.k 24<5
  .refine tI ((decide ((pick g.k 24)<5))) true (by simpa using f) ?_;rw[if_pos f]at i
   refine tR 6 [1,0] λu _ _=>?_;subst i;exact tX λF C=>qE1 4 55 1 (j 1) #[iv 2,iv (pick g.a 5),iv 0,iv 0,S3.v s30] λ_=>⟨s30,rfl,DZ _,λe=>absurd rfl e,CgQ.ab C⟩
  .refine tI ((decide ((pick g.k 24)<5))) false (by simpa using f) ?_;rw[if_neg f]at i
   refine tR 6 [] λz _ _=>?_;by_cases f:pick g.k 24<14
   .refine tI ((decide ((pick g.k 24)<14))) true (by simpa using f) ?_;rw[if_pos f]at i
    refine tR 6 [1,0] λA _ _=>?_;subst i;exact tX λF C=>qE1 4 55 1 (j 1) #[iv 3,iv (pick g.a 5),iv 0,iv 0,S3.v s30] λ_=>⟨s30,rfl,DZ _,λe=>absurd rfl e,CgQ.ab C⟩
   .refine tI ((decide ((pick g.k 24)<14))) false (by simpa using f) ?_;rw[if_neg f]at i
    refine tR 6 [] λB _ _=>?_;by_cases f:pick g.k 24=14
    .refine tI (((pick g.k 24)==14)) true (by simpa using f) ?_;rw[if_pos f]at i
     refine tR 4 [0] λD _ _=>tC1 2 (λF C=>Cf h.c 20) λ_=>tR 3 [1,0] λE _ _=>?_;subst i;exact tX λF C=>qE1 4 55 1 (j 1) #[iv 4,iv 0,iv (pick g.c 20),iv 0,S3.v s30] λ_=>⟨s30,rfl,DZ _,λe=>absurd rfl e,CgQ.ab C⟩
    .refine tI (((pick g.k 24)==14)) false (by simpa using f) ?_;rw[if_neg f]at i
     refine tR 6 [] λG _ _=>?_;by_cases f:pick g.k 24=15
     .refine tI (((pick g.k 24)==15)) true (by simpa using f) ?_;rw[if_pos f]at i
      refine tR 4 [0] λH _ _=>tC1 2 (λF C=>Cf h.c 20) λ_=>tR 3 [1,0] λI _ _=>?_;subst i;exact tX λF C=>qE1 4 55 1 (j 1) #[iv 5,iv 0,iv (pick g.c 20),iv 0,S3.v s30] λ_=>⟨s30,rfl,DZ _,λe=>absurd rfl e,CgQ.ab C⟩
     .refine tI (((pick g.k 24)==15)) false (by simpa using f) ?_;rw[if_neg f]at i
      refine tR 6 [] λJ _ _=>?_;by_cases f:pick g.k 24=16
      .refine tI (((pick g.k 24)==16)) true (by simpa using f) ?_;rw[if_pos f]at i
       refine tR 4 [0] λK _ _=>tC1 2 (λF C=>Cf h.c 20) λ_=>tR 3 [1,0] λL _ _=>?_;subst i;exact tX λF C=>qE1 4 55 1 (j 1) #[iv 6,iv 0,iv (pick g.c 20),iv 0,S3.v s30] λ_=>⟨s30,rfl,DZ _,λe=>absurd rfl e,CgQ.ab C⟩
      .refine tI (((pick g.k 24)==16)) false (by simpa using f) ?_;rw[if_neg f]at i
       refine tR 3 [] λM _ _=>?_;by_cases f:pick g.k 24=17
       .refine tV 1 (.bool true) (λF C=>(EF (t:=3) (m:=pick g.k 24) (n:=17) (x:=(.tmp 52)) (y:=(.const (iv 17))) (by simpa using f))) (tR 5 [] λN _ _=>?_);by_cases l:cr=true
        .refine tI (cr) true l ?_;rw[if_pos ⟨f,l⟩]at i
         refine tR 5 [0] λO _ _=>tC1 3 (λF C=>Cf h.c 90) λ_=>tR 3 [1,0] λP _ _=>?_;subst i;exact tX λF C=>qE1 4 55 1 (j 1) #[iv 8,iv (pick g.a 5),iv 0,iv (pick g.c 90),S3.v s30] λ_=>⟨s30,rfl,DZ _,λe=>absurd rfl e,CgQ.ab C⟩
        .refine tI (cr) false (by simpa using l) ?_;rw[if_neg (λe=>l e.2)]at i
         refine tR 3 [] λQ _ _=>?_;by_cases f:pick g.k 24=18
         .refine tV 1 (.bool true) (λF C=>(EF (t:=3) (m:=pick g.k 24) (n:=18) (x:=(.tmp 63)) (y:=(.const (iv 18))) (by simpa using f))) (tR 5 [] λR _ _=>?_);by_cases l:cr=true
          .refine tI (cr) true l ?_;rw[if_pos ⟨f,l⟩]at i
           refine tR 6 [1,0] λS _ _=>?_;subst i;exact tX λF C=>qE1 4 55 1 (j 1) #[iv 9,iv (pick g.a 5),iv 0,iv 0,S3.v s30] λ_=>⟨s30,rfl,DZ _,λe=>absurd rfl e,CgQ.ab C⟩
          .refine tI (cr) false (by simpa using l) ?_;rw[if_neg (λe=>l e.2)]at i
           refine tR 7 [1,0] λT _ _=>?_;subst i;exact tX λF C=>qE1 4 55 1 (j 1) #[iv 7,iv 0,iv 0,iv 0,S3.v s30] λ_=>⟨s30,rfl,DZ _,λe=>absurd rfl e,CgQ.ab C⟩
         .refine tV 1 (.bool false) (λF C=>(EF (t:=3) (m:=pick g.k 24) (n:=18) (x:=(.tmp 63)) (y:=(.const (iv 18))) (by simpa using f))) ?_;rw[if_neg (λe=>f e.1)]at i
          refine tR 13 [1,0] λU _ _=>?_;subst i;exact tX λF C=>qE1 4 55 1 (j 1) #[iv 7,iv 0,iv 0,iv 0,S3.v s30] λ_=>⟨s30,rfl,DZ _,λe=>absurd rfl e,CgQ.ab C⟩
       .refine tV 1 (.bool false) (λF C=>(EF (t:=3) (m:=pick g.k 24) (n:=17) (x:=(.tmp 52)) (y:=(.const (iv 17))) (by simpa using f))) ?_;rw[if_neg (λe=>f e.1)]at i
        refine tR 9 [] λV _ _=>?_;by_cases f:pick g.k 24=18
        .refine tV 1 (.bool true) (λF C=>(EF (t:=3) (m:=pick g.k 24) (n:=18) (x:=(.tmp 63)) (y:=(.const (iv 18))) (by simpa using f))) (tR 5 [] λW _ _=>?_);by_cases l:cr=true
         .refine tI (cr) true l ?_;rw[if_pos ⟨f,l⟩]at i
          refine tR 6 [1,0] λX _ _=>?_;subst i;exact tX λF C=>qE1 4 55 1 (j 1) #[iv 9,iv (pick g.a 5),iv 0,iv 0,S3.v s30] λ_=>⟨s30,rfl,DZ _,λe=>absurd rfl e,CgQ.ab C⟩
         .refine tI (cr) false (by simpa using l) ?_;rw[if_neg (λe=>l e.2)]at i
          refine tR 7 [1,0] λY _ _=>?_;subst i;exact tX λF C=>qE1 4 55 1 (j 1) #[iv 7,iv 0,iv 0,iv 0,S3.v s30] λ_=>⟨s30,rfl,DZ _,λe=>absurd rfl e,CgQ.ab C⟩
        .refine tV 1 (.bool false) (λF C=>(EF (t:=3) (m:=pick g.k 24) (n:=18) (x:=(.tmp 63)) (y:=(.const (iv 18))) (by simpa using f))) ?_;rw[if_neg (λe=>f e.1)]at i
         refine tR 13 [1,0] λZ _ _=>?_;subst i;exact tX λF C=>qE1 4 55 1 (j 1) #[iv 7,iv 0,iv 0,iv 0,S3.v s30] λ_=>⟨s30,rfl,DZ _,λe=>absurd rfl e,CgQ.ab C⟩
theorem j0{k:Nat}(g:Gr)(h:∀ j u,(grV g)[j]?=some u->W.cell? ⟨b,k+j,none⟩=some u):(Instr.loadAt 58 (pt b k)).run prog W=.ok (.agg #[iv g.k,iv g.a,iv g.b,iv g.c,iv g.d]) W:=by
 have e:=run_loadVar_mid (P:=prog) W b k 58 (grV g) _ h underlying58 rfl (by kernel_rfl);simp only[Instr.loadAt,Instr.sureAddr,Sem.run_bind,Sem.run_pure,Result.andThen_ok];exact e
theorem iB(c:x.a=some ⟨b,off,none⟩)(j:Nat)(d:j<x.n):(Instr.indexAt 22 x.v (iv (j:Int))).run prog W=.ok (pt b (off+5*j)) W:=by
 obtain⟨f,h,g⟩:=x;simp only at c d;subst c;exact L2 (P:=prog) (e:=58) (z:=5) underlying22 (by kernel_rfl) (by kernel_rfl) d _ rfl
theorem ik{l:S3}{i:Nat}{g:Gr}(h:RdV w l 5 (grL G))(m:l.a=some ⟨b,off,none⟩)(d:G[i]?=some g){j:Nat}{u:Value}(o:(grV g)[j]?=some u):w.cell? ⟨b,off+5*i+j,none⟩=some u:=by
 have p:l.n=G.length:=by have:=h.len;rw[show(grL G).length=G.length*5 from E9 (f:=grV) (λ_=>rfl) G]at this;omega
 obtain⟨q,e,c,_,k⟩:=h.spot (i:=i) (by rw[p];exact(U'.1 d).1);rw[m]at c
 cases c;exact k j u (Km (f:=grV) (λ_=>rfl) G d o)
theorem Vl{l:S3}{most:Nat}(h:RdV w l 5 (grL G))(hG:∀ g∈G,GrOk g)(hm:most<=100)(hT:Tabs w) :
  Calls prog 6 #[l.v,iv (most:Int),.bool cr] w λe w'=>∃ (y:S3) (P:List (Lac × S3)),e=.returned y.v/\P.map (·.1)=scr G most cr/\AcN w.heap.size w' y P/\Bw w w':=by
 have a9:l.n=G.length:=by have:=h.len;rw[show(grL G).length=G.length*5 from E9 (f:=grV) (λ_=>rfl) G]at this;omega
 refine tIn [Fa.zv l 5 (grL G)] func6 ⟨h.fz,trivial⟩ (tR 18 [] λb5 _ _=>Eh 41 [(0,S3.v l),(1,iv (most:Int)),(2,.bool cr),(7,sn),(8,iv 0),(9,iv 0)] [] [] [Fa.zv l 5 (grL G),Fa.oa 0 s30 []] (λkk ee LL M=>∃ (i s:Nat) (y:S3) (P:List (Lac × S3)),kk=min G.length most-i/\ee=[(0,S3.v l),(1,iv (most:Int)),(2,.bool cr),(7,S3.v y),(8,iv (s:Int)),(9,iv (i:Int))]/\LL=[]/\M=[Fa.zv l 5 (grL G),Fa.oa 0 y P]/\i<=min G.length most/\y.n=i/\s<=i/\scr G most cr=P.map (·.1)++O6 cr s ((G.take most).drop i)/\(∀ p∈P,Nb w.heap.size p.2 p.1.d)) (min G.length most) ⟨0,0,s30,[],rfl,rfl,rfl,rfl,by omega,rfl,by omega,rfl,λp q=>by cases q⟩ (λF=>⟨F.1,⟨OwnS.nil _ _ _ _ _ _,λp q=>by cases q⟩,trivial⟩) ?_);rintro k _ _ _ ⟨i,s,y,P,rfl,rfl,rfl,rfl,R,b1,b0,o,E⟩ _ _ _ J N;refine tR 6 [] λb6 _ _=>?_;by_cases h1:i<G.length
 .refine tV 3 (.bool true) (λF C=>(rLt (t:=3) (m:=(i:Int)) (n:=(l.n:Int)) (x:=(.tmp 11)) (y:=(.tmp 13)) (I' (by omega)))) (tR 6 [] λb7 _ _=>?_);by_cases h2:i<most
  .refine tI ((decide ((i:Int)<(most:Int)))) true (I' (by omega)) ?_;have R:i<(G.take most).length:=by rw[X'];omega
   obtain⟨g,O⟩:∃ g,(G.take most)[i]?=some g:=⟨_,E' R⟩;have H:G[i]?=some g:=by rw[kJ,if_pos h2]at O;exact O
   have Q:=hG g (jJ H);rw[kz R,show(G.take most)[i]=g from(U'.1 O).2,O6]at o
   refine tF λF _=>?_;obtain⟨b,T,I,_,a8⟩:=F.1.rd.spot (i:=i) (by omega);refine tR 7 [] λb9 _ _=>tV 2 (pt b (T+5*i)) (λF C=>(iB I i (by omega))) (tV 3 (.agg #[iv g.k,iv g.a,iv g.b,iv g.c,iv g.d]) (λF C=>(j0 g λj u hj=>ik F.1.rd I H hj)) (tR 1 [] λc0 _ _=>?_));obtain⟨x,X⟩:∃ x,Pt g cr=x:=⟨_,rfl⟩;refine tF λ_ Cs=>?_;have L:=Cs.size;refine tC 5 (λF C=>dV Q (tbA hT C) X) λNz=>?_;rintro _ _ ⟨d,rfl,hd,S,b8⟩;refine⟨_,Fa.sl d x.d::_,rfl,b8,λF=>⟨Lm hd S Nz,F⟩,?_⟩;rw[X]at o
   refine tR 10 [1,0,0,0,0] λc1 _ _=>?_;by_cases D:x.k=1
   .refine tI ((x.k==1)) true (by simpa using D) (tR 3 [] λY _ _=>tV 1 (iv ((s:Int)+1)) (λF C=>(AR 31 (s:Int) underlying3 (by omega))) (tR 7 [] λZ _ _=>?_));rw[show fW s x=s+1 from if_pos D]at o
    by_cases h4:6<s+1
    .refine tI ((decide (6<((s:Int)+1)))) true (I' (by omega)) ?_;rw[show Yu s x=acN 7 0 from if_pos ⟨D,by omega⟩]at o
     refine tR 8 [0,0,0,0,0] λr _ _=>OA 3 0 (x:=y) 31 31 55 5 56 zLa ⟨(r 0),0,none⟩ 1 1 [iv 7,iv 0,iv 0,iv 0,sn] (λF=>F.2.2.1.1) [Fa.zv l 5 (grL G),Fa.dt (P++[(acN 7 0,s30)])] (λF=>⟨F.2.1,Dat.snoc F.2.2.1.2 (WS _ _),trivial⟩) rfl (by simp[TQ]) rfl (by simp[Value.oneCell']) (λF K=>Cw K 1 (r 0) [iv 7,iv 0,iv 0,iv 0,sn] 55 .z true (by kernel_rfl)) (by unfold maxLen;omega) (by omega) λU _ _ b2=>tR 5 [] λa0 _ _=>tV 1 (iv ((i:Int)+1)) (λF C=>(AR 20 (i:Int) underlying3 (by omega))) (tR 2 [] λa1 _ _=>tB N (min G.length most-(i+1)) (by omega) [false,false] ⟨i+1,(s+1),U,P++[(acN 7 0,s30)],rfl,rfl,rfl,rfl,by omega,by omega,by omega,(by rw[o,jW,jI];rfl),λp q=>(Q'.1 q).elim (E p) λe=>by rw[G'.1 e];exact λe=>absurd rfl e⟩ (λF=>⟨F.2.1,⟨(by rw[E3];exact F.1),F.2.2.1⟩,trivial⟩))
    .refine tI ((decide (6<((s:Int)+1)))) false (D' (by omega)) ?_;rw[show Yu s x=x from if_neg (λe=>h4 (by omega))]at o
     refine tR 5 [0,0,0] λA _ _=>OA 3 0 (x:=y) 31 31 55 5 56 zLa ⟨(A 0),0,none⟩ 1 1 [iv x.k,iv x.n,iv x.a,iv x.p,S3.v d] (λF=>F.2.2.1.1) [Fa.zv l 5 (grL G),Fa.dt (P++[(x,d)])] (λF=>⟨F.2.1,Dat.snoc F.2.2.1.2 (F.1),trivial⟩) rfl (by simp[TQ]) rfl (by simp[Value.oneCell']) (λF K=>Cw K 1 (A 0) [iv x.k,iv x.n,iv x.a,iv x.p,S3.v d] 55 .z true (by kernel_rfl)) (by unfold maxLen;omega) (by omega) λV _ _ b3=>tR 5 [] λa2 _ _=>tV 1 (iv ((i:Int)+1)) (λF C=>(AR 20 (i:Int) underlying3 (by omega))) (tR 2 [] λa3 _ _=>tB N (min G.length most-(i+1)) (by omega) [false,false] ⟨i+1,(s+1),V,P++[(x,d)],rfl,rfl,rfl,rfl,by omega,by omega,by omega,(by rw[o,jW,jI];rfl),λp q=>(Q'.1 q).elim (E p) λe=>by rw[G'.1 e];exact S.mono L⟩ (λF=>⟨F.2.1,⟨(by rw[E3];exact F.1),F.2.2.1⟩,trivial⟩))
   .refine tI ((x.k==1)) false (by simpa using D) ?_;rw[show fW s x=s from if_neg D,show Yu s x=x from if_neg (λe=>D e.1)]at o
    refine tR 5 [0,0,0] λB _ _=>OA 3 0 (x:=y) 31 31 55 5 56 zLa ⟨(B 0),0,none⟩ 1 1 [iv x.k,iv x.n,iv x.a,iv x.p,S3.v d] (λF=>F.2.2.1.1) [Fa.zv l 5 (grL G),Fa.dt (P++[(x,d)])] (λF=>⟨F.2.1,Dat.snoc F.2.2.1.2 (F.1),trivial⟩) rfl (by simp[TQ]) rfl (by simp[Value.oneCell']) (λF K=>Cw K 1 (B 0) [iv x.k,iv x.n,iv x.a,iv x.p,S3.v d] 55 .z true (by kernel_rfl)) (by unfold maxLen;omega) (by omega) λW _ _ b4=>tR 5 [] λa4 _ _=>tV 1 (iv ((i:Int)+1)) (λF C=>(AR 20 (i:Int) underlying3 (by omega))) (tR 2 [] λa5 _ _=>tB N (min G.length most-(i+1)) (by omega) [false,false] ⟨i+1,s,W,P++[(x,d)],rfl,rfl,rfl,rfl,by omega,by omega,by omega,(by rw[o,jW,jI];rfl),λp q=>(Q'.1 q).elim (E p) λe=>by rw[G'.1 e];exact S.mono L⟩ (λF=>⟨F.2.1,⟨(by rw[E3];exact F.1),F.2.2.1⟩,trivial⟩))
  .refine tI ((decide ((i:Int)<(most:Int)))) false (D' (by omega)) (tR 6 [] λa6 _ _=>?_);rw[kD (by rw[X'];omega),O6,ki]at o
   exact tX λF C=>qE (S3.v y) λ_=>⟨y,P,rfl,o.symm,AcN.of F.2.1 C E,CgQ.ab C⟩
 .refine tV 3 (.bool false) (λF C=>(rLt (t:=3) (m:=(i:Int)) (n:=(l.n:Int)) (x:=(.tmp 11)) (y:=(.tmp 13)) (D' (by omega)))) (tR 13 [] λa7 _ _=>?_);rw[kD (by rw[X'];omega),O6,ki]at o
  exact tX λF C=>qE (S3.v y) λ_=>⟨y,P,rfl,o.symm,AcN.of F.2.1 C E,CgQ.ab C⟩
def rnP(l:List Lac):List (Lac × S3):=l.map λa=>(a,s30)
theorem bW(l:List Lac):(rnP l).map (·.1)=l:=by simp[rnP,Function.comp_def]
theorem bV(g:Gh)(w:World){l:List Lac}(h:∀ a∈l,a.d=[]):Dat g w (rnP l):=by
 intro p c;obtain⟨a,b,rfl⟩:=kn.1 c;show FSl g w s30 a.d;rw[h a b];exact WS g w
theorem LC(l:List Lac)(a:Lac):rnP (l++[a])=rnP l++[(a,s30)]:=by simp[rnP]
theorem Rn(m:Nat):(Cv m).length=6*m:=by
 induction m with
 | zero=>rfl
 | succ m ih=>rw[Cv,M',ih];show _+6=_;omega
def Eu(k:Int)(j:Nat):List Lac:=(List.range j).map λn:Nat=>acN k (n:Int)
theorem IH(k:Int)(j:Nat):Eu k (j+1)=Eu k j++[acN k (j:Int)]:=by simp[Eu,List.range_succ]
theorem Xr(k:Int)(j:Nat):(Eu k j).length=j:=by simp[Eu]
theorem Vh{many:Nat}(h:RdV w x 5 (acV l))(P:∀ p∈l,Sl w p.2.v p.1.d)(hm:l.length+6*many<=1000000) :
  Calls prog 5 #[x.v,iv (many:Int)] w λe w'=>∃ y:S3,e=.returned y.v/\OwN w.heap.size w' 55 5 y (acV (l++rnP (G0 many)))/\Bw w w':=by
 have t:x.n=l.length:=by have:=h.len;rw[SI]at this;omega
 refine tIn [Fa.ac x l] func5 ⟨⟨h.fz,λp R=>⟨P p R,λ_ _ _=>rfl⟩⟩,trivial⟩ (tR 7 [] λV _ _=>jb 1 0 x (acV l) 31 31 55 5 56 zLa (λF=>F.1.1.rd) [Fa.dt l] (λF=>⟨F.1.2,trivial⟩) rfl (by simp[TQ]) (Zk l) (by rw[t];unfold maxLen;omega) (by omega) λu _ _ n0=>tR 8 [] λW _ _=>Eh 39 [(1,iv (many:Int)),(5,S3.v u),(6,iv 0)] [] [] [Fa.oa 0 u (l++rnP (Eu 9 0))] (λo g f a=>∃ (j:Nat) (y:S3),o=5-j/\g=[(1,iv (many:Int)),(5,S3.v y),(6,iv (j:Int))]/\f=[]/\a=[Fa.oa 0 y (l++rnP (Eu 9 j))]/\j<=5/\y.n=l.length+j) (5) ⟨0,u,rfl,rfl,rfl,rfl,by omega,by omega⟩ (λF=>⟨by rw[show rnP (Eu 9 0)=[]from rfl,ki];exact⟨F.1,F.2.1⟩,trivial⟩) ?_);rintro k _ _ _ ⟨j,y,rfl,rfl,rfl,rfl,Q,m⟩ _ _ _ J O;refine tR 6 [] λX _ _=>?_;by_cases h1:j<5
 .refine tI ((decide ((j:Int)<5))) true (I' (by omega)) (tR 8 [0,0] λq _ _=>OA 4 0 (x:=y) 31 31 55 5 56 zLa ⟨(q 0),0,none⟩ 1 1 [iv 9,iv (j:Int),iv 0,iv 0,sn] (λF=>F.1.1) [Fa.dt ((l++rnP (Eu 9 j))++[(acN 9 (j:Int),s30)])] (λF=>⟨Dat.snoc F.1.2 (WS _ _),trivial⟩) rfl (by simp[TQ]) rfl (by simp[Value.oneCell']) (λF K=>Cw K 0 (q 0) [iv 9,iv (j:Int),iv 0,iv 0,sn] 55 .z true (by kernel_rfl)) (by unfold maxLen;omega) (by omega) λU _ _ n6=>tR 5 [] λY _ _=>tV 1 (iv ((j:Int)+1)) (λF C=>(AR 13 (j:Int) underlying3 (by omega))) (tR 2 [] λZ _ _=>tB O (5-(j+1)) (by omega) [false] ⟨j+1,U,rfl,rfl,rfl,rfl,by omega,by omega⟩ (λF=>by rw[IH,LC,<- jI];exact⟨⟨(by rw[E3];exact F.1),F.2.1⟩,trivial⟩)))
 .refine tI ((decide ((j:Int)<5))) false (D' (by omega)) ?_;obtain rfl:j=5:=by omega
  refine tR 7 [] λa0 _ _=>Eh 39 [(1,iv (many:Int)),(5,S3.v y),(7,iv 0)] [] [] [Fa.oa 0 y (l++rnP (Ex++Cv 0))] (λo g f a=>∃ (i:Nat) (y:S3),o=many-i/\g=[(1,iv (many:Int)),(5,S3.v y),(7,iv (i:Int))]/\f=[]/\a=[Fa.oa 0 y (l++rnP (Ex++Cv i))]/\i<=many/\y.n=l.length+(5+6*i)) (many) ⟨0,y,rfl,rfl,rfl,rfl,by omega,by omega⟩ (λF=>⟨F.1,trivial⟩) ?_;rintro k _ _ _ ⟨i,y,rfl,rfl,rfl,rfl,hi,m⟩ _ _ _ Jb r;refine tR 7 [] λD _ _=>?_;by_cases h2:i<many
  .refine tI ((decide ((i:Int)<(many:Int)))) true (I' (by omega)) (tR 9 [] λE _ _=>Eh 39 [(1,iv (many:Int)),(5,S3.v y),(7,iv (i:Int)),(8,iv 0)] [] [] [Fa.oa 0 y (l++rnP (Ex++Cv i++Eu 3 0))] (λo g f a=>∃ (j:Nat) (y:S3),o=5-j/\g=[(1,iv (many:Int)),(5,S3.v y),(7,iv (i:Int)),(8,iv (j:Int))]/\f=[]/\a=[Fa.oa 0 y (l++rnP (Ex++Cv i++Eu 3 j))]/\j<=5/\y.n=l.length+(5+6*i+j)) (5) ⟨0,y,rfl,rfl,rfl,rfl,by omega,by omega⟩ (λF=>⟨by rw[show Eu 3 0=[]from rfl,ki];exact F.1,trivial⟩) ?_);rintro k _ _ _ ⟨j,y,rfl,rfl,rfl,rfl,Q,m⟩ _ _ _ Jc s;refine tR 6 [] λG _ _=>?_;by_cases h3:j<5
   .refine tI ((decide ((j:Int)<5))) true (I' (by omega)) (tR 8 [0,0] λb _ _=>OA 4 0 (x:=y) 31 31 55 5 56 zLa ⟨(b 0),0,none⟩ 1 1 [iv 3,iv (j:Int),iv 0,iv 0,sn] (λF=>F.1.1) [Fa.dt ((l++rnP (Ex++Cv i++Eu 3 j))++[(acN 3 (j:Int),s30)])] (λF=>⟨Dat.snoc F.1.2 (WS _ _),trivial⟩) rfl (by simp[TQ]) rfl (by simp[Value.oneCell']) (λF K=>Cw K 0 (b 0) [iv 3,iv (j:Int),iv 0,iv 0,sn] 55 .z true (by kernel_rfl)) (by unfold maxLen;omega) (by omega) λA _ _ S=>tR 5 [] λH _ _=>tV 1 (iv ((j:Int)+1)) (λF C=>(AR 27 (j:Int) underlying3 (by omega))) (tR 2 [] λI _ _=>tB s (5-(j+1)) (by omega) [false] ⟨j+1,A,rfl,rfl,rfl,rfl,by omega,by omega⟩ (λF=>by rw[IH,<- jI (Ex++Cv i),LC,<- jI l];exact⟨⟨(by rw[E3];exact F.1),F.2.1⟩,trivial⟩)))
   .refine tI ((decide ((j:Int)<5))) false (D' (by omega)) ?_;obtain rfl:j=5:=by omega
    refine tR 5 [0,0] λc _ _=>OA 3 0 (x:=y) 31 31 55 5 56 zLa ⟨(c 0),0,none⟩ 1 1 [iv 7,iv 0,iv 0,iv 0,sn] (λF=>F.1.1) [Fa.dt ((l++rnP (Ex++Cv i++Eu 3 5))++[(acN 7 0,s30)])] (λF=>⟨Dat.snoc F.1.2 (WS _ _),trivial⟩) rfl (by simp[TQ]) rfl (by simp[Value.oneCell']) (λF K=>Cw K 0 (c 0) [iv 7,iv 0,iv 0,iv 0,sn] 55 .z true (by kernel_rfl)) (by unfold maxLen;omega) (by omega) λB _ _ T=>tR 5 [] λL _ _=>tV 1 (iv ((i:Int)+1)) (λF C=>(AR 23 (i:Int) underlying3 (by omega))) (tR 2 [] λM _ _=>tB r (many-(i+1)) (by omega) [false] ⟨i+1,B,rfl,rfl,rfl,rfl,by omega,by omega⟩ (λF=>by rw[show Ex++Cv (i+1)=Ex++Cv i++Eu 3 5++[acN 7 0]by rw[Cv,<- jI,jI _ (Eu 3 5)];rfl,LC,<- jI l];exact⟨⟨(by rw[E3];exact F.1),F.2.1⟩,trivial⟩))
  .refine tI ((decide ((i:Int)<(many:Int)))) false (D' (by omega)) ?_;obtain rfl:i=many:=by omega
   refine tR 6 [] λN _ _=>tX λF C=>qE (S3.v y) λ_=>⟨y,rfl,F.1.1.own C,CgQ.ab C⟩
theorem Xq(k:Int)(j:Nat):∀ a∈Eu k j,a.d=[]:=by
 intro a b;obtain⟨n,_,rfl⟩:=kn.1 b;rfl
theorem WL(m:Nat):∀ a∈Cv m,a.d=[]:=by
 induction m with
 | zero=>intro a b;cases b
 | succ m ih =>
  intro a b;rcases Q'.1 b with h|h
  .exact ih a h
  .rcases Q'.1 h with h|h
   .exact Xq 3 5 a h
   .rw[G'.1 h];rfl
theorem fR(m:Nat):∀ a∈G0 m,a.d=[]:=by
 intro a b;rcases Q'.1 b with h|h
 .exact Xq 9 5 a h
 .exact WL m a h
theorem Yn(m:Nat):(G0 m).length=5+6*m:=by unfold G0;rw[M',Rn];rfl
theorem Ts{tv:S3}(h:OutF g w ly tv ys M):OutW w M ly tv ys:=⟨h.oC.rd,λj a=>(h.log j a).rd.rc,h.cF.rd⟩
theorem fV(h:Sk w x.v (laF L) L.length)(m:∀ a∈L,LacOk a)(l:L.length<=100000)(b:Q9 w){M:Meet}(j:AQ.nn L=M) :
  Calls prog 8 #[x.v] w λe w'=>∃ (ly tv:S3) (ys:Nat->S3),e=.returned (.tuple #[.agg (JU M ly tv),iv 0])/\OutW w' M ly tv ys/\OutN w.heap.size M ly tv ys/\Bw w w':=by
 subst j;refine(cm h (λi c=>by rw[Ol c];exact m _ (km c)) l b.1 b.2.1 b.2.2).mono ?_;rw[VG];rintro e w' ⟨k,ly,tv,ys,d,f,g⟩;exact⟨ly,tv,ys,d,f,g,k⟩
theorem fO(h:Sk w x.v (laF L) L.length)(y:∀ a∈L,LacOk a)(t:L.length<=100000)(s:Q9 w){M:Meet}(r:AQ.nn L=M) :
  Calls prog 4 #[x.v] w λe w'=>∃ (ly tv:S3) (ys:Nat->S3),e=.returned (.tuple #[.agg (JU M ly tv),.bool true])/\OutW w' M ly tv ys/\OutN w.heap.size M ly tv ys/\Bw w w':=by
 refine tIn [] func4 trivial (tR 8 [1,0] λb _ _=>tF λ_ k=>?_);have d:=k.size;refine tC 1 (λF C=>fV (h.ab (CgQ.ab C)) y t (tb5 s C) r) λo=>?_;rintro _ _ ⟨ly,tv,ys,rfl,j,i,p⟩;refine⟨_,Fa.ot ly tv ys M::_,rfl,p,λF=>⟨Tr j i o,F⟩,?_⟩;refine tR 14 [0,0,1,0,9,0,1,2,4,6,8] λf _ _=>JY 20 (λq m c=>∃ (_:Unit),q=[(2,pt (b 0) 0),(3,.bool ((ly.n:Int)==5))]/\m=[⟨(b 0),.cells (JU M ly tv) 28,.l,false⟩,⟨(f 0),.cells (JU M ly tv) 28,.z,false⟩]/\c=[Fa.ot ly tv ys M]) (λJ g=>?_) ?_
 .refine Hh 5 9 ?_ ?_
  .refine tR 7 [1,12,14,16,19,0,0,20] λA _ _=>tD g [true,true] ⟨(),rfl,rfl,rfl⟩ (λF=>⟨F.1,trivial⟩)
  .refine tR 7 [0,0,11,1,12,14,16,20] λB _ _=>tD g [true,true] ⟨(),rfl,rfl,rfl⟩ (λF=>⟨F.1,trivial⟩)
 rintro _ _ _ ⟨_,rfl,rfl,rfl⟩ _ _ _;have u:(((ly.n:Nat):Int)==5)=true:=by rw[j.n5];rfl
 exact tX λF C=>qE2 2 3 28 0 (b 0) (JU M ly tv) (.bool ((ly.n:Int)==5)) λ_=>⟨ly,tv,ys,by rw[u],Ts F.1,i.mono d,CgQ.ab C⟩
theorem fN(h:AcR w x L l)(f:∀ a∈L,LacOk a)(d:L.length<=100000)(c:Q9 w){M:Meet}(b:AQ.nn L=M) :
  Calls prog 4 #[x.v] w λe w'=>∃ (ly tv:S3) (ys:Nat->S3),e=.returned (.tuple #[.agg (JU M ly tv),.bool true])/\OutW w' M ly tv ys/\OutN w.heap.size M ly tv ys/\Bw w w':=fO (h.sk (by omega)) f d c b
theorem Tv(c:x.a=some ⟨b,off,none⟩)(j:Nat)(d:j<x.n):(Instr.indexAt 24 x.v (iv (j:Int))).run prog W=.ok (pt b (off+j)) W:=by
 obtain⟨f,h,g⟩:=x;simp only at c d;subst c;exact L2 (P:=prog) (e:=34) (z:=1) underlying24 (by kernel_rfl) (by kernel_rfl) d _ (by rw[nP])
theorem Gp(h:RdV w ly 1 [S3.v (ys 0),S3.v (ys 1),S3.v (ys 2),S3.v (ys 3),S3.v (ys 4)])(c:ly.a=some ⟨b,off,none⟩)(d:j<5):w.cell? ⟨b,off+j,none⟩=some (S3.v (ys j)):=by
 rcases h.ex with h1|⟨b',off',h1,h2,h3⟩
 .have:=h.len;simp at this;omega
 .rw[c]at h1;cases h1
  refine h3 j _ ?_;rcases nT d with rfl|rfl|rfl|rfl|rfl<;>rfl
def PR(M:Meet)(ly tv:S3):Array Value:=#[iv (M.bt.length:Int),.bool true,.bool (M.af 1).up,.bool (M.af 2).up,.bool (M.af 3).up,.bool (M.af 4).up,S3.v ly,iv ((M.af 0).bad:Int),iv ((M.af 1).bad:Int),iv ((M.af 2).bad:Int),iv ((M.af 3).bad:Int),iv ((M.af 4).bad:Int),S3.v tv]
theorem bD(b:(M.af 0).up=true)(a tv:S3):JU M a tv=PR M a tv:=by unfold JU PR;rw[b]
theorem fP(h:AcR w x L l)(i:∀ a∈L,LacOk a)(g:L.length<=100000)(f:Q9 w){M:Meet}(d:AQ.nn L=M)(j:(M.af 0).up=true) :
  Calls prog 4 #[x.v] w λe w'=>∃ (ly tv:S3) (ys:Nat->S3),e=.returned (.tuple #[.agg (PR M ly tv),.bool true])/\OutW w' M ly tv ys/\OutN w.heap.size M ly tv ys/\Bw w w' :=
 (fN h i g f d).mono λe w' ⟨ly,tv,ys,b,c⟩=>⟨ly,tv,ys,by rw[<- bD j];exact b,c⟩
end
end
section
structure Alw where
 ca:Bool
 ld:Bool
 cr:Bool
 st:Bool
structure NInv(A:Alw)(i:Nat)(D:List Int->Prop)(Q:Let->Prop)(P:Nod->Prop):Prop where
 take:A.ca=true->∀ p l,P p->Q l->l.dst=i->p.up=true->P (p.take l)
 one:∀ p c,P p->p.up=true->p.ae[p.done]?=some c->doE p.lr c=0->P (Nod.hZ { p with lr:=doS p.lr c,done:=p.done+1 } c)
 ask:∀ p,P p->p.up=true->P (p.nr i).1/\∀ l∈(p.nr i).2,Q l
 prop:∀ p,P p->p.up=true->P p.dT
 ou:∀ p,P p->p.up=true->P p.ou
 run:∀ p q l,P p->p.up=true->p.bn=q::l->¬ p.sy<(p.d.length:Int)->P { p.nR i q with bn:=l }/\∀ m∈p.nV i q,Q m
 oK:∀ p,P p->p.up=true->p.leads=true->P (Hj p i 5)/\∀ l∈Dv p i 5,Q l
 lead:A.ld=true->∀ p,P p->p.up=true->P (p.lead i)
 sub:∀ p d ts,P p->D d->p.up=true->P (p.oA i d ts).1
 lp:A.cr=true->∀ p k,P p->0<=k->p.up=true->P (p.lp k)
 start:A.st=true->∀ p,P p->p.up=false->P p.start
theorem Nv(p:Nod)(i:Nat)(q:Pend)(x:List Pend):({ p with bn:=x }:Nod).nR i q={ p.nR i q with bn:=x }:=by
 cases q with
 | began b vs=>unfold Nod.nR;simp only;split<;>rfl
 | prop v =>
  unfold Nod.nR Nod.count;simp only;split
  .rfl
  .split<;>rfl
 | _=>rfl
theorem EH(p:Nod)(i:Nat)(q:Pend):(p.nR i q).bn=p.bn/\(p.nR i q).up=p.up/\(p.nR i q).d=p.d/\(p.nR i q).sy=p.sy:=by
 cases q with
 | began b vs=>unfold Nod.nR;simp only;split<;>exact⟨rfl,rfl,rfl,rfl⟩
 | prop v =>
  unfold Nod.nR Nod.count;simp only;split
  .exact⟨rfl,rfl,rfl,rfl⟩
  .split<;>exact⟨rfl,rfl,rfl,rfl⟩
 | _=>exact⟨rfl,rfl,rfl,rfl⟩
theorem LF(p:Nod)(i:Nat)(q:Pend)(x:List Pend):({ p with bn:=x }:Nod).nV i q=p.nV i q:=by cases q<;>rfl
theorem El(p:Nod)(c:Cmd):(p.hZ c).up=p.up/\(p.hZ c).ae=p.ae/\(p.hZ c).done=p.done/\(p.hZ c).lr=p.lr:=by unfold Nod.hZ;split<;>exact⟨rfl,rfl,rfl,rfl⟩
theorem Rh(p:Nod)(l:List Cmd):(p.eo l).up=p.up:=by unfold Nod.eo;split<;>rfl
theorem NR(p:Nod)(i:Nat):(p.nr i).1.up=p.up:=by
 unfold Nod.nr;split
 .rfl
 .split
  .exact Rh _ _
  .rfl
theorem de(p:Nod)(v:Vt):(p.bN v).1.up=p.up:=by
 unfold Nod.bN;split
 .rfl
 .split
  .rfl
  .split<;>rfl
theorem Hb(p:Nod):p.dT.up=p.up:=by
 unfold Nod.dT;split
 .rfl
 .split
  .rfl
  .split
   .rfl
   .exact de p _
theorem gg(p:Nod):p.ou.up=p.up:=by unfold Nod.ou;split<;>rfl
section
variable{A:Alw}{i:Nat}{D:List Int->Prop}{Q:Let->Prop}{P:Nod->Prop}
theorem NInv.oq(h:NInv A i D Q P)(l:List Cmd)(p:Nod)(e:List Tol)(d:P p)(a:p.up=true)(f:p.ae.drop p.done=l):P (oq i l p e).1/\(Go.Proofs.YthohlalejhgbmaaGreatDoor.oq i l p e).1.up=true:=by
 induction l generalizing p e with
 | nil=>exact⟨d,a⟩
 | cons c l ih =>
  rw[Go.Proofs.YthohlalejhgbmaaGreatDoor.oq];split
  .exact⟨d,a⟩
  .rename_i he
   have g:p.ae[p.done]?=some c:=by
    have:=congrArg (·[0]?) f;simpa using this
   have b:=El { p with lr:=doS p.lr c,done:=p.done+1 } c;refine ih _ _ (h.one p c d a g (jR.1 he)) (b.1.trans a) ?_;rw[b.2.1,b.2.2.1];show p.ae.drop (p.done+1)=l;rw[<- l6,f];rfl
theorem NInv.mv(h:NInv A i D Q P)(l:List Pend)(p:Nod)(a:List Let)(c:P { p with bn:=l })(e:p.up=true)(n:p.bn=[])(k:¬ p.sy<(p.d.length:Int))(j:∀ m∈a,Q m):P (mv i l p a).1/\(∀ m∈(Go.Proofs.YthohlalejhgbmaaGreatDoor.mv i l p a).2,Q m)/\(Go.Proofs.YthohlalejhgbmaaGreatDoor.mv i l p a).1.up=true:=by
 induction l generalizing p a with
 | nil =>
  refine⟨?_,j,e⟩;have:({ p with bn:=[] }:Nod)=p:=by cases p;simp_all
  rw[this]at c;exact c
 | cons q l ih =>
  have b:=EH p i q;obtain⟨f,g⟩:=h.run { p with bn:=q::l } q l c e rfl k;rw[Nv]at f
  rw[LF]at g
  exact ih (p.nR i q) (a++p.nV i q) f (b.2.1.trans e) (b.1.trans n) (by rw[b.2.2.1,b.2.2.2];exact k) λm o=>(Q'.1 o).elim (j m) (g m)
theorem NInv.piece(h:NInv A i D Q P)(p:Nod)(ls:List Let)(ts:List Tol)(x:P p)(y:p.up=true)(w:∀ m∈ls,Q m):P (p.piece i ls ts).1/\∀ m∈(p.piece i ls ts).2.1,Q m:=by
 obtain⟨q,l⟩:=h.oq _ p ts x y rfl;unfold Nod.piece;simp only;obtain⟨s,t⟩:=h.ask _ q l;have n:=(NR (Go.Proofs.YthohlalejhgbmaaGreatDoor.oq i (p.ae.drop p.done) p ts).1 i).trans l;have c1:=h.prop _ s n;have c:=(Hb ((Go.Proofs.YthohlalejhgbmaaGreatDoor.oq i (p.ae.drop p.done) p ts).1.nr i).1).trans n;have a:∀ m∈ls++((Go.Proofs.YthohlalejhgbmaaGreatDoor.oq i (p.ae.drop p.done) p ts).1.nr i).2,Q m:=λm f=>(Q'.1 f).elim (w m) (t m);generalize ls++((Go.Proofs.YthohlalejhgbmaaGreatDoor.oq i (p.ae.drop p.done) p ts).1.nr i).2=k at a ⊢;generalize ((Go.Proofs.YthohlalejhgbmaaGreatDoor.oq i (p.ae.drop p.done) p ts).1.nr i).1.dT=r at c1 c ⊢;have b:P (r.nS i k).1/\(∀ m∈(r.nS i k).2,Q m)/\(r.nS i k).1.up=true:=by
  unfold Nod.nS;split
  .exact⟨c1,a,c⟩
  .rename_i hn
   have g:=h.ou r c1 c;have j:r.ou.bn=r.bn:=by unfold Nod.ou;split<;>rfl
   refine h.mv r.bn { r.ou with bn:=[] } k (by rw[<- j];exact g) ((gg r).trans c) rfl ?_ a;show ¬ r.ou.sy<(r.ou.d.length:Int);unfold Nod.ou;split
   .rename_i h1
    have:CZ r.d r.sy=0:=jR.1 λe=>hn ⟨h1,e⟩;have o:AZ r.d r.sy:=by
     unfold CZ at this;split at this
     .assumption
     .cases this
    show ¬ Iv r.d r.sy<((Hg r.d r.sy).length:Int);unfold Iv Hg;rw[if_pos o,if_pos o];exact Int.lt_irrefl _
   .rename_i h1;exact h1
 unfold Nod.cl;split
 .rename_i hL
  obtain⟨u,v⟩:=h.oK _ b.1 b.2.2 hL;exact⟨u,λm f=>(Q'.1 f).elim (b.2.1 m) (v m)⟩
 .exact⟨b.1,b.2.1⟩
end
section
structure GInv(Q:Let->Prop)(P:Nat->Nod->Prop)(M:Meet):Prop where
 af:∀ i,i<5->P i (M.af i)
 bt:∀ l∈M.bt,Q l
variable{A:Alw}{D:Nat->List Int->Prop}{M:Meet}{P:Nat->Nod->Prop}{Q:Let->Prop}{R:List Tol->Prop}{i:Nat}
theorem GInv.set(h:GInv Q P M){i:Nat}{p:Nod}{ls:List Let}{ts:List Tol}(c:P i p)(b:∀ l∈ls,Q l):GInv Q P (M.set i p ls ts) :=
 ⟨λj a=>by
  show P j (upN M.af i p j);unfold upN;split
  .rename_i e;rw[e];exact c
  .exact h.af j a,b⟩
theorem GInv.nQ(b:∀ i,i<5->NInv A i (D i) Q (P i))(c:A.ca=true){M:Meet}(h:GInv Q P M){l:Let}(d:Q l)(a:l.dst<5):GInv Q P (M.nQ l):=by
 unfold Meet.nQ;split
 .rename_i hu
  exact h.set (ls:=M.bt) (ts:=M.cF) ((b _ a).take c _ l (h.af _ a) d rfl hu) h.bt
 .exact h
theorem GInv.comes(b:∀ i,i<5->NInv A i (D i) Q (P i))(c:A.ca=true)(l:List Let){M:Meet}(h:GInv Q P M)(a:∀ m∈l,Q m/\m.dst<5):GInv Q P (l.foldl (λM l=>M.nQ l) M):=by
 induction l generalizing M with
 | nil=>exact h
 | cons x l ih=>exact ih (h.nQ b c (a x P').1 (a x P').2) λm d=>a m (O' _ d)
structure Alw.Ok(A:Alw)(x:Lac):Prop where
 ca:x.k=4\/x.k=6\/x.k=7->A.ca=true
 ld:x.k=2->A.ld=true
 cr:x.k=8->A.cr=true
 st:x.k=9->A.st=true
theorem GInv.act(g:∀ i,i<5->NInv A i (D i) Q (P i)){n:Nat}{M:Meet}(h:GInv Q P M)(B:MOk n M){x:Lac}(C:LacOk x)(q:A.Ok x)(F:x.k=1->D x.n.toNat x.d):GInv Q P (M.act x):=by
 have b:∀ {k:Int},x.k=k->F1 k=true->x.n.toNat<5:=λ{k} e E=>by have:=C.n (by rw[e];exact E);omega
 unfold Meet.act;simp only;by_cases r:x.k=1
 .rw[if_pos r];have c:=b r rfl;refine h.set ?_ h.bt;unfold Nod.oA;by_cases f:(M.af x.n.toNat).up=true
  .exact(g _ c).sub _ x.d M.cF (h.af _ c) (F r) f
  .unfold Nod.oz;rw[if_pos (by simpa using f)];exact h.af _ c
 .rw[if_neg r];by_cases s:x.k=2
  .rw[if_pos s];have c:=b s rfl;refine h.set ?_ h.bt;split
   .rename_i f;exact(g _ c).lead (q.ld s) _ (h.af _ c) f
   .exact h.af _ c
  .rw[if_neg s];by_cases u:x.k=3
   .rw[if_pos u];have c:=b u rfl;by_cases f:(M.af x.n.toNat).up=true
    .have:=(g _ c).piece _ M.bt M.cF (h.af _ c) f h.bt;rw[if_pos f,if_pos f,if_pos f];exact h.set this.1 this.2
    .rw[if_neg f,if_neg f,if_neg f];exact h.set (h.af _ c) h.bt
   .rw[if_neg u];by_cases w:x.k=4\/x.k=5\/x.k=6
    .rw[if_pos w];unfold Meet.move;split
     .exact h
     .rename_i l v
      have j:=jJ v;have z:GInv Q P (if x.k≠6 then{ M with bt:=M.bt.eraseIdx (x.a.toNat%M.bt.length) }else M):=by
       split
       .exact⟨h.af,λm j=>h.bt m (mw j)⟩
       .exact h
      simp only;split
      .rename_i h5
       exact z.nQ g (q.ca (by omega)) (h.bt l j) (B.bt l j).dst
      .exact z
    .rw[if_neg w];by_cases y:x.k=7
     .rw[if_pos y];unfold Meet.oh;exact GInv.comes g (q.ca (by omega)) _ ⟨h.af,λl v=>by cases v⟩ λm j=>⟨h.bt m j,(B.bt m j).dst⟩
     .rw[if_neg y];by_cases o:x.k=8
      .rw[if_pos o];have c:=b o rfl;refine h.set ?_ h.bt;split
       .rename_i f;exact(g _ c).lp (q.cr o) _ x.p (h.af _ c) (C.p (by rw[o];rfl)).1 f
       .exact h.af _ c
      .rw[if_neg o];by_cases t:x.k=9
       .rw[if_pos t];have c:=b t rfl;refine h.set ?_ h.bt;split
        .exact h.af _ c
        .rename_i f;exact(g _ c).start (q.st t) _ (h.af _ c) (by simpa using f)
       .rw[if_neg t];exact h
structure TInv(i:Nat)(D:List Int->Prop)(P:Nod->Prop)(R:List Tol->Prop):Prop where
 one:∀ p c ts,P p->p.up=true->p.ae[p.done]?=some c->doE p.lr c=0->(p.bw c).isSome=true->R ts->R (ts++[⟨i,c.c,c.s,doC p.lr c,doA p.lr c⟩])
 sub:∀ p d ts,P p->D d->p.up=true->opE d (p.done:Int)=0->GX d (p.done:Int)∈p.ae.take p.done->R ts->R (ts++[⟨i,(GX d (p.done:Int)).c,(GX d (p.done:Int)).s,doC p.lr (GX d (p.done:Int)),doA p.lr (GX d (p.done:Int))⟩])
theorem TInv.oq{D:List Int->Prop}{P:Nod->Prop}(h:NInv A i D Q P)(t:TInv i D P R)(l:List Cmd)(p:Nod)(b:List Tol)(j:P p)(e:p.up=true)(g:p.ae.drop p.done=l)(a:R b):R (oq i l p b).2:=by
 induction l generalizing p b with
 | nil=>exact a
 | cons c l ih =>
  rw[Go.Proofs.YthohlalejhgbmaaGreatDoor.oq];split
  .exact a
  .rename_i he
   have f:p.ae[p.done]?=some c:=by
    have:=congrArg (·[0]?) g;simpa using this
   have d:=El { p with lr:=doS p.lr c,done:=p.done+1 } c;refine ih _ _ (h.one p c j e f (jR.1 he)) (d.1.trans e) ?_ ?_
   .rw[d.2.1,d.2.2.1];show p.ae.drop (p.done+1)=l;rw[<- l6,g];rfl
   .split
    .rename_i ha;exact t.one p c b j e f (jR.1 he) ha a
    .exact a
theorem MO(M:Meet)(l:Let):(M.nQ l).cF=M.cF:=by unfold Meet.nQ;split<;>rfl
theorem QW(l:List Let)(M:Meet):(l.foldl (λM l=>M.nQ l) M).cF=M.cF:=by
 induction l generalizing M with
 | nil=>rfl
 | cons x l ih=>exact(ih _).trans (MO M x)
theorem UJ(M:Meet)(k:Int)(a:Nat):(M.move k a).cF=M.cF:=by
 unfold Meet.move;split
 .rfl
 .simp only;split
  .rw[MO];split<;>rfl
  .split<;>rfl
theorem VI(M:Meet){x:Lac}(a:x.k≠1)(b:x.k≠3):(M.act x).cF=M.cF:=by
 unfold Meet.act;simp only;rw[if_neg a];split
 .rfl
 .split
  .exact UJ _ _ _
  .split
   .exact QW _ _
   .split
    .rfl
    .split<;>rfl
theorem GInv.cF(g:∀ i,i<5->NInv A i (D i) Q (P i))(c:∀ i,i<5->TInv i (D i) (P i) R){M:Meet}(h:GInv Q P M)(a:R M.cF){x:Lac}(e:LacOk x)(f:x.k=1->D x.n.toNat x.d):R (M.act x).cF:=by
 by_cases b:x.k=1
 .have hi:x.n.toNat<5:=by have:=e.n (by rw[b];rfl);omega
  unfold Meet.act;simp only;rw[if_pos b];show R (Nod.oA _ _ _ _).2;unfold Nod.oA Nod.oz;split
  .exact a
  .rename_i hu
   split
   .exact a
   .rename_i he
    split
    .rename_i hm
     exact(c _ hi).sub _ _ _ (h.af _ hi) (f b) (by simpa using hu) (jR.1 he) hm a
    .exact a
 .by_cases h3:x.k=3
  .have hi:x.n.toNat<5:=by have:=e.n (by rw[h3];rfl);omega
   unfold Meet.act;simp only;rw[if_neg b,if_neg (by omega),if_pos h3];show R (if _ then _ else _);split
   .rename_i hu
    exact TInv.oq (g _ hi) (c _ hi) _ _ _ (h.af _ hi) hu rfl a
   .exact a
  .rw[VI M b h3];exact a
theorem GInv.nn(c:∀ i,i<5->NInv A i (D i) Q (P i))(g:∀ i,i<5->TInv i (D i) (P i) R)(L:List Lac){n:Nat}{M:Meet}(b:MOk n M)(j:n+L.length<=1000000)(h:GInv Q P M)(e:R M.cF)(f:∀ x∈L,LacOk x/\A.Ok x/\(x.k=1->D x.n.toNat x.d)):GInv Q P (M.nn L)/\R (M.nn L).cF/\MOk (n+L.length) (M.nn L):=by
 induction L generalizing n M with
 | nil=>exact⟨h,e,b⟩
 | cons x L ih =>
  have a:=f x P';rw[ke]at j
  have:=ih (b.act (by omega) a.1) (by omega) (h.act c b a.1 a.2.1 a.2.2) (h.cF c g e a.1 a.2.2) λy l=>f y (O' _ l);rw[ke,show n+(L.length+1)=n+1+L.length by omega];exact this
theorem TInv.all(i:Nat)(D:List Int->Prop)(P:Nod->Prop):TInv i D P λ_=>True:=⟨λ_ _ _ _ _ _ _ _ _=>trivial,λ_ _ _ _ _ _ _ _ _=>trivial⟩
structure Wh where
 d:Nat->List Int->Prop
 ld:Prop
 cr:Prop
 dr:Prop
 tk:Prop
 st:Prop
def Wh.may(D:Wh)(x:Lac):Prop:=(x.k=1->D.d x.n.toNat x.d)/\(x.k=2->D.ld)/\(x.k=8->D.cr)/\(x.k=4\/x.k=5\/x.k=6\/x.k=7->D.dr/\D.tk)/\(x.k=9->D.st)
inductive Stp (D:Wh):Nat->Meet->Meet->Prop
 | take (M:Meet) (l:Let) (hl:l∈M.bt) (hd:l.src<5/\l.dst<5) (hu:(M.af l.dst).up=true) (ht:D.tk):Stp D 0 M (M.set l.dst ((M.af l.dst).take l) M.bt M.cF)
 | bt (M:Meet) (ls:List Let) (h:∀ l∈ls,l∈M.bt) (hd:D.dr):Stp D 0 M { M with bt:=ls }
 | one (M:Meet) (i:Nat) (c:Cmd) (hi:i<5) (hu:(M.af i).up=true) (hc:(M.af i).ae[(M.af i).done]?=some c) (he:doE (M.af i).lr c=0) :
   Stp D 0 M (M.set i (Nod.hZ { M.af i with lr:=doS (M.af i).lr c,done:=(M.af i).done+1 } c) M.bt (if((M.af i).bw c).isSome=true then M.cF++[⟨i,c.c,c.s,doC (M.af i).lr c,doA (M.af i).lr c⟩]else M.cF))
 | ask (M:Meet) (i:Nat) (hi:i<5) (hu:(M.af i).up=true):Stp D 0 M (M.set i ((M.af i).nr i).1 (M.bt++((M.af i).nr i).2) M.cF)
 | prop (M:Meet) (i:Nat) (hi:i<5) (hu:(M.af i).up=true):Stp D 1 M (M.set i (M.af i).dT M.bt M.cF)
 | ou (M:Meet) (i:Nat) (hi:i<5) (hu:(M.af i).up=true) (h:(M.af i).sy<((M.af i).d.length:Int)) (hT:AZ (M.af i).d (M.af i).sy):Stp D 0 M (M.set i { M.af i with sy:=((M.af i).d.length:Int) } M.bt M.cF)
 | run (M:Meet) (i:Nat) (hi:i<5) (hu:(M.af i).up=true) (q:Pend) (l:List Pend) (hp:(M.af i).bn=q::l) (hs:¬ (M.af i).sy<((M.af i).d.length:Int)):Stp D 0 M (M.set i { (M.af i).nR i q with bn:=l } (M.bt++(M.af i).nV i q) M.cF)
 | oK (M:Meet) (i:Nat) (hi:i<5) (hu:(M.af i).up=true) (hL:(M.af i).leads=true):Stp D 0 M (M.set i (Hj (M.af i) i 5) (M.bt++Dv (M.af i) i 5) M.cF)
 | lead (M:Meet) (i:Nat) (hi:i<5) (hu:(M.af i).up=true) (hL:D.ld):Stp D 0 M (M.set i ((M.af i).lead i) M.bt M.cF)
 | sub (M:Meet) (i:Nat) (d:List Int) (hi:i<5) (hu:(M.af i).up=true) (hD:D.d i d):Stp D 0 M (M.set i ((M.af i).oA i d M.cF).1 M.bt ((M.af i).oA i d M.cF).2)
 | lp (M:Meet) (i:Nat) (k:Int) (hi:i<5) (hu:(M.af i).up=true) (hk:0<=k) (hC:D.cr):Stp D 0 M (M.set i ((M.af i).lp k) M.bt M.cF)
 | start (M:Meet) (i:Nat) (hi:i<5) (hu:(M.af i).up=false) (hs:D.st):Stp D 0 M (M.set i (M.af i).start M.bt M.cF)
inductive Sts (D:Wh):Nat->Meet->Meet->Prop
 | nil (n:Nat) (M:Meet):Sts D n M M
 | snoc {n c m:Nat} {M N K:Meet} (h:Sts D n M N) (s:Stp D c N K) (hm:n+c<=m):Sts D m M K
end
section
variable{D:Wh}
section
variable{K M N:Meet}{i m n:Nat}{α:Type}
theorem Sts.mono(h:Sts D n M N)(a:n<=m):Sts D m M N:=by
 cases h with
 | nil=>exact .nil m M
 | snoc h s hm=>exact .snoc h s (by omega)
theorem Sts.trans(h:Sts D n M N)(k:Sts D m N K):Sts D (n+m) M K:=by
 induction k with
 | nil=>exact h.mono (by omega)
 | snoc _ s hm ih=>exact(ih h).snoc s (by omega)
theorem Sts.s0(h:Sts D n M N)(s:Stp D 0 N K):Sts D n M K:=h.snoc s (A' _)
theorem Stp.s(h:Stp D 0 M N):Sts D n M N:=(Sts.nil n M).s0 h
theorem Sts.inv{I:Meet->Prop}(b:∀ c M N,Stp D c M N->I M->I N){n:Nat}{M N:Meet}(h:Sts D n M N)(a:I M):I N:=by
 induction h with
 | nil=>exact a
 | snoc _ s _ ih=>exact b _ _ _ s (ih a)
theorem LX(f:Nat->α)(i:Nat):upN f i (f i)=f:=by funext j;unfold upN;split<;>simp_all
theorem TA(f:Nat->α)(i:Nat)(x y:α):upN (upN f i x) i y=upN f i y:=by funext j;unfold upN;split<;>rfl
theorem Gv(M:Meet)(i:Nat)(p q:Nod)(c a:List Let)(d b:List Tol):(M.set i p c d).set i q a b=M.set i q a b:=by unfold Meet.set;simp only[TA]
theorem IU(M:Meet)(i:Nat)(p:Nod)(a:List Let)(b:List Tol):(M.set i p a b).af i=p:=Ey M.af i p
theorem MN(M:Meet)(l:Let):(M.nQ l).bt=M.bt:=by unfold Meet.nQ;split<;>rfl
theorem MQ(M:Meet)(l:Let)(a:List Let):({ M with bt:=a }:Meet).nQ l={ M.nQ l with bt:=a }:=by
 unfold Meet.nQ;show(if(M.af l.dst).up=true then _ else _)=_;split<;>rfl
theorem QX(l:List Let)(M:Meet)(a:List Let):l.foldl (λM l=>M.nQ l) ({ M with bt:=a }:Meet)={ l.foldl (λM l=>M.nQ l) M with bt:=a }:=by
 induction l generalizing M with
 | nil=>rfl
 | cons x l ih=>rw[nM,MQ,ih];rfl
theorem Sts.nQ(c:D.tk){n:Nat}{M N:Meet}(h:Sts D n M N){l:Let}(b:l∈N.bt)(a:l.src<5/\l.dst<5):Sts D n M (N.nQ l):=by
 unfold Meet.nQ;split
 .rename_i hu;exact h.s0 (.take N l b a hu c)
 .exact h
theorem Sts.comes(c:D.tk)(l:List Let){n:Nat}{M N:Meet}(h:Sts D n M N)(a:∀ m∈l,m∈N.bt/\m.src<5/\m.dst<5):Sts D n M (l.foldl (λM l=>M.nQ l) N):=by
 induction l generalizing N with
 | nil=>exact h
 | cons x l ih=>exact ih (h.nQ c (a x P').1 (a x P').2) λm b=>by rw[MN];exact a m (O' _ b)
theorem Sts.oq(k:i<5)(l:List Cmd)(p:Nod){M:Meet}{d:List Let}{a:List Tol}(h:Sts D n M (M.set i p d a))(b:p.up=true)(g:p.ae.drop p.done=l) :
  Sts D n M (M.set i (oq i l p a).1 d (Go.Proofs.YthohlalejhgbmaaGreatDoor.oq i l p a).2)/\(Go.Proofs.YthohlalejhgbmaaGreatDoor.oq i l p a).1.up=true:=by
 induction l generalizing p a with
 | nil=>exact⟨h,b⟩
 | cons c l ih =>
  rw[Go.Proofs.YthohlalejhgbmaaGreatDoor.oq];split
  .exact⟨h,b⟩
  .rename_i he
   have j:p.ae[p.done]?=some c:=by have:=congrArg (·[0]?) g;simpa using this
   have f:=El { p with lr:=doS p.lr c,done:=p.done+1 } c;have e:=IU M i p d a;have s:=Stp.one (D:=D) (M.set i p d a) i c k (by rw[e];exact b) (by rw[e];exact j) (by rw[e];exact jR.1 he);rw[e,Gv]at s
   refine ih _ (h.s0 s) (f.1.trans b) ?_;rw[f.2.1,f.2.2.1];show p.ae.drop (p.done+1)=l;rw[<- l6,g];rfl
theorem Sts.mv(k:i<5)(l:List Pend)(p:Nod){M:Meet}{a:List Let}{c:List Tol}(h:Sts D n M (M.set i { p with bn:=l } a c))(f:p.up=true)(j:p.bn=[])(g:¬ p.sy<(p.d.length:Int)) :
  Sts D n M (M.set i (mv i l p a).1 (Go.Proofs.YthohlalejhgbmaaGreatDoor.mv i l p a).2 c)/\(Go.Proofs.YthohlalejhgbmaaGreatDoor.mv i l p a).1.up=true:=by
 induction l generalizing p a with
 | nil =>
  have:({ p with bn:=[] }:Nod)=p:=by cases p;simp_all
  rw[this]at h;exact⟨h,f⟩
 | cons q l ih =>
  have b:=EH p i q;have e:=IU M i { p with bn:=q::l } a c;have s:=Stp.run (D:=D) (M.set i { p with bn:=q::l } a c) i k (by rw[e];exact f) q l (by rw[e]) (by rw[e];exact g);rw[e,Gv,Nv,LF]at s
  exact ih (p.nR i q) (h.s0 s) (b.2.1.trans f) (b.1.trans j) (by rw[b.2.2.1,b.2.2.2];exact g)
theorem Sts.piece(c:i<5)(M:Meet)(x:(M.af i).up=true):Sts D 1 M (M.set i ((M.af i).piece i M.bt M.cF).1 ((M.af i).piece i M.bt M.cF).2.1 ((M.af i).piece i M.bt M.cF).2.2):=by
 have w:Sts D 0 M (M.set i (M.af i) M.bt M.cF):=by rw[show M.set i (M.af i) M.bt M.cF=M by unfold Meet.set;rw[LX]];exact .nil 0 M
 obtain⟨q,l⟩:=Sts.oq c _ (M.af i) w x rfl;unfold Nod.piece;simp only;generalize Go.Proofs.YthohlalejhgbmaaGreatDoor.oq i ((M.af i).ae.drop (M.af i).done) (M.af i) M.cF=a at q l ⊢;have e:=IU M i a.1 M.bt a.2;have s:=Stp.ask (D:=D) (M.set i a.1 M.bt a.2) i c (by rw[e];exact l);rw[e,Gv]at s
 have t:=q.s0 s;have n:=(NR a.1 i).trans l;clear e s q;generalize (a.1.nr i)=b at t n ⊢;have e:=IU M i b.1 (M.bt++b.2) a.2;have s:=Stp.prop (D:=D) (M.set i b.1 (M.bt++b.2) a.2) i c (by rw[e];exact n);rw[e,Gv]at s
 have g:=t.snoc s (m:=1) (by omega);have h:=(Hb b.1).trans n;clear e s t;change Sts D 1 M (M.set i b.1.dT (M.bt++b.2) a.2)at g;generalize b.1.dT=r at g h ⊢;generalize M.bt++b.2=k at g ⊢;have j:Sts D 1 M (M.set i (r.nS i k).1 (r.nS i k).2 a.2)/\(r.nS i k).1.up=true:=by
  unfold Nod.nS;split
  .exact⟨g,h⟩
  .rename_i hn
   have e:=IU M i r k a.2;unfold Nod.ou;split
   .rename_i h1
    have o:CZ r.d r.sy=0:=jR.1 λe=>hn ⟨h1,e⟩;have p:AZ r.d r.sy:=by
     unfold CZ at o;split at o
     .assumption
     .cases o
    have s:=Stp.ou (D:=D) (M.set i r k a.2) i c (by rw[e];exact h) (by rw[e];exact h1) (by rw[e];exact p);rw[e,Gv]at s
    have u:Hg r.d r.sy=r.d:=if_pos p;have v:Iv r.d r.sy=(r.d.length:Int):=if_pos p;rw[u,v];exact Sts.mv c r.bn { r with sy:=(r.d.length:Int),bn:=[] } (g.s0 s) h rfl (Int.lt_irrefl _)
   .rename_i h1
    exact Sts.mv c r.bn { r with bn:=[] } g h rfl h1
 generalize r.nS i k=f at j ⊢;unfold Nod.cl;split
 .rename_i hL
  have e:=IU M i f.1 f.2 a.2;have s:=Stp.oK (D:=D) (M.set i f.1 f.2 a.2) i c (by rw[e];exact j.2) (by rw[e];exact hL);rw[e,Gv]at s
  exact j.1.s0 s
 .exact j.1
theorem Ir(M:Meet)(i:Nat):M.set i (M.af i) M.bt M.cF=M:=by unfold Meet.set;rw[LX]
theorem Zo(g:MOk n M){x:Lac}(v:LacOk x)(j:D.may x):Sts D 1 M (M.act x):=by
 obtain⟨j,y,z,i,A⟩:=j;have b:∀ {k:Int},x.k=k->F1 k=true->x.n.toNat<5:=λ{k} e w=>by have:=v.n (by rw[e];exact w);omega
 unfold Meet.act;simp only;split
 .rename_i h1
  by_cases c:(M.af x.n.toNat).up=true
  .exact(Stp.sub M _ x.d (b h1 rfl) c (j h1)).s
  .unfold Nod.oA Nod.oz;rw[if_pos (by simpa using c)];rw[Ir];exact .nil 1 M
 .split
  .rename_i hk
   split
   .rename_i c;exact(Stp.lead M _ (b hk rfl) c (y hk)).s
   .rw[Ir];exact .nil 1 M
  .split
   .rename_i h3
    by_cases c:(M.af x.n.toNat).up=true
    .rw[if_pos c,if_pos c,if_pos c];exact Sts.piece (b h3 rfl) M c
    .rw[if_neg c,if_neg c,if_neg c,Ir];exact .nil 1 M
   .split
    .rename_i hk4
     obtain⟨o,r⟩:=i (by omega);unfold Meet.move;split
     .exact .nil 1 M
     .rename_i l q
      have f:=jJ q;have B:=And.intro (g.bt l f).src (g.bt l f).dst;have u:∀ N:Meet,Sts D 1 M N->N.bt=M.bt->Sts D 1 M (if x.k≠6 then{ N with bt:=M.bt.eraseIdx (x.a.toNat%M.bt.length) }else N):=λN h e=>by
       split
       .exact h.s0 (.bt N _ (λm f=>by rw[e];exact mw f) o)
       .exact h
      simp only;split
      .have:=u (M.nQ l) ((Sts.nil 1 M).nQ r f B) (MN M l);by_cases t:x.k≠6
       .rw[if_pos t]at this ⊢;rw[MQ];exact this
       .rw[if_neg t]at this ⊢;exact this
      .exact u M (.nil 1 M) rfl
    .split
     .rename_i hk7
      unfold Meet.oh;rw[QX];exact(Sts.comes (i (by omega)).2 M.bt (.nil 1 M) λm f=>⟨f,(g.bt m f).src,(g.bt m f).dst⟩).s0 (.bt _ [] (λl q=>by cases q) (i (by omega)).1)
     .split
      .rename_i hk
       split
       .rename_i c;exact(Stp.lp M _ x.p (b hk rfl) c (v.p (by rw[hk];rfl)).1 (z hk)).s
       .rw[Ir];exact .nil 1 M
      .split
       .rename_i h9
        split
        .rw[Ir];exact .nil 1 M
        .rename_i c;exact(Stp.start M _ (b h9 rfl) (by simpa using c) (A h9)).s
       .exact .nil 1 M
theorem K3(L:List Lac){n:Nat}{M:Meet}(b:MOk n M)(d:n+L.length<=1000000)(c:∀ x∈L,LacOk x/\D.may x):Sts D L.length M (M.nn L):=by
 induction L generalizing n M with
 | nil=>exact .nil _ M
 | cons x L ih =>
  have a:=c x P';rw[ke]at d
  rw[ke,nH];exact(Zo b a.1 a.2).trans (ih (b.act (by omega) a.1) (by omega) λy e=>c y (O' _ e))
end
end
section
def whT:Wh:=⟨λ_ _=>True,True,True,True,True,True⟩
theorem TJ(x:Lac):whT.may x:=⟨λ_=>trivial,λ_=>trivial,λ_=>trivial,λ_=>⟨trivial,trivial⟩,λ_=>trivial⟩
inductive Rk where
 | pr (b:Bal)
 | vt (v:Vt)
def Rk.body:Rk->List Int
 | .pr b=>Bo b
 | .vt v=>Bd v
def Rk.ap(a:Acc):Rk->Acc
 | .pr b=>⟨b,a.vs⟩
 | .vt v=>⟨v.b,Ba a.vs v⟩
def Rk.err(a:Acc):Rk->Int
 | .pr b=>Cl a b
 | .vt v=>AV a v
def Rk.ok(a:Acc):Rk->Prop
 | .pr b=>Cl a b=0/\a.p≠b
 | .vt v=>AV a v=0/\v∉a.vs
variable{D:Wh}{L:List Lac}{M N:Meet}{a:Acc}{b:Bal}{dr qs rs rs':List Rk}{i j n:Nat}{k:Int}{l:List Cmd}{p:Nod}{r:Rk}{v:Vt}{vs:List Vt}{x:Lac}
theorem Rk.ok.err(h:Rk.ok a r):Rk.err a r=0:=by cases r<;>exact h.1
def BH(rs:List Rk):Acc:=rs.foldl Rk.ap a0
theorem BS(a:List Rk)(r:Rk):BH (a++[r])=Rk.ap (BH a) r:=by unfold BH;rw[nv];rfl
def AU(rs:List Rk):Prop:=∀ i r,rs[i]?=some r->Rk.ok (BH (rs.take i)) r
theorem AU.nil:AU []:=λi r h=>by simp at h
theorem AU.left(h:AU (rs++qs)):AU rs:=λi r e=>by
 have a:=(U'.1 e).1;have:=h i r (by rw[jO a];exact e)
 rwa [kg (by omega)]at this
theorem AU.pre(h:AU qs)(a:rs <+: qs):AU rs:=by obtain⟨x,rfl⟩:=a;exact h.left
theorem AU.snoc(h:AU rs)(a:Rk.ok (BH rs) r):AU (rs++[r]):=λi q e=>by
 rcases kt i rs.length with hi|hi
 .rw[jO hi]at e
  rw[kg (by omega)];exact h i q e
 .have:=(U'.1 e).1;rw[M',mf]at this
  obtain rfl:i=rs.length:=by omega
  rw[jP (A' _)]at e
  simp at e;subst e;rw[kg (A' _),lI];exact a
theorem AU.last(h:AU (rs++[r])):Rk.ok (BH rs) r:=by
 have:=h rs.length r (by simp)
 rwa [kg (A' _),lI]at this
theorem AU.ind{P:List Rk->Prop}(b:P [])(c:∀ a r,AU a->Rk.ok (BH a) r->P a->P (a++[r])){a:List Rk}(h:AU a):P a:=by
 have:∀ k,k<=a.length->P (a.take k):=by
  intro k;induction k with
  | zero=>intro _;exact b
  | succ k ih =>
   intro d;have e:a.take (k+1)=a.take k++[a[k]]:=by rw[jT (by omega)]
   rw[e];exact c _ _ (h.pre (mr _ _)) (h k _ (E' (by omega))) (ih (by omega))
 have:=this a.length (A' _)
 rwa [lI]at this
theorem Ah.qe(h:Ah a)(c:Ad b)(i:¬ b.lt a.p):Ah ⟨b,a.vs⟩:=by
 refine⟨.inl c,λv d=>⟨(h.2.1 v d).1,λg=>?_⟩,h.2.2⟩;have e:=(h.2.1 v d).1.2.1;have f:=(h.2.1 v d).2;rw[IJ c.pr e.pr]at g
 rw[IJ h.1 e.pr]at f
 rw[IJ c.pr h.1]at i
 omega
theorem Ah.pZ(h:Ah a)(d:Ak v)(e:¬ v.b.lt a.p):Ah ⟨v.b,Ba a.vs v⟩:=by
 refine⟨.inl d.2.1,λu c=>?_,IF v h.2.2⟩;rcases(BR h.2.2).1 c with rfl|⟨c,_⟩
 .refine⟨d,λg=>?_⟩;change u.b.lt u.b at g;unfold Bal.lt at g;omega
 .exact(h.qe d.2.1 e).2.1 u c
theorem Kh:Ah a0:=⟨.inr ⟨rfl,rfl⟩,λv a=>(N' a).elim,trivial⟩
theorem Rk.may(h:Ah a){r:Rk}(c:Rk.err a r=0):Ah (Rk.ap a r):=by
 cases r with
 | pr b=>have:=Dj c;exact h.qe this.2.1 this.2.2
 | vt v=>have:=AC c;exact h.pZ this.2.1 this.2.2
theorem AU.acc(h:AU rs):Ah (BH rs):=h.ind (P:=λrs=>Ah (BH rs)) Kh λrs r _ a b=>by rw[BS];exact Rk.may b a.err
theorem BN{a:Bal}(c:At a)(d:At b)(h:¬ a.lt b):b.key<=a.key:=by rw[IJ c d]at h;omega
theorem Rk.pd(h:Ah a){r:Rk}(c:Rk.err a r=0):a.p.key<=(Rk.ap a r).p.key:=by
 cases r with
 | pr b=>have:=Dj c;exact BN this.2.1.pr h.1 this.2.2
 | vt v=>have:=AC c;exact BN this.2.1.2.1.pr h.1 this.2.2
theorem LE(h:AU rs):∀ v∈(BH rs).vs,Rk.vt v∈rs:=h.ind (P:=λrs=>∀ v∈(BH rs).vs,Rk.vt v∈rs) (λv a=>by cases a) λrs r d e c v a=>by
 rw[BS]at a
 cases r with
 | pr b=>exact ks _ (c v a)
 | vt u =>
  rcases(BR d.acc.2.2).1 a with rfl|⟨a,_⟩
  .exact kw _ P'
  .exact ks _ (c v a)
theorem Ah.le(h:Ah a){v:Vt}(c:v∈a.vs):v.b.key<=a.p.key:=BN h.1 (h.2.1 v c).1.2.1.pr (h.2.1 v c).2
theorem Le(h:Ah a){v:Vt}(f:AV a v=0){u:Vt}(c:u∈a.vs):∃ x∈Ba a.vs v,x.au=u.au/\u.b.key<=x.b.key:=by
 have d:=AC f;by_cases e:u.au=v.au
 .exact⟨v,(BR h.2.2).2 (.inl rfl),e.symm,ko (h.le c) (BN d.2.1.2.1.pr h.1 d.2.2)⟩
 .exact⟨u,(BR h.2.2).2 (.inr ⟨c,e⟩),rfl,kH _⟩
theorem Yt(h:AU rs):∀ v,Rk.vt v∈rs->v.b.key<=(BH rs).p.key/\∃ u∈(BH rs).vs,u.au=v.au/\v.b.key<=u.b.key:=h.ind (P:=λrs=>∀ v,Rk.vt v∈rs->v.b.key<=(BH rs).p.key/\∃ u∈(BH rs).vs,u.au=v.au/\v.b.key<=u.b.key) (λv hv=>by cases hv) λrs r c a e v hv=>by
 have d:=Rk.pd c.acc a.err;rw[BS];rcases Q'.1 hv with hv|hv
 .obtain⟨h1,u,h2,h3,h4⟩:=e v hv;refine⟨ko h1 d,?_⟩;cases r with
  | pr b=>exact⟨u,h2,h3,h4⟩
  | vt w =>
   obtain⟨x,f,g,i⟩:=Le c.acc a.err h2;exact⟨x,f,g.trans h3,ko h4 i⟩
 .rw[<- G'.1 hv]at a ⊢
  exact⟨kH _,v,(BR c.acc.2.2).2 (.inl rfl),rfl,kH _⟩
theorem EG(h:AU (rs++qs)):(BH rs).p.key<=(BH (rs++qs)).p.key/\∀ v,Rk.vt v∈qs->(BH rs).p.key<=v.b.key:=by
 have:∀ k,k<=qs.length->(BH rs).p.key<=(BH (rs++qs.take k)).p.key/\∀ v,Rk.vt v∈qs.take k->(BH rs).p.key<=v.b.key:=by
  intro k;induction k with
  | zero=>intro _;rw[kZ,ki];exact⟨kH _,λv hv=>by cases hv⟩
  | succ k ih =>
   intro i;obtain⟨c,g⟩:=ih (by omega);have e:qs.take (k+1)=qs.take k++[qs[k]]:=by rw[jT (by omega)]
   have a:AU (rs++qs.take k++[qs[k]]):=h.pre (by rw[jI,<- e];exact List.prefix_append_right_inj rs |>.2 (mr _ _));have d:=Rk.pd a.left.acc a.last.err;rw[<- BS]at d
   rw[e,<- jI];refine⟨ko c d,λv hv=>?_⟩;rcases Q'.1 hv with hv|hv
   .exact g v hv
   .have hl:=a.last;rw[<- G'.1 hv]at hl
    have f:=AC hl.err;exact ko c (BN f.2.1.2.1.pr a.left.acc.1 f.2.2)
 have:=this qs.length (A' _)
 rwa [lI]at this
def fl(rs:List Rk):List Int:=Az (rs.map Rk.body)
theorem aw(a:List Rk)(r:Rk):fl (a++[r])=fl a++AG r.body:=by unfold fl;rw[jW,Ci];simp[Az]
theorem Ro(b a:List Rk):fl (b++a)=fl b++fl a:=by unfold fl;rw[jW,Ci]
theorem WP(h:rs <+: qs):(fl rs).length<=(fl qs).length:=by obtain⟨x,rfl⟩:=h;rw[Ro,M'];omega
theorem gZ(h:rs <+: qs)(a:(fl qs).length<=(fl rs).length):rs=qs:=by
 obtain⟨x,rfl⟩:=h;rw[Ro,M']at a
 have:=Pr (x.map Rk.body);rw[ka]at this
 unfold fl at a;obtain rfl:x=[]:=Z' (by omega);rw[ki]
theorem AU.qg(h:AU rs):Chn ((List.range (rs.length+1)).map λj=>BH (rs.take j)) (rs.map Rk.body):=by
 refine⟨by simp,by simp[BH],λi b a c g f l=>?_⟩;simp only[kh,lu]at g f l;obtain⟨r,e,rfl⟩:=g;obtain⟨j,n,rfl⟩:=f;obtain⟨k,o,rfl⟩:=l;have m:=(U'.1 e).1;rw[lx (by omega)]at n o
 cases n;cases o;have d:=(h i r e).err;have p:rs[i]=r:=by rw[E' m]at e;exact kK e
 rw[jT m,BS,p];generalize BH (rs.take i)=a at d ⊢;cases r with
 | pr b=>show Dr a (Bo b)=_;rw[W9 a (Dj d).2.1];exact if_pos d
 | vt v=>show Dr a (Bd v)=_;rw[WB a (AC d).2.1];exact if_pos d
structure TpU(p:Nod)(dr rs:List Rk):Prop where
 ok:AU rs
 pre:dr <+: rs
 d:p.d=fl rs
 sy:p.sy=((fl dr).length:Int)
 vo:p.vo=BH rs
 len:p.d.length<=100000
structure TpD(p:Nod)(dr:List Rk):Prop where
 ok:AU dr
 pE:DY p.d=((fl dr).length,BH dr)
 tk:p.d.take (fl dr).length=fl dr
 sy:p.sy=(p.d.length:Int)
 len:p.d.length<=100000
theorem TpU.pT(h:TpU p dr rs):AZ p.d p.sy:=by
 have:=WP h.pre;have:=h.d;refine⟨h.len,by rw[h.sy];omega,?_⟩;rw[h.sy,h.d];omega
theorem TpU.zero:TpU Dc [] []:=⟨AU.nil,kX _,rfl,rfl,rfl,by decide⟩
theorem TpU.all(h:TpU p dr rs)(a:¬ p.sy<(p.d.length:Int)):dr=rs:=gZ h.pre (by rw[h.sy,h.d]at a;omega)
theorem TpU.lp(h:TpU p dr rs){k:Int}(u:0<=k):∃ dr',dr <+: dr'/\dr' <+: rs/\TpD (p.lp k) dr':=by
 have o:=h.pT;have b:Gx p.d p.sy k=0:=by unfold Gx;rw[if_neg (λe=>e o),if_neg (by omega)]
 have f:=o;unfold AZ at f;have t:p.sy<=FA p.d p.sy k/\FA p.d p.sy k<=(p.d.length:Int):=by unfold FA;split<;>omega
 obtain⟨j,a,r,l,m,n,h5⟩:=h.ok.qg.pX (FA p.d p.sy k).toNat;rw[ka]at r h5
 rw[kh,lx (by omega)]at l
 obtain rfl:BH (rs.take j)=a:=by simpa using l
 have i:Az ((rs.map Rk.body).take j)=fl (rs.take j):=by unfold fl;rw[mZ]
 rw[i]at m n
 have c:(p.lp k).d=(fl rs).take (FA p.d p.sy k).toNat:=by
  unfold Nod.lp;rw[if_neg (λe=>e b)];show JH p.d p.sy k=_;unfold JH;rw[if_pos b,h.d]
 have s:(p.lp k).sy=FA p.d p.sy k:=by
  unfold Nod.lp;rw[if_neg (λe=>e b)];show JI p.d p.sy k=_;unfold JI;rw[if_pos b]
 have q:((fl rs).take (FA p.d p.sy k).toNat).length=(FA p.d p.sy k).toNat:=by rw[X',<- h.d];omega
 refine⟨rs.take j,?_,mr _ _,h.ok.pre (mr _ _),by rw[c];exact m,?_,?_,?_⟩
 .obtain⟨x,hx⟩:=h.pre;rcases kt j dr.length with g|g
  .exfalso;rcases h5 with h5|h5
   .rw[<- hx,M']at h5;omega
   .have hp:rs.take (j+1) <+: dr:=by rw[<- hx,kg (by omega)];exact mr _ _
    have:=WP hp;rw[show Az ((rs.map Rk.body).take (j+1))=fl (rs.take (j+1))by unfold fl;rw[mZ]]at h5
    have:=h.sy;omega
  .rw[<- hx,List.take_append];rw[jS g];exact mc _ _
 .rw[c,lO,kQ n];have e:fl rs=fl (rs.take j)++fl (rs.drop j):=by rw[<- Ro,kO]
  rw[show(fl rs).take (fl (rs.take j)).length=(fl (rs.take j)++fl (rs.drop j)).take (fl (rs.take j)).length by rw[<- e],kg (A' _),lI]
 .rw[s,c,q];omega
 .rw[c,q];have:=h.len;omega
theorem TpD.start(h:TpD p dr):TpU p.start dr dr:=by
 have c:AZ p.d p.sy:=⟨h.len,by rw[h.sy];omega,by rw[h.sy];omega⟩;have g:CZ p.d p.sy=0:=if_pos c;have i:M0 p.d p.sy=((fl dr).length:Int):=by unfold M0;rw[if_pos c,h.pE]
 have j:FP p.d p.sy=BH dr:=by unfold FP;rw[if_pos c,h.pE]
 have a:=Tx p.d;rw[h.pE]at a
 have a:(fl dr).length<=p.d.length:=a;have f:=h.len;unfold Nod.start;rw[if_neg (λe=>e g),i,j];split
 .rename_i hlt
  have b:IR p.d p.sy=fl dr:=by unfold IR;rw[if_pos c,h.pE];exact h.tk
  have k:L9 p.d p.sy=((fl dr).length:Int):=by unfold L9;rw[if_pos c,h.pE];exact if_pos (by rw[h.sy];exact hlt)
  exact⟨h.ok,kX _,b,k,rfl,by show(IR p.d p.sy).length<=_;rw[b];omega⟩
 .rename_i hge
  have b:p.d=fl dr:=by have:=h.tk;rwa [jS (by omega)]at this
  exact⟨h.ok,kX _,b,by show p.sy=_;rw[h.sy,<- b],rfl,f⟩
theorem TpU.ou(h:TpU p dr rs):TpU { p with sy:=(p.d.length:Int) } rs rs:=⟨h.ok,kX _,h.d,by show(p.d.length:Int)=_;rw[h.d],h.vo,h.len⟩
def Nod.tv(p:Nod)(d:List Int)(s:Int)(a:Acc):Nod:={ p with d:=d,sy:=s,vo:=a }
theorem TpU.write(h:TpU p dr rs){r:Rk}(a:Rk.ok p.vo r)(b:p.d.length+(r.body.length+5)<=100000):TpU (p.tv (p.d++AG r.body) p.sy (Rk.ap p.vo r)) dr (rs++[r]):=by
 rw[h.vo]at a
 refine⟨h.ok.snoc a,h.pre.trans (mc _ _),?_,h.sy,?_,?_⟩
 .show p.d++_=_;rw[h.d,aw]
 .show Rk.ap p.vo r=_;rw[h.vo,BS]
 .show(p.d++AG r.body).length<=_;rw[M',Be];omega
theorem TpU.av(h:TpU p dr rs)(b:Bal):((p.av b).2.2≠0/\(p.av b).1=p) \/
  ((p.av b).2.2=0/\Cl p.vo b=0/\(p.av b).2.1=p.vo.vs/\∃ rs',rs <+: rs'/\TpU (p.av b).1 dr rs'/\(∀ v,Rk.vt v∈rs'↔Rk.vt v∈rs)/\(BH rs').p=b/\(BH rs').vs=p.vo.vs/\∃ d a,(p.av b).1=p.tv d p.sy a):=by
 unfold Nod.av;split
 .rename_i c;exact .inl ⟨c,rfl⟩
 .rename_i c
  have c:=jR.1 c;split
  .rename_i h2
   refine .inr ⟨rfl,c,rfl,rs,kX _,?_,λ_=>Iff.rfl,?_,?_,p.d,p.vo,?_⟩
   .rw[h2];exact h
   .rw[<- h.vo];exact h2.symm
   .rw[<- h.vo]
   .rw[h2];rfl
  .rename_i h2
   split
   .rename_i f;exact .inl ⟨f,rfl⟩
   .rename_i f
    have f:=jR.1 f;have j:=Jh f;have g:Ft p.d p.sy (Ad b) (Bo b)=p.d++AG (Bo b):=if_pos f;have i:Gc p.d p.sy (Ad b) (Bo b)=p.sy:=if_pos f;rw[g,i];refine .inr ⟨rfl,c,rfl,rs++[Rk.pr b],mc _ _,(h.write (r:=.pr b) ⟨c,λe=>h2 e.symm⟩ j.2.1),λv=>by simp,?_,?_,_,_,rfl⟩
    .rw[BS];rfl
    .rw[BS,h.vo];rfl
theorem Uz{l:List Vt}(h:B2 l){v:Vt}(hv:v∈l):Ba l v=l:=by
 induction l with
 | nil=>cases hv
 | cons u us ih =>
  rw[Ba];rcases jQ.1 hv with rfl|hv
  .rw[if_neg (Int.lt_irrefl _),if_pos rfl]
  .rw[if_pos (h.1 v hv),ih h.2 hv]
theorem TpU.bN(h:TpU p dr rs)(v:Vt):((p.bN v).2≠0/\(p.bN v).1=p) \/
  ((p.bN v).2=0/\AV p.vo v=0/\∃ rs',rs <+: rs'/\TpU (p.bN v).1 dr rs'/\(∀ u,Rk.vt u∈rs'↔u=v\/Rk.vt u∈rs)/\(BH rs').p=v.b/\∃ d a,(p.bN v).1=p.tv d p.sy a):=by
 unfold Nod.bN;split
 .rename_i c;exact .inl ⟨c,rfl⟩
 .rename_i c
  have c:=jR.1 c;have i:=AC c;split
  .rename_i h2
   have m:=i.1.le h2;have l:=BN i.2.1.2.1.pr i.1.1 i.2.2;have e:v.b=p.vo.p:=H6 i.2.1.2.1.pr i.1.1 (by omega);have j:(⟨v.b,Ba p.vo.vs v⟩:Acc)=p.vo:=by rw[Uz i.1.2.2 h2,e]
   rw[j];refine .inr ⟨rfl,c,rs,kX _,h,λu=>⟨.inr,λhu=>?_⟩,by rw[<- h.vo];exact e.symm,p.d,p.vo,rfl⟩;rcases hu with rfl|hu
   .exact LE h.ok u (by rw[<- h.vo];exact h2)
   .exact hu
  .rename_i h2
   split
   .rename_i f;exact .inl ⟨f,rfl⟩
   .rename_i f
    have f:=jR.1 f;have n:=Jh f;have k:Ft p.d p.sy (Ak v) (Bd v)=p.d++AG (Bd v):=if_pos f;have j:Gc p.d p.sy (Ak v) (Bd v)=p.sy:=if_pos f;rw[k,j];refine .inr ⟨rfl,c,rs++[Rk.vt v],mc _ _,h.write (r:=.vt v) ⟨c,h2⟩ n.2.1,λu=>?_,by rw[BS];rfl,_,_,rfl⟩;rw[Q',G'];exact⟨λg=>g.elim .inr λe=>.inl (Rk.vt.inj e),λg=>g.elim (λe=>.inr (by rw[e])) .inl⟩
structure Gs where
 dr:Nat->List Rk
 W:Bal->Nat->Cmd->Prop
def Gs.held(σ:Gs)(n:Nat)(v:Vt):Prop:=Rk.vt v∈σ.dr n
def Gs.H(σ:Gs)(n s:Nat)(b:Int)(c:Cmd):Prop:=∃ v,σ.held n v/\v.au=(s:Int)/\v.b.key=b/\v.w=c
def Gs.P(σ:Gs)(n:Nat):Int:=(BH (σ.dr n)).p.key
def Gs.oE(σ:Gs)(v:Vt):Prop:=Ak v/\σ.W v.b v.au.toNat v.w
def Gs.po(σ:Gs)(s:Nat)(c:Cmd):Prop:=∃ b,Ch σ.H s b c
structure GsI(σ:Gs):Prop where
 ok:∀ n,AU (σ.dr n)
 pj:PInv σ.H σ.P
 w1:∀ b s c c',σ.W b s c->σ.W b s c'->c=c'
 w2:∀ b s c,σ.W b s c->Ad b/\DD σ.H σ.P s b.key c
 w3:∀ b s c,σ.W b s c->b.key<=σ.P b.n.toNat
 hv:∀ n v,σ.held n v->σ.oE v
structure Gs.le(σ τ:Gs):Prop where
 pre:∀ n,σ.dr n <+: τ.dr n
 W:∀ b s c,σ.W b s c->τ.W b s c
theorem Gs.le.refl(σ:Gs):σ.le σ:=⟨λ_=>kX _,λ_ _ _ h=>h⟩
variable{σ τ:Gs}
theorem Gs.le.trans{υ:Gs}(h:σ.le τ)(k:τ.le υ):σ.le υ:=⟨λn=>(h.pre n).trans (k.pre n),λb s c g=>k.W b s c (h.W b s c g)⟩
theorem Gs.le.held(h:σ.le τ){n:Nat}{v:Vt}(g:σ.held n v):τ.held n v:=(h.pre n).subset g
theorem Gs.le.H(h:σ.le τ){n s:Nat}{b:Int}{c:Cmd}(g:σ.H n s b c):τ.H n s b c:=by obtain⟨v,a,d⟩:=g;exact⟨v,h.held a,d⟩
theorem Gs.le.oE(h:σ.le τ){v:Vt}(g:σ.oE v):τ.oE v:=⟨g.1,h.W _ _ _ g.2⟩
theorem Gs.le.po(h:σ.le τ){s:Nat}{c:Cmd}(g:σ.po s c):τ.po s c:=by obtain⟨b,Q,a,d⟩:=g;exact⟨b,Q,a,λq f e=>h.H (d q f e)⟩
theorem Gs.le.P(h:σ.le τ)(a:GsI τ)(n:Nat):σ.P n<=τ.P n:=by
 obtain⟨x,b⟩:=h.pre n;have:=a.ok n;unfold Gs.P;rw[<- b]at this ⊢
 exact(EG this).1
structure Gs.pk(i:Nat)(σ τ:Gs):Prop where
 le:σ.le τ
 new:∀ b s c,τ.W b s c->σ.W b s c\/b.n=(i:Int)
 qh:∀ n,n≠i->τ.dr n=σ.dr n
theorem Gs.pk.refl(i:Nat)(σ:Gs):Gs.pk i σ σ:=⟨.refl σ,λ_ _ _ h=>.inl h,λ_ _=>rfl⟩
def Gs.ext(σ:Gs)(i:Nat)(qs:List Rk):Gs:=⟨upN σ.dr i (σ.dr i++qs),σ.W⟩
theorem GP(σ:Gs)(i:Nat)(a:List Rk):(σ.ext i a).dr i=σ.dr i++a:=Ey _ _ _
theorem KQ(σ:Gs){i n:Nat}(a:List Rk)(h:n≠i):(σ.ext i a).dr n=σ.dr n:=FY _ _ h
theorem Of(σ:Gs)(i:Nat)(a:List Rk):Gs.pk i σ (σ.ext i a):=⟨⟨λn=>by
 by_cases e:n=i
 .subst e;rw[GP];exact mc _ _
 .rw[KQ σ a e];exact kX _,λ_ _ _ h=>h⟩,λ_ _ _ h=>.inl h,λn h=>KQ σ a h⟩
theorem Pp(σ:Gs)(i:Nat)(r:Rk):(σ.ext i [r]).P=upP σ.P i (Rk.ap (BH (σ.dr i)) r).p.key:=by
 funext n
 unfold Gs.P upP;split
 .rename_i e;subst e;rw[GP,BS]
 .rename_i e;rw[KQ σ _ e]
theorem Hy:(σ.ext i qs).held n v↔σ.held n v\/(n=i/\Rk.vt v∈qs):=by
 unfold Gs.held;by_cases e:n=i
 .subst e;rw[GP,Q'];simp
 .rw[KQ σ qs e];simp[e]
theorem GsI.pV(h:GsI σ){i:Nat}{r:Rk}(D:Rk.ok (BH (σ.dr i)) r)(F:∀ v,r=.vt v->σ.oE v):GsI (σ.ext i [r]):=by
 have l:=(h.ok i).acc;have t:=Rk.pd l D.err;have f:=(Of σ i [r]).le;have q:∀ n,AU ((σ.ext i [r]).dr n):=λn=>by
  by_cases e:n=i
  .subst e;rw[GP];exact(h.ok n).snoc D
  .rw[KQ σ _ e];exact h.ok n
 have d:σ.P i<=(Rk.ap (BH (σ.dr i)) r).p.key:=t;have B:∀ n,σ.P n<=(σ.ext i [r]).P n:=λn=>by rw[Pp];exact LY d n
 have o:∀ n v,(σ.ext i [r]).held n v->(σ.ext i [r]).oE v:=λn v g=>by
  rcases Hy.1 g with g|⟨_,g⟩
  .exact f.oE (h.hv n v g)
  .exact f.oE (F v (G'.1 g).symm)
 cases r with
 | pr b =>
  have j:(σ.ext i [.pr b]).H=σ.H:=by
   funext n s a c
   exact propext ⟨λ⟨v,g,k⟩=>⟨v,(Hy.1 g).resolve_right λe=>by simp at e,k⟩,λ⟨v,g,k⟩=>⟨v,f.held g,k⟩⟩
  refine⟨q,?_,h.w1,λa s c g=>⟨(h.w2 a s c g).1,?_⟩,λa s c g=>ko (h.w3 a s c g) (B _),o⟩
  .rw[j,Pp];exact h.pj.av d
  .rw[j,Pp];exact(h.w2 a s c g).2.up d
 | vt v =>
  obtain⟨z,C⟩:=F v rfl;have I:v.au=(v.au.toNat:Int):=by have:=z.1;omega
  have j:(σ.ext i [.vt v]).H=ea σ.H i v.au.toNat v.b.key v.w:=by
   funext n s a c
   refine propext ⟨λ⟨u,g,G,x,y⟩=>?_,λg=>?_⟩
   .rcases Hy.1 g with g|⟨g1,g2⟩
    .exact .inl ⟨u,g,G,x,y⟩
    .have e:u=v:=Rk.vt.inj (G'.1 g2);subst e;exact .inr ⟨g1,by omega,x.symm,y.symm⟩
   .rcases g with⟨u,g,k⟩|⟨rfl,rfl,rfl,rfl⟩
    .exact⟨u,f.held g,k⟩
    .exact⟨v,Hy.2 (.inr ⟨rfl,G'.2 rfl⟩),I,rfl,rfl⟩
  refine⟨q,?_,h.w1,λa s c g=>⟨(h.w2 a s c g).1,?_⟩,λa s c g=>ko (h.w3 a s c g) (B _),o⟩
  .rw[j,Pp];refine h.pj.bN d (by have:=z.2.1.pos;show 0<v.b.key;omega) (h.w2 _ _ _ C).2 λm J ⟨u,g,G,x,y⟩=>?_;have E:=h.hv m u g;have e:u.b=v.b:=H6 E.1.2.1.pr z.2.1.pr x;have A:=E.2;rw[e,show u.au.toNat=v.au.toNat by omega,y]at A
   exact h.w1 _ _ _ _ A C
  .rw[j,Pp];exact(h.w2 a s c g).2.bN d
theorem ai(σ:Gs)(i:Nat)(r:Rk)(a:List Rk):(σ.ext i [r]).ext i a=σ.ext i (r::a):=by unfold Gs.ext;simp only[Ey,TA,jI,List.singleton_append]
theorem GsI.ext(h:GsI σ){i:Nat}(a:List Rk)(b:AU (σ.dr i++a))(c:∀ v,Rk.vt v∈a->σ.oE v):GsI (σ.ext i a):=by
 induction a generalizing σ with
 | nil =>
  have:σ.ext i []=σ:=by unfold Gs.ext;rw[ki,LX]
  rw[this];exact h
 | cons r a ih =>
  rw[<- ai];have d:AU (σ.dr i++[r]):=b.pre ⟨a,by simp⟩;refine ih (h.pV d.last λv e=>c v (by rw[e];exact P')) ?_ λv g=>(Of σ i [r]).le.oE (c v (O' _ g));rw[GP,jI];exact b
structure PrmOk(dr:List Rk)(b:Bal)(vs:List Vt):Prop where
 le:b.key<=(BH dr).p.key
 sub:∀ v∈vs,Rk.vt v∈dr/\v.b.key<=b.key
 qb:∀ v,Rk.vt v∈dr->v.b.key<b.key->∃ u∈vs,u.au=v.au/\v.b.key<=u.b.key
 acc:Ah ⟨b,vs⟩
theorem PrmOk.mono(h:PrmOk dr b vs)(e:dr <+: rs)(d:AU rs):PrmOk rs b vs:=by
 obtain⟨x,rfl⟩:=e;have c:=EG d;refine⟨ko h.le c.1,λv hv=>⟨ks _ (h.sub v hv).1,(h.sub v hv).2⟩,λv hv a=>?_,h.acc⟩;rcases Q'.1 hv with hv|hv
 .exact h.qb v hv a
 .have:=c.2 v hv;have:=h.le;omega
theorem PrmOk.of(c:AU rs){b:Bal}{d:List Vt}(e:(BH rs).p=b)(a:(BH rs).vs=d):PrmOk rs b d:=by
 subst e a;exact⟨kH _,λv a=>⟨LE c v a,c.acc.le a⟩,λv a _=>(Yt c v a).2,c.acc⟩
structure RdI(σ:Gs)(i:Nat)(r:Rnd):Prop where
 fv:r.fv=Bh\/(Ad r.fv/\r.fv.n=(i:Int))
 next:∀ s c,σ.W r.fv s c->s<r.next
 own:∀ j,j<5->r.nX j=true->r.fv.key<=σ.P i
 al:∀ j,j<5->∀ v∈(r.al j).vs,σ.held j v/\v.b.key<=r.fv.key/\(r.nX j=false->v.b=r.fv)
 prom:∀ j,j<5->r.nX j=true->r.fv.key<=σ.P j/\∀ v,σ.held j v->v.b.key<r.fv.key->∃ u∈(r.al j).vs,u.au=v.au/\v.b.key<=u.b.key
 acc:∀ j,j<5->Ah (r.al j)/\(r.nX j=true->(r.al j).p=r.fv)
def PnI(σ:Gs)(rs:List Rk)(r:Rnd):Pend->Prop
 | .began b vs=>PrmOk rs b vs/\b.key<=r.fv.key
 | .prom _ b vs=>PrmOk rs b vs/\b.key<=σ.P b.n.toNat
 | .voted _ v=>Rk.vt v∈rs
 | .prop v=>Rk.vt v∈rs
 | .fa _ b=>At b/\b.key<=(BH rs).p.key
 | _=>True
structure UpI(σ:Gs)(i:Nat)(p:Nod)(rs:List Rk):Prop where
 tp:TpU p (σ.dr i) rs
 oE:∀ v,Rk.vt v∈rs->σ.oE v
 rd:RdI σ i p.br
 bp:p.br.fv.key<=p.vo.p.key
 pe:∀ q∈p.bn,PnI σ rs p.br q
def AgL(σ:Gs)(l:List Cmd)(k:Nat):Prop:=∀ s c,l[s]?=some c->σ.po (k+s) c
structure NdI(σ:Gs)(i:Nat)(p:Nod):Prop where
 up:p.up=true->∃ rs,UpI σ i p rs
 dn:p.up=false->TpD p (σ.dr i)
 ag:AgL σ p.ae 0
structure LtI(σ:Gs)(l:Let):Prop where
 k0:l.kind=0->l.fv.key<=σ.P l.fv.n.toNat
 k1:l.kind=1->PrmOk (σ.dr l.src) l.fv l.ln/\l.fv.key<=σ.P l.fv.n.toNat/\AgL σ l.ed 0
 k2:l.kind=2->At l.fv/\l.fv.key<=σ.P l.src
 k3:l.kind=3->σ.oE l.bN
 k4:l.kind=4->σ.held l.src l.bN
 k5:l.kind=5->AgL σ l.ed l.au
structure AgI(σ:Gs)(M:Meet):Prop where
 gs:GsI σ
 nd:∀ i,i<5->NdI σ i (M.af i)
 lt:∀ l∈M.bt,LtI σ l
theorem AgL.mono(h:σ.le τ){l:List Cmd}{k:Nat}(g:AgL σ l k):AgL τ l k:=λs c e=>h.po (g s c e)
theorem RdI.mono(h:σ.le τ)(f:GsI τ){i:Nat}{r:Rnd}(g:RdI σ i r)(m:∀ s c,τ.W r.fv s c->s<r.next):RdI τ i r:=by
 refine⟨g.fv,m,λj a d=>ko (g.own j a d) (h.P f i),λj a v e=>⟨h.held (g.al j a v e).1,(g.al j a v e).2⟩,λj a d=>⟨ko (g.prom j a d).1 (h.P f j),λv e k=>?_⟩,g.acc⟩;obtain⟨x,n⟩:=h.pre j;have l:=f.ok j;have hv':Rk.vt v∈τ.dr j:=e;rw[<- n]at l hv'
 rcases Q'.1 hv' with hv'|hv'
 .exact(g.prom j a d).2 v hv' k
 .have h1:=(EG l).2 v hv';have o:=(g.prom j a d).1;have p:σ.P j<=v.b.key:=h1;omega
theorem PnI.mono(h:σ.le τ)(f:GsI τ){e a:List Rk}(c:e <+: a)(d:AU a){r r':Rnd}(i:r.fv.key<=r'.fv.key){q:Pend}(g:PnI σ e r q):PnI τ a r' q:=by
 cases q with
 | began b vs=>exact⟨g.1.mono c d,ko g.2 i⟩
 | prom to b vs=>exact⟨g.1.mono c d,ko g.2 (h.P f _)⟩
 | voted to v=>exact c.subset g
 | prop v=>exact c.subset g
 | fa to b=>obtain⟨x,rfl⟩:=c;exact⟨g.1,ko g.2 (EG d).1⟩
 | _=>trivial
theorem NdI.mono(h:Gs.pk i σ τ)(a:GsI τ)(n:GsI σ)(d:j≠i){p:Nod}(g:NdI σ j p):NdI τ j p:=by
 have e:=h.qh j d;refine⟨λl=>?_,λb=>by rw[e];exact g.dn b,g.ag.mono h.le⟩;obtain⟨o,k⟩:=g.up l;refine⟨o,by rw[e];exact k.tp,λv m=>h.le.oE (k.oE v m),k.rd.mono h.le a λs c hW=>?_,k.bp,λq f=>(k.pe q f).mono h.le a (kX _) k.tp.ok (kH _)⟩;rcases h.new _ _ _ hW with hW|hW
 .exact k.rd.next s c hW
 .rcases k.rd.fv with hb|⟨_,hb⟩
  .have:=(a.w2 _ _ _ ‹_›).1;rw[hb]at this
   exact absurd this (by decide)
  .rw[hb]at hW;omega
theorem LtI.mono(h:σ.le τ)(a:GsI τ){l:Let}(g:LtI σ l):LtI τ l :=
 ⟨λe=>ko (g.k0 e) (h.P a _),λe=>⟨(g.k1 e).1.mono (h.pre _) (a.ok _),ko (g.k1 e).2.1 (h.P a _),(g.k1 e).2.2.mono h⟩,λe=>⟨(g.k2 e).1,ko (g.k2 e).2 (h.P a _)⟩,λe=>h.oE (g.k3 e),λe=>h.held (g.k4 e),λe=>(g.k5 e).mono h⟩
theorem AgI.set(h:AgI σ M){i:Nat}(b:Gs.pk i σ τ)(a:GsI τ){p:Nod}(g:NdI τ i p){ls:List Let}(d:∀ l∈ls,l∈M.bt\/LtI τ l)(ts:List Tol):AgI τ (M.set i p ls ts) :=
 ⟨a,λj c=>by
  show NdI τ j (upN M.af i p j);unfold upN;split
  .rename_i e;rw[e];exact g
  .rename_i e;exact(h.nd j c).mono b a h.gs e,λl f=>(d l f).elim (λk=>(h.lt l k).mono b.le a) id⟩
theorem Zl{r:Rnd}(h:∀ j,j<5->∀ v∈(r.al j).vs,σ.held j v){s:Nat}(a:Dp r.jv (s:Int)=0):σ.po s (CE r.jv (s:Int)):=by
 have k:CE r.jv (s:Int)=((GN (DU r.jv (s:Int)) r.jv.length).map (·.w)).getD ⟨0,0,0,0,0⟩:=if_pos a;unfold Dp at a;split at a
 .cases a
 .split at a
  .cases a
  .rename_i d
   have d:=jR.1 d;split at a
   .rename_i hO
    obtain⟨v,g⟩:=lG.1 hO;rw[k,g];have m:=List.find?_some g;have i:5<2*BO (DU r.jv (s:Int)) v:=kr m;have e:DU r.jv (s:Int)=Af (r.al 0).vs (s:Int)++(Af (r.al 1).vs (s:Int)++(Af (r.al 2).vs (s:Int)++(Af (r.al 3).vs (s:Int)++Af (r.al 4).vs (s:Int)))):=by
     unfold DU Rnd.jv Af;simp[List.filter_append]
    rw[e,Ff,Ff,Ff,Ff]at i
    have c:∀ j,j<5->B2 (r.al j).vs:=λj l=>(d (r.al j) (by unfold Rnd.jv;rcases nT l with rfl|rfl|rfl|rfl|rfl<;>simp)).2.2;have o:=Ic (c 0 (by omega)) (s:Int) v;have p:=Ic (c 1 (by omega)) (s:Int) v;have t:=Ic (c 2 (by omega)) (s:Int) v;have u:=Ic (c 3 (by omega)) (s:Int) v;have x:=Ic (c 4 (by omega)) (s:Int) v;refine⟨v.b.key,λq=>decide (v∈(r.al q).vs/\v.au=(s:Int)),?_,λq n f=>?_⟩
    .show 3<=(decide (v∈(r.al 0).vs/\v.au=(s:Int))).toNat+(decide (v∈(r.al 1).vs/\v.au=(s:Int))).toNat+(decide (v∈(r.al 2).vs/\v.au=(s:Int))).toNat+(decide (v∈(r.al 3).vs/\v.au=(s:Int))).toNat+(decide (v∈(r.al 4).vs/\v.au=(s:Int))).toNat;omega
    .obtain⟨h1,h2⟩:=kr f;exact⟨v,h q n v h1,h2,rfl,rfl⟩
   .cases a
theorem AgL.snoc(h:AgL σ l 0){c:Cmd}(a:σ.po l.length c):AgL σ (l++[c]) 0:=λs d e=>by
 rcases kt s l.length with g|g
 .rw[jO g]at e;exact h s d e
 .have:=(U'.1 e).1;rw[M',mf]at this
  obtain rfl:s=l.length:=by omega
  rw[jP (A' _)]at e
  simp at e;subst e;rw[kl];exact a
theorem Tj{r:Rnd}(h:∀ j,j<5->∀ v∈(r.al j).vs,σ.held j v)(k:Nat){l:List Cmd}(a:AgL σ l 0):AgL σ (II k r l) 0:=by
 induction k generalizing l with
 | zero=>exact a
 | succ k ih =>
  rw[II];split
  .rename_i he;exact ih (a.snoc (Zl h he))
  .exact a
theorem P6{b:List Cmd}{a:Nat}(d:AgL σ l 0)(f:AgL σ b a)(h:a<=l.length):AgL σ (l++b.drop (l.length-a)) 0:=λs c e=>by
 rcases kt s l.length with g|g
 .rw[jO g]at e;exact d s c e
 .rw[jP g,kA]at e
  have:=f _ c e
  rwa [show a+(l.length-a+(s-l.length))=0+s by omega]at this
theorem Ux(a:Acc)(l:List Vt):∀ v∈(CI a l).vs,v∈a.vs\/v∈l:=by
 induction l generalizing a with
 | nil=>exact λv b=>.inl b
 | cons u l ih =>
  intro v b;rw[CI]at b
  rcases ih _ v b with h|h
  .by_cases he:AV a u=0
   .rw[if_pos he]at h
    have h:v∈Bu a u:=h;rw[(DS he).2]at h
    rcases(BR (AC he).1.2.2).1 h with rfl|⟨h,_⟩
    .exact .inr P'
    .exact .inl h
   .rw[if_neg he]at h;exact .inl h
  .exact .inr (O' _ h)
theorem Uw(a:Acc)(l:List Vt):∀ u∈a.vs,∃ x∈(CI a l).vs,x.au=u.au/\u.b.key<=x.b.key:=by
 induction l generalizing a with
 | nil=>exact λu d=>⟨u,d,rfl,kH _⟩
 | cons w l ih =>
  intro u d;rw[CI];by_cases c:AV a w=0
  .rw[if_pos c];obtain⟨x,e,f,g⟩:=Le (AC c).1 c d;obtain⟨y,h,i,j⟩:=ih ⟨BG a w,Bu a w⟩ x (by show x∈Bu a w;rw[(DS c).2];exact e);exact⟨y,h,i.trans f,ko g j⟩
  .rw[if_neg c];exact ih a u d
theorem Uv(a:Acc)(l:List Vt)(c:Ah a)(g:a.p=b)(h:∀ v∈l,v.b.key<=b.key):Ah (CI a l)/\(CI a l).p=b:=by
 induction l generalizing a with
 | nil=>exact⟨c,g⟩
 | cons u l ih =>
  rw[CI];by_cases d:AV a u=0
  .rw[if_pos d];have f:=AC d;have e:u.b=b:=by
    have k:=BN f.2.1.2.1.pr c.1 f.2.2;have m:=h u P';rw[g]at k
    exact H6 f.2.1.2.1.pr (g▸c.1) (by omega)
   have j:(⟨BG a u,Bu a u⟩:Acc)=⟨u.b,Ba a.vs u⟩:=by rw[(DS d).1,(DS d).2]
   rw[j];exact ih _ (c.pZ f.2.1 f.2.2) e λv i=>h v (O' _ i)
  .rw[if_neg d];exact ih a c g λv i=>h v (O' _ i)
theorem RdI.og{r:Rnd}(h:RdI σ i r){j:Nat}{vs:List Vt}(f:PrmOk (σ.dr j) r.fv vs)(s:r.fv.key<=σ.P i):RdI σ i (r.og j vs):=by
 refine⟨h.fv,h.next,λ_ _ _=>s,λk c v a=>?_,λk c n=>?_,λk c=>?_⟩
 rotate_right
 .show Ah (upN r.al j (CI ⟨r.fv,vs⟩ (r.al j).vs) k)/\(upN r.nX j true k=true->(upN r.al j (CI ⟨r.fv,vs⟩ (r.al j).vs) k).p=r.fv);unfold upN;split
  .rename_i e;subst e
   have:=Uv (b:=r.fv) ⟨r.fv,vs⟩ (r.al k).vs f.acc rfl λv a=>(h.al k c v a).2.1;exact⟨this.1,λ_=>this.2⟩
  .exact h.acc k c
 .have a:v∈(upN r.al j (CI ⟨r.fv,vs⟩ (r.al j).vs) k).vs:=a;by_cases e:k=j
  .subst e;rw[Ey]at a
   rcases Ux _ _ v a with g|g
   .exact⟨(f.sub v g).1,(f.sub v g).2,λe=>by rw[show(r.og k vs).nX k=true from Ey _ _ _]at e;cases e⟩
   .have:=h.al k c v g;exact⟨this.1,this.2.1,λe=>by rw[show(r.og k vs).nX k=true from Ey _ _ _]at e;cases e⟩
  .rw[FY _ _ e]at a
   have:=h.al k c v a;exact⟨this.1,this.2.1,λo=>this.2.2 (by rwa [show(r.og j vs).nX k=r.nX k from FY _ _ e]at o)⟩
 .by_cases e:k=j
  .subst e;refine⟨f.le,λv a d=>?_⟩;obtain⟨u,l,m,q⟩:=f.qb v a d;obtain⟨x,t,w,y⟩:=Uw ⟨r.fv,vs⟩ (r.al k).vs u l;exact⟨x,by show x∈(upN r.al k _ k).vs;rw[Ey];exact t,w.trans m,ko q y⟩
  .rw[show(r.og j vs).nX k=r.nX k from FY _ _ e]at n
   have:=h.prom k c n;exact⟨this.1,λv a d=>by
    obtain⟨u,l,m⟩:=this.2 v a d;exact⟨u,by show u∈(upN r.al j _ k).vs;rw[FY _ _ e];exact l,m⟩⟩
theorem RdI.count{r:Rnd}(h:RdI σ i r){j:Nat}{v:Vt}(l:v.b=r.fv)(f:AV (r.al j) v=0)(o:σ.held j v):RdI σ i { r with al:=upN r.al j ⟨BG (r.al j) v,Bu (r.al j) v⟩ }:=by
 have d:=AC f;have g:Bu (r.al j) v=Ba (r.al j).vs v:=(DS f).2;refine⟨h.fv,h.next,h.own,λk c u a=>?_,λk c n=>⟨(h.prom k c n).1,λu a m=>?_⟩,λk c=>?_⟩
 rotate_right
 .show Ah (upN r.al j ⟨BG (r.al j) v,Bu (r.al j) v⟩ k)/\(r.nX k=true->(upN r.al j ⟨BG (r.al j) v,Bu (r.al j) v⟩ k).p=r.fv);unfold upN;split
  .rw[(DS f).1,g];exact⟨d.1.pZ d.2.1 d.2.2,λ_=>l⟩
  .exact h.acc k c
 .have a:u∈(upN r.al j ⟨BG (r.al j) v,Bu (r.al j) v⟩ k).vs:=a;by_cases e:k=j
  .subst e;rw[Ey]at a
   have a:u∈Bu (r.al k) v:=a;rw[g]at a
   rcases(BR d.1.2.2).1 a with rfl|⟨a,_⟩
   .exact⟨o,by rw[l];exact kH _,λ_=>l⟩
   .exact h.al k c u a
  .rw[FY _ _ e]at a;exact h.al k c u a
 .obtain⟨x,h1,h2,h3⟩:=(h.prom k c n).2 u a m;by_cases e:k=j
  .subst e;obtain⟨y,q,s,t⟩:=Le d.1 f h1;exact⟨y,by show y∈(upN r.al k _ k).vs;rw[Ey];show y∈Bu (r.al k) v;rw[g];exact q,s.trans h2,ko h3 t⟩
  .exact⟨x,by show x∈(upN r.al j _ k).vs;rw[FY _ _ e];exact h1,h2,h3⟩
theorem UpI.ov{q:Nod}(h:UpI σ i p rs)(b:q.d=p.d)(j:q.sy=p.sy)(c:q.vo=p.vo)(f:RdI σ i q.br)(a:q.br.fv=p.br.fv)(e:∀ x∈q.bn,x∈p.bn\/PnI σ rs q.br x):UpI σ i q rs :=
 ⟨⟨h.tp.ok,h.tp.pre,b.trans h.tp.d,j.trans h.tp.sy,c.trans h.tp.vo,by rw[b];exact h.tp.len⟩,h.oE,f,by rw[a,c];exact h.bp,λx k=>(e x k).elim (λg=>by
  have:=h.pe x g;cases x<;>first|exact this|exact trivial|(refine⟨this.1,?_⟩;first|exact this.2|(rw[a];exact this.2))) id⟩
theorem UpI.count(h:UpI σ i p rs)(a:AgL σ p.ae 0){j:Nat}{v:Vt}(d:σ.held j v):UpI σ i (p.count j v) rs/\AgL σ (p.count j v).ae 0:=by
 unfold Nod.count;split
 .exact⟨h,a⟩
 .rename_i b
  have b:=jR.1 b;split
  .exact⟨h,a⟩
  .rename_i he
   have c:=h.rd.count b (jR.1 he) d;exact⟨h.ov rfl rfl rfl c rfl λx g=>.inl g,Tj (λj e v f=>(c.al j e v f).1) 41 a⟩
def Nod.ub(p:Nod):Bool × Nat:=(p.up,p.bad)
theorem Lx(p:Nod)(b:Bal):(p.av b).1.ub=p.ub:=by
 unfold Nod.av;split
 .rfl
 .split
  .rfl
  .split<;>rfl
theorem TG(p:Nod)(v:Vt):(p.bN v).1.ub=p.ub:=by
 unfold Nod.bN;split
 .rfl
 .split
  .rfl
  .split<;>rfl
theorem KI(p:Nod)(j:Nat)(v:Vt):(p.count j v).ub=p.ub:=by
 unfold Nod.count;split
 .rfl
 .split<;>rfl
theorem Nt(p:Nod)(a:Nat)(e:Int):(p.fa a e).ub=p.ub:=by unfold Nod.fa;split<;>rfl
theorem KP(p:Nod)(l:List Cmd):(p.eo l).ub=p.ub:=by unfold Nod.eo;split<;>rfl
theorem T5(p:Nod)(l:Let):(p.take l).ub=p.ub:=by
 unfold Nod.take;split
 .split
  .exact Nt _ _ _
  .exact Lx p l.fv
 .simp only;split<;>rfl
 .rfl
 .split
  .exact Nt _ _ _
  .exact TG p l.bN
 .exact KI p _ _
 .split<;>rfl
 .simp only;split<;>exact KP p l.ed
 .rfl
theorem ce(p:Nod)(i:Nat)(q:Pend):(p.nR i q).ub=p.ub:=by
 cases q with
 | began b vs=>unfold Nod.nR;simp only;split<;>rfl
 | prop v=>exact KI p i v
 | _=>rfl
theorem W7(i:Nat)(l:List Pend)(p:Nod)(a:List Let):(mv i l p a).1.ub=p.ub:=by
 induction l generalizing p a with
 | nil=>rfl
 | cons q l ih=>exact(ih _ _).trans (ce p i q)
theorem V6(p:Nod)(c:Cmd):(p.hZ c).ub=p.ub:=by unfold Nod.hZ;split<;>rfl
theorem eI(i:Nat)(l:List Cmd)(p:Nod)(a:List Tol):(oq i l p a).1.ub=p.ub:=by
 induction l generalizing p a with
 | nil=>rfl
 | cons c l ih =>
  rw[oq];split
  .rfl
  .exact(ih _ _).trans (V6 _ _)
theorem Zz(p:Nod)(i:Nat):(p.nr i).1.ub=p.ub:=by
 unfold Nod.nr;split
 .rfl
 .split
  .exact KP _ _
  .rfl
theorem Sm(p:Nod):p.dT.ub=p.ub:=by
 unfold Nod.dT;split
 .rfl
 .split
  .rfl
  .split
   .rfl
   .exact TG p _
theorem YI(p:Nod)(i:Nat)(a:List Let):(p.nS i a).1.ub=p.ub:=by
 unfold Nod.nS;split
 .rfl
 .rw[W7];unfold Nod.ou;split<;>rfl
theorem V0(p:Nod)(i:Nat)(a:List Let):(p.cl i a).1.ub=p.ub:=by unfold Nod.cl;split<;>rfl
theorem XZ(p:Nod)(i:Nat)(a:List Let)(b:List Tol):(p.piece i a b).1.ub=p.ub:=by
 unfold Nod.piece;simp only;rw[V0,YI,Sm,Zz,eI]
theorem Tf(p:Nod)(i:Nat):(p.lead i).ub=p.ub:=by
 unfold Nod.lead;simp only;split
 .rfl
 .exact Lx p _
theorem SR(M:Meet)(l:Let)(j:Nat):((M.nQ l).af j).ub=(M.af j).ub:=by
 unfold Meet.nQ;split
 .show(upN M.af l.dst _ j).ub=_;unfold upN;split
  .rename_i h;rw[h];exact T5 _ _
  .rfl
 .rfl
theorem Wj(l:List Let)(M:Meet)(j:Nat):((l.foldl (λM l=>M.nQ l) M).af j).ub=(M.af j).ub:=by
 induction l generalizing M with
 | nil=>rfl
 | cons x l ih=>exact(ih _).trans (SR M x j)
theorem be(M:Meet)(k:Int)(a:Nat)(j:Nat):((M.move k a).af j).ub=(M.af j).ub:=by
 unfold Meet.move;split
 .rfl
 .simp only;split
  .rw[SR];split<;>rfl
  .split<;>rfl
theorem Iq(M:Meet)(i:Nat)(p:Nod)(a:List Let)(b:List Tol)(j:Nat):(M.set i p a b).af j=if j=i then p else M.af j:=rfl
theorem dX(M:Meet){x:Lac}(f:x.k≠1)(g:x.k≠8)(h:x.k≠9)(j:Nat):((M.act x).af j).ub=(M.af j).ub:=by
 unfold Meet.act;simp only;rw[if_neg f];by_cases a:x.k=2
 .rw[if_pos a,Iq];split
  .rename_i e
   rw[e];split
   .exact Tf _ _
   .rfl
  .rfl
 .rw[if_neg a];by_cases b:x.k=3
  .rw[if_pos b,Iq];split
   .rename_i e
    rw[e];split
    .exact XZ _ _ _ _
    .rfl
   .rfl
  .rw[if_neg b];by_cases c:x.k=4\/x.k=5\/x.k=6
   .rw[if_pos c];exact be _ _ _ _
   .rw[if_neg c];by_cases d:x.k=7
    .rw[if_pos d];exact Wj _ _ _
    .rw[if_neg d,if_neg g,if_neg h]
theorem ge(M:Meet){x:Lac}(h:x.k=1)(j:Nat):((M.act x).af j).ub=if j=x.n.toNat/\(M.af j).up=true/\opE x.d ((M.af j).done:Int)≠0 then((M.af j).up,(M.af j).bad+1)else(M.af j).ub:=by
 unfold Meet.act;simp only;rw[if_pos h,Iq];by_cases f:j=x.n.toNat
 .subst f;rw[if_pos rfl];unfold Nod.oA Nod.oz;by_cases b:(M.af x.n.toNat).up=false
  .rw[if_pos b,if_neg (by rw[b];simp)]
  .rw[if_neg b];have g:(M.af x.n.toNat).up=true:=by simpa using b
   by_cases a:opE x.d ((M.af x.n.toNat).done:Int)≠0
   .rw[if_pos a,if_pos ⟨rfl,g,a⟩];rfl
   .rw[if_neg a,if_neg (c:=_/\_) (λe=>a e.2.2)];split
    .rfl
    .show(Nod.want _ _).ub=_;unfold Nod.want;split<;>rfl
 .rw[if_neg f,if_neg (λe=>f e.1)]
theorem MF(M:Meet)(L:List Lac)(x:Lac):M.nn (L++[x])=(M.nn L).act x:=by unfold Meet.nn;rw[nv];rfl
theorem TT(h:L[i]?=some x):M.nn (L.take (i+1))=(M.nn (L.take i)).act x:=by rw[List.take_add_one,h];exact MF M (L.take i) x
theorem OM(L:List Lac)(h:∀ x∈L,LacOk x)(d:L.length<=100000):MOk L.length (AQ.nn L):=by
 suffices ∀ i,i<=L.length->MOk i (AQ.nn (L.take i))by have a:=this L.length (A' _);rwa [lI]at a
 intro i;induction i with
 | zero=>intro _;exact MOk.zero
 | succ i ih =>
  intro c;have b:L[i]?=some L[i]:=E' (by omega);rw[TT b];exact(ih (by omega)).act (by omega) (h _ (km _))
theorem az(g:Gr)(b:Bool):LacOk (Pt g b):=by
 have d:=Bn g.a 5 (by omega);have e:=Bn g.c 20 (by omega);have f:=Bn g.c 90 (by omega);have h:(pkB g).length<=63:=by
  have:(pkP g).length=63:=Ls (Ya g);unfold pkB;split
  .rw[X'];omega
  .omega
 rw[<- Kp];unfold Pt acN
 repeat' split
 all_goals simp[aU,F1,Hl,Hm];try omega
theorem Yv{P:Lac->Prop}(b:P (acN 7 0)){a:Bool}(c:∀ g,P (Pt g a))(s:Nat)(l:List Gr):∀ x∈O6 a s l,P x:=by
 induction l generalizing s with
 | nil=>intro x hx;cases hx
 | cons g l ih =>
  intro x hx;rcases jQ.1 hx with rfl|hx
  .unfold Yu;split
   .exact b
   .exact c g
  .exact ih _ x hx
theorem fX(l:List Gr)(m:Nat)(a:Bool):∀ x∈scr l m a,LacOk x:=Yv (by rw[<- Kp];decide) (λg=>az g a) _ _
theorem Yw(a:Bool)(s:Nat)(l:List Gr):(O6 a s l).length=l.length:=by
 induction l generalizing s with
 | nil=>rfl
 | cons g l ih=>rw[O6,ke,ih,ke]
theorem cA(l:List Gr)(m:Nat)(a:Bool):(scr l m a).length<=m:=by unfold scr;rw[Yw,X'];omega
def Nod.tp(p:Nod):Prop:=AZ p.d p.sy
theorem TP{d:List Int}{s:Int}{may:Prop}[Decidable may]{b:List Int}(h:CQ d s may b=0):AZ (Ft d s may b) (Gc d s may b):=by
 obtain⟨a,c,_⟩:=Jh h;unfold Ft Gc;rw[if_pos h,if_pos h];unfold AZ at *;rw[M',Be];omega
theorem Lw(h:p.tp)(b:Bal):(p.av b).1.tp:=by
 unfold Nod.av;split
 .exact h
 .split
  .exact h
  .split
   .exact h
   .rename_i hw;exact TP (jR.1 hw)
theorem TF(h:p.tp)(v:Vt):(p.bN v).1.tp:=by
 unfold Nod.bN;split
 .exact h
 .split
  .exact h
  .split
   .exact h
   .rename_i hw;exact TP (jR.1 hw)
theorem Ns(h:p.tp)(a:Nat)(e:Int):(p.fa a e).tp:=by unfold Nod.fa;split<;>exact h
theorem Wk(h:p.tp)(j:Nat)(v:Vt):(p.count j v).tp:=by
 unfold Nod.count;split
 .exact h
 .split<;>exact h
theorem Rg(h:p.tp)(l:List Cmd):(p.eo l).tp:=by unfold Nod.eo;split<;>exact h
theorem KJ(h:p.tp){k:Int}(c:0<=k):(p.lp k).tp/\(p.lp k).up=false/\(p.lp k).done=0/\(p.lp k).ae=[]:=by
 have a:Gx p.d p.sy k=0:=by unfold Gx;rw[if_neg (λe=>e h),if_neg (by omega)]
 unfold Nod.lp;rw[if_neg (λe=>e a)];refine⟨?_,rfl,rfl,rfl⟩;show AZ (JH p.d p.sy k) (JI p.d p.sy k);unfold JH JI;rw[if_pos a,if_pos a];unfold Nod.tp AZ at h;have b:0<=FA p.d p.sy k/\FA p.d p.sy k<=(p.d.length:Int):=by unfold FA;split<;>omega
 unfold AZ;rw[X'];omega
theorem Iu(h:p.tp):p.start.tp/\p.start.up=true/\p.start.done=0/\p.start.ae=[]:=by
 have b:CZ p.d p.sy=0:=if_pos h;have c:=Xl p.d p.d.length;unfold Nod.start;rw[if_neg (λe=>e b)];split
 .refine⟨?_,rfl,rfl,rfl⟩;show AZ (IR p.d p.sy) (L9 p.d p.sy);unfold IR L9;have a:AZ p.d p.sy:=h;rw[if_pos a,if_pos a];unfold Nod.tp AZ at h;unfold AZ;rw[X'];unfold DY;split<;>omega
 .exact⟨h,rfl,rfl,rfl⟩
theorem gk(A:Alw)(i:Nat):NInv A i (λ_=>True) (λ_=>True) Nod.tp where
 take:=λ_ p l h _ _ _=>by
  unfold Nod.take;split
  .split
   .exact Ns h _ _
   .exact Lw h l.fv
  .simp only;split<;>exact h
  .exact h
  .split
   .exact Ns h _ _
   .exact TF h l.bN
  .exact Wk h _ _
  .split<;>exact h
  .simp only;split<;>exact Rg h l.ed
  .exact h
 one:=λp c h _ _ _=>by unfold Nod.hZ;split<;>exact h
 ask:=λp h _=>⟨by
  unfold Nod.nr;split
  .exact h
  .split
   .unfold Nod.eo;split<;>exact h
   .exact h,λ_ _=>trivial⟩
 prop:=λp h _=>by
  unfold Nod.dT;split
  .exact h
  .split
   .exact h
   .split
    .exact h
    .exact TF h _
 ou:=λp h _=>by
  unfold Nod.ou;split
  .show AZ (Hg p.d p.sy) (Iv p.d p.sy);unfold Hg Iv;have b:AZ p.d p.sy:=h;rw[if_pos b,if_pos b];unfold Nod.tp AZ at h;unfold AZ;omega
  .exact h
 run:=λp q l h _ _ _=>⟨by
  have a:=EH p i q;show AZ (p.nR i q).d (p.nR i q).sy;rw[a.2.2.1,a.2.2.2];exact h,λ_ _=>trivial⟩
 oK:=λp h _ _=>⟨h,λ_ _=>trivial⟩
 lead:=λ_ p h _=>by
  unfold Nod.lead;simp only;split
  .exact h
  .exact Lw h _
 sub:=λp d e h _ _=>by
  unfold Nod.oA Nod.oz;split
  .exact h
  .split
   .exact h
   .split
    .exact h
    .show(Nod.want _ _).tp;unfold Nod.want;split<;>exact h
 lp:=λ_ p k h a _=>(KJ h a).1
 start:=λ_ p h _=>(Iu h).1
def gH:Alw:=⟨true,true,true,true⟩
theorem Zt(x:Lac):gH.Ok x:=⟨λ_=>rfl,λ_=>rfl,λ_=>rfl,λ_=>rfl⟩
theorem Zp(L:List Lac)(h:∀ x∈L,LacOk x)(c:L.length<=100000){i:Nat}(a:i<5):((AQ.nn L).af i).tp :=
 (GInv.nn (R:=λ_=>True) (D:=λ_ _=>True) (Q:=λ_=>True) (P:=λ_=>Nod.tp) (λi _=>gk gH i) (λi _=>TInv.all i _ _) L MOk.zero (by omega) ⟨λ_ _=>(by show AZ [] 0;decide),λ_ _=>trivial⟩ trivial λx b=>⟨h x b,Zt x,λ_=>trivial⟩).1.af i a
theorem TS(M:Meet){i:Nat}(b:i<5)(a:(M.af i).tp)(j:Nat):((M.act (acN 9 (i:Int))).af j).up=if j=i then true else(M.af j).up:=by
 show(upN M.af (i:Int).toNat _ j).up=_;unfold upN;rw[kx];split
 .split
  .assumption
  .exact(Iu a).2.1
 .rfl
theorem dY(M:Meet){x:Lac}(c:x.k≠8){j:Nat}(a:(M.af j).up=true):((M.act x).af j).up=true:=by
 by_cases b:x.k=1
 .have:=congrArg Prod.fst (ge M b j);split at this
  .exact this.trans a
  .exact this.trans a
 .by_cases h9:x.k=9
  .unfold Meet.act;simp only;rw[if_neg b,if_neg (by omega),if_neg (by omega),if_neg (by omega),if_neg (by omega),if_neg (by omega),if_pos h9,Iq];split
   .rename_i e;rw[<- e,if_pos a];exact a
   .exact a
  .exact(congrArg Prod.fst (dX M b c h9 j)).trans a
theorem Zq(L:List Lac)(a:∀ x∈L,x.k≠8)(M:Meet){j:Nat}(b:(M.af j).up=true):((M.nn L).af j).up=true:=by
 induction L generalizing M with
 | nil=>exact b
 | cons x L ih=>exact ih (λy c=>a y (O' _ c)) _ (dY M (a x P') b)
theorem OL(M:Meet)(L K:List Lac):M.nn (L++K)=(M.nn L).nn K:=nv
theorem QA{n:Int}(h:(k=2\/k=3\/k=9)/\0<=n/\n<=4):LacOk (acN k n):=by
 rw[<- Kp];rcases h with⟨rfl|rfl|rfl,h1,h2⟩<;>simp[aU,acN,F1,Hl,Hm]<;>omega
theorem Lf{P:Lac->Prop}(h:∀ n:Nat,n<5->P (acN k (n:Int))){j:Nat}(c:j<=5):∀ x∈Eu k j,P x:=by
 intro x b;obtain⟨n,a,rfl⟩:=kn.1 b;exact h n (by have:=l7.1 a;omega)
theorem KR{P:Lac->Prop}(b:∀ n:Nat,n<5->P (acN 3 (n:Int)))(c:P (acN 7 0))(m:Nat):∀ x∈Cv m,P x:=by
 induction m with
 | zero=>intro x a;cases a
 | succ m ih =>
  intro x a;rcases Q'.1 a with h|h
  .exact ih x h
  .rcases Q'.1 h with h|h
   .exact Lf b (A' _) x h
   .rw[G'.1 h];exact c
theorem Ym{P:Lac->Prop}(c:∀ n:Nat,n<5->P (acN 9 (n:Int)))(a:∀ n:Nat,n<5->P (acN 3 (n:Int)))(b:P (acN 7 0))(m:Nat):∀ x∈G0 m,P x:=by
 intro x d;rcases Q'.1 d with h|h
 .exact Lf c (A' _) x h
 .exact KR a b m x h
theorem bY(m:Nat):∀ x∈G0 m,LacOk x:=Ym (λn a=>QA ⟨.inr (.inr rfl),by omega,by omega⟩) (λn a=>QA ⟨.inr (.inl rfl),by omega,by omega⟩) (by rw[<- Kp];decide) m
theorem fS(L:List Lac)(h:∀ x∈L,LacOk x)(m:Nat)(o:L.length+6*m+5<=100000){j:Nat}(b:j<5):((AQ.nn (L++G0 m)).af j).up=true:=by
 unfold G0;rw[<- jI,OL];refine Zq _ (KR (λ_ _=>by show(3:Int)≠8;decide) (by decide) m) _ ?_;have d:∀ k,k<=5->j<k->((AQ.nn (L++Eu 9 k)).af j).up=true:=by
  intro k;induction k with
  | zero=>intro _ h;omega
  | succ k ih =>
   intro l c;have a:∀ x∈L++Eu 9 k,LacOk x:=λx g=>(Q'.1 g).elim (h x) λe=>Lf (λn p=>QA ⟨.inr (.inr rfl),by omega,by omega⟩) (by omega) x e;have f:=Zp (L++Eu 9 k) a (by rw[M',Xr];omega) (i:=k) (by omega);rw[IH,<- jI,MF,TS _ (by omega) f];split
   .rfl
   .exact ih (by omega) (by omega)
 exact d 5 (A' _) b
theorem NdI.mk'(b:p.up=true)(h:UpI σ i p rs)(a:AgL σ p.ae 0):NdI σ i p:=⟨λ_=>⟨rs,h⟩,λe=>(by rw[b]at e;cases e),a⟩
theorem AgL.nil(σ:Gs)(k:Nat):AgL σ [] k:=λs c e=>by simp at e
theorem AgL.drop(h:AgL σ l 0)(k:Nat):AgL σ (l.drop k) k:=λs c e=>by
 rw[kA]at e
 have:=h _ c e
 rwa [kl]at this
theorem UpI.wait(h:UpI σ i p rs){x:Pend}(a:PnI σ rs p.br x):UpI σ i (p.wait x) rs :=
 h.ov rfl rfl rfl h.rd rfl λy b=>(Q'.1 b).imp id λe=>by rw[G'.1 e];exact a
theorem UpI.fa(h:UpI σ i p rs)(a:Nat)(e:Int):UpI σ i (p.fa a e) rs:=by
 unfold Nod.fa;split
 .exact h.wait (by show At p.vo.p/\p.vo.p.key<=_;rw[h.tp.vo];exact⟨h.tp.ok.acc.1,kH _⟩)
 .exact h
theorem Nr(p:Nod)(a:Nat)(e:Int):(p.fa a e).ae=p.ae:=by unfold Nod.fa;split<;>rfl
theorem UpI.wrote{q:Nod}(h:UpI σ i p rs)(f:σ.le τ)(k:GsI τ)(e:τ.dr i=σ.dr i)(a:TpU q (σ.dr i) rs')(l:rs <+: rs')(n:∀ v,Rk.vt v∈rs'->τ.oE v){r:Rnd}(m:RdI τ i r)(b:p.br.fv.key<=r.fv.key)(c:r.fv.key<=q.vo.p.key){x:Pend}(o:PnI τ rs' r x)(j:q.bn=p.bn):UpI τ i (Nod.wait { q with br:=r } x) rs' :=
 ⟨by rw[e];exact⟨a.ok,a.pre,a.d,a.sy,a.vo,a.len⟩,n,m,c,λy s=>by
  rcases Q'.1 s with g|g
  .have g:y∈q.bn:=g;rw[j]at g
   exact(h.pe y g).mono f k l a.ok b
  .rw[G'.1 g];exact o⟩
theorem EU(h:UpI σ i p rs)(l:List Cmd):UpI σ i (p.eo l) rs/\(p.eo l).ae=p.ae:=by
 unfold Nod.eo;split
 .exact⟨h.ov rfl rfl rfl ⟨h.rd.fv,h.rd.next,h.rd.own,h.rd.al,h.rd.prom,h.rd.acc⟩ rfl λx a=>.inl a,rfl⟩
 .exact⟨h,rfl⟩
theorem P5(h:UpI σ i p rs)(a:AgL σ p.ae 0):UpI σ i p.nU rs/\AgL σ p.nU.ae 0:=⟨h.ov rfl rfl rfl h.rd rfl λx d=>.inl d,Tj (λj b v c=>(h.rd.al j b v c).1) 41 a⟩
theorem NdI.take(C:GsI σ){i:Nat}{p:Nod}(h:NdI σ i p)(D:p.up=true){l:Let}(u:LtI σ l)(G:l.src<5):NdI σ i (p.take l):=by
 obtain⟨f,k⟩:=h.up D;have c:=h.ag
 suffices g:∃ b,UpI σ i (p.take l) b/\AgL σ (p.take l).ae 0 by
  obtain⟨b,w,o⟩:=g;exact NdI.mk' ((congrArg Prod.fst (T5 p l)).trans D) w o
 unfold Nod.take;split
 .rename_i hk
  rcases k.tp.av l.fv with⟨e,he⟩|⟨e,he,hvs,b,hp,ht,hm,hpb,hpv,d,a,hq⟩
  .rw[if_pos e];exact⟨f,k.fa _ _,by rw[Nr];exact c⟩
  .rw[if_neg (λg=>g e)];have m:=Dj he;refine⟨b,?_,?_⟩
   .refine k.wrote (q:=(p.av l.fv).1) (r:=(p.av l.fv).1.br) (.refl σ) C rfl ht hp (λv B=>k.oE v ((hm v).1 B)) ?_ ?_ ?_ ⟨PrmOk.of ht.ok hpb (hpv.trans hvs.symm),u.k0 hk⟩ (by rw[hq];rfl)
    .rw[hq];exact k.rd
    .rw[hq];exact kH _
    .rw[ht.vo,hpb,hq];exact ko k.bp (BN m.2.1.pr m.1.1 m.2.2)
   .show AgL σ (p.av l.fv).1.ae 0;rw[hq];exact c
 .rename_i hk
  obtain⟨w,o,E⟩:=u.k1 hk;have y:AgL σ (p.gC 0 l.ed).ae 0:=P6 c E (j' _);have s:UpI σ i (p.gC 0 l.ed) f:=k.ov rfl rfl rfl k.rd rfl λx j=>.inl j;generalize p.gC 0 l.ed=K at y s ⊢;simp only;split
  .exact⟨f,s,y⟩
  .rename_i hc
   have A:K.leads=true:=by cases hh:K.leads with|true=>rfl|false=>exact absurd (.inl hh) hc
   have t:l.fv=K.br.fv:=jR.1 λe=>hc (.inr (.inl e));have z:K.br.fv≠Bh:=(kr A).1;rw[t]at w o
   have F:=(s.rd.fv.resolve_left z).2;rw[F,kx]at o
   have n:=s.rd.og w o;exact⟨f,P5 (p:={ K with br:={ K.br.og l.src l.ln with cl:=upN K.br.cl l.src l.ed.length } }) (s.ov rfl rfl rfl ⟨n.fv,n.next,n.own,n.al,n.prom,n.acc⟩ rfl λx j=>.inl j) y⟩
 .exact⟨f,k.ov rfl rfl rfl k.rd rfl λx j=>.inl j,c⟩
 .rename_i hk
  rcases k.tp.bN l.bN with⟨e,he⟩|⟨e,he,b,hp,ht,hm,hpb,d,a,hq⟩
  .rw[if_pos e];exact⟨f,k.fa _ _,by rw[Nr];exact c⟩
  .rw[if_neg (λg=>g e)];have m:=AC he;refine⟨b,?_,?_⟩
   .refine k.wrote (q:=(p.bN l.bN).1) (r:=(p.bN l.bN).1.br) (.refl σ) C rfl ht hp (λv B=>((hm v).1 B).elim (λe=>by rw[e];exact u.k3 hk) (k.oE v)) ?_ ?_ ?_ ((hm _).2 (.inl rfl)) (by rw[hq];rfl)
    .rw[hq];exact k.rd
    .rw[hq];exact kH _
    .rw[ht.vo,hpb,hq];exact ko k.bp (BN m.2.1.2.1.pr m.1.1 m.2.2)
   .show AgL σ (p.bN l.bN).1.ae 0;rw[hq];exact c
 .rename_i hk
  exact⟨f,k.count c (u.k4 hk)⟩
 .rename_i hk
  split
  .exact⟨f,k.wait trivial,c⟩
  .rename_i hlt;exact⟨f,k.ov rfl rfl rfl k.rd rfl λx j=>.inl j,P6 c (u.k5 hk) (by omega)⟩
 .have:=EU k l.ed;simp only;split
  .exact⟨f,this.1.wait trivial,by show AgL σ (p.eo l.ed).ae 0;rw[this.2];exact c⟩
  .exact⟨f,this.1,by rw[this.2];exact c⟩
 .exact⟨f,k,c⟩
theorem UY(W:GsI σ){i:Nat}{p:Nod}(h:RdI σ i p.br)(X:Ad p.br.fv)(Y:p.br.om=true){s:Nat}(hs:p.br.next<=s){c:Cmd}(t:p.oo s=some c):DD σ.H σ.P s p.br.fv.key c:=by
 have h5:5<2*KE p.br.nX:=kr Y;have m:∀ j,j<5->∀ v∈(p.br.al j).vs,v.au=(s:Int)->v∈Af (p.br.jv.map (·.vs)).flatten (s:Int):=λj F v M e=>by
  refine B1.2 ⟨mX.2 ⟨(p.br.al j).vs,kn.2 ⟨p.br.al j,?_,rfl⟩,M⟩,e⟩;unfold Rnd.jv;rcases nT F with rfl|rfl|rfl|rfl|rfl<;>simp
 refine⟨p.br.nX,by omega,λq n o=>(h.prom q n o).1,?_⟩;unfold Nod.oo at t;split at t
 .cases t
 .rename_i d
  have d:=jR.1 d;have D:Fx (p.br.jv.map (·.vs)) (s:Int)=(GD (p.br.jv.map (·.vs)) (s:Int)).isSome:=if_pos d;have S:GC (p.br.jv.map (·.vs)) (s:Int)=((GD (p.br.jv.map (·.vs)) (s:Int)).map (·.w)).getD ⟨0,0,0,0,0⟩:=if_pos d;have r:∀ l∈p.br.jv.map (·.vs),∀ v∈l,Ak v:=by
   unfold CM at d;split at d
   .cases d
   .split at d
    .assumption
    .cases d
  have L:∀ v∈Af (p.br.jv.map (·.vs)).flatten (s:Int),At v.b:=λv M=>by
   obtain⟨l,k,f⟩:=mX.1 (B1.1 M).1;exact(r l k v f).2.1.pr
  rcases QF _ L with⟨h0,E⟩|⟨x,E,hx,hmax⟩
  .left;intro q n o U V ⟨v,g,R,Z,k3⟩;refine Int.not_lt.1 λz=>?_;obtain⟨u,k,f,_⟩:=(h.prom q n o).2 v g (by omega);have:=m q n u k (f.trans R);rw[h0]at this;cases this
  .right;have E:GD (p.br.jv.map (·.vs)) (s:Int)=some x:=E;rw[E]at D S
   have D:Fx (p.br.jv.map (·.vs)) (s:Int)=true:=D;rw[if_pos D]at t
   have G:c=x.w:=(kK t).symm.trans S;obtain⟨O,Q⟩:=B1.1 hx;obtain⟨j,F,N⟩:∃ j,j<5/\x∈(p.br.al j).vs:=by
    obtain⟨l,k,f⟩:=mX.1 O;obtain⟨a,C,rfl⟩:=kn.1 k;unfold Rnd.jv at C;simp only[jQ,N',or_false]at C;rcases C with rfl|rfl|rfl|rfl|rfl
    .exact⟨0,by omega,f⟩
    .exact⟨1,by omega,f⟩
    .exact⟨2,by omega,f⟩
    .exact⟨3,by omega,f⟩
    .exact⟨4,by omega,f⟩
   obtain⟨y,I,J⟩:=h.al j F x N;have B:=W.hv j x y;have A:x.b≠p.br.fv:=λe=>by
    have k:=B.2;rw[e]at k
    have:=h.next _ _ k;omega
   have z:x.b.key<p.br.fv.key:=by
    rcases Int.lt_or_eq_of_le I with g|g
    .exact g
    .exact absurd (H6 B.1.2.1.pr X.pr g) A
   have K:p.br.nX j=true:=by
    cases hh:p.br.nX j with
    | true=>rfl
    | false=>exact absurd (J hh) A
   refine⟨x.b.key,z,⟨j,F,K,x,y,Q,rfl,G.symm⟩,λq n o U V ⟨v,g,R,Z,k3⟩ T=>?_⟩;obtain⟨u,k,f,C⟩:=(h.prom q n o).2 v g (by omega);have:=hmax u (m q n u k (f.trans R));omega
def Gs.prop(σ:Gs)(b:Bal)(s:Nat)(c:Cmd):Gs:=⟨σ.dr,λb' s' c'=>σ.W b' s' c'\/(b'=b/\s'=s/\c'=c)⟩
theorem GsI.prop(h:GsI σ){b:Bal}{s:Nat}{c:Cmd}(e:Ad b)(d:DD σ.H σ.P s b.key c)(f:b.key<=σ.P b.n.toNat)(a:∀ c',¬ σ.W b s c'):GsI (σ.prop b s c):=by
 refine⟨h.ok,h.pj,?_,?_,?_,λn v g=>⟨(h.hv n v g).1,.inl (h.hv n v g).2⟩⟩
 .rintro b' s' c1 c2 (g|⟨rfl,rfl,rfl⟩) (k|⟨e1,e2,e3⟩)
  .exact h.w1 _ _ _ _ g k
  .subst e1 e2;exact absurd g (a _)
  .exact absurd k (a _)
  .exact e3.symm
 .rintro b' s' c' (g|⟨rfl,rfl,rfl⟩)
  .exact h.w2 _ _ _ g
  .exact⟨e,d⟩
 .rintro b' s' c' (g|⟨rfl,rfl,rfl⟩)
  .exact h.w3 _ _ _ g
  .exact f
theorem NdI.dT(x:GsI σ){i:Nat}{p:Nod}(h:NdI σ i p)(D:p.up=true):∃ τ ex,Gs.pk i σ τ/\GsI τ/\NdI τ i p.dT/\(∀ b s c,τ.W b s c->σ.W b s c\/ex=some (b,s))/\∀ b s,ex=some (b,s)->s<40/\b=p.br.fv:=by
 obtain⟨rs,k⟩:=h.up D;have f:∃ τ ex,Gs.pk i σ τ/\GsI τ/\NdI τ i p/\(∀ b s c,τ.W b s c->σ.W b s c\/ex=some (b,s))/\∀ b s,ex=some (b,s)->s<40/\b=p.br.fv:=⟨σ,none,.refl i σ,x,h,λ_ _ _ h=>.inl h,λ_ _ e=>by cases e⟩;have o:=(Hb p).trans D
 revert o
 unfold Nod.dT;split
 .exact λ_=>f
 .rename_i hc
  have z:p.leads=true:=by cases hh:p.leads with|true=>rfl|false=>exact absurd (.inl hh) hc
  have n:p.br.om=true:=by cases hh:p.br.om with|true=>rfl|false=>exact absurd (.inr (.inl hh)) hc
  have A:p.br.next<=p.ae.length:=Nat.not_lt.1 λe=>hc (.inr (.inr e));cases hn:p.oo p.ae.length with
  | none=>exact λ_=>f
  | some c =>
   simp only;rcases k.tp.bN ⟨(p.ae.length:Int),p.br.fv,c⟩with⟨e,he⟩|⟨e,he,rs',hp,ht,hm,hpb,d,a,w⟩
   .rw[if_pos e];exact λ_=>f
   .rw[if_neg (λg=>g e)];intro o;have E:=AC he;have y:p.br.fv≠Bh:=(kr z).1;obtain⟨C,t⟩:=k.rd.fv.resolve_left y;have G:=UY x k.rd C n A hn;have H:∀ m,¬ σ.W p.br.fv p.ae.length m:=λm g=>by have:=k.rd.next _ _ g;omega
    have I:p.br.fv.key<=σ.P i:=by
     obtain⟨q,w,F,_⟩:=Lh p.br.nX p.br.nX (by have:5<2*KE p.br.nX:=kr n;omega) (by have:5<2*KE p.br.nX:=kr n;omega);exact k.rd.own q w F
    have l:=x.prop C G (by rw[t,kx];exact I) H;have j:Gs.pk i σ (σ.prop p.br.fv p.ae.length c):=⟨⟨λ_=>kX _,λ_ _ _ g=>.inl g⟩,λb s m g=>g.imp id λe=>by rw[e.1];exact t,λ_ _=>rfl⟩;have B:(σ.prop p.br.fv p.ae.length c).oE ⟨(p.ae.length:Int),p.br.fv,c⟩:=⟨E.2.1,.inr ⟨rfl,kx _,rfl⟩⟩;have K:=k.rd.mono (τ:=σ.prop p.br.fv p.ae.length c) (r:=p.br) j.le l;refine⟨_,some (p.br.fv,p.ae.length),j,l,NdI.mk' (rs:=rs') o ?_ ?_,λb s m g=>g.imp id λe=>by rw[e.1,e.2.1],λb s e=>?_⟩
    .refine k.wrote (q:=(p.bN ⟨(p.ae.length:Int),p.br.fv,c⟩).1) (r:={ p.br with next:=p.ae.length+1 }) j.le l rfl ht hp (λv J=>((hm v).1 J).elim (λe=>by rw[e];exact B) λg=>j.le.oE (k.oE v g)) ?_ (kH _) ?_ ((hm _).2 (.inl rfl)) (by rw[w];rfl)
     .have g:=k.rd;refine RdI.mono (σ:=σ) j.le l (r:={ p.br with next:=p.ae.length+1 }) ⟨g.fv,λs m u=>Y' (g.next s m u) (by show p.br.next<=p.ae.length+1;omega),g.own,g.al,g.prom,g.acc⟩ λs m u=>?_;rcases u with u|⟨_,rfl,_⟩
      .exact Y' (g.next s m u) (by show p.br.next<=p.ae.length+1;omega)
      .exact Nat.lt_succ_self _
     .rw[ht.vo,hpb];exact kH _
    .show AgL _ (p.bN ⟨(p.ae.length:Int),p.br.fv,c⟩).1.ae 0;rw[w];exact h.ag.mono j.le
    .cases e;have:=E.2.1.1.2;exact⟨by simp only at this;omega,rfl⟩
theorem LtI.none{l:Let}(h:l.kind=6):LtI σ l:=⟨λe=>by omega,λe=>by omega,λe=>by omega,λe=>by omega,λe=>by omega,λe=>by omega⟩
theorem LtI.news{l:Let}(h:l.kind=5)(a:AgL σ l.ed l.au):LtI σ l:=⟨λe=>by omega,λe=>by omega,λe=>by omega,λe=>by omega,λe=>by omega,λ_=>a⟩
theorem NdI.run(D:GsI σ){i:Nat}(I:i<5){p:Nod}(h:NdI σ i p)(j:p.up=true){q:Pend}{l:List Pend}(B:p.bn=q::l)(F:¬ p.sy<(p.d.length:Int)):NdI σ i { p.nR i q with bn:=l }/\∀ m∈p.nV i q,LtI σ m:=by
 obtain⟨C,k⟩:=h.up j;have f:=k.tp.all F;have c:=k.pe q (by rw[B];exact P');have u:∀ x∈l,x∈p.bn:=λx w=>by rw[B];exact O' _ w
 have o:∀ {p':Nod},UpI σ i p' C->p'.bn=p.bn->UpI σ i { p' with bn:=l } C:=λ{p'} g e=>g.ov rfl rfl rfl g.rd rfl λx w=>.inl (by rw[e];exact u x w);cases q with
 | began b vs =>
  unfold Nod.nR Nod.nV;simp only;split
  .exact⟨NdI.mk' j (o k rfl) h.ag,λm a=>by cases a⟩
  .rename_i e
   have e:=jR.1 e;obtain⟨y,H⟩:=c;have r:=k.tp.ok.acc;rw[<- k.tp.vo]at r
   have A:=k.bp;have z:p.br.fv=b:=by
    rw[<- e];refine H6 ?_ r.1 (by rw[e]at A ⊢;omega);rcases k.rd.fv with g|g
    .rw[g];exact .inr ⟨rfl,rfl⟩
    .exact g.1.pr
   have s:b.key<=σ.P i:=by have:=y.le;rw[<- f]at this;exact this
   rw[<- f,<- z]at y
   rw[<- z]at s
   refine⟨NdI.mk' j (o (p':={ p with br:=p.br.og i vs }) (k.ov rfl rfl rfl (k.rd.og y s) rfl λx w=>.inl w) rfl) h.ag,λm a=>?_⟩;obtain⟨t,_,rfl⟩:=Cm a;refine⟨λ_=>?_,λe=>(by cases e),λe=>(by cases e),λe=>(by cases e),λe=>(by cases e),λe=>(by cases e)⟩;show b.key<=σ.P b.n.toNat;rw[<- z];rcases k.rd.fv with g|g
   .rw[g];have G:=(D.ok (Bh.n.toNat)).acc.1;have:0<=σ.P (Bh.n.toNat):=by
     unfold At Ad at G;unfold Gs.P Bal.key;omega
    exact this
   .rw[g.2,kx];exact s
 | prom t b vs =>
  refine⟨NdI.mk' j (o k rfl) h.ag,λm a=>?_⟩;rw[G'.1 a];refine⟨λe=>(by cases e),λ_=>⟨?_,c.2,h.ag⟩,λe=>(by cases e),λe=>(by cases e),λe=>(by cases e),λe=>(by cases e)⟩;show PrmOk (σ.dr i) b vs;rw[f];exact c.1
 | voted t v =>
  refine⟨NdI.mk' j (o k rfl) h.ag,λm a=>?_⟩;rw[G'.1 a];refine⟨λe=>(by cases e),λe=>(by cases e),λe=>(by cases e),λe=>(by cases e),λ_=>?_,λe=>(by cases e)⟩;show Rk.vt v∈σ.dr i;rw[f];exact c
 | fa t b =>
  refine⟨NdI.mk' j (o k rfl) h.ag,λm a=>?_⟩;rw[G'.1 a];refine⟨λe=>(by cases e),λe=>(by cases e),λ_=>?_,λe=>(by cases e),λe=>(by cases e),λe=>(by cases e)⟩;show At b/\b.key<=(BH (σ.dr i)).p.key;rw[f];exact c
 | prop v =>
  have E:σ.held i v:=by show Rk.vt v∈σ.dr i;rw[f];exact c
  have g:=k.count h.ag E;refine⟨NdI.mk' ((congrArg Prod.fst (KI p i v)).trans j) (o g.1 (EH p i (.prop v)).1) g.2,λm a=>?_⟩;obtain⟨t,_,rfl⟩:=Cm a;exact⟨λe=>(by cases e),λe=>(by cases e),λe=>(by cases e),λ_=>k.oE v c,λe=>(by cases e),λe=>(by cases e)⟩
 | askNews t=>exact⟨NdI.mk' j (o k rfl) h.ag,λm a=>by rw[G'.1 a];exact LtI.none rfl⟩
 | start=>exact⟨NdI.mk' j (o k rfl) h.ag,λm a=>by obtain⟨t,_,rfl⟩:=Cm a;exact LtI.none rfl⟩
 | tell t au=>exact⟨NdI.mk' j (o k rfl) h.ag,λm a=>by rw[G'.1 a];exact LtI.news rfl (h.ag.drop au)⟩
theorem NdI.lead(w:GsI σ){i:Nat}(E:i<5){p:Nod}(h:NdI σ i p)(y:p.up=true):NdI σ i (p.lead i):=by
 obtain⟨rs,k⟩:=h.up y;have f:(p.lead i).up=true:=(congrArg Prod.fst (Tf p i)).trans y
 revert f
 unfold Nod.lead;simp only;generalize m:(⟨max p.cn p.vo.p.r+1,(i:Int)⟩:Bal)=b;rcases k.tp.av b with⟨e,he⟩|⟨e,he,hvs,rs',hp,ht,hm,hpb,hpv,d,a,hq⟩
 .rw[if_pos e];exact λ_=>h
 .rw[if_neg (λg=>g e)];intro f;have A:=Dj he;have C:p.vo.p.key<b.key:=by
   have:=A.1.1;rw[<- m];unfold At Ad at this;show 5*p.vo.p.r+p.vo.p.n<5*(max p.cn p.vo.p.r+1)+(i:Int);omega
  refine NdI.mk' (rs:=rs') f ?_ ?_
  .refine k.wrote (q:=(p.av b).1) (r:=⟨b,λ_=>false,λ_=>DT,λ_=>p.ae.length,0,[]⟩) (.refl σ) w rfl ht hp (λv o=>k.oE v ((hm v).1 o)) ?_ ?_ ?_ ⟨PrmOk.of ht.ok hpb (hpv.trans hvs.symm),kH _⟩ (by rw[hq];rfl)
   .refine⟨.inr ⟨A.2.1,by rw[<- m]⟩,λs c B=>?_,λj _ e=>(by cases e),λj _ v o=>(by cases o),λj _ e=>(by cases e),λj _=>⟨Kh,λe=>(by cases e)⟩⟩;have l:=w.w3 _ _ _ B;rw[show b.n.toNat=i by rw[<- m];exact kx i]at l
    obtain⟨x,z⟩:=k.tp.pre;have t:=k.tp.ok;rw[<- z]at t
    have u:=(EG t).1;rw[z,<- k.tp.vo]at u
    have D:σ.P i<=p.vo.p.key:=u;have l:b.key<=σ.P i:=l;omega
   .have:=k.bp;show _<=b.key;omega
   .rw[ht.vo,hpb];exact kH _
  .show AgL σ (p.av b).1.ae 0;rw[hq];exact h.ag
theorem V1(k:Nat):∀ m∈Dv p i k,m.kind=5/\m.ed=p.ae.drop m.au:=by
 induction k with
 | zero=>intro m hm;cases hm
 | succ k ih =>
  intro m hm;rw[Dv]at hm
  rcases Q'.1 hm with hm|hm
  .exact ih m hm
  .split at hm
   .rw[G'.1 hm];exact⟨rfl,rfl⟩
   .cases hm
theorem AgI.step(h:AgI σ M)(s:Stp D n M N):∃ τ ex,σ.le τ/\AgI τ N/\(∀ b s c,τ.W b s c->σ.W b s c\/ex=some (b,s))/\∀ b s,ex=some (b,s)->n=1/\s<40/\∃ i,i<5/\b=(M.af i).br.fv:=by
 have t:=h.gs;have done:∀ {i:Nat} {p:Nod} {H:List Let} {O:List Tol},NdI σ i p->(∀ l∈H,l∈M.bt\/LtI σ l)->∃ τ ex,σ.le τ/\AgI τ (M.set i p H O)/\(∀ b s c,τ.W b s c->σ.W b s c\/ex=some (b,s))/\∀ b s,ex=some (b,s)->n=1/\s<40/\∃ i,i<5/\b=(M.af i).br.fv:=λ{i p H O} F o=>⟨σ,none,.refl σ,h.set (.refl _ σ) t F o O,λ_ _ _ h=>.inl h,λ_ _ e=>by cases e⟩;have f:∀ l∈M.bt,l∈M.bt\/LtI σ l:=λl o=>.inl o;have app:∀ {ms:List Let},(∀ m∈ms,LtI σ m)->∀ l∈M.bt++ms,l∈M.bt\/LtI σ l:=λg l o=>(Q'.1 o).imp id (g l);cases s with
 | take _ l o hd hu _=>exact done ((h.nd _ hd.2).take t hu (h.lt l o) hd.1) f
 | bt _ H o _=>exact⟨σ,none,.refl σ,⟨t,h.nd,λl g=>h.lt l (o l g)⟩,λ_ _ _ h=>.inl h,λ_ _ e=>by cases e⟩
 | one _ i c hi hu hc he =>
  refine done ?_ f;obtain⟨rs,k⟩:=(h.nd i hi).up hu;have R:=El { M.af i with lr:=doS (M.af i).lr c,done:=(M.af i).done+1 } c;refine NdI.mk' (R.1.trans hu) (rs:=rs) ?_ (by rw[R.2.1];exact(h.nd i hi).ag);unfold Nod.hZ;split<;>exact k.ov rfl rfl rfl k.rd rfl λx a=>.inl a
 | ask _ i hi hu =>
  obtain⟨rs,k⟩:=(h.nd i hi).up hu;have A:=(h.nd i hi).ag;have E:=(NR (M.af i) i).trans hu;generalize F:M.af i=p at k A E ⊢;refine done (NdI.mk' (rs:=rs) E ?_ ?_) (app ?_)
  .unfold Nod.nr;split
   .exact k.ov rfl rfl rfl k.rd rfl λx a=>.inl a
   .split
    .exact(EU (p:={ p with bw:=(CP p.vo.p p.bw (p.an.take 40)).2 }) (k.ov rfl rfl rfl k.rd rfl λx a=>.inl a) _).1
    .exact k.ov rfl rfl rfl k.rd rfl λx a=>.inl a
  .unfold Nod.nr;split
   .exact A
   .split
    .show AgL σ (Nod.eo _ _).ae 0;rw[(EU (p:={ p with bw:=(CP p.vo.p p.bw (p.an.take 40)).2 }) (k.ov rfl rfl rfl k.rd rfl λx a=>.inl a) _).2];exact A
    .exact A
  .intro m w;unfold Nod.nr at w;split at w
   .cases w
   .split at w
    .cases w
    .rw[G'.1 w];exact LtI.none rfl
 | prop _ i hi hu =>
  obtain⟨τ,ex,r,z,X,Y,P⟩:=(h.nd i hi).dT t hu;exact⟨τ,ex,r.le,h.set r z X (λl o=>.inl o) _,Y,λb s e=>⟨rfl,(P b s e).1,i,hi,(P b s e).2⟩⟩
 | ou _ i hi hu hlt I =>
  obtain⟨rs,k⟩:=(h.nd i hi).up hu;obtain⟨x,a⟩:=k.tp.pre;have z:=t.ext (i:=i) x (by rw[a];exact k.tp.ok) λv u=>k.oE v (by rw[<- a];exact kw _ u);have r:=Of σ i x;refine⟨σ.ext i x,none,r.le,h.set r z (NdI.mk' (p:={ M.af i with sy:=((M.af i).d.length:Int) }) (rs:=rs) hu ⟨?_,λv u=>r.le.oE (k.oE v u),k.rd.mono r.le z λs c J=>k.rd.next s c J,k.bp,λq G=>(k.pe q G).mono r.le z (kX _) k.tp.ok (kH _)⟩ ((h.nd i hi).ag.mono r.le)) (λl o=>.inl o) _,λ_ _ _ h=>.inl h,λ_ _ e=>by cases e⟩;rw[GP,a];exact k.tp.ou
 | run _ i hi hu q l F hs =>
  have g:=(h.nd i hi).run t hi hu F hs;exact done g.1 (app g.2)
 | oK _ i hi hu hL =>
  obtain⟨rs,k⟩:=(h.nd i hi).up hu;refine done (NdI.mk' (rs:=rs) hu (k.ov rfl rfl rfl ⟨k.rd.fv,k.rd.next,k.rd.own,k.rd.al,k.rd.prom,k.rd.acc⟩ rfl λx a=>.inl a) (h.nd i hi).ag) (app λm w=>?_);obtain⟨U,V⟩:=V1 5 m w;exact LtI.news U (by rw[V];exact(h.nd i hi).ag.drop _)
 | lead _ i hi hu _=>exact done ((h.nd i hi).lead t hi hu) f
 | sub _ i d hi hu Q =>
  obtain⟨rs,k⟩:=(h.nd i hi).up hu;have A:=(h.nd i hi).ag;refine done ?_ f;unfold Nod.oA Nod.oz;split
  .exact h.nd i hi
  .split
   .exact NdI.mk' (rs:=rs) hu (k.ov rfl rfl rfl k.rd rfl λx a=>.inl a) A
   .split
    .exact h.nd i hi
    .show NdI σ i (Nod.want _ _);unfold Nod.want;split
     .exact h.nd i hi
     .exact NdI.mk' (rs:=rs) hu (k.ov rfl rfl rfl k.rd rfl λx a=>.inl a) A
 | lp _ i c hi hu hc _ =>
  obtain⟨rs,k⟩:=(h.nd i hi).up hu;obtain⟨T,⟨x,a⟩,⟨y,S⟩,Q⟩:=k.tp.lp hc;have z:=t.ext (i:=i) x (k.tp.ok.pre ⟨y,by rw[a];exact S⟩) λv u=>k.oE v (by rw[<- S,<- a];exact ks _ (kw _ u));have r:=Of σ i x;have B:=KJ (p:=M.af i) k.tp.pT hc;exact⟨σ.ext i x,none,r.le,h.set r z ⟨λe=>(by rw[B.2.1]at e;cases e),λ_=>(by rw[GP,a];exact Q),by rw[B.2.2.2];exact AgL.nil _ _⟩ (λl o=>.inl o) _,λ_ _ _ h=>.inl h,λ_ _ e=>by cases e⟩
 | start _ i hi hu _ =>
  have k:=(h.nd i hi).dn hu;have I:AZ (M.af i).d (M.af i).sy:=⟨k.len,by rw[k.sy];omega,by rw[k.sy];omega⟩;have C:=Iu (p:=M.af i) I;have L:=k.start;have K:(M.af i).start.br=bX/\(M.af i).start.bn=[.start]:=by
   unfold Nod.start;rw[if_neg (λe=>e (if_pos I))];split<;>exact⟨rfl,rfl⟩
  refine done (NdI.mk' (rs:=σ.dr i) C.2.1 ⟨L,λv u=>t.hv i v u,?_,?_,λq G=>?_⟩ (by rw[C.2.2.2];exact AgL.nil _ _)) f
  .rw[K.1];exact⟨.inl rfl,λs c J=>absurd (t.w2 _ _ _ J).1 (by decide),λj _ e=>(by cases e),λj _ v u=>(by cases u),λj _ e=>(by cases e),λj _=>⟨Kh,λe=>(by cases e)⟩⟩
  .rw[K.1,L.vo];have Z:=L.ok.acc.1;show(0:Int)<=_;unfold At Ad at Z;unfold Bal.key;omega
  .rw[K.2]at G
   rw[G'.1 G];trivial
theorem AgI.steps(s:Sts D n M N){σ:Gs}(h:AgI σ M):∃ (τ:Gs) (ex:List (Bal × Nat)),σ.le τ/\AgI τ N/\ex.length<=n/\∀ b s c,τ.W b s c->σ.W b s c\/(b,s)∈ex:=by
 induction s with
 | nil=>exact⟨σ,[],.refl σ,h,j' _,λ_ _ _ h=>.inl h⟩
 | snoc _ s hm ih =>
  obtain⟨τ,ex,a,l,o,i⟩:=ih h;obtain⟨υ,k,d,f,j,m⟩:=l.step s;cases k with
  | none=>exact⟨υ,ex,a.trans d,f,by omega,λb s c g=>(j b s c g).elim (i b s c) λe=>by cases e⟩
  | some x=>exact⟨υ,x::ex,a.trans d,f,by have:=(m x.1 x.2 rfl).1;rw[ke];omega,λb s c g=>(j b s c g).elim (λg=>(i b s c g).imp id (O' _)) λe=>.inr (by cases e;exact P')⟩
theorem AgI.zero:AgI ⟨λ_=>[],λ_ _ _=>False⟩ AQ :=
 ⟨⟨λ_=>AU.nil,⟨λn s b c ⟨v,g,_⟩=>(by cases g),λn k s b c h ⟨v,g,_⟩=>(by cases g),λn s b c ⟨v,g,_⟩=>(by cases g)⟩,λ_ _ _ _ g=>g.elim,λ_ _ _ g=>g.elim,λ_ _ _ g=>g.elim,λn v g=>(by cases g)⟩,
  λi _=>NdI.mk' (rs:=[]) rfl ⟨TpU.zero,λv g=>(by cases g),⟨.inl rfl,λ_ _ g=>g.elim,λj _ e=>(by cases e),λj _ v f=>(by cases f),λj _ e=>(by cases e),λj _=>⟨Kh,λe=>(by cases e)⟩⟩,kH _,λq d=>(by cases d)⟩ (AgL.nil _ _),λl a=>by cases a⟩
theorem agree{K:List Lac}(k:∀ x∈L++K,LacOk x)(q:(L++K).length<=100000){i j:Nat}(o:i<5)(p:j<5){s:Nat}{c d:Cmd}(m:((AQ.nn L).af i).ae[s]?=some c)(n:((AQ.nn (L++K)).af j).ae[s]?=some d):c=d:=by
 rw[M']at q
 have a:∀ x∈L,LacOk x:=λx b=>k x (ks _ b);have r:Sts whT L.length AQ (AQ.nn L):=K3 L MOk.zero (by omega) λx b=>⟨a x b,TJ x⟩;have t:Sts whT K.length (AQ.nn L) (AQ.nn (L++K)):=by
  rw[OL];exact K3 K (OM L a (by omega)) (by omega) λx b=>⟨k x (kw _ b),TJ x⟩
 obtain⟨σ,_,_,g,_⟩:=AgI.zero.steps r;obtain⟨τ,_,l,h,_⟩:=g.steps t;have e:=l.po ((g.nd i o).ag s c m);have f:=(h.nd j p).ag s d n;obtain⟨u,e⟩:=e;obtain⟨v,f⟩:=f;exact h.gs.pj.agree e f
end
end
end Go.Proofs.YthohlalejhgbmaaGreatDoor
