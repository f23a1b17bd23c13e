/- Part 18 of the walk. -/
import Derived.Test.YtalbmmghmoggcaaGreatDoorZ17
set_option maxRecDepth 100000
set_option maxHeartbeats 4000000
open Go.Proofs.Tryz
set_option linter.unusedVariables false
namespace Go.Proofs.YtalbmmghmoggcaaGreatDoor
section
open Go.RowKit
section
variable{n tc tr tu k c s m v:Int}(h:paE n tc tr tu k c s m v=0)
include h
end
theorem Ks{n tc tr tu k c s m v:Int}(h:paE n tc tr tu k c s m v=0):(paL n tc tr tu k c s m v).length=63:=by
 rw[Wc h,List.length_cons,Fl,Gp]
theorem fG{W:World}(x:S3)(k:Nat)(hk:k<=x.c)(ha:∃ b off,x.a=some ⟨b,off,none⟩):(Instr.sliceAt 25 x.v none (some (iv (k:Int))) none).run prog W=.ok (S3.v ⟨x.a,k,x.c⟩) W:=by
 obtain⟨b,off,ha⟩:=ha;obtain⟨xa,xn,xc⟩:=x;simp only at ha hk;subst ha;have e:prog.elem 25=5:=by kernel_rfl
 rw[run_sliceAt_slice _ _ _ _ _ _ Zm,run_slice_h (P:=prog) (w:=W) _ _ _ _ Zm .i64 k (by omega) (by show(k:Int)<=((xc:Nat):Int);omega),e,Gy];simp[Result.andThen,sliced,Addr.add]
theorem FSl.take{g:Gh}{w:World}{x:S3}{l:List Int}(h:FSl g w x l)(k:Nat)(hk:k<=l.length):FSl g w ⟨x.a,k,x.c⟩ (l.take k):=by
 have hn:=Ir h.s;obtain⟨⟨⟨a,cap,hv,hc,hn,h1⟩,h2,h3⟩,h4⟩:=h;simp only[Value.slice.injEq]at hv;obtain⟨rfl,hxn,rfl⟩:=hv;refine⟨⟨⟨_,_,by simp only[Value.slice.injEq,and_true,true_and,List.length_take];omega,by rw[List.length_take];omega,hn,?_⟩,by rw[List.length_take];omega,fun z hz=>h3 z (List.mem_of_mem_take hz)⟩,fun hl=>h4 fun e=>hl (by rw[e];simp)⟩;rcases h1 with h1|⟨b,off,ha,hbs,hcell⟩
 .exact .inl (by rw[h1];simp)
 .refine .inr ⟨b,off,ha,hbs,fun i hi=>?_⟩;rw[List.length_take]at hi
  rw[show(l.take k).getD i 0=l.getD i 0 by simp[List.getD,show i<k by omega]];exact hcell i (by omega)
theorem FSl.addr{g:Gh}{w:World}{x:S3}{l:List Int}(h:FSl g w x l)(hl:l≠[]):(∃ b off,x.a=some ⟨b,off,none⟩)/\l.length<=x.c:=by
 obtain⟨⟨⟨a,cap,hv,hc,hn,h1⟩,h2,h3⟩,h4⟩:=h;simp only[Value.slice.injEq]at hv;obtain⟨rfl,hxn,rfl⟩:=hv;rcases h1 with h1|⟨b,off,ha,_⟩
 .exact absurd h1 hl
 .exact⟨⟨b,off,ha⟩,hc⟩
theorem Tq{g:Gr}{w:World}(h:GrOk g)(hT:Tabs w) :
  Calls prog 11 #[.agg #[iv g.k,iv g.a,iv g.b,iv g.c,iv g.d]] w fun e w'=>∃ y:S3,e=.returned y.v/\Sl w' y.v (pkB g)/\Nb w.heap.size y (pkB g)/\Bw w w':=by
 have hl:(pkP g).length=63:=Ks (Wi g);have r4:=Bb g.c 4 (by omega);refine tIn [] func11 trivial ?_;refine tR 18 [0,0,0,0,0,0,0] fun σ1 _ _=>?_;refine tC 11 (fun F C=>Po h.b h.c h.d h.a h.d) fun Nz=>?_;rintro _ _ ⟨rfl,b2⟩;refine⟨_,_,rfl,b2,id,?_⟩;refine tR 16 [0,0,1,0,1,1,0,2,0,0] fun σ3 _ _=>?_;refine tC 2 (fun F C=>BO h.d 17) fun Nz=>?_;rintro _ _ ⟨rfl,b4⟩;refine⟨_,_,rfl,b4,id,?_⟩;refine tR 1 [] fun σ5 _ _=>?_;refine TF 56 (fun ee LL ΦΦ=>∃ (tc tr:Int),ee=[(1,pt (σ1 0) 0),(3,pt (σ3 0) 0),(4,pt (σ3 1) 0)]/\LL=[⟨(σ1 0),.cells #[iv g.k,iv g.a,iv g.b,iv g.c,iv g.d] 42,.z,false⟩,⟨(σ3 0),.cells #[iv (wK g.b),iv (pick g.c 4),iv (pick g.d 6),iv (pick g.a 4),iv (wV g.b g.d)] 54,.z,false⟩,⟨(σ3 1),.cells #[iv tc,iv tr,iv 60] 58,.l,false⟩]/\ΦΦ=[]/\tc=pkT g/\tr=pkR g) (fun J hJ=>?_) ?_
 .refine tR 6 [] fun σ6 _ _=>?_;by_cases h1:pick g.d 17=15
  .refine tI (((pick g.d 17)==15)) true (by simpa using h1) ?_;refine tR 5 [2,0] fun σ7 _ _=>?_;exact tD hJ [true,true,true] ⟨pick g.c 4,0,rfl,rfl,rfl,(if_neg (by omega)).symm,(if_pos h1).symm⟩ (fun F=>trivial)
  .refine tI (((pick g.d 17)==15)) false (by simpa using h1) ?_;refine tR 5 [] fun σ8 _ _=>?_;by_cases h2:pick g.d 17=16
   .refine tI (((pick g.d 17)==16)) true (by simpa using h2) ?_;refine tR 3 [2] fun σ9 _ _=>?_;refine tV 2 (iv (pick g.c 4+1)) (fun F C=>(AN (x:=(.tmp 31)) (y:=(.const (iv 1))) (pick g.c 4) 1 underlying3 (by omega))) ?_;refine tV 3 (iv ((pick g.c 4+1)%4)) (fun F C=>(Wr (x:=(.tmp 32)) (y:=(.const (iv 4))) (pick g.c 4+1) 4 underlying3 (by omega) (by omega) (by decide) (by decide))) ?_;refine tR 4 [2,0] fun σ11 _ _=>?_;exact tD hJ [true,true,true] ⟨(pick g.c 4+1)%4,7,rfl,rfl,rfl,(if_pos h2).symm,(if_neg h1).symm⟩ (fun F=>trivial)
   .refine tI (((pick g.d 17)==16)) false (by simpa using h2) ?_;refine tR 2 [] fun σ12 _ _=>?_;exact tD hJ [true,true,true] ⟨pick g.c 4,7,rfl,rfl,rfl,(if_neg h2).symm,(if_neg h1).symm⟩ (fun F=>trivial)
 rintro _ _ _ ⟨tc,tr,rfl,rfl,rfl,htc,htr⟩ _ _ _;refine tR 6 [11,0,2,0,6,2,8,1] fun σ13 _ _=>?_;refine tC 2 (fun F C=>BO h.a 1000) fun Nz=>?_;rintro _ _ ⟨rfl,b14⟩;refine⟨_,_,rfl,b14,id,?_⟩;refine tF fun _ Cs=>?_;have hs16:=Cs.size;have hE:=Wi g;rw[<- htc,<- htr]at hE
 have hP:pkP g=paL (pick g.a 1000) tc tr 60 (wK g.b) (pick g.c 4) (pick g.d 6) (pick g.a 4) (wV g.b g.d):=by rw[htc,htr];rfl
 refine tC 5 (fun F C=>YE hE (tbA hT C)) fun Nz=>?_;rintro _ _ ⟨y,rfl,hy,hn,b17⟩;refine⟨_,Fa.sl y (pkP g)::_,rfl,b17,fun F=>⟨(by rw[hP];exact MH hy hn Nz),F⟩,?_⟩;rw[<- hP]at hy hn
 have hyn:=Ir hy;refine tR 11 [12,14,16,18,20,0] fun σ18 _ _=>?_;refine tC 2 (fun F C=>BO h.d 23) fun Nz=>?_;rintro _ _ ⟨rfl,b19⟩;refine⟨_,_,rfl,b19,id,?_⟩;by_cases h1:pick g.d 23=22
 .refine tV 3 (.bool true) (fun F C=>(Ei (t:=3) (m:=pick g.d 23) (n:=22) (x:=(.tmp 46)) (y:=(.const (iv 22))) (by simpa using h1))) ?_;refine tR 6 [] fun σ21 _ _=>?_;refine tI ((decide (30<(y.n:Int)))) true (decide_eq_true (by omega)) ?_;refine tR 2 [] fun σ22 _ _=>?_;refine tF fun F _=>?_;have hya:=FSl.addr F.1 (fun e=>by rw[e]at hl;cases hl);refine tV 1 (S3.v ⟨y.a,30,y.c⟩) (fun F C=>(fG y 30 (by omega) hya.1)) ?_;refine tR 7 [] fun σ23 _ _=>?_;rw[show pkB g=_ from if_pos ⟨h1,by omega⟩];exact tE (S3.v ⟨y.a,30,y.c⟩) fun F B=>⟨⟨y.a,30,y.c⟩,rfl,(F.1.take 30 (by omega)).s,fun _ a ha=>hn.mono hs16 (fun e=>by rw[e]at hl;cases hl) a ha,B⟩
 .refine tV 3 (.bool false) (fun F C=>(Ei (t:=3) (m:=pick g.d 23) (n:=22) (x:=(.tmp 46)) (y:=(.const (iv 22))) (by simpa using h1))) ?_;refine tR 13 [] fun σ24 _ _=>?_;rw[show pkB g=_ from if_neg (fun e=>h1 e.1)];exact tE (S3.v y) fun F B=>⟨y,rfl,F.1.s,hn.mono hs16,B⟩
theorem ai{g:Gr}{cr:Bool}{w:World}(h:GrOk g)(hT:Tabs w){x:Lac}(hx:NU g cr=x) :
  Calls prog 8 #[.agg #[iv g.k,iv g.a,iv g.b,iv g.c,iv g.d],.bool cr] w fun e w'=>∃ y:S3,e=.returned (.agg #[iv x.k,iv x.n,iv x.a,iv x.p,y.v])/\Sl w' y.v x.d/\Nb w.heap.size y x.d/\Bw w w':=by
 refine tIn [] func8 trivial ?_;refine tR 9 [0,0,1,0,0] fun σ1 _ _=>?_;refine tC 2 (fun F C=>BO h.a 5) fun Nz=>?_;rintro _ _ ⟨rfl,b2⟩;refine⟨_,_,rfl,b2,id,?_⟩;refine tR 7 [0] fun σ3 _ _=>?_;refine tC 2 (fun F C=>BO h.k 24) fun Nz=>?_;rintro _ _ ⟨rfl,b4⟩;refine⟨_,_,rfl,b4,id,?_⟩;unfold NU at hx;refine tR 9 [] fun σ5 _ _=>?_;by_cases h1:pick g.k 24<3
 .refine tI ((decide ((pick g.k 24)<3))) true (by simpa using h1) ?_;rw[if_pos h1]at hx
  refine tR 4 [0] fun σ6 _ _=>?_;refine tF fun _ Cs=>?_;have hs7:=Cs.size;refine tC 2 (fun F C=>Tq h (tbA hT C)) fun Nz=>?_;rintro _ _ ⟨y,rfl,hy,hn,b8⟩;refine⟨_,Fa.sl y (pkB g)::_,rfl,b8,fun F=>⟨MH hy hn Nz,F⟩,?_⟩;refine tR 3 [1,0] fun σ9 _ _=>?_;subst hx;exact tX fun F C=>qE1 4 27 1 (σ1 1) #[iv 1,iv (pick g.a 5),iv 0,iv 0,S3.v y] fun _=>⟨y,rfl,F.1.s,hn.mono hs7,CgQ.below C⟩
 .refine tI ((decide ((pick g.k 24)<3))) false (by simpa using h1) ?_;rw[if_neg h1]at hx
  refine tR 6 [] fun σ10 _ _=>?_;by_cases h1:pick g.k 24<5
  .refine tI ((decide ((pick g.k 24)<5))) true (by simpa using h1) ?_;rw[if_pos h1]at hx
   refine tR 6 [1,0] fun σ11 _ _=>?_;subst hx;exact tX fun F C=>qE1 4 27 1 (σ1 1) #[iv 2,iv (pick g.a 5),iv 0,iv 0,S3.v s30] fun _=>⟨s30,rfl,D7 _,fun e=>absurd rfl e,CgQ.below C⟩
  .refine tI ((decide ((pick g.k 24)<5))) false (by simpa using h1) ?_;rw[if_neg h1]at hx
   refine tR 6 [] fun σ12 _ _=>?_;by_cases h1:pick g.k 24<14
   .refine tI ((decide ((pick g.k 24)<14))) true (by simpa using h1) ?_;rw[if_pos h1]at hx
    refine tR 6 [1,0] fun σ13 _ _=>?_;subst hx;exact tX fun F C=>qE1 4 27 1 (σ1 1) #[iv 3,iv (pick g.a 5),iv 0,iv 0,S3.v s30] fun _=>⟨s30,rfl,D7 _,fun e=>absurd rfl e,CgQ.below C⟩
   .refine tI ((decide ((pick g.k 24)<14))) false (by simpa using h1) ?_;rw[if_neg h1]at hx
    refine tR 6 [] fun σ14 _ _=>?_;by_cases h1:pick g.k 24=14
    .refine tI (((pick g.k 24)==14)) true (by simpa using h1) ?_;rw[if_pos h1]at hx
     refine tR 4 [0] fun σ15 _ _=>?_;refine tC 2 (fun F C=>BO h.c 20) fun Nz=>?_;rintro _ _ ⟨rfl,b16⟩;refine⟨_,_,rfl,b16,id,?_⟩;refine tR 3 [1,0] fun σ17 _ _=>?_;subst hx;exact tX fun F C=>qE1 4 27 1 (σ1 1) #[iv 4,iv 0,iv (pick g.c 20),iv 0,S3.v s30] fun _=>⟨s30,rfl,D7 _,fun e=>absurd rfl e,CgQ.below C⟩
    .refine tI (((pick g.k 24)==14)) false (by simpa using h1) ?_;rw[if_neg h1]at hx
     refine tR 6 [] fun σ18 _ _=>?_;by_cases h1:pick g.k 24=15
     .refine tI (((pick g.k 24)==15)) true (by simpa using h1) ?_;rw[if_pos h1]at hx
      refine tR 4 [0] fun σ19 _ _=>?_;refine tC 2 (fun F C=>BO h.c 20) fun Nz=>?_;rintro _ _ ⟨rfl,b20⟩;refine⟨_,_,rfl,b20,id,?_⟩;refine tR 3 [1,0] fun σ21 _ _=>?_;subst hx;exact tX fun F C=>qE1 4 27 1 (σ1 1) #[iv 5,iv 0,iv (pick g.c 20),iv 0,S3.v s30] fun _=>⟨s30,rfl,D7 _,fun e=>absurd rfl e,CgQ.below C⟩
     .refine tI (((pick g.k 24)==15)) false (by simpa using h1) ?_;rw[if_neg h1]at hx
      refine tR 6 [] fun σ22 _ _=>?_;by_cases h1:pick g.k 24=16
      .refine tI (((pick g.k 24)==16)) true (by simpa using h1) ?_;rw[if_pos h1]at hx
       refine tR 4 [0] fun σ23 _ _=>?_;refine tC 2 (fun F C=>BO h.c 20) fun Nz=>?_;rintro _ _ ⟨rfl,b24⟩;refine⟨_,_,rfl,b24,id,?_⟩;refine tR 3 [1,0] fun σ25 _ _=>?_;subst hx;exact tX fun F C=>qE1 4 27 1 (σ1 1) #[iv 6,iv 0,iv (pick g.c 20),iv 0,S3.v s30] fun _=>⟨s30,rfl,D7 _,fun e=>absurd rfl e,CgQ.below C⟩
      .refine tI (((pick g.k 24)==16)) false (by simpa using h1) ?_;rw[if_neg h1]at hx
       refine tR 3 [] fun σ26 _ _=>?_;by_cases h1:pick g.k 24=17
       .refine tV 1 (.bool true) (fun F C=>(Ei (t:=3) (m:=pick g.k 24) (n:=17) (x:=(.tmp 52)) (y:=(.const (iv 17))) (by simpa using h1))) ?_;refine tR 5 [] fun σ27 _ _=>?_;by_cases h2:cr=true
        .refine tI (cr) true h2 ?_;rw[if_pos ⟨h1,h2⟩]at hx
         refine tR 5 [0] fun σ28 _ _=>?_;refine tC 3 (fun F C=>BO h.c 90) fun Nz=>?_;rintro _ _ ⟨rfl,b29⟩;refine⟨_,_,rfl,b29,id,?_⟩;refine tR 3 [1,0] fun σ30 _ _=>?_;subst hx;exact tX fun F C=>qE1 4 27 1 (σ1 1) #[iv 8,iv (pick g.a 5),iv 0,iv (pick g.c 90),S3.v s30] fun _=>⟨s30,rfl,D7 _,fun e=>absurd rfl e,CgQ.below C⟩
        .refine tI (cr) false (by simpa using h2) ?_;rw[if_neg (fun e=>h2 e.2)]at hx
         refine tR 3 [] fun σ31 _ _=>?_;by_cases h1:pick g.k 24=18
         .refine tV 1 (.bool true) (fun F C=>(Ei (t:=3) (m:=pick g.k 24) (n:=18) (x:=(.tmp 63)) (y:=(.const (iv 18))) (by simpa using h1))) ?_;refine tR 5 [] fun σ32 _ _=>?_;by_cases h2:cr=true
          .refine tI (cr) true h2 ?_;rw[if_pos ⟨h1,h2⟩]at hx
           refine tR 6 [1,0] fun σ33 _ _=>?_;subst hx;exact tX fun F C=>qE1 4 27 1 (σ1 1) #[iv 9,iv (pick g.a 5),iv 0,iv 0,S3.v s30] fun _=>⟨s30,rfl,D7 _,fun e=>absurd rfl e,CgQ.below C⟩
          .refine tI (cr) false (by simpa using h2) ?_;rw[if_neg (fun e=>h2 e.2)]at hx
           refine tR 7 [1,0] fun σ34 _ _=>?_;subst hx;exact tX fun F C=>qE1 4 27 1 (σ1 1) #[iv 7,iv 0,iv 0,iv 0,S3.v s30] fun _=>⟨s30,rfl,D7 _,fun e=>absurd rfl e,CgQ.below C⟩
         .refine tV 1 (.bool false) (fun F C=>(Ei (t:=3) (m:=pick g.k 24) (n:=18) (x:=(.tmp 63)) (y:=(.const (iv 18))) (by simpa using h1))) ?_;rw[if_neg (fun e=>h1 e.1)]at hx
          refine tR 13 [1,0] fun σ35 _ _=>?_;subst hx;exact tX fun F C=>qE1 4 27 1 (σ1 1) #[iv 7,iv 0,iv 0,iv 0,S3.v s30] fun _=>⟨s30,rfl,D7 _,fun e=>absurd rfl e,CgQ.below C⟩
       .refine tV 1 (.bool false) (fun F C=>(Ei (t:=3) (m:=pick g.k 24) (n:=17) (x:=(.tmp 52)) (y:=(.const (iv 17))) (by simpa using h1))) ?_;rw[if_neg (fun e=>h1 e.1)]at hx
        refine tR 9 [] fun σ36 _ _=>?_;by_cases h1:pick g.k 24=18
        .refine tV 1 (.bool true) (fun F C=>(Ei (t:=3) (m:=pick g.k 24) (n:=18) (x:=(.tmp 63)) (y:=(.const (iv 18))) (by simpa using h1))) ?_;refine tR 5 [] fun σ37 _ _=>?_;by_cases h2:cr=true
         .refine tI (cr) true h2 ?_;rw[if_pos ⟨h1,h2⟩]at hx
          refine tR 6 [1,0] fun σ38 _ _=>?_;subst hx;exact tX fun F C=>qE1 4 27 1 (σ1 1) #[iv 9,iv (pick g.a 5),iv 0,iv 0,S3.v s30] fun _=>⟨s30,rfl,D7 _,fun e=>absurd rfl e,CgQ.below C⟩
         .refine tI (cr) false (by simpa using h2) ?_;rw[if_neg (fun e=>h2 e.2)]at hx
          refine tR 7 [1,0] fun σ39 _ _=>?_;subst hx;exact tX fun F C=>qE1 4 27 1 (σ1 1) #[iv 7,iv 0,iv 0,iv 0,S3.v s30] fun _=>⟨s30,rfl,D7 _,fun e=>absurd rfl e,CgQ.below C⟩
        .refine tV 1 (.bool false) (fun F C=>(Ei (t:=3) (m:=pick g.k 24) (n:=18) (x:=(.tmp 63)) (y:=(.const (iv 18))) (by simpa using h1))) ?_;rw[if_neg (fun e=>h1 e.1)]at hx
         refine tR 13 [1,0] fun σ40 _ _=>?_;subst hx;exact tX fun F C=>qE1 4 27 1 (σ1 1) #[iv 7,iv 0,iv 0,iv 0,S3.v s30] fun _=>⟨s30,rfl,D7 _,fun e=>absurd rfl e,CgQ.below C⟩
theorem dP{w:World}{l:S3}{G:List Gr}{b off i:Nat}{g:Gr}(h:RdV w l 5 (grL G))(ha:l.a=some ⟨b,off,none⟩)(hg:G[i]?=some g){j:Nat}{u:Value}(hj:(grV g)[j]?=some u):w.cell? ⟨b,off+5*i+j,none⟩=some u:=by
 have hn:l.n=G.length:=by have:=h.len;rw[show(grL G).length=G.length*5 from Ed (f:=grV) (fun _=>rfl) G]at this;omega
 obtain⟨b',off',h1,_,h3⟩:=h.spot (i:=i) (by rw[hn];exact(List.getElem?_eq_some_iff.1 hg).1);rw[ha]at h1
 cases h1;exact h3 j u (Ju (f:=grV) (fun _=>rfl) G hg hj)
theorem T8{l:S3}{G:List Gr}{most:Nat}{cr:Bool}{w:World}(h:RdV w l 5 (grL G))(hG:∀ g∈G,GrOk g)(hm:most<=100)(hT:Tabs w) :
  Calls prog 4 #[l.v,iv (most:Int),.bool cr] w fun e w'=>∃ (y:S3) (P:List (Lac × S3)),e=.returned y.v/\P.map (·.1)=scr G most cr/\AcN w.heap.size w' y P/\Bw w w':=by
 have hln:l.n=G.length:=by have:=h.len;rw[show(grL G).length=G.length*5 from Ed (f:=grV) (fun _=>rfl) G]at this;omega
 refine tIn [Fa.zv l 5 (grL G)] func4 ⟨h.fz,trivial⟩ ?_;refine tR 18 [] fun σ1 _ _=>?_;refine Hj 41 [(0,S3.v l),(1,iv (most:Int)),(2,.bool cr),(7,sn),(8,iv 0),(9,iv 0)] [] [] [Fa.zv l 5 (grL G),Fa.oa 0 s30 []] (fun kk ee LL ΦΦ=>∃ (i s:Nat) (y:S3) (P:List (Lac × S3)),kk=min G.length most-i/\ee=[(0,S3.v l),(1,iv (most:Int)),(2,.bool cr),(7,S3.v y),(8,iv (s:Int)),(9,iv (i:Int))]/\LL=[]/\ΦΦ=[Fa.zv l 5 (grL G),Fa.oa 0 y P]/\i<=min G.length most/\y.n=i/\s<=i/\scr G most cr=P.map (·.1)++MW cr s ((G.take most).drop i)/\(∀ p∈P,Nb w.heap.size p.2 p.1.d)) (min G.length most) ⟨0,0,s30,[],rfl,rfl,rfl,rfl,by omega,rfl,by omega,rfl,fun p hp=>by cases hp⟩ (fun F=>⟨F.1,⟨OwnS.nil _ _ _ _ _ _,fun p hp=>by cases hp⟩,trivial⟩) ?_;rintro k _ _ _ ⟨i,s,y,P,rfl,rfl,rfl,rfl,hi,hyn,hsi,hI,hN⟩ _ _ _ J hJ;refine tR 6 [] fun σ2 _ _=>?_;by_cases h1:i<G.length
 .refine tV 3 (.bool true) (fun F C=>(rLt (t:=3) (m:=(i:Int)) (n:=(l.n:Int)) (x:=(.tmp 11)) (y:=(.tmp 13)) (decide_eq_true (by omega)))) ?_;refine tR 6 [] fun σ3 _ _=>?_;by_cases h2:i<most
  .refine tI ((decide ((i:Int)<(most:Int)))) true (decide_eq_true (by omega)) ?_;have hi:i<(G.take most).length:=by rw[List.length_take];omega
   obtain⟨g,hg⟩:∃ g,(G.take most)[i]?=some g:=⟨_,List.getElem?_eq_getElem hi⟩;have hgG:G[i]?=some g:=by rw[List.getElem?_take,if_pos h2]at hg;exact hg
   have hgo:=hG g (List.mem_of_getElem? hgG);rw[List.drop_eq_getElem_cons hi,show(G.take most)[i]=g from(List.getElem?_eq_some_iff.1 hg).2,MW]at hI
   refine tF fun F _=>?_;obtain⟨b,off,hla,_,hlc⟩:=F.1.rd.spot (i:=i) (by omega);refine tR 7 [] fun σ4 _ _=>?_;refine tV 2 (pt b (off+5*i)) (fun F C=>(ej hla i (by omega))) ?_;refine tV 3 (.agg #[iv g.k,iv g.a,iv g.b,iv g.c,iv g.d]) (fun F C=>(fA g fun j u hj=>dP F.1.rd hla hgG hj)) ?_;refine tR 1 [] fun σ6 _ _=>?_;obtain⟨x,hx⟩:∃ x,NU g cr=x:=⟨_,rfl⟩;refine tF fun _ Cs=>?_;have hs7:=Cs.size;refine tC 5 (fun F C=>ai hgo (tbA hT C) hx) fun Nz=>?_;rintro _ _ ⟨d,rfl,hd,hn,b8⟩;refine⟨_,Fa.sl d x.d::_,rfl,b8,fun F=>⟨MH hd hn Nz,F⟩,?_⟩;rw[hx]at hI
   refine tR 10 [1,0,0,0,0] fun σ9 _ _=>?_;by_cases h3:x.k=1
   .refine tI ((x.k==1)) true (by simpa using h3) ?_;refine tR 3 [] fun σ10 _ _=>?_;refine tV 1 (iv ((s:Int)+1)) (fun F C=>(AN (x:=(.tmp 31)) (y:=(.const (iv 1))) (s:Int) 1 underlying3 (by omega))) ?_;refine tR 7 [] fun σ11 _ _=>?_;rw[show cH s x=s+1 from if_pos h3]at hI
    by_cases h4:6<s+1
    .refine tI ((decide (6<((s:Int)+1)))) true (decide_eq_true (by omega)) ?_;rw[show W8 s x=acN 7 0 from if_pos ⟨h3,by omega⟩]at hI
     refine tR 8 [0,0,0,0,0] fun σ12 _ _=>?_;refine Na 3 0 (x:=y) 23 23 27 5 56 zLa ⟨(σ12 0),0,none⟩ 1 1 [iv 7,iv 0,iv 0,iv 0,sn] (fun F=>F.2.2.1.1) [Fa.zv l 5 (grL G),Fa.dt (P++[(acN 7 0,s30)])] (fun F=>⟨F.2.1,Dat.snoc F.2.2.1.2 (Vh _ _),trivial⟩) rfl (by simp[TQ]) rfl (by simp[Value.oneCell']) (fun F K=>BW K 1 (σ12 0) [iv 7,iv 0,iv 0,iv 0,sn] 27 .z true (by kernel_rfl)) (by unfold maxLen;omega) (by omega) fun y13 _ _ n13=>?_;refine tR 5 [] fun σ14 _ _=>?_;refine tV 1 (iv ((i:Int)+1)) (fun F C=>(AN (x:=(.tmp 20)) (y:=(.const (iv 1))) (i:Int) 1 underlying3 (by omega))) ?_;refine tR 2 [] fun σ15 _ _=>?_;exact tB hJ (min G.length most-(i+1)) (by omega) [false,false] ⟨i+1,(s+1),y13,P++[(acN 7 0,s30)],rfl,rfl,rfl,rfl,by omega,by omega,by omega,(by rw[hI,List.map_append,List.append_assoc];rfl),fun p hp=>(List.mem_append.1 hp).elim (hN p) fun e=>by rw[List.mem_singleton.1 e];exact fun e=>absurd rfl e⟩ (fun F=>⟨F.2.1,⟨(by rw[Dm];exact F.1),F.2.2.1⟩,trivial⟩)
    .refine tI ((decide (6<((s:Int)+1)))) false (decide_eq_false (by omega)) ?_;rw[show W8 s x=x from if_neg (fun e=>h4 (by omega))]at hI
     refine tR 5 [0,0,0] fun σ16 _ _=>?_;refine Na 3 0 (x:=y) 23 23 27 5 56 zLa ⟨(σ16 0),0,none⟩ 1 1 [iv x.k,iv x.n,iv x.a,iv x.p,S3.v d] (fun F=>F.2.2.1.1) [Fa.zv l 5 (grL G),Fa.dt (P++[(x,d)])] (fun F=>⟨F.2.1,Dat.snoc F.2.2.1.2 (F.1),trivial⟩) rfl (by simp[TQ]) rfl (by simp[Value.oneCell']) (fun F K=>BW K 1 (σ16 0) [iv x.k,iv x.n,iv x.a,iv x.p,S3.v d] 27 .z true (by kernel_rfl)) (by unfold maxLen;omega) (by omega) fun y17 _ _ n17=>?_;refine tR 5 [] fun σ18 _ _=>?_;refine tV 1 (iv ((i:Int)+1)) (fun F C=>(AN (x:=(.tmp 20)) (y:=(.const (iv 1))) (i:Int) 1 underlying3 (by omega))) ?_;refine tR 2 [] fun σ19 _ _=>?_;exact tB hJ (min G.length most-(i+1)) (by omega) [false,false] ⟨i+1,(s+1),y17,P++[(x,d)],rfl,rfl,rfl,rfl,by omega,by omega,by omega,(by rw[hI,List.map_append,List.append_assoc];rfl),fun p hp=>(List.mem_append.1 hp).elim (hN p) fun e=>by rw[List.mem_singleton.1 e];exact hn.mono hs7⟩ (fun F=>⟨F.2.1,⟨(by rw[Dm];exact F.1),F.2.2.1⟩,trivial⟩)
   .refine tI ((x.k==1)) false (by simpa using h3) ?_;rw[show cH s x=s from if_neg h3,show W8 s x=x from if_neg (fun e=>h3 e.1)]at hI
    refine tR 5 [0,0,0] fun σ20 _ _=>?_;refine Na 3 0 (x:=y) 23 23 27 5 56 zLa ⟨(σ20 0),0,none⟩ 1 1 [iv x.k,iv x.n,iv x.a,iv x.p,S3.v d] (fun F=>F.2.2.1.1) [Fa.zv l 5 (grL G),Fa.dt (P++[(x,d)])] (fun F=>⟨F.2.1,Dat.snoc F.2.2.1.2 (F.1),trivial⟩) rfl (by simp[TQ]) rfl (by simp[Value.oneCell']) (fun F K=>BW K 1 (σ20 0) [iv x.k,iv x.n,iv x.a,iv x.p,S3.v d] 27 .z true (by kernel_rfl)) (by unfold maxLen;omega) (by omega) fun y21 _ _ n21=>?_;refine tR 5 [] fun σ22 _ _=>?_;refine tV 1 (iv ((i:Int)+1)) (fun F C=>(AN (x:=(.tmp 20)) (y:=(.const (iv 1))) (i:Int) 1 underlying3 (by omega))) ?_;refine tR 2 [] fun σ23 _ _=>?_;exact tB hJ (min G.length most-(i+1)) (by omega) [false,false] ⟨i+1,s,y21,P++[(x,d)],rfl,rfl,rfl,rfl,by omega,by omega,by omega,(by rw[hI,List.map_append,List.append_assoc];rfl),fun p hp=>(List.mem_append.1 hp).elim (hN p) fun e=>by rw[List.mem_singleton.1 e];exact hn.mono hs7⟩ (fun F=>⟨F.2.1,⟨(by rw[Dm];exact F.1),F.2.2.1⟩,trivial⟩)
  .refine tI ((decide ((i:Int)<(most:Int)))) false (decide_eq_false (by omega)) ?_;refine tR 6 [] fun σ24 _ _=>?_;rw[List.drop_eq_nil_of_le (by rw[List.length_take];omega),MW,List.append_nil]at hI
   exact tX fun F C=>qE (S3.v y) fun _=>⟨y,P,rfl,hI.symm,AcN.of F.2.1 C hN,CgQ.below C⟩
 .refine tV 3 (.bool false) (fun F C=>(rLt (t:=3) (m:=(i:Int)) (n:=(l.n:Int)) (x:=(.tmp 11)) (y:=(.tmp 13)) (decide_eq_false (by omega)))) ?_;refine tR 13 [] fun σ25 _ _=>?_;rw[List.drop_eq_nil_of_le (by rw[List.length_take];omega),MW,List.append_nil]at hI
  exact tX fun F C=>qE (S3.v y) fun _=>⟨y,P,rfl,hI.symm,AcN.of F.2.1 C hN,CgQ.below C⟩
theorem RK{g:Gh}{w:World}{ly tv:S3}{ys:Nat->S3}{M:Meet}(h:OutF g w ly tv ys M):OutW w M ly tv ys:=⟨h.logs.rd,fun j hj=>(h.log j hj).rd.rc,h.told.rd⟩
theorem cG{x:S3}{L:List Lac}{l:List (Lac × S3)}{w:World}(h:AcR w x L l)(ho:∀ a∈L,LacOk a)(hl:L.length<=100000)(hT:So w){M:Meet}(hM:Cx.acts L=M) :
  Calls prog 9 #[x.v] w fun e w'=>∃ (ly tv:S3) (ys:Nat->S3),e=.returned (.tuple #[.agg (Ij M ly tv),iv 0])/\OutW w' M ly tv ys/\OutN w.heap.size M ly tv ys/\Bw w w':=by
 subst hM;refine(YU (h.sk (by omega)) (fun i hi=>by rw[MC hi];exact ho _ (List.getElem_mem hi)) hl hT.1 hT.2.1 hT.2.2).mono ?_;rw[Ul];rintro e w' ⟨hb,ly,tv,ys,h1,h2,h3⟩;exact⟨ly,tv,ys,h1,h2,h3,hb⟩
theorem cx{x:S3}{L:List Lac}{l:List (Lac × S3)}{w:World}(h:AcR w x L l)(ho:∀ a∈L,LacOk a)(hl:L.length<=100000)(hT:So w){M:Meet}(hM:Cx.acts L=M) :
  Calls prog 5 #[x.v] w fun e w'=>∃ (ly tv:S3) (ys:Nat->S3),e=.returned (.tuple #[.agg (Ij M ly tv),.bool true])/\OutW w' M ly tv ys/\OutN w.heap.size M ly tv ys/\Bw w w':=by
 refine tIn [] func5 trivial ?_;refine tR 8 [1,0] fun σ1 _ _=>?_;refine tF fun _ Cs=>?_;have hs2:=Cs.size;refine tC 1 (fun F C=>cG (h.below (CgQ.below C)) ho hl (tb5 hT C) hM) fun Nz=>?_;rintro _ _ ⟨ly,tv,ys,rfl,hW,hN,b3⟩;refine⟨_,Fa.ot ly tv ys M::_,rfl,b3,fun F=>⟨RI hW hN Nz,F⟩,?_⟩;refine tR 14 [0,0,1,0,9,0,1,2,4,6,8] fun σ4 _ _=>?_;refine TF 20 (fun ee LL ΦΦ=>∃ (_:Unit),ee=[(2,pt (σ1 0) 0),(3,.bool ((ly.n:Int)==5))]/\LL=[⟨(σ1 0),.cells (Ij M ly tv) 33,.l,false⟩,⟨(σ4 0),.cells (Ij M ly tv) 33,.z,false⟩]/\ΦΦ=[Fa.ot ly tv ys M]) (fun J hJ=>?_) ?_
 .refine TH 5 9 ?_ ?_
  .refine tR 7 [1,12,14,16,19,0,0,20] fun σ5 _ _=>?_;exact tD hJ [true,true] ⟨(),rfl,rfl,rfl⟩ (fun F=>⟨F.1,trivial⟩)
  .refine tR 7 [0,0,11,1,12,14,16,20] fun σ6 _ _=>?_;exact tD hJ [true,true] ⟨(),rfl,rfl,rfl⟩ (fun F=>⟨F.1,trivial⟩)
 rintro _ _ _ ⟨_,rfl,rfl,rfl⟩ _ _ _;have hn:(((ly.n:Nat):Int)==5)=true:=by rw[hW.n5];rfl
 exact tX fun F C=>qE2 2 3 33 0 (σ1 0) (Ij M ly tv) (.bool ((ly.n:Int)==5)) fun _=>⟨ly,tv,ys,by rw[hn],RK F.1,hN.mono hs2,CgQ.below C⟩
def lgN(M:Meet):Nat->Option Nat
 | 0=>none
 | n+1=>if(((lgN M n).map M.log).getD []).length<(M.log n).length then some n else lgN M n
def lgY(ys:Nat->S3)(o:Option Nat):S3:=(o.map ys).getD s30
theorem bv{M:Meet}{n j:Nat}(h:lgN M n=some j):j<n:=by
 induction n with
 | zero=>cases h
 | succ n ih =>
  rw[lgN]at h
  split at h
  .cases h;omega
  .have:=ih h;omega
theorem bB{g:Gh}{w:World}{ly tv:S3}{ys:Nat->S3}{M:Meet}(h:OutF g w ly tv ys M){n:Nat}(hn:n<=5):FzV g w (lgY ys (lgN M n)) 5 (cmL (((lgN M n).map M.log).getD [])):=by
 cases hh:lgN M n with
 | none=>exact⟨⟨rfl,Nat.le_refl _,fun _=>rfl,.inl rfl⟩,fun e=>absurd rfl e⟩
 | some j=>exact h.log j (Nat.lt_of_lt_of_le (bv hh) hn)
theorem ZR{W:World}{x:S3}{b off:Nat}(ha:x.a=some ⟨b,off,none⟩)(j:Nat)(hj:j<x.n):(Instr.indexAt 29 x.v (iv (j:Int))).run prog W=.ok (pt b (off+j)) W:=by
 obtain⟨xa,xn,xc⟩:=x;simp only at ha hj;subst ha;exact OG (P:=prog) (e:=37) (z:=1) underlying29 (by kernel_rfl) (by kernel_rfl) hj _ (by rw[Nat.one_mul])
theorem RA{w:World}{ly:S3}{ys:Nat->S3}{b off j:Nat}(h:RdV w ly 1 [S3.v (ys 0),S3.v (ys 1),S3.v (ys 2),S3.v (ys 3),S3.v (ys 4)])(ha:ly.a=some ⟨b,off,none⟩)(hj:j<5):w.cell? ⟨b,off+j,none⟩=some (S3.v (ys j)):=by
 rcases h.ex with h1|⟨b',off',h1,h2,h3⟩
 .have:=h.len;simp at this;omega
 .rw[ha]at h1;cases h1
  refine h3 j _ ?_;rcases five hj with rfl|rfl|rfl|rfl|rfl<;>rfl
def rnP(l:List Lac):List (Lac × S3):=l.map fun a=>(a,s30)
theorem YP(l:List Lac):(rnP l).map (·.1)=l:=by simp[rnP,Function.comp_def]
theorem YO(g:Gh)(w:World){l:List Lac}(h:∀ a∈l,a.d=[]):Dat g w (rnP l):=by
 intro p hp;obtain⟨a,ha,rfl⟩:=List.mem_map.1 hp;show FSl g w s30 a.d;rw[h a ha];exact Vh g w
theorem K8(l:List Lac)(a:Lac):rnP (l++[a])=rnP l++[(a,s30)]:=by simp[rnP]
theorem PR(m:Nat):(BV m).length=6*m:=by
 induction m with
 | zero=>rfl
 | succ m ih=>rw[BV,List.length_append,ih];show _+6=_;omega
def DQ(k:Int)(j:Nat):List Lac:=(List.range j).map fun n:Nat=>acN k (n:Int)
theorem If(k:Int)(j:Nat):DQ k (j+1)=DQ k j++[acN k (j:Int)]:=by simp[DQ,List.range_succ]
theorem V4(k:Int)(j:Nat):(DQ k j).length=j:=by simp[DQ]
def Y9(M:Meet)(ly tv:S3):Array Value:=#[iv (M.lets.length:Int),.bool true,.bool (M.node 1).up,.bool (M.node 2).up,.bool (M.node 3).up,.bool (M.node 4).up,S3.v ly,iv ((M.node 0).bad:Int),iv ((M.node 1).bad:Int),iv ((M.node 2).bad:Int),iv ((M.node 3).bad:Int),iv ((M.node 4).bad:Int),S3.v tv]
theorem RJ{M:Meet}(hu:(M.node 0).up=true)(ly tv:S3):Ij M ly tv=Y9 M ly tv:=by unfold Ij Y9;rw[hu]
theorem cz{x:S3}{L:List Lac}{l:List (Lac × S3)}{w:World}(h:AcR w x L l)(ho:∀ a∈L,LacOk a)(hl:L.length<=100000)(hT:So w){M:Meet}(hM:Cx.acts L=M)(hu:(M.node 0).up=true) :
  Calls prog 5 #[x.v] w fun e w'=>∃ (ly tv:S3) (ys:Nat->S3),e=.returned (.tuple #[.agg (Y9 M ly tv),.bool true])/\OutW w' M ly tv ys/\OutN w.heap.size M ly tv ys/\Bw w w' :=
 (cx h ho hl hT hM).mono fun e w' ⟨ly,tv,ys,h1,h2⟩=>⟨ly,tv,ys,by rw[<- RJ hu];exact h1,h2⟩
theorem Ys{M:Meet}(h:∀ j,j<5->M.log j=[]){n:Nat}(hn:n<=5):lgN M n=none:=by
 induction n with
 | zero=>rfl
 | succ n ih=>rw[lgN,ih (by omega),h n (by omega),if_neg (by simp)]
theorem ZF{g:Gh}{w:World}{x:S3}{l:List (Lac × S3)}(h:(Fa.ac x l).p g w){i:Nat}{p:Lac × S3}(hp:l[i]?=some p):∃ b off,x.a=some ⟨b,off,none⟩/\w.rangeAt b (off+5*i) (laV p.1 p.2.v)/\i<x.n:=by
 have hn:=(AcR.of h rfl).n;rw[List.length_map]at hn
 have hi:=(List.getElem?_eq_some_iff.1 hp).1;obtain⟨b,off,h1,_,h2⟩:=h.1.rd.spot (i:=i) (by omega);exact⟨b,off,h1,fun j u hj=>h2 j u (Ju (f:=fun p:Lac × S3=>laV p.1 p.2.v) (fun _=>rfl) l hp hj),by omega⟩
theorem acS{g:Gh}{w:World}{x:S3}{l:List (Lac × S3)}(h:(Fa.ac x l).p g w){i b off:Nat}(hx:x.a=some ⟨b,off,none⟩){a:Lac}{y:S3}(hp:l[i]?=some (a,y)):w.rangeAt b (off+5*i) (laV a y.v):=by
 obtain⟨b',off',h1,h2,_⟩:=ZF h hp;rw[hx]at h1;cases h1;exact h2
theorem acK{g:Gh}{w:World}{x:S3}{l:List (Lac × S3)}(h:(Fa.ac x l).p g w){i b off:Nat}(hx:x.a=some ⟨b,off,none⟩){a:Lac}{y:S3}(hp:l[i]?=some (a,y)):w.cell? ⟨b,off+5*i,none⟩=some (iv a.k):=acS h hx hp 0 _ rfl
theorem eQ{w:World}{x:S3}{l:List Tol}(h:RdV w x 5 (l.flatMap EF)):x.n=l.length:=by
 have:=h.len;rw[Ed (f:=EF) (sz:=5) (fun _=>rfl)]at this
 omega
theorem Qm{ly tv:S3}{ys:Nat->S3}{M:Meet}{w:World}(h:OutW w M ly tv ys) :
  Calls prog 7 #[.agg (Ij M ly tv)] w fun e w'=>e=.returned (S3.v (lgY ys (lgN M 5)))/\Bw w w':=by
 have hn:=h.n5;refine tIn [Fa.ot ly tv ys M] func7 ⟨⟨h.logs.fz,fun j hj=>(h.log j hj).rv.fz,h.told.fz⟩,trivial⟩ ?_;refine tR 15 [0,0] fun σ1 _ _=>?_;refine Hj 27 [(1,pt (σ1 0) 0),(3,sn),(4,iv 0)] [true] [⟨(σ1 0),.cells #[iv (M.lets.length:Int),.bool (M.node 0).up,.bool (M.node 1).up,.bool (M.node 2).up,.bool (M.node 3).up,.bool (M.node 4).up,S3.v ly,iv ((M.node 0).bad:Int),iv ((M.node 1).bad:Int),iv ((M.node 2).bad:Int),iv ((M.node 3).bad:Int),iv ((M.node 4).bad:Int),S3.v tv] 33,.z,false⟩] [Fa.ot ly tv ys M] (fun kk ee LL ΦΦ=>∃ (i:Nat),kk=5-i/\ee=[(1,pt (σ1 0) 0),(3,S3.v (lgY ys (lgN M i))),(4,iv (i:Int))]/\LL=[⟨(σ1 0),.cells (Ij M ly tv) 33,.z,false⟩]/\ΦΦ=[Fa.ot ly tv ys M]/\i<=5) (5) ⟨0,rfl,rfl,rfl,rfl,by omega⟩ (fun F=>F) ?_;rintro k _ _ _ ⟨i,rfl,rfl,rfl,rfl,hi⟩ _ _ _ J hJ;refine tR 9 [0] fun σ2 _ _=>?_;by_cases h1:i<5
 .refine tI ((decide ((i:Int)<(ly.n:Int)))) true (decide_eq_true (by omega)) ?_;refine tF fun F _=>?_;obtain⟨b,off,hla,_⟩:=F.1.logs.rd.spot (i:=i) (by omega);have h1n:=dE (F.1.log i (by omega)).rd;have h2n:=dE (bB F.1 (n:=i) (by omega)).rd;refine tR 8 [0] fun σ3 _ _=>?_;refine tV 3 (pt b (off+i)) (fun F C=>(ZR hla i (by omega))) ?_;refine tV 4 (S3.v (ys i)) (fun F C=>(CV underlying37 rfl (RA F.1.logs.rd hla (by omega)))) ?_;refine tR 5 [] fun σ5 _ _=>?_;by_cases h2:(((lgN M i).map M.log).getD []).length<(M.log i).length
  .refine tI ((decide (((lgY ys (lgN M i)).n:Int)<((ys i).n:Int)))) true (decide_eq_true (by omega)) ?_;refine tR 4 [0] fun σ6 _ _=>?_;refine tV 3 (pt b (off+i)) (fun F C=>(ZR hla i (by omega))) ?_;refine tV 4 (S3.v (ys i)) (fun F C=>(CV underlying37 rfl (RA F.1.logs.rd hla (by omega)))) ?_;refine tR 5 [] fun σ8 _ _=>?_;refine tV 1 (iv ((i:Int)+1)) (fun F C=>(AN (x:=(.tmp 10)) (y:=(.const (iv 1))) (i:Int) 1 underlying3 (by omega))) ?_;refine tR 2 [] fun σ9 _ _=>?_;exact tB hJ (5-(i+1)) (by omega) [true] ⟨i+1,rfl,(by rw[show lgN M (i+1)=some i from if_pos (by omega)]),rfl,rfl,by omega⟩ (fun F=>F)
  .refine tI ((decide (((lgY ys (lgN M i)).n:Int)<((ys i).n:Int)))) false (decide_eq_false (by omega)) ?_;refine tR 4 [] fun σ10 _ _=>?_;refine tV 1 (iv ((i:Int)+1)) (fun F C=>(AN (x:=(.tmp 10)) (y:=(.const (iv 1))) (i:Int) 1 underlying3 (by omega))) ?_;refine tR 2 [] fun σ11 _ _=>?_;exact tB hJ (5-(i+1)) (by omega) [true] ⟨i+1,rfl,(by rw[show lgN M (i+1)=lgN M i from if_neg (by omega)]),rfl,rfl,by omega⟩ (fun F=>F)
 .refine tI ((decide ((i:Int)<(ly.n:Int)))) false (decide_eq_false (by omega)) ?_;refine tR 6 [] fun σ12 _ _=>?_;obtain rfl:i=5:=by omega
  exact tE (S3.v (lgY ys (lgN M 5))) fun _ B=>⟨rfl,B⟩
theorem Qn{ly tv:S3}{ys:Nat->S3}{M:Meet}{w:World}(h:OutW w M ly tv ys)(hu:(M.node 0).up=true) :
  Calls prog 7 #[.agg (Y9 M ly tv)] w fun e w'=>e=.returned (S3.v (lgY ys (lgN M 5)))/\Bw w w':=by
 rw[<- RJ hu];exact Qm h
theorem T3{x:S3}{l:List (Lac × S3)}{many:Nat}{w:World}(h:RdV w x 5 (acV l))(hd:∀ p∈l,Sl w p.2.v p.1.d)(hm:l.length+6*many<=1000000) :
  Calls prog 6 #[x.v,iv (many:Int)] w fun e w'=>∃ y:S3,e=.returned y.v/\OwN w.heap.size w' 27 5 y (acV (l++rnP (Gu many)))/\Bw w w':=by
 have hxn:x.n=l.length:=by have:=h.len;rw[Rl]at this;omega
 refine tIn [Fa.ac x l] func6 ⟨⟨h.fz,fun p hp=>⟨hd p hp,fun _ _ _=>rfl⟩⟩,trivial⟩ ?_;refine tR 7 [] fun σ1 _ _=>?_;refine eM 1 0 x (acV l) 23 23 27 5 56 zLa (fun F=>F.1.1.rd) [Fa.dt l] (fun F=>⟨F.1.2,trivial⟩) rfl (by simp[TQ]) (Xz l) (by rw[hxn];unfold maxLen;omega) (by omega) fun y0 _ _ n0=>?_;refine tR 8 [] fun σ3 _ _=>?_;refine Hj 39 [(1,iv (many:Int)),(5,S3.v y0),(6,iv 0)] [] [] [Fa.oa 0 y0 (l++rnP (DQ 9 0))] (fun kk ee LL ΦΦ=>∃ (j:Nat) (y:S3),kk=5-j/\ee=[(1,iv (many:Int)),(5,S3.v y),(6,iv (j:Int))]/\LL=[]/\ΦΦ=[Fa.oa 0 y (l++rnP (DQ 9 j))]/\j<=5/\y.n=l.length+j) (5) ⟨0,y0,rfl,rfl,rfl,rfl,by omega,by omega⟩ (fun F=>⟨by rw[show rnP (DQ 9 0)=[]from rfl,List.append_nil];exact⟨F.1,F.2.1⟩,trivial⟩) ?_;rintro k _ _ _ ⟨j,y,rfl,rfl,rfl,rfl,hj,hyn⟩ _ _ _ J hJ;refine tR 6 [] fun σ4 _ _=>?_;by_cases h1:j<5
 .refine tI ((decide ((j:Int)<5))) true (decide_eq_true (by omega)) ?_;refine tR 8 [0,0] fun σ5 _ _=>?_;refine Na 4 0 (x:=y) 23 23 27 5 56 zLa ⟨(σ5 0),0,none⟩ 1 1 [iv 9,iv (j:Int),iv 0,iv 0,sn] (fun F=>F.1.1) [Fa.dt ((l++rnP (DQ 9 j))++[(acN 9 (j:Int),s30)])] (fun F=>⟨Dat.snoc F.1.2 (Vh _ _),trivial⟩) rfl (by simp[TQ]) rfl (by simp[Value.oneCell']) (fun F K=>BW K 0 (σ5 0) [iv 9,iv (j:Int),iv 0,iv 0,sn] 27 .z true (by kernel_rfl)) (by unfold maxLen;omega) (by omega) fun y6 _ _ n6=>?_;refine tR 5 [] fun σ7 _ _=>?_;refine tV 1 (iv ((j:Int)+1)) (fun F C=>(AN (x:=(.tmp 13)) (y:=(.const (iv 1))) (j:Int) 1 underlying3 (by omega))) ?_;refine tR 2 [] fun σ8 _ _=>?_;exact tB hJ (5-(j+1)) (by omega) [false] ⟨j+1,y6,rfl,rfl,rfl,rfl,by omega,by omega⟩ (fun F=>by rw[If,K8,<- List.append_assoc];exact⟨⟨(by rw[Dm];exact F.1),F.2.1⟩,trivial⟩)
 .refine tI ((decide ((j:Int)<5))) false (decide_eq_false (by omega)) ?_;obtain rfl:j=5:=by omega
  refine tR 7 [] fun σ9 _ _=>?_;refine Hj 39 [(1,iv (many:Int)),(5,S3.v y),(7,iv 0)] [] [] [Fa.oa 0 y (l++rnP (DT++BV 0))] (fun kk ee LL ΦΦ=>∃ (i:Nat) (y:S3),kk=many-i/\ee=[(1,iv (many:Int)),(5,S3.v y),(7,iv (i:Int))]/\LL=[]/\ΦΦ=[Fa.oa 0 y (l++rnP (DT++BV i))]/\i<=many/\y.n=l.length+(5+6*i)) (many) ⟨0,y,rfl,rfl,rfl,rfl,by omega,by omega⟩ (fun F=>⟨F.1,trivial⟩) ?_;rintro k _ _ _ ⟨i,y,rfl,rfl,rfl,rfl,hi,hyn⟩ _ _ _ Jb hJb;refine tR 7 [] fun σ10 _ _=>?_;by_cases h2:i<many
  .refine tI ((decide ((i:Int)<(many:Int)))) true (decide_eq_true (by omega)) ?_;refine tR 9 [] fun σ11 _ _=>?_;refine Hj 39 [(1,iv (many:Int)),(5,S3.v y),(7,iv (i:Int)),(8,iv 0)] [] [] [Fa.oa 0 y (l++rnP (DT++BV i++DQ 3 0))] (fun kk ee LL ΦΦ=>∃ (j:Nat) (y:S3),kk=5-j/\ee=[(1,iv (many:Int)),(5,S3.v y),(7,iv (i:Int)),(8,iv (j:Int))]/\LL=[]/\ΦΦ=[Fa.oa 0 y (l++rnP (DT++BV i++DQ 3 j))]/\j<=5/\y.n=l.length+(5+6*i+j)) (5) ⟨0,y,rfl,rfl,rfl,rfl,by omega,by omega⟩ (fun F=>⟨by rw[show DQ 3 0=[]from rfl,List.append_nil];exact F.1,trivial⟩) ?_;rintro k _ _ _ ⟨j,y,rfl,rfl,rfl,rfl,hj,hyn⟩ _ _ _ Jc hJc;refine tR 6 [] fun σ12 _ _=>?_;by_cases h3:j<5
   .refine tI ((decide ((j:Int)<5))) true (decide_eq_true (by omega)) ?_;refine tR 8 [0,0] fun σ13 _ _=>?_;refine Na 4 0 (x:=y) 23 23 27 5 56 zLa ⟨(σ13 0),0,none⟩ 1 1 [iv 3,iv (j:Int),iv 0,iv 0,sn] (fun F=>F.1.1) [Fa.dt ((l++rnP (DT++BV i++DQ 3 j))++[(acN 3 (j:Int),s30)])] (fun F=>⟨Dat.snoc F.1.2 (Vh _ _),trivial⟩) rfl (by simp[TQ]) rfl (by simp[Value.oneCell']) (fun F K=>BW K 0 (σ13 0) [iv 3,iv (j:Int),iv 0,iv 0,sn] 27 .z true (by kernel_rfl)) (by unfold maxLen;omega) (by omega) fun y14 _ _ n14=>?_;refine tR 5 [] fun σ15 _ _=>?_;refine tV 1 (iv ((j:Int)+1)) (fun F C=>(AN (x:=(.tmp 27)) (y:=(.const (iv 1))) (j:Int) 1 underlying3 (by omega))) ?_;refine tR 2 [] fun σ16 _ _=>?_;exact tB hJc (5-(j+1)) (by omega) [false] ⟨j+1,y14,rfl,rfl,rfl,rfl,by omega,by omega⟩ (fun F=>by rw[If,<- List.append_assoc (DT++BV i),K8,<- List.append_assoc l];exact⟨⟨(by rw[Dm];exact F.1),F.2.1⟩,trivial⟩)
   .refine tI ((decide ((j:Int)<5))) false (decide_eq_false (by omega)) ?_;obtain rfl:j=5:=by omega
    refine tR 5 [0,0] fun σ17 _ _=>?_;refine Na 3 0 (x:=y) 23 23 27 5 56 zLa ⟨(σ17 0),0,none⟩ 1 1 [iv 7,iv 0,iv 0,iv 0,sn] (fun F=>F.1.1) [Fa.dt ((l++rnP (DT++BV i++DQ 3 5))++[(acN 7 0,s30)])] (fun F=>⟨Dat.snoc F.1.2 (Vh _ _),trivial⟩) rfl (by simp[TQ]) rfl (by simp[Value.oneCell']) (fun F K=>BW K 0 (σ17 0) [iv 7,iv 0,iv 0,iv 0,sn] 27 .z true (by kernel_rfl)) (by unfold maxLen;omega) (by omega) fun y18 _ _ n18=>?_;refine tR 5 [] fun σ19 _ _=>?_;refine tV 1 (iv ((i:Int)+1)) (fun F C=>(AN (x:=(.tmp 23)) (y:=(.const (iv 1))) (i:Int) 1 underlying3 (by omega))) ?_;refine tR 2 [] fun σ20 _ _=>?_;exact tB hJb (many-(i+1)) (by omega) [false] ⟨i+1,y18,rfl,rfl,rfl,rfl,by omega,by omega⟩ (fun F=>by rw[show DT++BV (i+1)=DT++BV i++DQ 3 5++[acN 7 0]by rw[BV,<- List.append_assoc,List.append_assoc _ (DQ 3 5)];rfl,K8,<- List.append_assoc l];exact⟨⟨(by rw[Dm];exact F.1),F.2.1⟩,trivial⟩)
  .refine tI ((decide ((i:Int)<(many:Int)))) false (decide_eq_false (by omega)) ?_;obtain rfl:i=many:=by omega
   refine tR 6 [] fun σ21 _ _=>?_;exact tX fun F C=>qE (S3.v y) fun _=>⟨y,rfl,F.1.1.own C,CgQ.below C⟩
theorem V3(k:Int)(j:Nat):∀ a∈DQ k j,a.d=[]:=by
 intro a ha;obtain⟨n,_,rfl⟩:=List.mem_map.1 ha;rfl
theorem Ve(m:Nat):∀ a∈BV m,a.d=[]:=by
 induction m with
 | zero=>intro a ha;cases ha
 | succ m ih =>
  intro a ha;rcases List.mem_append.1 ha with h|h
  .exact ih a h
  .rcases List.mem_append.1 h with h|h
   .exact V3 3 5 a h
   .rw[List.mem_singleton.1 h];rfl
theorem cB(m:Nat):∀ a∈Gu m,a.d=[]:=by
 intro a ha;rcases List.mem_append.1 ha with h|h
 .exact V3 9 5 a h
 .exact Ve m a h
theorem Wv(m:Nat):(Gu m).length=5+6*m:=by unfold Gu;rw[List.length_append,PR];rfl
end
section
structure Alw where
 ca:Bool
 ld:Bool
 cr:Bool
 st:Bool
structure NInv(A:Alw)(i:Nat)(D:List Int->Prop)(Q:Let->Prop)(P:Nod->Prop):Prop where
 take:A.ca=true->∀ p l,P p->Q l->l.dst=i->p.up=true->P (p.take l)
 one:∀ p c,P p->p.up=true->p.agreed[p.done]?=some c->doE p.sto c=0->P (Nod.unwant { p with sto:=doS p.sto c,done:=p.done+1 } c)
 ask:∀ p,P p->p.up=true->P (p.askd i).1/\∀ l∈(p.askd i).2,Q l
 prop:∀ p,P p->p.up=true->P p.propose
 syn:∀ p,P p->p.up=true->P p.syn
 run:∀ p q l,P p->p.up=true->p.pend=q::l->¬ p.sy<(p.d.length:Int)->P { p.runP i q with pend:=l }/\∀ m∈p.sentP i q,Q m
 teach:∀ p,P p->p.up=true->p.leads=true->P (Iw p i 5)/\∀ l∈DU p i 5,Q l
 lead:A.ld=true->∀ p,P p->p.up=true->P (p.lead i)
 sub:∀ p d ts,P p->D d->p.up=true->P (p.subm i d ts).1
 crash:A.cr=true->∀ p k,P p->0<=k->p.up=true->P (p.crash k)
 start:A.st=true->∀ p,P p->p.up=false->P p.start
theorem T6(p:Nod)(i:Nat)(q:Pend)(x:List Pend):({ p with pend:=x }:Nod).runP i q={ p.runP i q with pend:=x }:=by
 cases q with
 | began b vs=>unfold Nod.runP;simp only;split<;>rfl
 | prop v =>
  unfold Nod.runP Nod.count;simp only;split
  .rfl
  .split<;>rfl
 | _=>rfl
theorem Md(p:Nod)(i:Nat)(q:Pend):(p.runP i q).pend=p.pend/\(p.runP i q).up=p.up/\(p.runP i q).d=p.d/\(p.runP i q).sy=p.sy:=by
 cases q with
 | began b vs=>unfold Nod.runP;simp only;split<;>exact⟨rfl,rfl,rfl,rfl⟩
 | prop v =>
  unfold Nod.runP Nod.count;simp only;split
  .exact⟨rfl,rfl,rfl,rfl⟩
  .split<;>exact⟨rfl,rfl,rfl,rfl⟩
 | _=>exact⟨rfl,rfl,rfl,rfl⟩
theorem QR(p:Nod)(i:Nat)(q:Pend)(x:List Pend):({ p with pend:=x }:Nod).sentP i q=p.sentP i q:=by cases q<;>rfl
theorem IT(p:Nod)(c:Cmd):(p.unwant c).up=p.up/\(p.unwant c).agreed=p.agreed/\(p.unwant c).done=p.done/\(p.unwant c).sto=p.sto:=by unfold Nod.unwant;split<;>exact⟨rfl,rfl,rfl,rfl⟩
theorem PM(p:Nod)(l:List Cmd):(p.enqueue l).up=p.up:=by unfold Nod.enqueue;split<;>rfl
theorem XA(p:Nod)(i:Nat):(p.askd i).1.up=p.up:=by
 unfold Nod.askd;split
 .rfl
 .split
  .exact PM _ _
  .rfl
theorem Zw(p:Nod)(v:Vt):(p.vote v).1.up=p.up:=by
 unfold Nod.vote;split
 .rfl
 .split
  .rfl
  .split<;>rfl
theorem QK(p:Nod):p.propose.up=p.up:=by
 unfold Nod.propose;split
 .rfl
 .split
  .rfl
  .split
   .rfl
   .exact Zw p _
theorem cT(p:Nod):p.syn.up=p.up:=by unfold Nod.syn;split<;>rfl
section
variable{A:Alw}{i:Nat}{D:List Int->Prop}{Q:Let->Prop}{P:Nod->Prop}
theorem NInv.doP(h:NInv A i D Q P)(l:List Cmd)(p:Nod)(ts:List Tol)(hp:P p)(hu:p.up=true)(hl:p.agreed.drop p.done=l):P (doP i l p ts).1/\(Go.Proofs.YtalbmmghmoggcaaGreatDoor.doP i l p ts).1.up=true:=by
 induction l generalizing p ts with
 | nil=>exact⟨hp,hu⟩
 | cons c l ih =>
  rw[Go.Proofs.YtalbmmghmoggcaaGreatDoor.doP];split
  .exact⟨hp,hu⟩
  .rename_i he
   have hc:p.agreed[p.done]?=some c:=by
    have:=congrArg (·[0]?) hl;simpa using this
   have hk:=IT { p with sto:=doS p.sto c,done:=p.done+1 } c;refine ih _ _ (h.one p c hp hu hc (Decidable.not_not.1 he)) (hk.1.trans hu) ?_;rw[hk.2.1,hk.2.2.1];show p.agreed.drop (p.done+1)=l;rw[<- List.drop_drop,hl];rfl
theorem NInv.doneP(h:NInv A i D Q P)(l:List Pend)(p:Nod)(ls:List Let)(hp:P { p with pend:=l })(hu:p.up=true)(h0:p.pend=[])(hs:¬ p.sy<(p.d.length:Int))(hl:∀ m∈ls,Q m):P (doneP i l p ls).1/\(∀ m∈(Go.Proofs.YtalbmmghmoggcaaGreatDoor.doneP i l p ls).2,Q m)/\(Go.Proofs.YtalbmmghmoggcaaGreatDoor.doneP i l p ls).1.up=true:=by
 induction l generalizing p ls with
 | nil =>
  refine⟨?_,hl,hu⟩;have:({ p with pend:=[] }:Nod)=p:=by cases p;simp_all
  rw[this]at hp;exact hp
 | cons q l ih =>
  have hk:=Md p i q;obtain⟨h1,h2⟩:=h.run { p with pend:=q::l } q l hp hu rfl hs;rw[T6]at h1
  rw[QR]at h2
  exact ih (p.runP i q) (ls++p.sentP i q) h1 (hk.2.1.trans hu) (hk.1.trans h0) (by rw[hk.2.2.1,hk.2.2.2];exact hs) fun m hm=>(List.mem_append.1 hm).elim (hl m) (h2 m)
theorem NInv.piece(h:NInv A i D Q P)(p:Nod)(ls:List Let)(ts:List Tol)(hp:P p)(hu:p.up=true)(hl:∀ m∈ls,Q m):P (p.piece i ls ts).1/\∀ m∈(p.piece i ls ts).2.1,Q m:=by
 obtain⟨a1,a2⟩:=h.doP _ p ts hp hu rfl;unfold Nod.piece;simp only;obtain⟨b1,b2⟩:=h.ask _ a1 a2;have bu:=(XA (Go.Proofs.YtalbmmghmoggcaaGreatDoor.doP i (p.agreed.drop p.done) p ts).1 i).trans a2;have c1:=h.prop _ b1 bu;have cu:=(QK ((Go.Proofs.YtalbmmghmoggcaaGreatDoor.doP i (p.agreed.drop p.done) p ts).1.askd i).1).trans bu;have hls:∀ m∈ls++((Go.Proofs.YtalbmmghmoggcaaGreatDoor.doP i (p.agreed.drop p.done) p ts).1.askd i).2,Q m:=fun m hm=>(List.mem_append.1 hm).elim (hl m) (b2 m);generalize ls++((Go.Proofs.YtalbmmghmoggcaaGreatDoor.doP i (p.agreed.drop p.done) p ts).1.askd i).2=k at hls ⊢;generalize ((Go.Proofs.YtalbmmghmoggcaaGreatDoor.doP i (p.agreed.drop p.done) p ts).1.askd i).1.propose=r at c1 cu ⊢;have hd:P (r.syncd i k).1/\(∀ m∈(r.syncd i k).2,Q m)/\(r.syncd i k).1.up=true:=by
  unfold Nod.syncd;split
  .exact⟨c1,hls,cu⟩
  .rename_i hn
   have hp2:=h.syn r c1 cu;have hpd:r.syn.pend=r.pend:=by unfold Nod.syn;split<;>rfl
   refine h.doneP r.pend { r.syn with pend:=[] } k (by rw[<- hpd];exact hp2) ((cT r).trans cu) rfl ?_ hls;show ¬ r.syn.sy<(r.syn.d.length:Int);unfold Nod.syn;split
   .rename_i h1
    have:CW r.d r.sy=0:=Decidable.not_not.1 fun e=>hn ⟨h1,e⟩;have hT:Bf r.d r.sy:=by
     unfold CW at this;split at this
     .assumption
     .cases this
    show ¬ Is r.d r.sy<((Hi r.d r.sy).length:Int);unfold Is Hi;rw[if_pos hT,if_pos hT];exact Int.lt_irrefl _
   .rename_i h1;exact h1
 unfold Nod.taught;split
 .rename_i hL
  obtain⟨e1,e2⟩:=h.teach _ hd.1 hd.2.2 hL;exact⟨e1,fun m hm=>(List.mem_append.1 hm).elim (hd.2.1 m) (e2 m)⟩
 .exact⟨hd.1,hd.2.1⟩
end
structure GInv(Q:Let->Prop)(P:Nat->Nod->Prop)(M:Meet):Prop where
 node:∀ i,i<5->P i (M.node i)
 lets:∀ l∈M.lets,Q l
theorem GInv.set{Q:Let->Prop}{P:Nat->Nod->Prop}{M:Meet}(h:GInv Q P M){i:Nat}{p:Nod}{ls:List Let}{ts:List Tol}(hp:P i p)(hl:∀ l∈ls,Q l):GInv Q P (M.set i p ls ts) :=
 ⟨fun j hj=>by
  show P j (upN M.node i p j);unfold upN;split
  .rename_i e;rw[e];exact hp
  .exact h.node j hj,hl⟩
theorem GInv.come{A:Alw}{D:Nat->List Int->Prop}{Q:Let->Prop}{P:Nat->Nod->Prop}(hI:∀ i,i<5->NInv A i (D i) Q (P i))(hc:A.ca=true){M:Meet}(h:GInv Q P M){l:Let}(hl:Q l)(hd:l.dst<5):GInv Q P (M.come l):=by
 unfold Meet.come;split
 .rename_i hu
  exact h.set (ls:=M.lets) (ts:=M.told) ((hI _ hd).take hc _ l (h.node _ hd) hl rfl hu) h.lets
 .exact h
theorem GInv.comes{A:Alw}{D:Nat->List Int->Prop}{Q:Let->Prop}{P:Nat->Nod->Prop}(hI:∀ i,i<5->NInv A i (D i) Q (P i))(hc:A.ca=true)(l:List Let){M:Meet}(h:GInv Q P M)(hl:∀ m∈l,Q m/\m.dst<5):GInv Q P (l.foldl (fun M l=>M.come l) M):=by
 induction l generalizing M with
 | nil=>exact h
 | cons x l ih=>exact ih (h.come hI hc (hl x List.mem_cons_self).1 (hl x List.mem_cons_self).2) fun m hm=>hl m (List.mem_cons_of_mem _ hm)
structure Alw.Ok(A:Alw)(x:Lac):Prop where
 ca:x.k=4\/x.k=6\/x.k=7->A.ca=true
 ld:x.k=2->A.ld=true
 cr:x.k=8->A.cr=true
 st:x.k=9->A.st=true
theorem GInv.act{A:Alw}{D:Nat->List Int->Prop}{Q:Let->Prop}{P:Nat->Nod->Prop}(hI:∀ i,i<5->NInv A i (D i) Q (P i)){n:Nat}{M:Meet}(h:GInv Q P M)(hM:MOk n M){x:Lac}(hx:LacOk x)(hA:A.Ok x)(hD:x.k=1->D x.n.toNat x.d):GInv Q P (M.act x):=by
 have hnode:∀ {k:Int},x.k=k->Fw k=true->x.n.toNat<5:=fun{k} e e2=>by have:=hx.n (by rw[e];exact e2);omega
 unfold Meet.act;simp only;by_cases h1:x.k=1
 .rw[if_pos h1];have hi:=hnode h1 rfl;refine h.set ?_ h.lets;unfold Nod.subm;by_cases hu:(M.node x.n.toNat).up=true
  .exact(hI _ hi).sub _ x.d M.told (h.node _ hi) (hD h1) hu
  .unfold Nod.sub0;rw[if_pos (by simpa using hu)];exact h.node _ hi
 .rw[if_neg h1];by_cases h2:x.k=2
  .rw[if_pos h2];have hi:=hnode h2 rfl;refine h.set ?_ h.lets;split
   .rename_i hu;exact(hI _ hi).lead (hA.ld h2) _ (h.node _ hi) hu
   .exact h.node _ hi
  .rw[if_neg h2];by_cases h3:x.k=3
   .rw[if_pos h3];have hi:=hnode h3 rfl;by_cases hu:(M.node x.n.toNat).up=true
    .have:=(hI _ hi).piece _ M.lets M.told (h.node _ hi) hu h.lets;rw[if_pos hu,if_pos hu,if_pos hu];exact h.set this.1 this.2
    .rw[if_neg hu,if_neg hu,if_neg hu];exact h.set (h.node _ hi) h.lets
   .rw[if_neg h3];by_cases h4:x.k=4\/x.k=5\/x.k=6
    .rw[if_pos h4];unfold Meet.move;split
     .exact h
     .rename_i l hl
      have hm:=List.mem_of_getElem? hl;have hB:GInv Q P (if x.k≠6 then{ M with lets:=M.lets.eraseIdx (x.a.toNat%M.lets.length) }else M):=by
       split
       .exact⟨h.node,fun m hm=>h.lets m (List.mem_of_mem_eraseIdx hm)⟩
       .exact h
      simp only;split
      .rename_i h5
       exact hB.come hI (hA.ca (by omega)) (h.lets l hm) (hM.lets l hm).dst
      .exact hB
    .rw[if_neg h4];by_cases h7:x.k=7
     .rw[if_pos h7];unfold Meet.comeAll;exact GInv.comes hI (hA.ca (by omega)) _ ⟨h.node,fun l hl=>by cases hl⟩ fun m hm=>⟨h.lets m hm,(hM.lets m hm).dst⟩
     .rw[if_neg h7];by_cases h8:x.k=8
      .rw[if_pos h8];have hi:=hnode h8 rfl;refine h.set ?_ h.lets;split
       .rename_i hu;exact(hI _ hi).crash (hA.cr h8) _ x.p (h.node _ hi) (hx.p (by rw[h8];rfl)).1 hu
       .exact h.node _ hi
      .rw[if_neg h8];by_cases h9:x.k=9
       .rw[if_pos h9];have hi:=hnode h9 rfl;refine h.set ?_ h.lets;split
        .exact h.node _ hi
        .rename_i hu;exact(hI _ hi).start (hA.st h9) _ (h.node _ hi) (by simpa using hu)
       .rw[if_neg h9];exact h
structure TInv(i:Nat)(D:List Int->Prop)(P:Nod->Prop)(R:List Tol->Prop):Prop where
 one:∀ p c ts,P p->p.up=true->p.agreed[p.done]?=some c->doE p.sto c=0->(p.asked c).isSome=true->R ts->R (ts++[⟨i,c.c,c.s,doC p.sto c,doA p.sto c⟩])
 sub:∀ p d ts,P p->D d->p.up=true->opE d (p.done:Int)=0->Kp d (p.done:Int)∈p.agreed.take p.done->R ts->R (ts++[⟨i,(Kp d (p.done:Int)).c,(Kp d (p.done:Int)).s,doC p.sto (Kp d (p.done:Int)),doA p.sto (Kp d (p.done:Int))⟩])
theorem TInv.doP{A:Alw}{i:Nat}{D:List Int->Prop}{Q:Let->Prop}{P:Nod->Prop}{R:List Tol->Prop}(h:NInv A i D Q P)(t:TInv i D P R)(l:List Cmd)(p:Nod)(ts:List Tol)(hp:P p)(hu:p.up=true)(hl:p.agreed.drop p.done=l)(hr:R ts):R (doP i l p ts).2:=by
 induction l generalizing p ts with
 | nil=>exact hr
 | cons c l ih =>
  rw[Go.Proofs.YtalbmmghmoggcaaGreatDoor.doP];split
  .exact hr
  .rename_i he
   have hc:p.agreed[p.done]?=some c:=by
    have:=congrArg (·[0]?) hl;simpa using this
   have hk:=IT { p with sto:=doS p.sto c,done:=p.done+1 } c;refine ih _ _ (h.one p c hp hu hc (Decidable.not_not.1 he)) (hk.1.trans hu) ?_ ?_
   .rw[hk.2.1,hk.2.2.1];show p.agreed.drop (p.done+1)=l;rw[<- List.drop_drop,hl];rfl
   .split
    .rename_i ha;exact t.one p c ts hp hu hc (Decidable.not_not.1 he) ha hr
    .exact hr
theorem L5(M:Meet)(l:Let):(M.come l).told=M.told:=by unfold Meet.come;split<;>rfl
theorem PC(l:List Let)(M:Meet):(l.foldl (fun M l=>M.come l) M).told=M.told:=by
 induction l generalizing M with
 | nil=>rfl
 | cons x l ih=>exact(ih _).trans (L5 M x)
theorem Ti(M:Meet)(k:Int)(a:Nat):(M.move k a).told=M.told:=by
 unfold Meet.move;split
 .rfl
 .simp only;split
  .rw[L5];split<;>rfl
  .split<;>rfl
theorem Un(M:Meet){x:Lac}(h1:x.k≠1)(h3:x.k≠3):(M.act x).told=M.told:=by
 unfold Meet.act;simp only;rw[if_neg h1];split
 .rfl
 .split
  .exact Ti _ _ _
  .split
   .exact PC _ _
   .split
    .rfl
    .split<;>rfl
theorem GInv.told{A:Alw}{D:Nat->List Int->Prop}{Q:Let->Prop}{P:Nat->Nod->Prop}{R:List Tol->Prop}(hI:∀ i,i<5->NInv A i (D i) Q (P i))(hT:∀ i,i<5->TInv i (D i) (P i) R){M:Meet}(h:GInv Q P M)(hr:R M.told){x:Lac}(hx:LacOk x)(hD:x.k=1->D x.n.toNat x.d):R (M.act x).told:=by
 by_cases h1:x.k=1
 .have hi:x.n.toNat<5:=by have:=hx.n (by rw[h1];rfl);omega
  unfold Meet.act;simp only;rw[if_pos h1];show R (Nod.subm _ _ _ _).2;unfold Nod.subm Nod.sub0;split
  .exact hr
  .rename_i hu
   split
   .exact hr
   .rename_i he
    split
    .rename_i hm
     exact(hT _ hi).sub _ _ _ (h.node _ hi) (hD h1) (by simpa using hu) (Decidable.not_not.1 he) hm hr
    .exact hr
 .by_cases h3:x.k=3
  .have hi:x.n.toNat<5:=by have:=hx.n (by rw[h3];rfl);omega
   unfold Meet.act;simp only;rw[if_neg h1,if_neg (by omega),if_pos h3];show R (if _ then _ else _);split
   .rename_i hu
    exact TInv.doP (hI _ hi) (hT _ hi) _ _ _ (h.node _ hi) hu rfl hr
   .exact hr
  .rw[Un M h1 h3];exact hr
theorem GInv.acts{A:Alw}{D:Nat->List Int->Prop}{Q:Let->Prop}{P:Nat->Nod->Prop}{R:List Tol->Prop}(hI:∀ i,i<5->NInv A i (D i) Q (P i))(hT:∀ i,i<5->TInv i (D i) (P i) R)(L:List Lac){n:Nat}{M:Meet}(hM:MOk n M)(hn:n+L.length<=1000000)(h:GInv Q P M)(hr:R M.told)(hx:∀ x∈L,LacOk x/\A.Ok x/\(x.k=1->D x.n.toNat x.d)):GInv Q P (M.acts L)/\R (M.acts L).told/\MOk (n+L.length) (M.acts L):=by
 induction L generalizing n M with
 | nil=>exact⟨h,hr,hM⟩
 | cons x L ih =>
  have h1:=hx x List.mem_cons_self;rw[List.length_cons]at hn
  have:=ih (hM.act (by omega) h1.1) (by omega) (h.act hI hM h1.1 h1.2.1 h1.2.2) (h.told hI hT hr h1.1 h1.2.2) fun y hy=>hx y (List.mem_cons_of_mem _ hy);rw[List.length_cons,show n+(L.length+1)=n+1+L.length by omega];exact this
theorem TInv.all(i:Nat)(D:List Int->Prop)(P:Nod->Prop):TInv i D P fun _=>True:=⟨fun _ _ _ _ _ _ _ _ _=>trivial,fun _ _ _ _ _ _ _ _ _=>trivial⟩
def Nod.ub(p:Nod):Bool × Nat:=(p.up,p.bad)
theorem Kx(p:Nod)(b:Bal):(p.promise b).1.ub=p.ub:=by
 unfold Nod.promise;split
 .rfl
 .split
  .rfl
  .split<;>rfl
theorem Se(p:Nod)(v:Vt):(p.vote v).1.ub=p.ub:=by
 unfold Nod.vote;split
 .rfl
 .split
  .rfl
  .split<;>rfl
theorem NG(p:Nod)(j:Nat)(v:Vt):(p.count j v).ub=p.ub:=by
 unfold Nod.count;split
 .rfl
 .split<;>rfl
theorem Mb(p:Nod)(to:Nat)(e:Int):(p.refuse to e).ub=p.ub:=by unfold Nod.refuse;split<;>rfl
theorem JN(p:Nod)(l:List Cmd):(p.enqueue l).ub=p.ub:=by unfold Nod.enqueue;split<;>rfl
theorem Zi(p:Nod)(l:Let):(p.take l).ub=p.ub:=by
 unfold Nod.take;split
 .split
  .exact Mb _ _ _
  .exact Kx p l.bal
 .simp only;split<;>rfl
 .rfl
 .split
  .exact Mb _ _ _
  .exact Se p l.vote
 .exact NG p _ _
 .split<;>rfl
 .simp only;split<;>exact JN p l.what
 .rfl
theorem YT(p:Nod)(i:Nat)(q:Pend):(p.runP i q).ub=p.ub:=by
 cases q with
 | began b vs=>unfold Nod.runP;simp only;split<;>rfl
 | prop v=>exact NG p i v
 | _=>rfl
theorem UU(i:Nat)(l:List Pend)(p:Nod)(ls:List Let):(doneP i l p ls).1.ub=p.ub:=by
 induction l generalizing p ls with
 | nil=>rfl
 | cons q l ih=>exact(ih _ _).trans (YT p i q)
theorem Ub(p:Nod)(c:Cmd):(p.unwant c).ub=p.ub:=by unfold Nod.unwant;split<;>rfl
theorem aQ(i:Nat)(l:List Cmd)(p:Nod)(ts:List Tol):(doP i l p ts).1.ub=p.ub:=by
 induction l generalizing p ts with
 | nil=>rfl
 | cons c l ih =>
  rw[doP];split
  .rfl
  .exact(ih _ _).trans (Ub _ _)
theorem X9(p:Nod)(i:Nat):(p.askd i).1.ub=p.ub:=by
 unfold Nod.askd;split
 .rfl
 .split
  .exact JN _ _
  .rfl
theorem QJ(p:Nod):p.propose.ub=p.ub:=by
 unfold Nod.propose;split
 .rfl
 .split
  .rfl
  .split
   .rfl
   .exact Se p _
theorem WV(p:Nod)(i:Nat)(ls:List Let):(p.syncd i ls).1.ub=p.ub:=by
 unfold Nod.syncd;split
 .rfl
 .rw[UU];unfold Nod.syn;split<;>rfl
theorem TW(p:Nod)(i:Nat)(ls:List Let):(p.taught i ls).1.ub=p.ub:=by unfold Nod.taught;split<;>rfl
theorem Wh(p:Nod)(i:Nat)(ls:List Let)(ts:List Tol):(p.piece i ls ts).1.ub=p.ub:=by
 unfold Nod.piece;simp only;rw[TW,WV,QJ,X9,aQ]
theorem Yr(p:Nod)(i:Nat):(p.lead i).ub=p.ub:=by
 unfold Nod.lead;simp only;split
 .rfl
 .exact Kx p _
theorem Ru(M:Meet)(l:Let)(j:Nat):((M.come l).node j).ub=(M.node j).ub:=by
 unfold Meet.come;split
 .show(upN M.node l.dst _ j).ub=_;unfold upN;split
  .rename_i h;rw[h];exact Zi _ _
  .rfl
 .rfl
theorem UG(l:List Let)(M:Meet)(j:Nat):((l.foldl (fun M l=>M.come l) M).node j).ub=(M.node j).ub:=by
 induction l generalizing M with
 | nil=>rfl
 | cons x l ih=>exact(ih _).trans (Ru M x j)
theorem Yx(M:Meet)(k:Int)(a:Nat)(j:Nat):((M.move k a).node j).ub=(M.node j).ub:=by
 unfold Meet.move;split
 .rfl
 .simp only;split
  .rw[Ru];split<;>rfl
  .split<;>rfl
theorem Hf(M:Meet)(i:Nat)(p:Nod)(ls:List Let)(ts:List Tol)(j:Nat):(M.set i p ls ts).node j=if j=i then p else M.node j:=rfl
theorem al(M:Meet){x:Lac}(h1:x.k≠1)(h8:x.k≠8)(h9:x.k≠9)(j:Nat):((M.act x).node j).ub=(M.node j).ub:=by
 unfold Meet.act;simp only;rw[if_neg h1];by_cases h2:x.k=2
 .rw[if_pos h2,Hf];split
  .rename_i e
   rw[e];split
   .exact Yr _ _
   .rfl
  .rfl
 .rw[if_neg h2];by_cases h3:x.k=3
  .rw[if_pos h3,Hf];split
   .rename_i e
    rw[e];split
    .exact Wh _ _ _ _
    .rfl
   .rfl
  .rw[if_neg h3];by_cases h4:x.k=4\/x.k=5\/x.k=6
   .rw[if_pos h4];exact Yx _ _ _ _
   .rw[if_neg h4];by_cases h7:x.k=7
    .rw[if_pos h7];exact UG _ _ _
    .rw[if_neg h7,if_neg h8,if_neg h9]
theorem cQ(M:Meet){x:Lac}(h1:x.k=1)(j:Nat):((M.act x).node j).ub=if j=x.n.toNat/\(M.node j).up=true/\opE x.d ((M.node j).done:Int)≠0 then((M.node j).up,(M.node j).bad+1)else(M.node j).ub:=by
 unfold Meet.act;simp only;rw[if_pos h1,Hf];by_cases hj:j=x.n.toNat
 .subst hj;rw[if_pos rfl];unfold Nod.subm Nod.sub0;by_cases hu:(M.node x.n.toNat).up=false
  .rw[if_pos hu,if_neg (by rw[hu];simp)]
  .rw[if_neg hu];have hu':(M.node x.n.toNat).up=true:=by simpa using hu
   by_cases he:opE x.d ((M.node x.n.toNat).done:Int)≠0
   .rw[if_pos he,if_pos ⟨rfl,hu',he⟩];rfl
   .rw[if_neg he,if_neg (c:=_/\_) (fun e=>he e.2.2)];split
    .rfl
    .show(Nod.want _ _).ub=_;unfold Nod.want;split<;>rfl
 .rw[if_neg hj,if_neg (fun e=>hj e.1)]
theorem Sq(M:Meet)(L:List Lac)(x:Lac):M.acts (L++[x])=(M.acts L).act x:=by unfold Meet.acts;rw[List.foldl_append];rfl
theorem XX(g:Gr)(cr:Bool):LacOk (NU g cr):=by
 have h1:=Bb g.a 5 (by omega);have h2:=Bb g.c 20 (by omega);have h3:=Bb g.c 90 (by omega);have hl:(pkB g).length<=63:=by
  have:(pkP g).length=63:=Ks (Wi g);unfold pkB;split
  .rw[List.length_take];omega
  .omega
 rw[<- Jw];unfold NU acN
 repeat' split
 all_goals simp[Yp,Fw,G4,G7];try omega
theorem W9{P:Lac->Prop}(h7:P (acN 7 0)){cr:Bool}(hg:∀ g,P (NU g cr))(s:Nat)(l:List Gr):∀ x∈MW cr s l,P x:=by
 induction l generalizing s with
 | nil=>intro x hx;cases hx
 | cons g l ih =>
  intro x hx;rcases List.mem_cons.1 hx with rfl|hx
  .unfold W8;split
   .exact h7
   .exact hg g
  .exact ih _ x hx
theorem cI(l:List Gr)(m:Nat)(cr:Bool):∀ x∈scr l m cr,LacOk x:=W9 (by rw[<- Jw];decide) (fun g=>XX g cr) _ _
theorem WB(cr:Bool)(s:Nat)(l:List Gr):(MW cr s l).length=l.length:=by
 induction l generalizing s with
 | nil=>rfl
 | cons g l ih=>rw[MW,List.length_cons,ih,List.length_cons]
theorem YX(l:List Gr)(m:Nat)(cr:Bool):(scr l m cr).length<=m:=by unfold scr;rw[WB,List.length_take];omega
def Nod.tp(p:Nod):Prop:=Bf p.d p.sy
theorem Sm{d:List Int}{s:Int}{may:Prop}[Decidable may] {b:List Int} (h:Cu d s may b=0):Bf (F0 d s may b) (G8 d s may b):=by
 obtain⟨h1,h2,_⟩:=Uh h;unfold F0 G8;rw[if_pos h,if_pos h];unfold Bf at *;rw[List.length_append,E9];omega
theorem Kw{p:Nod}(h:p.tp)(b:Bal):(p.promise b).1.tp:=by
 unfold Nod.promise;split
 .exact h
 .split
  .exact h
  .split
   .exact h
   .rename_i hw;exact Sm (Decidable.not_not.1 hw)
theorem Sc{p:Nod}(h:p.tp)(v:Vt):(p.vote v).1.tp:=by
 unfold Nod.vote;split
 .exact h
 .split
  .exact h
  .split
   .exact h
   .rename_i hw;exact Sm (Decidable.not_not.1 hw)
theorem Ma{p:Nod}(h:p.tp)(to:Nat)(e:Int):(p.refuse to e).tp:=by unfold Nod.refuse;split<;>exact h
theorem UH{p:Nod}(h:p.tp)(j:Nat)(v:Vt):(p.count j v).tp:=by
 unfold Nod.count;split
 .exact h
 .split<;>exact h
theorem PL{p:Nod}(h:p.tp)(l:List Cmd):(p.enqueue l).tp:=by unfold Nod.enqueue;split<;>exact h
theorem UK{p:Nod}(h:p.tp){k:Int}(hk:0<=k):(p.crash k).tp/\(p.crash k).up=false/\(p.crash k).done=0/\(p.crash k).agreed=[]:=by
 have he:IZ p.d p.sy k=0:=by unfold IZ;rw[if_neg (fun e=>e h),if_neg (by omega)]
 unfold Nod.crash;rw[if_neg (fun e=>e he)];refine⟨?_,rfl,rfl,rfl⟩;show Bf (KY p.d p.sy k) (KZ p.d p.sy k);unfold KY KZ;rw[if_pos he,if_pos he];unfold Nod.tp Bf at h;have hc:0<=My p.d p.sy k/\My p.d p.sy k<=(p.d.length:Int):=by unfold My;split<;>omega
 unfold Bf;rw[List.length_take];omega
theorem OV{p:Nod}(h:p.tp):p.start.tp/\p.start.up=true/\p.start.done=0/\p.start.agreed=[]:=by
 have he:CW p.d p.sy=0:=if_pos h;have hl:=V0 p.d p.d.length;unfold Nod.start;rw[if_neg (fun e=>e he)];split
 .refine⟨?_,rfl,rfl,rfl⟩;show Bf (Lp p.d p.sy) (MR p.d p.sy);unfold Lp MR;have h':Bf p.d p.sy:=h;rw[if_pos h',if_pos h'];unfold Nod.tp Bf at h;unfold Bf;rw[List.length_take];unfold Ej;split<;>omega
 .exact⟨h,rfl,rfl,rfl⟩
theorem cX(A:Alw)(i:Nat):NInv A i (fun _=>True) (fun _=>True) Nod.tp where
 take:=fun _ p l h _ _ _=>by
  unfold Nod.take;split
  .split
   .exact Ma h _ _
   .exact Kw h l.bal
  .simp only;split<;>exact h
  .exact h
  .split
   .exact Ma h _ _
   .exact Sc h l.vote
  .exact UH h _ _
  .split<;>exact h
  .simp only;split<;>exact PL h l.what
  .exact h
 one:=fun p c h _ _ _=>by unfold Nod.unwant;split<;>exact h
 ask:=fun p h _=>⟨by
  unfold Nod.askd;split
  .exact h
  .split
   .unfold Nod.enqueue;split<;>exact h
   .exact h,fun _ _=>trivial⟩
 prop:=fun p h _=>by
  unfold Nod.propose;split
  .exact h
  .split
   .exact h
   .split
    .exact h
    .exact Sc h _
 syn:=fun p h _=>by
  unfold Nod.syn;split
  .show Bf (Hi p.d p.sy) (Is p.d p.sy);unfold Hi Is;have h':Bf p.d p.sy:=h;rw[if_pos h',if_pos h'];unfold Nod.tp Bf at h;unfold Bf;omega
  .exact h
 run:=fun p q l h _ _ _=>⟨by
  have hk:=Md p i q;show Bf (p.runP i q).d (p.runP i q).sy;rw[hk.2.2.1,hk.2.2.2];exact h,fun _ _=>trivial⟩
 teach:=fun p h _ _=>⟨h,fun _ _=>trivial⟩
 lead:=fun _ p h _=>by
  unfold Nod.lead;simp only;split
  .exact h
  .exact Kw h _
 sub:=fun p d ts h _ _=>by
  unfold Nod.subm Nod.sub0;split
  .exact h
  .split
   .exact h
   .split
    .exact h
    .show(Nod.want _ _).tp;unfold Nod.want;split<;>exact h
 crash:=fun _ p k h hk _=>(UK h hk).1
 start:=fun _ p h _=>(OV h).1
def dq:Alw:=⟨true,true,true,true⟩
theorem X4(x:Lac):dq.Ok x:=⟨fun _=>rfl,fun _=>rfl,fun _=>rfl,fun _=>rfl⟩
theorem X1(L:List Lac)(h:∀ x∈L,LacOk x)(hl:L.length<=100000){i:Nat}(hi:i<5):((Cx.acts L).node i).tp :=
 (GInv.acts (R:=fun _=>True) (D:=fun _ _=>True) (Q:=fun _=>True) (P:=fun _=>Nod.tp) (fun i _=>cX dq i) (fun i _=>TInv.all i _ _) L MOk.zero (by omega) ⟨fun _ _=>(by show Bf [] 0;decide),fun _ _=>trivial⟩ trivial fun x hx=>⟨h x hx,X4 x,fun _=>trivial⟩).1.node i hi
theorem Sp(M:Meet){i:Nat}(hi:i<5)(ht:(M.node i).tp)(j:Nat):((M.act (acN 9 (i:Int))).node j).up=if j=i then true else(M.node j).up:=by
 show(upN M.node (i:Int).toNat _ j).up=_;unfold upN;rw[Int.toNat_natCast];split
 .split
  .assumption
  .exact(OV ht).2.1
 .rfl
theorem am(M:Meet){x:Lac}(h8:x.k≠8){j:Nat}(hu:(M.node j).up=true):((M.act x).node j).up=true:=by
 by_cases h1:x.k=1
 .have:=congrArg Prod.fst (cQ M h1 j);split at this
  .exact this.trans hu
  .exact this.trans hu
 .by_cases h9:x.k=9
  .unfold Meet.act;simp only;rw[if_neg h1,if_neg (by omega),if_neg (by omega),if_neg (by omega),if_neg (by omega),if_neg (by omega),if_pos h9,Hf];split
   .rename_i e;rw[<- e,if_pos hu];exact hu
   .exact hu
  .exact(congrArg Prod.fst (al M h1 h8 h9 j)).trans hu
theorem X2(L:List Lac)(h8:∀ x∈L,x.k≠8)(M:Meet){j:Nat}(hu:(M.node j).up=true):((M.acts L).node j).up=true:=by
 induction L generalizing M with
 | nil=>exact hu
 | cons x L ih=>exact ih (fun y hy=>h8 y (List.mem_cons_of_mem _ hy)) _ (am M (h8 x List.mem_cons_self) hu)
theorem Uo(M:Meet)(L K:List Lac):M.acts (L++K)=(M.acts L).acts K:=List.foldl_append
theorem Pr{k n:Int}(h:(k=2\/k=3\/k=9)/\0<=n/\n<=4):LacOk (acN k n):=by
 rw[<- Jw];rcases h with⟨rfl|rfl|rfl,h1,h2⟩<;>simp[Yp,acN,Fw,G4,G7]<;>omega
theorem Kc{P:Lac->Prop}{k:Int}(h:∀ n:Nat,n<5->P (acN k (n:Int))){j:Nat}(hj:j<=5):∀ x∈DQ k j,P x:=by
 intro x hx;obtain⟨n,hn,rfl⟩:=List.mem_map.1 hx;exact h n (by have:=List.mem_range.1 hn;omega)
theorem JO{P:Lac->Prop}(h3:∀ n:Nat,n<5->P (acN 3 (n:Int)))(h7:P (acN 7 0))(m:Nat):∀ x∈BV m,P x:=by
 induction m with
 | zero=>intro x hx;cases hx
 | succ m ih =>
  intro x hx;rcases List.mem_append.1 hx with h|h
  .exact ih x h
  .rcases List.mem_append.1 h with h|h
   .exact Kc h3 (Nat.le_refl _) x h
   .rw[List.mem_singleton.1 h];exact h7
theorem ON{P:Lac->Prop}(h9:∀ n:Nat,n<5->P (acN 9 (n:Int)))(h3:∀ n:Nat,n<5->P (acN 3 (n:Int)))(h7:P (acN 7 0))(m:Nat):∀ x∈Gu m,P x:=by
 intro x hx;rcases List.mem_append.1 hx with h|h
 .exact Kc h9 (Nat.le_refl _) x h
 .exact JO h3 h7 m x h
theorem YQ(m:Nat):∀ x∈Gu m,LacOk x:=ON (fun n hn=>Pr ⟨.inr (.inr rfl),by omega,by omega⟩) (fun n hn=>Pr ⟨.inr (.inl rfl),by omega,by omega⟩) (by rw[<- Jw];decide) m
theorem cC(L:List Lac)(h:∀ x∈L,LacOk x)(m:Nat)(hl:L.length+6*m+5<=100000){j:Nat}(hj:j<5):((Cx.acts (L++Gu m)).node j).up=true:=by
 unfold Gu;rw[<- List.append_assoc,Uo];refine X2 _ (JO (fun _ _=>by show(3:Int)≠8;decide) (by decide) m) _ ?_;have hs:∀ k,k<=5->j<k->((Cx.acts (L++DQ 9 k)).node j).up=true:=by
  intro k;induction k with
  | zero=>intro _ h;omega
  | succ k ih =>
   intro hk hjk;have hok:∀ x∈L++DQ 9 k,LacOk x:=fun x hx=>(List.mem_append.1 hx).elim (h x) fun e=>Kc (fun n hn=>Pr ⟨.inr (.inr rfl),by omega,by omega⟩) (by omega) x e;have ht:=X1 (L++DQ 9 k) hok (by rw[List.length_append,V4];omega) (i:=k) (by omega);rw[If,<- List.append_assoc,Sq,Sp _ (by omega) ht];split
   .rfl
   .exact ih (by omega) (by omega)
 exact hs 5 (Nat.le_refl _) hj
structure NoL(p:Nod):Prop where
 ag:p.agreed=[]
 dn:p.done=0
 rb:p.rnd.bal=Ch
 pe:∀ q∈p.pend,q=.start
theorem NoL.leads{p:Nod}(h:NoL p):p.leads=false:=decide_eq_false fun e=>e.1 h.rb
theorem NoL.enq{p:Nod}(h:NoL p)(l:List Cmd):p.enqueue l=p:=by unfold Nod.enqueue;rw[h.leads];rfl
theorem T9{i:Nat}{l:Let}{n:Nat}:∀ m∈BB i l n,m.kind=l.kind:=by
 intro m hm;obtain⟨j,_,rfl⟩:=List.mem_map.1 hm;rfl
theorem Y2(i:Nat):NInv ⟨true,false,true,true⟩ i (fun _=>True) (fun l=>l.kind=6) NoL where
 take:=fun _ p l h hl _ _=>by
  unfold Nod.take;rw[hl];simp only[h.enq,h.ag];rw[if_neg (by simp)];exact h
 one:=fun p c h _ hc _=>by rw[h.ag]at hc;simp at hc
 ask:=fun p h _=>by
  have h2:NoL { p with asked:=(CQ p.vo.p p.asked (p.wants.take 40)).2 }:=⟨h.ag,h.dn,h.rb,h.pe⟩;unfold Nod.askd;split
  .exact⟨h2,fun _ hm=>by cases hm⟩
  .split
   .rw[h2.enq];exact⟨h2,fun _ hm=>by cases hm⟩
   .exact⟨h2,fun m hm=>by rw[List.mem_singleton.1 hm];rfl⟩
 prop:=fun p h _=>by unfold Nod.propose;rw[if_pos (.inl h.leads)];exact h
 syn:=fun p h _=>by
  unfold Nod.syn;split
  .exact⟨h.ag,h.dn,h.rb,h.pe⟩
  .exact h
 run:=fun p q l h _ he _=>by
  obtain rfl:q=.start:=h.pe q (by rw[he];exact List.mem_cons_self);exact⟨⟨h.ag,h.dn,h.rb,fun q hq=>h.pe q (by rw[he];exact List.mem_cons_of_mem _ hq)⟩,fun m hm=>T9 m hm⟩
 teach:=fun p h _ hl=>by rw[h.leads]at hl;cases hl
 lead:=fun e=>by cases e
 sub:=fun p d ts h _ _=>by
  unfold Nod.subm Nod.sub0;split
  .exact h
  .split
   .exact⟨h.ag,h.dn,h.rb,h.pe⟩
   .split
    .exact h
    .show NoL (Nod.want _ _);unfold Nod.want;split
     .exact h
     .exact⟨h.ag,h.dn,h.rb,h.pe⟩
 crash:=fun _ p k h _ _=>by
  unfold Nod.crash;split
  .exact h
  .exact⟨rfl,rfl,rfl,fun q hq=>by cases hq⟩
 start:=fun _ p h _=>by
  unfold Nod.start;split
  .exact h
  .split<;>exact⟨rfl,rfl,rfl,fun q hq=>List.mem_singleton.1 hq⟩
theorem VR(i:Nat):TInv i (fun _=>True) NoL (fun ts=>ts=[]) where
 one:=fun p c ts h _ hc _ _ _=>by rw[h.ag]at hc;simp at hc
 sub:=fun p d ts h _ _ _ hm _=>by rw[h.ag]at hm;simp at hm
theorem bL(L:List Lac)(h:∀ x∈L,LacOk x/\x.k≠2)(hl:L.length<=100000):(∀ i,i<5->(Cx.acts L).log i=[])/\(Cx.acts L).told=[]:=by
 obtain⟨h1,h2,_⟩:=GInv.acts (D:=fun _ _=>True) (P:=fun _=>NoL) (fun i _=>Y2 i) (fun i _=>VR i) L MOk.zero (by omega) ⟨fun _ _=>⟨rfl,rfl,rfl,fun q hq=>by cases hq⟩,fun _ hm=>by cases hm⟩ rfl fun x hx=>⟨(h x hx).1,⟨fun _=>rfl,fun e=>absurd e (h x hx).2,fun _=>rfl,fun _=>rfl⟩,fun _=>trivial⟩;refine⟨fun i hi=>?_,h2⟩;unfold Meet.log;rw[(h1.node i hi).ag,List.take_nil]
end
section
open Go.RowKit
theorem G3{l:S3}{G:List Gr}{w:World}(h:RdV w l 5 (grL G))(hG:∀ g∈G,GrOk g)(hT:So w) :
  Calls prog 3 #[l.v] w fun e w'=>e=.returned (.bool true)/\Bw w w':=by
 obtain⟨L,hL⟩:∃ L,scr G 80 true=L:=⟨_,rfl⟩;have hok:=cI G 80 true;have hln:=YX G 80 true;rw[hL]at hok hln
 refine tIn [] func3 trivial ?_;refine tR 7 [] fun σ1 _ _=>?_;refine tC 1 (fun F C=>T8 (most:=80) (cr:=true) (h.below (CgQ.below C)) hG (by decide) (tbA hT.1 C)) fun Nz=>?_;rintro _ _ ⟨s,P,rfl,hP,hN,b2⟩;refine⟨_,Fa.ac s P::_,rfl,b2,fun F=>⟨hN.ac Nz,F⟩,?_⟩;rw[hL]at hP
 have hPl:P.length=L.length:=by rw[<- hP,List.length_map]
 refine tF fun F _=>?_;have hsn:=(AcR.of F.1 hP).n;refine tR 12 [] fun σ3 _ _=>?_;refine Hj 53 [(3,S3.v s),(4,sn),(5,iv 0)] [] [] [Fa.ac s P,Fa.oa 0 s30 (([]:List (Lac × S3)).filter (fun p=>p.1.k != 2))] (fun kk ee LL ΦΦ=>∃ (i:Nat) (y:S3),kk=P.length-i/\ee=[(3,S3.v s),(4,S3.v y),(5,iv (i:Int))]/\LL=[]/\ΦΦ=[Fa.ac s P,Fa.oa 0 y ((P.take i).filter (fun p=>p.1.k != 2))]/\i<=P.length/\y.n=((P.take i).filter (fun p=>p.1.k != 2)).length) (P.length) ⟨0,s30,rfl,rfl,rfl,rfl,by omega,rfl⟩ (fun F=>⟨F.1,⟨OwnS.nil _ _ _ _ _ _,(fun p hp=>by cases hp)⟩,trivial⟩) ?_;rintro k _ _ _ ⟨i,y,rfl,rfl,rfl,rfl,hi,hyn⟩ _ _ _ J hJ;refine tR 8 [] fun σ4 _ _=>?_;by_cases h1:i<P.length
 .refine tI ((decide ((i:Int)<(s.n:Int)))) true (decide_eq_true (by omega)) ?_;obtain⟨⟨a,yd⟩,ha⟩:∃ a,P[i]?=some a:=⟨_,List.getElem?_eq_getElem (by omega)⟩;refine tF fun F _=>?_;obtain⟨b,off,hxa,_,hin⟩:=ZF F.1 ha;have htk:P.take (i+1)=P.take i++[(a,yd)]:=by rw[List.take_add_one,ha];rfl
  have hyl:=List.length_filter_le (fun p=>p.1.k != 2) (P.take i);rw[List.length_take]at hyl
  refine tR 7 [] fun σ5 _ _=>?_;refine tV 2 (pt b (off+5*i)) (fun F C=>(RN (c:=s.c) hxa i hin)) ?_;refine tR 1 [] fun σ6 _ _=>?_;refine tF fun F _=>?_;refine tV 4 (iv a.k) (fun F C=>(CV underlying3 rfl (acK F.1 hxa ha))) ?_;refine tR 2 [] fun σ7 _ _=>?_;by_cases h2:a.k≠2
  .refine tI ((a.k != 2)) true (by simpa using h2) ?_;refine tR 4 [] fun σ8 _ _=>?_;refine tV 3 (pt b (off+5*i)) (fun F C=>(RN (c:=s.c) hxa i hin)) ?_;refine tF fun F _=>?_;refine tV 4 (.agg #[iv a.k,iv a.n,iv a.a,iv a.p,S3.v yd]) (fun F C=>(bY (acS F.1 hxa ha))) ?_;refine tR 1 [0,0] fun σ10 _ _=>?_;refine Na 6 0 (x:=y) 23 23 27 5 56 zLa ⟨(σ10 0),0,none⟩ 1 1 [iv a.k,iv a.n,iv a.a,iv a.p,S3.v yd] (fun F=>F.2.1.1) [Fa.ac s P,Fa.dt ((P.take i).filter (fun p=>p.1.k != 2)++[(a,yd)])] (fun F=>⟨F.1,Dat.snoc F.2.1.2 (F.1.2 _ (List.mem_of_getElem? ha)),trivial⟩) rfl (by simp[TQ]) rfl (by simp[Value.oneCell']) (fun F K=>BW K 0 (σ10 0) [iv a.k,iv a.n,iv a.a,iv a.p,S3.v yd] 27 .z true (by kernel_rfl)) (by unfold maxLen;omega) (by omega) fun y11 _ _ n11=>?_;refine tR 5 [] fun σ12 _ _=>?_;refine tV 1 (iv ((i:Int)+1)) (fun F C=>(AN (x:=(.tmp 14)) (y:=(.const (iv 1))) (i:Int) 1 underlying3 (by omega))) ?_;refine tR 2 [] fun σ13 _ _=>?_;have hfl:(P.take (i+1)).filter (fun p=>p.1.k != 2)=(P.take i).filter (fun p=>p.1.k != 2)++[(a,yd)]:=by rw[htk,List.filter_append];simp[h2]
   exact tB hJ (P.length-(i+1)) (by omega) [false] ⟨i+1,y11,rfl,rfl,rfl,rfl,by omega,(by rw[hfl,List.length_append,List.length_singleton];omega)⟩ (fun F=>by rw[hfl];exact⟨F.2.1,⟨(by rw[Dm];exact F.1),F.2.2.1⟩,trivial⟩)
  .refine tI ((a.k != 2)) false (by simpa using h2) ?_;refine tR 4 [] fun σ14 _ _=>?_;refine tV 1 (iv ((i:Int)+1)) (fun F C=>(AN (x:=(.tmp 14)) (y:=(.const (iv 1))) (i:Int) 1 underlying3 (by omega))) ?_;refine tR 2 [] fun σ15 _ _=>?_;have hfl:(P.take (i+1)).filter (fun p=>p.1.k != 2)=(P.take i).filter (fun p=>p.1.k != 2):=by rw[htk,List.filter_append];simp[show a.k=2 from by simpa using h2]
   exact tB hJ (P.length-(i+1)) (by omega) [] ⟨i+1,y,rfl,rfl,rfl,rfl,by omega,(by rw[hfl];exact hyn)⟩ (fun F=>by rw[hfl];exact⟨F.1,F.2.1,trivial⟩)
 .refine tI ((decide ((i:Int)<(s.n:Int)))) false (decide_eq_false (by omega)) ?_;obtain rfl:i=P.length:=by omega
  rw[List.take_length]at hyn ⊢
  refine tR 4 [] fun σ16 _ _=>?_;have hfl:=List.length_filter_le (fun p=>p.1.k != 2) P;refine tC 1 (fun F C=>T3 (many:=40) (AcR.oo F.2.1 rfl).r (AcR.oo F.2.1 rfl).d (by omega)) fun Nz=>?_;rintro _ _ ⟨z,rfl,hz,b17⟩;refine⟨_,Fa.ac z (P.filter (fun p=>p.1.k != 2)++rnP (Gu 40))::_,rfl,b17,fun F=>⟨⟨hz.fz Nz,Dat.app F.2.1.2 (YO _ _ (cB _))⟩,F⟩,?_⟩;obtain⟨Q,hQ⟩:∃ Q,(P.filter (fun p=>p.1.k != 2)).map (·.1)=Q:=⟨_,rfl⟩;have hQm:∀ x∈Q,LacOk x/\x.k≠2:=by
   intro x hx;rw[<- hQ]at hx
   obtain⟨p,hp,rfl⟩:=List.mem_map.1 hx;obtain⟨hp1,hp2⟩:=List.mem_filter.1 hp;exact⟨hok _ (by rw[<- hP];exact List.mem_map.2 ⟨p,hp1,rfl⟩),by simpa using hp2⟩
  have hQl:Q.length<=80:=by rw[<- hQ,List.length_map];omega
  have hQa:∀ x∈Q++Gu 40,LacOk x/\x.k≠2:=fun x hx=>(List.mem_append.1 hx).elim (hQm x) fun e=>⟨YQ 40 x e,ON (P:=fun x=>x.k≠2) (fun _ _=>by show(9:Int)≠2;decide) (fun _ _=>by show(3:Int)≠2;decide) (by decide) 40 x e⟩;have hQe:(P.filter (fun p=>p.1.k != 2)++rnP (Gu 40)).map (·.1)=Q++Gu 40:=by rw[List.map_append,hQ,YP]
  have hlq:(Q++Gu 40).length<=1000:=by rw[List.length_append,Wv];omega
  obtain⟨M,hM⟩:∃ M,Cx.acts (Q++Gu 40)=M:=⟨_,rfl⟩;have hu:(M.node 0).up=true:=by rw[<- hM];exact cC Q (fun x hx=>(hQm x hx).1) 40 (by omega) (by decide)
  have hno:=bL (Q++Gu 40) hQa (by omega);rw[hM]at hno
  refine tC 2 (fun F C=>cz (AcR.of F.1 hQe) (fun x hx=>(hQa x hx).1) (by omega) (tb5 hT C) hM hu) fun Nz=>?_;rintro _ _ ⟨ly,tv,ys,rfl,hW,hO,b19⟩;refine⟨_,Fa.ot ly tv ys M::_,rfl,b19,fun F=>⟨RI hW hO Nz,F⟩,?_⟩;refine tF fun F _=>?_;have htn:=eQ F.1.told.rd;rw[hno.2]at htn
  have hlg:=Ys hno.1 (Nat.le_refl 5);refine tR 17 [1,0,0,0,0,0] fun σ20 _ _=>?_;refine tC 8 (fun F C=>Qn (RK F.1) hu) fun Nz=>?_;rintro _ _ ⟨rfl,b21⟩;refine⟨_,_,rfl,b21,id,?_⟩;refine tR 1 [] fun σ22 _ _=>?_;refine tV 10 (.bool true) (fun F C=>(Ei (t:=3) (m:=((lgY ys (lgN M 5)).n:Int)) (n:=0) (x:=(.tmp 44)) (y:=(.const (iv 0))) (by rw[hlg];rfl))) ?_;refine tR 5 [0] fun σ23 _ _=>?_;refine tV 16 (.bool true) (fun F C=>(Ei (t:=3) (m:=((tv).n:Int)) (n:=0) (x:=(.tmp 50)) (y:=(.const (iv 0))) (by rw[htn];rfl))) ?_;refine tR 3 [] fun σ24 _ _=>?_;exact tE (.bool true) fun _ B=>⟨rfl,B⟩
end
end Go.Proofs.YtalbmmghmoggcaaGreatDoor
