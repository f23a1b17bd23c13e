/- Part 44 of the walk. -/
import Derived.Test.YtaeckakjdagddadGreatDoorZ43
set_option maxRecDepth 100000
set_option maxHeartbeats 4000000
open Go.Proofs.Tryz
set_option linter.unusedVariables false
namespace Go.Proofs.YtaeckakjdagddadGreatDoor
open Go.RowKit
section
variable{n tc tr tu k c s m v:Int}(h:paE n tc tr tu k c s m v=0)
include h
end
theorem KC{n tc tr tu k c s m v:Int}(h:paE n tc tr tu k c s m v=0):(paL n tc tr tu k c s m v).length=63:=by
 rw[WO h,List.length_cons,Fu,G0]
theorem gt{W:World}(x:S3)(k:Nat)(hk:k≤x.c)(ha:∃ b off,x.a=some ⟨b,off,none⟩):(Instr.sliceAt 40 x.v none (some (iv (k:Int))) none).run prog W=.ok (S3.v ⟨x.a,k,x.c⟩) W:=by
 obtain⟨b,off,ha⟩:=ha;obtain⟨xa,xn,xc⟩:=x;simp only at ha hk;subst ha;have e:prog.elem 40=5:=by kernel_rfl
 rw[run_sliceAt_slice _ _ _ _ _ _ ZX,run_slice_h (P:=prog) (w:=W) _ _ _ _ ZX .i64 k (by omega) (by show(k:Int)≤((xc:Nat):Int);omega),e,G9];simp[Result.andThen,sliced,Addr.add]
theorem FSl.take{g:Gh}{w:World}{x:S3}{l:List Int}(h:FSl g w x l)(k:Nat)(hk:k≤l.length):FSl g w ⟨x.a,k,x.c⟩ (l.take k):=by
 have hn:=Iz h.s;obtain⟨⟨⟨a,cap,hv,hc,hn,h1⟩,h2,h3⟩,h4⟩:=h;simp only[Value.slice.injEq]at hv;obtain⟨rfl,hxn,rfl⟩:=hv;refine⟨⟨⟨_,_,by simp only[Value.slice.injEq,and_true,true_and,List.length_take];omega,by rw[List.length_take];omega,hn,?_⟩,by rw[List.length_take];omega,fun z hz=>h3 z (List.mem_of_mem_take hz)⟩,fun hl=>h4 fun e=>hl (by rw[e];simp)⟩;rcases h1 with h1|⟨b,off,ha,hbs,hcell⟩
 ·exact .inl (by rw[h1];simp)
 ·refine .inr ⟨b,off,ha,hbs,fun i hi=>?_⟩;rw[List.length_take]at hi
  rw[show(l.take k).getD i 0=l.getD i 0 by simp[List.getD,show i<k by omega]];exact hcell i (by omega)
theorem FSl.addr{g:Gh}{w:World}{x:S3}{l:List Int}(h:FSl g w x l)(hl:l≠[]):(∃ b off,x.a=some ⟨b,off,none⟩)∧l.length≤x.c:=by
 obtain⟨⟨⟨a,cap,hv,hc,hn,h1⟩,h2,h3⟩,h4⟩:=h;simp only[Value.slice.injEq]at hv;obtain⟨rfl,hxn,rfl⟩:=hv;rcases h1 with h1|⟨b,off,ha,_⟩
 ·exact absurd h1 hl
 ·exact⟨⟨b,off,ha⟩,hc⟩
theorem Ua{g:Gr}{w:World}(h:GrOk g)(hT:Tabs w) :
  Calls prog 15 #[.agg #[iv g.k,iv g.a,iv g.b,iv g.c,iv g.d]] w fun e w'=>∃ y:S3,e=.returned y.v∧Sl w' y.v (pkB g)∧Nb w.heap.size y (pkB g)∧Bw w w':=by
 have hl:(pkP g).length=63:=KC (WU g);have r4:=AR g.c 4 (by omega);refine tIn [] func15 trivial ?_;refine tR 18 [0,0,0,0,0,0,0] fun σ1 _ _=>?_;refine tC 11 (fun F C=>PN h.b h.c h.d h.a h.d) fun Nz=>?_;rintro _ _ ⟨rfl,b2⟩;refine⟨_,_,rfl,b2,id,?_⟩;refine tR 16 [0,0,1,0,1,1,0,2,0,0] fun σ3 _ _=>?_;refine tC 2 (fun F C=>BD h.d 17) fun Nz=>?_;rintro _ _ ⟨rfl,b4⟩;refine⟨_,_,rfl,b4,id,?_⟩;refine tR 1 [] fun σ5 _ _=>?_;refine LG 56 (fun ee LL ΦΦ=>∃ (tc tr:Int),ee=[(1,pt (σ1 0) 0),(3,pt (σ3 0) 0),(4,pt (σ3 1) 0)]∧LL=[⟨(σ1 0),.cells #[iv g.k,iv g.a,iv g.b,iv g.c,iv g.d] 50,.z,false⟩,⟨(σ3 0),.cells #[iv (wK g.b),iv (pick g.c 4),iv (pick g.d 6),iv (pick g.a 4),iv (wV g.b g.d)] 44,.z,false⟩,⟨(σ3 1),.cells #[iv tc,iv tr,iv 60] 54,.l,false⟩]∧ΦΦ=[]∧tc=pkT g∧tr=pkR g) (fun J hJ=>?_) ?_
 ·refine tR 6 [] fun σ6 _ _=>?_;by_cases h1:pick g.d 17=15
  ·refine tI (((pick g.d 17)==15)) true (by simpa using h1) ?_;refine tR 5 [2,0] fun σ7 _ _=>?_;exact tD hJ [true,true,true] ⟨pick g.c 4,0,rfl,rfl,rfl,(if_neg (by omega)).symm,(if_pos h1).symm⟩ (fun F=>trivial)
  ·refine tI (((pick g.d 17)==15)) false (by simpa using h1) ?_;refine tR 5 [] fun σ8 _ _=>?_;by_cases h2:pick g.d 17=16
   ·refine tI (((pick g.d 17)==16)) true (by simpa using h2) ?_;refine tR 3 [2] fun σ9 _ _=>?_;refine tV 2 (iv (pick g.c 4+1)) (fun F C=>(AB (x:=(.tmp 31)) (y:=(.const (iv 1))) (pick g.c 4) 1 underlying3 (by omega))) ?_;refine tV 3 (iv ((pick g.c 4+1)%4)) (fun F C=>(Xd (x:=(.tmp 32)) (y:=(.const (iv 4))) (pick g.c 4+1) 4 underlying3 (by omega) (by omega) (by decide) (by decide))) ?_;refine tR 4 [2,0] fun σ11 _ _=>?_;exact tD hJ [true,true,true] ⟨(pick g.c 4+1)%4,7,rfl,rfl,rfl,(if_pos h2).symm,(if_neg h1).symm⟩ (fun F=>trivial)
   ·refine tI (((pick g.d 17)==16)) false (by simpa using h2) ?_;refine tR 2 [] fun σ12 _ _=>?_;exact tD hJ [true,true,true] ⟨pick g.c 4,7,rfl,rfl,rfl,(if_neg h2).symm,(if_neg h1).symm⟩ (fun F=>trivial)
 rintro _ _ _ ⟨tc,tr,rfl,rfl,rfl,htc,htr⟩ _ _ _;refine tR 6 [11,0,2,0,6,2,8,1] fun σ13 _ _=>?_;refine tC 2 (fun F C=>BD h.a 1000) fun Nz=>?_;rintro _ _ ⟨rfl,b14⟩;refine⟨_,_,rfl,b14,id,?_⟩;refine tF fun _ Cs=>?_;have hs16:=Cs.size;have hE:=WU g;rw[← htc,← htr]at hE
 have hP:pkP g=paL (pick g.a 1000) tc tr 60 (wK g.b) (pick g.c 4) (pick g.d 6) (pick g.a 4) (wV g.b g.d):=by rw[htc,htr];rfl
 refine tC 5 (fun F C=>Zr hE (tbA hT C)) fun Nz=>?_;rintro _ _ ⟨y,rfl,hy,hn,b17⟩;refine⟨_,Fa.sl y (pkP g)::_,rfl,b17,fun F=>⟨(by rw[hP];exact Nj hy hn Nz),F⟩,?_⟩;rw[← hP]at hy hn
 have hyn:=Iz hy;refine tR 11 [12,14,16,18,20,0] fun σ18 _ _=>?_;refine tC 2 (fun F C=>BD h.d 23) fun Nz=>?_;rintro _ _ ⟨rfl,b19⟩;refine⟨_,_,rfl,b19,id,?_⟩;by_cases h1:pick g.d 23=22
 ·refine tV 3 (.bool true) (fun F C=>(Cw (t:=3) (m:=pick g.d 23) (n:=22) (x:=(.tmp 46)) (y:=(.const (iv 22))) (by simpa using h1))) ?_;refine tR 6 [] fun σ21 _ _=>?_;refine tI ((decide (30<(y.n:Int)))) true (decide_eq_true (by omega)) ?_;refine tR 2 [] fun σ22 _ _=>?_;refine tF fun F _=>?_;have hya:=FSl.addr F.1 (fun e=>by rw[e]at hl;cases hl);refine tV 1 (S3.v ⟨y.a,30,y.c⟩) (fun F C=>(gt y 30 (by omega) hya.1)) ?_;refine tR 7 [] fun σ23 _ _=>?_;rw[show pkB g=_ from if_pos ⟨h1,by omega⟩];exact tE (S3.v ⟨y.a,30,y.c⟩) fun F B=>⟨⟨y.a,30,y.c⟩,rfl,(F.1.take 30 (by omega)).s,fun _ a ha=>hn.mono hs16 (fun e=>by rw[e]at hl;cases hl) a ha,B⟩
 ·refine tV 3 (.bool false) (fun F C=>(Cw (t:=3) (m:=pick g.d 23) (n:=22) (x:=(.tmp 46)) (y:=(.const (iv 22))) (by simpa using h1))) ?_;refine tR 13 [] fun σ24 _ _=>?_;rw[show pkB g=_ from if_neg (fun e=>h1 e.1)];exact tE (S3.v y) fun F B=>⟨y,rfl,F.1.s,hn.mono hs16,B⟩
theorem bp{g:Gr}{cr:Bool}{w:World}(h:GrOk g)(hT:Tabs w){x:Lac}(hx:O7 g cr=x) :
  Calls prog 9 #[.agg #[iv g.k,iv g.a,iv g.b,iv g.c,iv g.d],.bool cr] w fun e w'=>∃ y:S3,e=.returned (.agg #[iv x.k,iv x.n,iv x.a,iv x.p,y.v])∧Sl w' y.v x.d∧Nb w.heap.size y x.d∧Bw w w':=by
 refine tIn [] func9 trivial ?_;refine tR 9 [0,0,1,0,0] fun σ1 _ _=>?_;refine tC 2 (fun F C=>BD h.a 5) fun Nz=>?_;rintro _ _ ⟨rfl,b2⟩;refine⟨_,_,rfl,b2,id,?_⟩;refine tR 7 [0] fun σ3 _ _=>?_;refine tC 2 (fun F C=>BD h.k 24) fun Nz=>?_;rintro _ _ ⟨rfl,b4⟩;refine⟨_,_,rfl,b4,id,?_⟩;unfold O7 at hx;refine tR 9 [] fun σ5 _ _=>?_;by_cases h1:pick g.k 24<3
 ·refine tI ((decide ((pick g.k 24)<3))) true (by simpa using h1) ?_;rw[if_pos h1]at hx
  refine tR 4 [0] fun σ6 _ _=>?_;refine tF fun _ Cs=>?_;have hs7:=Cs.size;refine tC 2 (fun F C=>Ua h (tbA hT C)) fun Nz=>?_;rintro _ _ ⟨y,rfl,hy,hn,b8⟩;refine⟨_,Fa.sl y (pkB g)::_,rfl,b8,fun F=>⟨Nj hy hn Nz,F⟩,?_⟩;refine tR 3 [1,0] fun σ9 _ _=>?_;subst hx;exact tX fun F C=>qE1 4 42 1 (σ1 1) #[iv 1,iv (pick g.a 5),iv 0,iv 0,S3.v y] fun _=>⟨y,rfl,F.1.s,hn.mono hs7,CgQ.below C⟩
 ·refine tI ((decide ((pick g.k 24)<3))) false (by simpa using h1) ?_;rw[if_neg h1]at hx
  refine tR 6 [] fun σ10 _ _=>?_;by_cases h1:pick g.k 24<5
  ·refine tI ((decide ((pick g.k 24)<5))) true (by simpa using h1) ?_;rw[if_pos h1]at hx
   refine tR 6 [1,0] fun σ11 _ _=>?_;subst hx;exact tX fun F C=>qE1 4 42 1 (σ1 1) #[iv 2,iv (pick g.a 5),iv 0,iv 0,S3.v s30] fun _=>⟨s30,rfl,DE _,fun e=>absurd rfl e,CgQ.below C⟩
  ·refine tI ((decide ((pick g.k 24)<5))) false (by simpa using h1) ?_;rw[if_neg h1]at hx
   refine tR 6 [] fun σ12 _ _=>?_;by_cases h1:pick g.k 24<14
   ·refine tI ((decide ((pick g.k 24)<14))) true (by simpa using h1) ?_;rw[if_pos h1]at hx
    refine tR 6 [1,0] fun σ13 _ _=>?_;subst hx;exact tX fun F C=>qE1 4 42 1 (σ1 1) #[iv 3,iv (pick g.a 5),iv 0,iv 0,S3.v s30] fun _=>⟨s30,rfl,DE _,fun e=>absurd rfl e,CgQ.below C⟩
   ·refine tI ((decide ((pick g.k 24)<14))) false (by simpa using h1) ?_;rw[if_neg h1]at hx
    refine tR 6 [] fun σ14 _ _=>?_;by_cases h1:pick g.k 24=14
    ·refine tI (((pick g.k 24)==14)) true (by simpa using h1) ?_;rw[if_pos h1]at hx
     refine tR 4 [0] fun σ15 _ _=>?_;refine tC 2 (fun F C=>BD h.c 20) fun Nz=>?_;rintro _ _ ⟨rfl,b16⟩;refine⟨_,_,rfl,b16,id,?_⟩;refine tR 3 [1,0] fun σ17 _ _=>?_;subst hx;exact tX fun F C=>qE1 4 42 1 (σ1 1) #[iv 4,iv 0,iv (pick g.c 20),iv 0,S3.v s30] fun _=>⟨s30,rfl,DE _,fun e=>absurd rfl e,CgQ.below C⟩
    ·refine tI (((pick g.k 24)==14)) false (by simpa using h1) ?_;rw[if_neg h1]at hx
     refine tR 6 [] fun σ18 _ _=>?_;by_cases h1:pick g.k 24=15
     ·refine tI (((pick g.k 24)==15)) true (by simpa using h1) ?_;rw[if_pos h1]at hx
      refine tR 4 [0] fun σ19 _ _=>?_;refine tC 2 (fun F C=>BD h.c 20) fun Nz=>?_;rintro _ _ ⟨rfl,b20⟩;refine⟨_,_,rfl,b20,id,?_⟩;refine tR 3 [1,0] fun σ21 _ _=>?_;subst hx;exact tX fun F C=>qE1 4 42 1 (σ1 1) #[iv 5,iv 0,iv (pick g.c 20),iv 0,S3.v s30] fun _=>⟨s30,rfl,DE _,fun e=>absurd rfl e,CgQ.below C⟩
     ·refine tI (((pick g.k 24)==15)) false (by simpa using h1) ?_;rw[if_neg h1]at hx
      refine tR 6 [] fun σ22 _ _=>?_;by_cases h1:pick g.k 24=16
      ·refine tI (((pick g.k 24)==16)) true (by simpa using h1) ?_;rw[if_pos h1]at hx
       refine tR 4 [0] fun σ23 _ _=>?_;refine tC 2 (fun F C=>BD h.c 20) fun Nz=>?_;rintro _ _ ⟨rfl,b24⟩;refine⟨_,_,rfl,b24,id,?_⟩;refine tR 3 [1,0] fun σ25 _ _=>?_;subst hx;exact tX fun F C=>qE1 4 42 1 (σ1 1) #[iv 6,iv 0,iv (pick g.c 20),iv 0,S3.v s30] fun _=>⟨s30,rfl,DE _,fun e=>absurd rfl e,CgQ.below C⟩
      ·refine tI (((pick g.k 24)==16)) false (by simpa using h1) ?_;rw[if_neg h1]at hx
       refine tR 3 [] fun σ26 _ _=>?_;by_cases h1:pick g.k 24=17
       ·refine tV 1 (.bool true) (fun F C=>(Cw (t:=3) (m:=pick g.k 24) (n:=17) (x:=(.tmp 52)) (y:=(.const (iv 17))) (by simpa using h1))) ?_;refine tR 5 [] fun σ27 _ _=>?_;by_cases h2:cr=true
        ·refine tI (cr) true h2 ?_;rw[if_pos ⟨h1,h2⟩]at hx
         refine tR 5 [0] fun σ28 _ _=>?_;refine tC 3 (fun F C=>BD h.c 90) fun Nz=>?_;rintro _ _ ⟨rfl,b29⟩;refine⟨_,_,rfl,b29,id,?_⟩;refine tR 3 [1,0] fun σ30 _ _=>?_;subst hx;exact tX fun F C=>qE1 4 42 1 (σ1 1) #[iv 8,iv (pick g.a 5),iv 0,iv (pick g.c 90),S3.v s30] fun _=>⟨s30,rfl,DE _,fun e=>absurd rfl e,CgQ.below C⟩
        ·refine tI (cr) false (by simpa using h2) ?_;rw[if_neg (fun e=>h2 e.2)]at hx
         refine tR 3 [] fun σ31 _ _=>?_;by_cases h1:pick g.k 24=18
         ·refine tV 1 (.bool true) (fun F C=>(Cw (t:=3) (m:=pick g.k 24) (n:=18) (x:=(.tmp 63)) (y:=(.const (iv 18))) (by simpa using h1))) ?_;refine tR 5 [] fun σ32 _ _=>?_;by_cases h2:cr=true
          ·refine tI (cr) true h2 ?_;rw[if_pos ⟨h1,h2⟩]at hx
           refine tR 6 [1,0] fun σ33 _ _=>?_;subst hx;exact tX fun F C=>qE1 4 42 1 (σ1 1) #[iv 9,iv (pick g.a 5),iv 0,iv 0,S3.v s30] fun _=>⟨s30,rfl,DE _,fun e=>absurd rfl e,CgQ.below C⟩
          ·refine tI (cr) false (by simpa using h2) ?_;rw[if_neg (fun e=>h2 e.2)]at hx
           refine tR 7 [1,0] fun σ34 _ _=>?_;subst hx;exact tX fun F C=>qE1 4 42 1 (σ1 1) #[iv 7,iv 0,iv 0,iv 0,S3.v s30] fun _=>⟨s30,rfl,DE _,fun e=>absurd rfl e,CgQ.below C⟩
         ·refine tV 1 (.bool false) (fun F C=>(Cw (t:=3) (m:=pick g.k 24) (n:=18) (x:=(.tmp 63)) (y:=(.const (iv 18))) (by simpa using h1))) ?_;rw[if_neg (fun e=>h1 e.1)]at hx
          refine tR 13 [1,0] fun σ35 _ _=>?_;subst hx;exact tX fun F C=>qE1 4 42 1 (σ1 1) #[iv 7,iv 0,iv 0,iv 0,S3.v s30] fun _=>⟨s30,rfl,DE _,fun e=>absurd rfl e,CgQ.below C⟩
       ·refine tV 1 (.bool false) (fun F C=>(Cw (t:=3) (m:=pick g.k 24) (n:=17) (x:=(.tmp 52)) (y:=(.const (iv 17))) (by simpa using h1))) ?_;rw[if_neg (fun e=>h1 e.1)]at hx
        refine tR 9 [] fun σ36 _ _=>?_;by_cases h1:pick g.k 24=18
        ·refine tV 1 (.bool true) (fun F C=>(Cw (t:=3) (m:=pick g.k 24) (n:=18) (x:=(.tmp 63)) (y:=(.const (iv 18))) (by simpa using h1))) ?_;refine tR 5 [] fun σ37 _ _=>?_;by_cases h2:cr=true
         ·refine tI (cr) true h2 ?_;rw[if_pos ⟨h1,h2⟩]at hx
          refine tR 6 [1,0] fun σ38 _ _=>?_;subst hx;exact tX fun F C=>qE1 4 42 1 (σ1 1) #[iv 9,iv (pick g.a 5),iv 0,iv 0,S3.v s30] fun _=>⟨s30,rfl,DE _,fun e=>absurd rfl e,CgQ.below C⟩
         ·refine tI (cr) false (by simpa using h2) ?_;rw[if_neg (fun e=>h2 e.2)]at hx
          refine tR 7 [1,0] fun σ39 _ _=>?_;subst hx;exact tX fun F C=>qE1 4 42 1 (σ1 1) #[iv 7,iv 0,iv 0,iv 0,S3.v s30] fun _=>⟨s30,rfl,DE _,fun e=>absurd rfl e,CgQ.below C⟩
        ·refine tV 1 (.bool false) (fun F C=>(Cw (t:=3) (m:=pick g.k 24) (n:=18) (x:=(.tmp 63)) (y:=(.const (iv 18))) (by simpa using h1))) ?_;rw[if_neg (fun e=>h1 e.1)]at hx
         refine tR 13 [1,0] fun σ40 _ _=>?_;subst hx;exact tX fun F C=>qE1 4 42 1 (σ1 1) #[iv 7,iv 0,iv 0,iv 0,S3.v s30] fun _=>⟨s30,rfl,DE _,fun e=>absurd rfl e,CgQ.below C⟩
theorem eG{w:World}{l:S3}{G:List Gr}{b off i:Nat}{g:Gr}(h:RdV w l 5 (grL G))(ha:l.a=some ⟨b,off,none⟩)(hg:G[i]?=some g){j:Nat}{u:Value}(hj:(grV g)[j]?=some u):w.cell? ⟨b,off+5*i+j,none⟩=some u:=by
 have hn:l.n=G.length:=by have:=h.len;rw[show(grL G).length=G.length*5 from Ek (f:=grV) (fun _=>rfl) G]at this;omega
 obtain⟨b',off',h1,_,h3⟩:=h.spot (i:=i) (by rw[hn];exact(List.getElem?_eq_some_iff.1 hg).1);rw[ha]at h1
 cases h1;exact h3 j u (FJ (f:=grV) (fun _=>rfl) G hg hj)
theorem Uq{l:S3}{G:List Gr}{most:Nat}{cr:Bool}{w:World}(h:RdV w l 5 (grL G))(hG:∀ g∈G,GrOk g)(hm:most≤100)(hT:Tabs w) :
  Calls prog 4 #[l.v,iv (most:Int),.bool cr] w fun e w'=>∃ (y:S3) (P:List (Lac × S3)),e=.returned y.v∧P.map (·.1)=scr G most cr∧AcN w.heap.size w' y P∧Bw w w':=by
 have hln:l.n=G.length:=by have:=h.len;rw[show(grL G).length=G.length*5 from Ek (f:=grV) (fun _=>rfl) G]at this;omega
 refine tIn [Fa.zv l 5 (grL G)] func4 ⟨h.fz,trivial⟩ ?_;refine tR 18 [] fun σ1 _ _=>?_;refine ES 41 [(0,S3.v l),(1,iv (most:Int)),(2,.bool cr),(7,sn),(8,iv 0),(9,iv 0)] [] [] [Fa.zv l 5 (grL G),Fa.oa 0 s30 []] (fun kk ee LL ΦΦ=>∃ (i s:Nat) (y:S3) (P:List (Lac × S3)),kk=min G.length most-i∧ee=[(0,S3.v l),(1,iv (most:Int)),(2,.bool cr),(7,S3.v y),(8,iv (s:Int)),(9,iv (i:Int))]∧LL=[]∧ΦΦ=[Fa.zv l 5 (grL G),Fa.oa 0 y P]∧i≤min G.length most∧y.n=i∧s≤i∧scr G most cr=P.map (·.1)++Ny cr s ((G.take most).drop i)∧(∀ p∈P,Nb w.heap.size p.2 p.1.d)) (min G.length most) ⟨0,0,s30,[],rfl,rfl,rfl,rfl,by omega,rfl,by omega,rfl,fun p hp=>by cases hp⟩ (fun F=>⟨F.1,⟨OwnS.nil _ _ _ _ _ _,fun p hp=>by cases hp⟩,trivial⟩) ?_;rintro k _ _ _ ⟨i,s,y,P,rfl,rfl,rfl,rfl,hi,hyn,hsi,hI,hN⟩ _ _ _ J hJ;refine tR 6 [] fun σ2 _ _=>?_;by_cases h1:i<G.length
 ·refine tV 3 (.bool true) (fun F C=>(rLt (t:=3) (m:=(i:Int)) (n:=(l.n:Int)) (x:=(.tmp 11)) (y:=(.tmp 13)) (decide_eq_true (by omega)))) ?_;refine tR 6 [] fun σ3 _ _=>?_;by_cases h2:i<most
  ·refine tI ((decide ((i:Int)<(most:Int)))) true (decide_eq_true (by omega)) ?_;have hi:i<(G.take most).length:=by rw[List.length_take];omega
   obtain⟨g,hg⟩:∃ g,(G.take most)[i]?=some g:=⟨_,List.getElem?_eq_getElem hi⟩;have hgG:G[i]?=some g:=by rw[List.getElem?_take,if_pos h2]at hg;exact hg
   have hgo:=hG g (List.mem_of_getElem? hgG);rw[List.drop_eq_getElem_cons hi,show(G.take most)[i]=g from(List.getElem?_eq_some_iff.1 hg).2,Ny]at hI
   refine tF fun F _=>?_;obtain⟨b,off,hla,_,hlc⟩:=F.1.rd.spot (i:=i) (by omega);refine tR 7 [] fun σ4 _ _=>?_;refine tV 2 (pt b (off+5*i)) (fun F C=>(eY hla i (by omega))) ?_;refine tV 3 (.agg #[iv g.k,iv g.a,iv g.b,iv g.c,iv g.d]) (fun F C=>(gj g fun j u hj=>eG F.1.rd hla hgG hj)) ?_;refine tR 1 [] fun σ6 _ _=>?_;obtain⟨x,hx⟩:∃ x,O7 g cr=x:=⟨_,rfl⟩;refine tF fun _ Cs=>?_;have hs7:=Cs.size;refine tC 5 (fun F C=>bp hgo (tbA hT C) hx) fun Nz=>?_;rintro _ _ ⟨d,rfl,hd,hn,b8⟩;refine⟨_,Fa.sl d x.d::_,rfl,b8,fun F=>⟨Nj hd hn Nz,F⟩,?_⟩;rw[hx]at hI
   refine tR 10 [1,0,0,0,0] fun σ9 _ _=>?_;by_cases h3:x.k=1
   ·refine tI ((x.k==1)) true (by simpa using h3) ?_;refine tR 3 [] fun σ10 _ _=>?_;refine tV 1 (iv ((s:Int)+1)) (fun F C=>(AB (x:=(.tmp 31)) (y:=(.const (iv 1))) (s:Int) 1 underlying3 (by omega))) ?_;refine tR 7 [] fun σ11 _ _=>?_;rw[show dw s x=s+1 from if_pos h3]at hI
    by_cases h4:6<s+1
    ·refine tI ((decide (6<((s:Int)+1)))) true (decide_eq_true (by omega)) ?_;rw[show Xn s x=acN 7 0 from if_pos ⟨h3,by omega⟩]at hI
     refine tR 8 [0,0,0,0,0] fun σ12 _ _=>?_;refine NC 3 0 (x:=y) 23 23 42 5 56 zLa ⟨(σ12 0),0,none⟩ 1 1 [iv 7,iv 0,iv 0,iv 0,sn] (fun F=>F.2.2.1.1) [Fa.zv l 5 (grL G),Fa.dt (P++[(acN 7 0,s30)])] (fun F=>⟨F.2.1,Dat.snoc F.2.2.1.2 (Ty _ _),trivial⟩) rfl (by simp[TQ]) rfl (by simp[Value.oneCell']) (fun F K=>BY K 1 (σ12 0) [iv 7,iv 0,iv 0,iv 0,sn] 42 .z true (by kernel_rfl)) (by unfold maxLen;omega) (by omega) fun y13 _ _ n13=>?_;refine tR 5 [] fun σ14 _ _=>?_;refine tV 1 (iv ((i:Int)+1)) (fun F C=>(AB (x:=(.tmp 20)) (y:=(.const (iv 1))) (i:Int) 1 underlying3 (by omega))) ?_;refine tR 2 [] fun σ15 _ _=>?_;exact tB hJ (min G.length most-(i+1)) (by omega) [false,false] ⟨i+1,(s+1),y13,P++[(acN 7 0,s30)],rfl,rfl,rfl,rfl,by omega,by omega,by omega,(by rw[hI,List.map_append,List.append_assoc];rfl),fun p hp=>(List.mem_append.1 hp).elim (hN p) fun e=>by rw[List.mem_singleton.1 e];exact fun e=>absurd rfl e⟩ (fun F=>⟨F.2.1,⟨(by rw[Ds];exact F.1),F.2.2.1⟩,trivial⟩)
    ·refine tI ((decide (6<((s:Int)+1)))) false (decide_eq_false (by omega)) ?_;rw[show Xn s x=x from if_neg (fun e=>h4 (by omega))]at hI
     refine tR 5 [0,0,0] fun σ16 _ _=>?_;refine NC 3 0 (x:=y) 23 23 42 5 56 zLa ⟨(σ16 0),0,none⟩ 1 1 [iv x.k,iv x.n,iv x.a,iv x.p,S3.v d] (fun F=>F.2.2.1.1) [Fa.zv l 5 (grL G),Fa.dt (P++[(x,d)])] (fun F=>⟨F.2.1,Dat.snoc F.2.2.1.2 (F.1),trivial⟩) rfl (by simp[TQ]) rfl (by simp[Value.oneCell']) (fun F K=>BY K 1 (σ16 0) [iv x.k,iv x.n,iv x.a,iv x.p,S3.v d] 42 .z true (by kernel_rfl)) (by unfold maxLen;omega) (by omega) fun y17 _ _ n17=>?_;refine tR 5 [] fun σ18 _ _=>?_;refine tV 1 (iv ((i:Int)+1)) (fun F C=>(AB (x:=(.tmp 20)) (y:=(.const (iv 1))) (i:Int) 1 underlying3 (by omega))) ?_;refine tR 2 [] fun σ19 _ _=>?_;exact tB hJ (min G.length most-(i+1)) (by omega) [false,false] ⟨i+1,(s+1),y17,P++[(x,d)],rfl,rfl,rfl,rfl,by omega,by omega,by omega,(by rw[hI,List.map_append,List.append_assoc];rfl),fun p hp=>(List.mem_append.1 hp).elim (hN p) fun e=>by rw[List.mem_singleton.1 e];exact hn.mono hs7⟩ (fun F=>⟨F.2.1,⟨(by rw[Ds];exact F.1),F.2.2.1⟩,trivial⟩)
   ·refine tI ((x.k==1)) false (by simpa using h3) ?_;rw[show dw s x=s from if_neg h3,show Xn s x=x from if_neg (fun e=>h3 e.1)]at hI
    refine tR 5 [0,0,0] fun σ20 _ _=>?_;refine NC 3 0 (x:=y) 23 23 42 5 56 zLa ⟨(σ20 0),0,none⟩ 1 1 [iv x.k,iv x.n,iv x.a,iv x.p,S3.v d] (fun F=>F.2.2.1.1) [Fa.zv l 5 (grL G),Fa.dt (P++[(x,d)])] (fun F=>⟨F.2.1,Dat.snoc F.2.2.1.2 (F.1),trivial⟩) rfl (by simp[TQ]) rfl (by simp[Value.oneCell']) (fun F K=>BY K 1 (σ20 0) [iv x.k,iv x.n,iv x.a,iv x.p,S3.v d] 42 .z true (by kernel_rfl)) (by unfold maxLen;omega) (by omega) fun y21 _ _ n21=>?_;refine tR 5 [] fun σ22 _ _=>?_;refine tV 1 (iv ((i:Int)+1)) (fun F C=>(AB (x:=(.tmp 20)) (y:=(.const (iv 1))) (i:Int) 1 underlying3 (by omega))) ?_;refine tR 2 [] fun σ23 _ _=>?_;exact tB hJ (min G.length most-(i+1)) (by omega) [false,false] ⟨i+1,s,y21,P++[(x,d)],rfl,rfl,rfl,rfl,by omega,by omega,by omega,(by rw[hI,List.map_append,List.append_assoc];rfl),fun p hp=>(List.mem_append.1 hp).elim (hN p) fun e=>by rw[List.mem_singleton.1 e];exact hn.mono hs7⟩ (fun F=>⟨F.2.1,⟨(by rw[Ds];exact F.1),F.2.2.1⟩,trivial⟩)
  ·refine tI ((decide ((i:Int)<(most:Int)))) false (decide_eq_false (by omega)) ?_;refine tR 6 [] fun σ24 _ _=>?_;rw[List.drop_eq_nil_of_le (by rw[List.length_take];omega),Ny,List.append_nil]at hI
   exact tX fun F C=>qE (S3.v y) fun _=>⟨y,P,rfl,hI.symm,AcN.of F.2.1 C hN,CgQ.below C⟩
 ·refine tV 3 (.bool false) (fun F C=>(rLt (t:=3) (m:=(i:Int)) (n:=(l.n:Int)) (x:=(.tmp 11)) (y:=(.tmp 13)) (decide_eq_false (by omega)))) ?_;refine tR 13 [] fun σ25 _ _=>?_;rw[List.drop_eq_nil_of_le (by rw[List.length_take];omega),Ny,List.append_nil]at hI
  exact tX fun F C=>qE (S3.v y) fun _=>⟨y,P,rfl,hI.symm,AcN.of F.2.1 C hN,CgQ.below C⟩
end Go.Proofs.YtaeckakjdagddadGreatDoor
