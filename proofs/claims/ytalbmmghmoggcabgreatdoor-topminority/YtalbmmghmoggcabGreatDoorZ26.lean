/- Part 26 of the walk. -/
import Derived.Test.YtalbmmghmoggcabGreatDoorZ25
set_option maxRecDepth 100000
set_option maxHeartbeats 4000000
open Go.Proofs.Tryz
set_option linter.unusedVariables false
namespace Go.Proofs.YtalbmmghmoggcabGreatDoor
open Go.RowKit
section
theorem LZ(n g:Int)(w:World) :
  Calls prog 126 #[.int .i64 n,.int .i64 g] w λe w'=>e=.returned (.bool (decide (0<=n/\n<=g)))/\w'=w:=by
 by_cases h0:0<=n
 .by_cases h1:n<=g
  .rw[I' (show 0<=n/\n<=g from⟨h0,h1⟩)];go_enter func126,ntmps126
   go_wp2
   go_ret;exact⟨rfl,rfl⟩
  .rw[D' (show ¬ (0<=n/\n<=g)from λh=>h1 h.2)];go_enter func126,ntmps126
   go_wp2
   go_ret;exact⟨rfl,rfl⟩
 .rw[D' (show ¬ (0<=n/\n<=g)from λh=>h0 h.1)];go_enter func126,ntmps126
  go_wp2
  go_ret;exact⟨rfl,rfl⟩
theorem QT(s:Sto)(w:World) :
  Calls prog 95 #[.agg (stA s)] w λe w'=>e=.returned (.int .i64 (Lj s))/\Bw w w':=by
 have bb:Bw w (w.alloc (.cells (stA s) 87)):=(Below.refl _ _).alloc (A' _) _;have hS:Bs (w.alloc (.cells (stA s) 87)) w.heap.size s:=heap_alloc_new _ _;generalize hW:w.alloc (.cells (stA s) 87)=W at bb hS;go_enter func95,ntmps95
 go_wp2_with ((with_reducible (refine DT ?_));(refine Fy rfl _ rfl w.heap.size 0 rfl s.V hS.rangeV ?_))
 clear hW
 go_loopw [9] (λiv wr=>∃ i:Nat,i<=8/\iv=.int .i64 (i:Int)/\Hid (∀ j,j<i->VaB (s.V j))/\W=wr) (λiv _=>(8-intOf iv).toNat)
 case atStart=>exact⟨0,by omega,rfl,λj hj=>by omega,rfl⟩
 case round =>
  obtain⟨i,hi,rfl,hb,rfl⟩:=hrel;by_cases hlt:i<8
  .have hlt':(i:Int)<8:=by omega
   have hix:=RQ s.V i hlt;go_wp2_with fail
   refine(LZ (s.V i) 1073741824 _).mono ?_;rintro e w1 ⟨rfl,rfl⟩;by_cases hv:0<=s.V i/\s.V i<=1073741824
   .rw[I' hv];have hB:Hid (∀ j,j<i+1->VaB (s.V j)):=λj hj=>by
     by_cases h:j=i
     .subst h;exact hv
     .exact hb.out j (by omega)
    clear hv hix hb;go_wp2
    go_roundw
    case rel=>exact⟨i+1,by omega,by go_num,hB,by simp⟩
    case measure=>simp[intOf];omega
   .rw[D' hv];have hE:Hid (Lj s=5):=Jv (λh=>hv (h.1 i hlt));clear hv hix hb;go_wp2
    go_ret;rw[hE.out];exact⟨rfl,bb⟩
  .obtain rfl:i=8:=by omega
   clear hlt hi;go_wp2_with ((with_reducible (refine DT ?_));(refine Fy rfl _ rfl w.heap.size 8 rfl s.L hS.rangeL ?_))
   go_loopw [18] (λiv wr=>∃ i:Nat,i<=8/\iv=.int .i64 (i:Int)/\Hid (∀ j,j<i->ClB (s.L j) (s.C j) (s.A j))/\W=wr) (λiv _=>(8-intOf iv).toNat)
   case atStart=>exact⟨0,by omega,rfl,λj hj=>by omega,rfl⟩
   case round =>
    obtain⟨i,hi,rfl,hc,rfl⟩:=hrel;by_cases hlt:i<8
    .have hlt':(i:Int)<8:=by omega
     have hix:=RQ s.L i hlt;go_wp2_with fail
     refine(LZ (s.L i) 1048577 _).mono ?_;rintro e w1 ⟨rfl,rfl⟩;by_cases hv:0<=s.L i/\s.L i<=1048577
     .rw[I' hv];have c0:=hS.cellC i hlt;have c1:=hS.cellA i hlt;have i0:(0:Int)<=(i:Int):=by omega
      by_cases h0:s.L i=0
      .rw[h0];by_cases hca:s.C i=0/\s.A i=0
       .rw[hca.1]at c0
        rw[hca.2]at c1
        have hB:Hid (∀ j,j<i+1->ClB (s.L j) (s.C j) (s.A j)):=λj hj=>by
         by_cases h:j=i
         .subst h;exact⟨hv,λ_=>hca⟩
         .exact hc.out j (by omega)
        clear hv hix hca h0 hc;go_wp2
        go_roundw
        case rel=>exact⟨i+1,by omega,by go_num,hB,by simp⟩
        case measure=>simp[intOf];omega
       .have hE:Hid (Lj s=5):=Jv (λh=>hca ((h.2 i hlt).2 h0));have hne:=Yk (s.C i) (s.A i);rw[D' hca]at hne
        clear hv hix hca h0 hc hb;go_wp2
        go_ret;rw[hE.out];exact⟨rfl,bb⟩
      .have hB:Hid (∀ j,j<i+1->ClB (s.L j) (s.C j) (s.A j)):=λj hj=>by
        by_cases h:j=i
        .subst h;exact⟨hv,λg=>absurd g h0⟩
        .exact hc.out j (by omega)
       have hne:(s.L i==0)=false:=by simpa using h0
       clear hv hix hc;go_wp2
       go_roundw
       case rel=>exact⟨i+1,by omega,by go_num,hB,by simp⟩
       case measure=>simp[intOf];omega
     .rw[D' hv];have hE:Hid (Lj s=5):=Jv (λh=>hv (h.2 i hlt).1);clear hv hix hb hc;go_wp2
      go_ret;rw[hE.out];exact⟨rfl,bb⟩
    .obtain rfl:i=8:=by omega
     have hE:Hid (Lj s=0):=YL ⟨hb.out,hc.out⟩;clear hlt hi hc hb;go_wp2
     go_ret;rw[hE.out];exact⟨rfl,bb⟩
variable{A E e0:Int}{S s:Sto}{c m:Cmd}{i:Nat}{w:World}
theorem lt8(h:i<8):i=0\/i=1\/i=2\/i=3\/i=4\/i=5\/i=6\/i=7:=by omega
theorem ZS(s:Sto)(ci ni:Nat)(q v:Int)(w:World)(hc:ci<8)(hn:ni<8)(q0:0<=q)(q1:q<=1048576) :
  Calls prog 127 #[.agg (stA s),.agg #[iv 1,iv (ci:Int),iv q,iv (ni:Int),iv v]] w λe w'=>e=.returned (.tuple #[.agg (stA (M0 s ⟨1,ci,q,ni,v⟩)),.agg #[iv 0,iv (Lb s ⟨1,ci,q,ni,v⟩)]])/\Bw w w':=by
 have hgz:∀ b,w.heap.size<=b->gS.t b=.z/\gS.k b=0:=λ_ _=>⟨rfl,rfl⟩;refine gI (fn:=f127) [] gS func127 hgz ?_;refine qR [] 26 [1,0,0,0,1,0,1,0,1,0,1] λσ1 g1 w1 c1=>?_;refine BG 48 (λg' w' e L=>e=[(2,pt (σ1 0) 0),(3,pt (σ1 1) 0),(4,pt (σ1 2) 0),(5,pt (σ1 3) 0),(6,pt (σ1 4) 0)]/\L=[⟨(σ1 0),.cells (stA ({ s with V:=Bd s.V ni v })) 87,.l,false⟩,⟨(σ1 1),.cells #[iv 1,iv (ci:Int),iv q,iv (ni:Int),iv v] 53,.z,false⟩,⟨(σ1 2),.cells (stA Fq) 87,.l,false⟩,⟨(σ1 3),.cells #[iv 0,iv 0] 83,.l,false⟩,⟨(σ1 4),.cells #[iv 0,iv 0] 83,.l,false⟩]/\True/\Cg w.heap.size ([]:List Tg) g1 w1 g' w') (by kernel_rfl) ?_ ?_
 .intro J hJ;rcases lt8 hn with rfl|rfl|rfl|rfl|rfl|rfl|rfl|rfl <;>
  (refine qR [] 8 [1,1,0,0] λσ3 g3 w3 c3=>?_;exact qB [true,true,true,true,true] λz K0 K=>hJ _ _ _ z _ ⟨rfl,rfl,trivial,(c3.nil ([]:List Tg))⟩ K)
 rintro g2 w2 _ z2 _ ⟨rfl,rfl,_,c2⟩;refine qR [] 13 [1,4,0,1,1] λσ4 g4 w4 c4=>?_;refine qV 4 (iv (q+1)) (AK (x:=(.tmp 37)) (y:=(.const (iv 1))) q 1 underlying3 (by omega)) ?_;refine BG 48 (λg' w' e L=>e=[(2,pt (σ1 0) 0),(3,pt (σ1 1) 0),(4,pt (σ1 2) 0),(5,pt (σ1 3) 0),(6,pt (σ1 4) 0)]/\L=[⟨(σ1 0),.cells (stA (Sto.mk (Bd s.V ni v) (Bd s.L ci (q+1)) s.C s.A s.R)) 87,.l,false⟩,⟨(σ1 1),.cells #[iv 1,iv (ci:Int),iv q,iv (ni:Int),iv v] 53,.z,false⟩,⟨(σ1 2),.cells (stA Fq) 87,.l,false⟩,⟨(σ1 3),.cells #[iv 0,iv 0] 83,.l,false⟩,⟨(σ1 4),.cells #[iv 0,iv v] 83,.l,false⟩]/\True/\Cg w.heap.size ([]:List Tg) g4 w4 g' w') (by kernel_rfl) ?_ ?_
 .intro J hJ;rcases lt8 hc with rfl|rfl|rfl|rfl|rfl|rfl|rfl|rfl <;>
  (refine qR [] 4 [0,0] λσ6 g6 w6 c6=>?_;exact qB [true,true,true,true,true] λz K0 K=>hJ _ _ _ z _ ⟨rfl,rfl,trivial,(c6.nil ([]:List Tg))⟩ K)
 rintro g5 w5 _ z5 _ ⟨rfl,rfl,_,c5⟩;refine qR [] 2 [] λσ7 g7 w7 c7=>?_;refine BG 48 (λg' w' e L=>e=[(2,pt (σ1 0) 0),(3,pt (σ1 1) 0),(4,pt (σ1 2) 0),(5,pt (σ1 3) 0),(6,pt (σ1 4) 0)]/\L=[⟨(σ1 0),.cells (stA (Sto.mk (Bd s.V ni v) (Bd s.L ci (q+1)) (Bd s.C ci 0) (Bd s.A ci v) s.R)) 87,.l,false⟩,⟨(σ1 1),.cells #[iv 1,iv (ci:Int),iv q,iv (ni:Int),iv v] 53,.z,false⟩,⟨(σ1 2),.cells (stA Fq) 87,.l,false⟩,⟨(σ1 3),.cells #[iv 0,iv 0] 83,.l,false⟩,⟨(σ1 4),.cells #[iv 0,iv v] 83,.l,false⟩]/\True/\Cg w.heap.size ([]:List Tg) g7 w7 g' w') (by kernel_rfl) ?_ ?_
 .intro J hJ;rcases lt8 hc with rfl|rfl|rfl|rfl|rfl|rfl|rfl|rfl <;>
  (refine qR [] 7 [1,4,0,0] λσ9 g9 w9 c9=>?_;exact qB [true,true,true,true,true] λz K0 K=>hJ _ _ _ z _ ⟨rfl,rfl,trivial,(c9.nil ([]:List Tg))⟩ K)
 rintro g8 w8 _ z8 _ ⟨rfl,rfl,_,c8⟩;refine qR [] 3 [2,0,0] λσ10 g10 w10 c10=>?_;refine BG 48 (λg' w' e L=>e=[(2,pt (σ1 0) 0),(3,pt (σ1 1) 0),(4,pt (σ1 2) 0),(5,pt (σ1 3) 0),(6,pt (σ1 4) 0)]/\L=[⟨(σ1 0),.cells (stA (Sto.mk (Bd s.V ni v) (Bd s.L ci (q+1)) (Bd s.C ci 0) (Bd s.A ci v) s.R)) 87,.l,false⟩,⟨(σ1 1),.cells #[iv 1,iv (ci:Int),iv q,iv (ni:Int),iv v] 53,.z,false⟩,⟨(σ1 2),.cells (stA (Sto.mk (Bd s.V ni v) (Bd s.L ci (q+1)) (Bd s.C ci 0) (Bd s.A ci v) s.R)) 87,.l,false⟩,⟨(σ1 3),.cells #[iv 0,iv v] 83,.l,false⟩,⟨(σ1 4),.cells #[iv 0,iv v] 83,.l,false⟩]/\True/\Cg w.heap.size ([]:List Tg) g10 w10 g' w') (by kernel_rfl) ?_ ?_
 .intro J hJ
  (exact Cu 1 2 (by kernel_rfl) (by(refine qR [] 4 [4,5,2,0,7,3,0] λσ13 g13 w13 c13=>?_;exact qB [true,true,true,true,true] λz K0 K=>hJ _ _ _ z _ ⟨rfl,rfl,trivial,(c13.nil ([]:List Tg))⟩ K)) (by(refine qR [] 4 [2,0,3,4,7,3,0] λσ14 g14 w14 c14=>?_;exact qB [true,true,true,true,true] λz K0 K=>hJ _ _ _ z _ ⟨rfl,rfl,trivial,(c14.nil ([]:List Tg))⟩ K)))
 rintro g11 w11 _ z11 _ ⟨rfl,rfl,_,c11⟩;exact qE4 4 5 87 83 2 (σ1 2) 3 (σ1 3) (stA (M0 s ⟨1,ci,q,ni,v⟩)) #[iv 0,iv (Lb s ⟨1,ci,q,ni,v⟩)] λK=>⟨rfl,Cg.below (((((((c1.trans c2).trans c4).trans c5).trans c7).trans c8).trans c10).trans c11) (λ_ _=>H')⟩
theorem ZT(s:Sto)(ci ni:Nat)(q v:Int)(w:World)(hc:ci<8)(hn:ni<8)(q0:0<=q)(q1:q<=1048576) :
  Calls prog 127 #[.agg (stA s),.agg #[iv 2,iv (ci:Int),iv q,iv (ni:Int),iv v]] w λe w'=>e=.returned (.tuple #[.agg (stA (M0 s ⟨2,ci,q,ni,v⟩)),.agg #[iv 0,iv (Lb s ⟨2,ci,q,ni,v⟩)]])/\Bw w w':=by
 have hgz:∀ b,w.heap.size<=b->gS.t b=.z/\gS.k b=0:=λ_ _=>⟨rfl,rfl⟩;refine gI (fn:=f127) [] gS func127 hgz ?_;refine qR [] 31 [1,0,0,0,1,0,1,0,1,0,1] λσ1 g1 w1 c1=>?_;refine BG 48 (λg' w' e L=>e=[(2,pt (σ1 0) 0),(3,pt (σ1 1) 0),(4,pt (σ1 2) 0),(5,pt (σ1 3) 0),(6,pt (σ1 4) 0)]/\L=[⟨(σ1 0),.cells (stA s) 87,.l,false⟩,⟨(σ1 1),.cells #[iv 2,iv (ci:Int),iv q,iv (ni:Int),iv v] 53,.z,false⟩,⟨(σ1 2),.cells (stA Fq) 87,.l,false⟩,⟨(σ1 3),.cells #[iv 0,iv 0] 83,.l,false⟩,⟨(σ1 4),.cells #[iv 0,iv (s.V ni)] 83,.l,false⟩]/\True/\Cg w.heap.size ([]:List Tg) g1 w1 g' w') (by kernel_rfl) ?_ ?_
 .intro J hJ;rcases lt8 hn with rfl|rfl|rfl|rfl|rfl|rfl|rfl|rfl <;>
  (refine qR [] 8 [1,0,4,0] λσ3 g3 w3 c3=>?_;exact qB [true,true,true,true,true] λz K0 K=>hJ _ _ _ z _ ⟨rfl,rfl,trivial,(c3.nil ([]:List Tg))⟩ K)
 rintro g2 w2 _ z2 _ ⟨rfl,rfl,_,c2⟩;refine qR [] 7 [1,1] λσ4 g4 w4 c4=>?_;refine qV 4 (iv (q+1)) (AK (x:=(.tmp 37)) (y:=(.const (iv 1))) q 1 underlying3 (by omega)) ?_;refine BG 48 (λg' w' e L=>e=[(2,pt (σ1 0) 0),(3,pt (σ1 1) 0),(4,pt (σ1 2) 0),(5,pt (σ1 3) 0),(6,pt (σ1 4) 0)]/\L=[⟨(σ1 0),.cells (stA (Sto.mk s.V (Bd s.L ci (q+1)) s.C s.A s.R)) 87,.l,false⟩,⟨(σ1 1),.cells #[iv 2,iv (ci:Int),iv q,iv (ni:Int),iv v] 53,.z,false⟩,⟨(σ1 2),.cells (stA Fq) 87,.l,false⟩,⟨(σ1 3),.cells #[iv 0,iv 0] 83,.l,false⟩,⟨(σ1 4),.cells #[iv 0,iv (s.V ni)] 83,.l,false⟩]/\True/\Cg w.heap.size ([]:List Tg) g4 w4 g' w') (by kernel_rfl) ?_ ?_
 .intro J hJ;rcases lt8 hc with rfl|rfl|rfl|rfl|rfl|rfl|rfl|rfl <;>
  (refine qR [] 4 [0,0] λσ6 g6 w6 c6=>?_;exact qB [true,true,true,true,true] λz K0 K=>hJ _ _ _ z _ ⟨rfl,rfl,trivial,(c6.nil ([]:List Tg))⟩ K)
 rintro g5 w5 _ z5 _ ⟨rfl,rfl,_,c5⟩;refine qR [] 2 [] λσ7 g7 w7 c7=>?_;refine BG 48 (λg' w' e L=>e=[(2,pt (σ1 0) 0),(3,pt (σ1 1) 0),(4,pt (σ1 2) 0),(5,pt (σ1 3) 0),(6,pt (σ1 4) 0)]/\L=[⟨(σ1 0),.cells (stA (Sto.mk s.V (Bd s.L ci (q+1)) (Bd s.C ci 0) (Bd s.A ci (s.V ni)) s.R)) 87,.l,false⟩,⟨(σ1 1),.cells #[iv 2,iv (ci:Int),iv q,iv (ni:Int),iv v] 53,.z,false⟩,⟨(σ1 2),.cells (stA Fq) 87,.l,false⟩,⟨(σ1 3),.cells #[iv 0,iv 0] 83,.l,false⟩,⟨(σ1 4),.cells #[iv 0,iv (s.V ni)] 83,.l,false⟩]/\True/\Cg w.heap.size ([]:List Tg) g7 w7 g' w') (by kernel_rfl) ?_ ?_
 .intro J hJ;rcases lt8 hc with rfl|rfl|rfl|rfl|rfl|rfl|rfl|rfl <;>
  (refine qR [] 7 [1,4,0,0] λσ9 g9 w9 c9=>?_;exact qB [true,true,true,true,true] λz K0 K=>hJ _ _ _ z _ ⟨rfl,rfl,trivial,(c9.nil ([]:List Tg))⟩ K)
 rintro g8 w8 _ z8 _ ⟨rfl,rfl,_,c8⟩;refine qR [] 3 [2,0,0] λσ10 g10 w10 c10=>?_;refine BG 48 (λg' w' e L=>e=[(2,pt (σ1 0) 0),(3,pt (σ1 1) 0),(4,pt (σ1 2) 0),(5,pt (σ1 3) 0),(6,pt (σ1 4) 0)]/\L=[⟨(σ1 0),.cells (stA (Sto.mk s.V (Bd s.L ci (q+1)) (Bd s.C ci 0) (Bd s.A ci (s.V ni)) s.R)) 87,.l,false⟩,⟨(σ1 1),.cells #[iv 2,iv (ci:Int),iv q,iv (ni:Int),iv v] 53,.z,false⟩,⟨(σ1 2),.cells (stA (Sto.mk s.V (Bd s.L ci (q+1)) (Bd s.C ci 0) (Bd s.A ci (s.V ni)) s.R)) 87,.l,false⟩,⟨(σ1 3),.cells #[iv 0,iv (s.V ni)] 83,.l,false⟩,⟨(σ1 4),.cells #[iv 0,iv (s.V ni)] 83,.l,false⟩]/\True/\Cg w.heap.size ([]:List Tg) g10 w10 g' w') (by kernel_rfl) ?_ ?_
 .intro J hJ
  (exact Cu 1 2 (by kernel_rfl) (by(refine qR [] 4 [4,5,2,0,7,3,0] λσ13 g13 w13 c13=>?_;exact qB [true,true,true,true,true] λz K0 K=>hJ _ _ _ z _ ⟨rfl,rfl,trivial,(c13.nil ([]:List Tg))⟩ K)) (by(refine qR [] 4 [2,0,3,4,7,3,0] λσ14 g14 w14 c14=>?_;exact qB [true,true,true,true,true] λz K0 K=>hJ _ _ _ z _ ⟨rfl,rfl,trivial,(c14.nil ([]:List Tg))⟩ K)))
 rintro g11 w11 _ z11 _ ⟨rfl,rfl,_,c11⟩;exact qE4 4 5 87 83 2 (σ1 2) 3 (σ1 3) (stA (M0 s ⟨2,ci,q,ni,v⟩)) #[iv 0,iv (Lb s ⟨2,ci,q,ni,v⟩)] λK=>⟨rfl,Cg.below (((((((c1.trans c2).trans c4).trans c5).trans c7).trans c8).trans c10).trans c11) (λ_ _=>H')⟩
theorem ZU(s:Sto)(ci ni:Nat)(q v:Int)(w:World)(hc:ci<8)(hn:ni<8)(q0:0<=q)(q1:q<=1048576) :
  Calls prog 127 #[.agg (stA s),.agg #[iv 3,iv (ci:Int),iv q,iv (ni:Int),iv v]] w λe w'=>e=.returned (.tuple #[.agg (stA (M0 s ⟨3,ci,q,ni,v⟩)),.agg #[iv 0,iv (Lb s ⟨3,ci,q,ni,v⟩)]])/\Bw w w':=by
 have hgz:∀ b,w.heap.size<=b->gS.t b=.z/\gS.k b=0:=λ_ _=>⟨rfl,rfl⟩;refine gI (fn:=f127) [] gS func127 hgz ?_;refine qR [] 37 [1,0,0,0,1,0,1,0,1,0,1] λσ1 g1 w1 c1=>?_;refine BG 48 (λg' w' e L=>e=[(2,pt (σ1 0) 0),(3,pt (σ1 1) 0),(4,pt (σ1 2) 0),(5,pt (σ1 3) 0),(6,pt (σ1 4) 0)]/\L=[⟨(σ1 0),.cells (stA ({ s with R:=Bd s.R ni true })) 87,.l,false⟩,⟨(σ1 1),.cells #[iv 3,iv (ci:Int),iv q,iv (ni:Int),iv v] 53,.z,false⟩,⟨(σ1 2),.cells (stA Fq) 87,.l,false⟩,⟨(σ1 3),.cells #[iv 0,iv 0] 83,.l,false⟩,⟨(σ1 4),.cells #[iv 0,iv 0] 83,.l,false⟩]/\True/\Cg w.heap.size ([]:List Tg) g1 w1 g' w') (by kernel_rfl) ?_ ?_
 .intro J hJ;rcases lt8 hn with rfl|rfl|rfl|rfl|rfl|rfl|rfl|rfl <;>
  (refine qR [] 6 [1,0,0] λσ3 g3 w3 c3=>?_;exact qB [true,true,true,true,true] λz K0 K=>hJ _ _ _ z _ ⟨rfl,rfl,trivial,(c3.nil ([]:List Tg))⟩ K)
 rintro g2 w2 _ z2 _ ⟨rfl,rfl,_,c2⟩;refine qR [] 7 [1,1] λσ4 g4 w4 c4=>?_;refine qV 4 (iv (q+1)) (AK (x:=(.tmp 37)) (y:=(.const (iv 1))) q 1 underlying3 (by omega)) ?_;refine BG 48 (λg' w' e L=>e=[(2,pt (σ1 0) 0),(3,pt (σ1 1) 0),(4,pt (σ1 2) 0),(5,pt (σ1 3) 0),(6,pt (σ1 4) 0)]/\L=[⟨(σ1 0),.cells (stA (Sto.mk s.V (Bd s.L ci (q+1)) s.C s.A (Bd s.R ni true))) 87,.l,false⟩,⟨(σ1 1),.cells #[iv 3,iv (ci:Int),iv q,iv (ni:Int),iv v] 53,.z,false⟩,⟨(σ1 2),.cells (stA Fq) 87,.l,false⟩,⟨(σ1 3),.cells #[iv 0,iv 0] 83,.l,false⟩,⟨(σ1 4),.cells #[iv 0,iv 0] 83,.l,false⟩]/\True/\Cg w.heap.size ([]:List Tg) g4 w4 g' w') (by kernel_rfl) ?_ ?_
 .intro J hJ;rcases lt8 hc with rfl|rfl|rfl|rfl|rfl|rfl|rfl|rfl <;>
  (refine qR [] 4 [0,0] λσ6 g6 w6 c6=>?_;exact qB [true,true,true,true,true] λz K0 K=>hJ _ _ _ z _ ⟨rfl,rfl,trivial,(c6.nil ([]:List Tg))⟩ K)
 rintro g5 w5 _ z5 _ ⟨rfl,rfl,_,c5⟩;refine qR [] 2 [] λσ7 g7 w7 c7=>?_;refine BG 48 (λg' w' e L=>e=[(2,pt (σ1 0) 0),(3,pt (σ1 1) 0),(4,pt (σ1 2) 0),(5,pt (σ1 3) 0),(6,pt (σ1 4) 0)]/\L=[⟨(σ1 0),.cells (stA (Sto.mk s.V (Bd s.L ci (q+1)) (Bd s.C ci 0) (Bd s.A ci 0) (Bd s.R ni true))) 87,.l,false⟩,⟨(σ1 1),.cells #[iv 3,iv (ci:Int),iv q,iv (ni:Int),iv v] 53,.z,false⟩,⟨(σ1 2),.cells (stA Fq) 87,.l,false⟩,⟨(σ1 3),.cells #[iv 0,iv 0] 83,.l,false⟩,⟨(σ1 4),.cells #[iv 0,iv 0] 83,.l,false⟩]/\True/\Cg w.heap.size ([]:List Tg) g7 w7 g' w') (by kernel_rfl) ?_ ?_
 .intro J hJ;rcases lt8 hc with rfl|rfl|rfl|rfl|rfl|rfl|rfl|rfl <;>
  (refine qR [] 7 [1,4,0,0] λσ9 g9 w9 c9=>?_;exact qB [true,true,true,true,true] λz K0 K=>hJ _ _ _ z _ ⟨rfl,rfl,trivial,(c9.nil ([]:List Tg))⟩ K)
 rintro g8 w8 _ z8 _ ⟨rfl,rfl,_,c8⟩;refine qR [] 3 [2,0,0] λσ10 g10 w10 c10=>?_;refine BG 48 (λg' w' e L=>e=[(2,pt (σ1 0) 0),(3,pt (σ1 1) 0),(4,pt (σ1 2) 0),(5,pt (σ1 3) 0),(6,pt (σ1 4) 0)]/\L=[⟨(σ1 0),.cells (stA (Sto.mk s.V (Bd s.L ci (q+1)) (Bd s.C ci 0) (Bd s.A ci 0) (Bd s.R ni true))) 87,.l,false⟩,⟨(σ1 1),.cells #[iv 3,iv (ci:Int),iv q,iv (ni:Int),iv v] 53,.z,false⟩,⟨(σ1 2),.cells (stA (Sto.mk s.V (Bd s.L ci (q+1)) (Bd s.C ci 0) (Bd s.A ci 0) (Bd s.R ni true))) 87,.l,false⟩,⟨(σ1 3),.cells #[iv 0,iv 0] 83,.l,false⟩,⟨(σ1 4),.cells #[iv 0,iv 0] 83,.l,false⟩]/\True/\Cg w.heap.size ([]:List Tg) g10 w10 g' w') (by kernel_rfl) ?_ ?_
 .intro J hJ
  (exact Cu 1 2 (by kernel_rfl) (by(refine qR [] 4 [4,5,2,0,7,3,0] λσ13 g13 w13 c13=>?_;exact qB [true,true,true,true,true] λz K0 K=>hJ _ _ _ z _ ⟨rfl,rfl,trivial,(c13.nil ([]:List Tg))⟩ K)) (by(refine qR [] 4 [2,0,3,4,7,3,0] λσ14 g14 w14 c14=>?_;exact qB [true,true,true,true,true] λz K0 K=>hJ _ _ _ z _ ⟨rfl,rfl,trivial,(c14.nil ([]:List Tg))⟩ K)))
 rintro g11 w11 _ z11 _ ⟨rfl,rfl,_,c11⟩;exact qE4 4 5 87 83 2 (σ1 2) 3 (σ1 3) (stA (M0 s ⟨3,ci,q,ni,v⟩)) #[iv 0,iv (Lb s ⟨3,ci,q,ni,v⟩)] λK=>⟨rfl,Cg.below (((((((c1.trans c2).trans c4).trans c5).trans c7).trans c8).trans c10).trans c11) (λ_ _=>H')⟩
theorem Uf(s:Sto)(k:Int)(ci ni:Nat)(q v:Int)(w:World)(hk:1<=k/\k<=3)(hc:ci<8)(hn:ni<8)(q0:0<=q)(q1:q<=1048576)(hS:M0 s ⟨k,ci,q,ni,v⟩=S)(hA:Lb s ⟨k,ci,q,ni,v⟩=A) :
  Calls prog 127 #[.agg (stA s),.agg #[iv k,iv (ci:Int),iv q,iv (ni:Int),iv v]] w λe w'=>e=.returned (.tuple #[.agg (stA S),.agg #[iv 0,iv A]])/\Bw w w':=by
 subst hS hA;rcases(show k=1\/k=2\/k=3 by omega)with rfl|rfl|rfl
 .exact ZS s ci ni q v w hc hn q0 q1
 .exact ZT s ci ni q v w hc hn q0 q1
 .exact ZU s ci ni q v w hc hn q0 q1
theorem TP(s:Sto)(k:Int)(ci ni:Nat)(q v:Int)(w:World)(k0:0<=k)(k3:k<=3)(hc:ci<8)(hn:ni<8)(q0:0<=q)(q1:q<=1048576) :
  Calls prog 96 #[.agg (stA s),.agg #[iv k,iv (ci:Int),iv q,iv (ni:Int),iv v]] w λe w'=>e=.returned (.tuple #[.agg (stA (dnS s ⟨k,ci,q,ni,v⟩)),.agg #[iv (dnC s ⟨k,ci,q,ni,v⟩),iv (dnA s ⟨k,ci,q,ni,v⟩)]])/\Bw w w':=by
 have hgz:∀ b,w.heap.size<=b->gS.t b=.z/\gS.k b=0:=λ_ _=>⟨rfl,rfl⟩;refine gI (fn:=f96) [] gS func96 hgz ?_;refine qR [] 14 [0,0,0,0,1,0,1,0,1] λσ1 g1 w1 c1=>?_;by_cases h1:k=0
 .refine qI ((k==0)) true (by simpa using h1) ?_;refine qR [] 7 [0,2,0,3,0] λσ2 g2 w2 c2=>?_;rw[show dnS s ⟨k,ci,q,ni,v⟩=s from if_neg (λg=>g.1 h1),show dnC s ⟨k,ci,q,ni,v⟩=0 from if_pos h1,show dnA s ⟨k,ci,q,ni,v⟩=0 from if_pos h1];exact qE4 4 5 87 83 2 (σ1 2) 3 (σ1 3) (stA s) #[iv 0,iv 0] λK=>⟨rfl,Cg.below (c1.trans c2) (λ_ _=>H')⟩
 .refine qI ((k==0)) false (by simpa using h1) ?_;refine qR [] 3 [] λσ3 g3 w3 c3=>?_;refine BG 49 (λg' w' e L=>e=[(2,pt (σ1 0) 0),(3,pt (σ1 1) 0),(4,pt (σ1 2) 0),(5,pt (σ1 3) 0),(6,iv (s.L ci))]/\L=[⟨(σ1 0),.cells (stA s) 87,.z,false⟩,⟨(σ1 1),.cells #[iv k,iv (ci:Int),iv q,iv (ni:Int),iv v] 53,.z,false⟩,⟨(σ1 2),.cells (stA Fq) 87,.l,false⟩,⟨(σ1 3),.cells #[iv 0,iv 0] 83,.l,false⟩]/\True/\Cg w.heap.size ([]:List Tg) g3 w3 g' w') (by kernel_rfl) ?_ ?_
  .intro J hJ;rcases lt8 hc with rfl|rfl|rfl|rfl|rfl|rfl|rfl|rfl <;>
   (refine qR [] 7 [1,0] λσ5 g5 w5 c5=>?_;exact qB [true,true,true,true] λz K0 K=>hJ _ _ _ z _ ⟨rfl,rfl,trivial,(c5.nil ([]:List Tg))⟩ K)
  rintro g4 w4 _ z4 _ ⟨rfl,rfl,_,c4⟩;refine qR [] 7 [1] λσ6 g6 w6 c6=>?_;refine qV 3 (iv (q+1)) (AK (x:=(.tmp 20)) (y:=(.const (iv 1))) q 1 underlying3 (by omega)) ?_;refine qR [] 3 [] λσ7 g7 w7 c7=>?_;by_cases h2:s.L ci=q+1
  .refine qI (((s.L ci)==(q+1))) true (by simpa using h2) ?_;refine qR [] 2 [6] λσ8 g8 w8 c8=>?_;refine BG 49 (λg' w' e L=>e=[(2,pt (σ1 0) 0),(3,pt (σ1 1) 0),(4,pt (σ1 2) 0),(5,pt (σ1 3) 0)]/\L=[⟨(σ1 0),.cells (stA s) 87,.z,false⟩,⟨(σ1 1),.cells #[iv k,iv (ci:Int),iv q,iv (ni:Int),iv v] 53,.z,false⟩,⟨(σ1 2),.cells (stA s) 87,.l,false⟩,⟨(σ1 3),.cells #[iv (s.C ci),iv (s.A ci)] 83,.l,false⟩]/\True/\Cg w.heap.size ([]:List Tg) g8 w8 g' w') (by kernel_rfl) ?_ ?_
   .intro J hJ;rcases lt8 hc with rfl|rfl|rfl|rfl|rfl|rfl|rfl|rfl <;>
    (refine qR [] 3 [0,0,2,6] λσ10 g10 w10 c10=>?_;exact Cu 2 6 (by kernel_rfl) (by(refine qR [] 2 [1,8] λσ11 g11 w11 c11=>?_;exact Cu 5 6 (by kernel_rfl) (by(refine qR [] 4 [0,13,2,0,15,3,0] λσ12 g12 w12 c12=>?_;exact qB [true,true,true,true] λz K0 K=>hJ _ _ _ z _ ⟨rfl,rfl,trivial,(((c10.nil ([]:List Tg)).n c11).n c12)⟩ K)) (by(refine qR [] 4 [2,0,11,0,15,3,0] λσ13 g13 w13 c13=>?_;exact qB [true,true,true,true] λz K0 K=>hJ _ _ _ z _ ⟨rfl,rfl,trivial,(((c10.nil ([]:List Tg)).n c11).n c13)⟩ K)))) (by(refine qR [] 6 [2,0,5,1,8,11,0,15,3,0] λσ14 g14 w14 c14=>?_;exact qB [true,true,true,true] λz K0 K=>hJ _ _ _ z _ ⟨rfl,rfl,trivial,((c10.nil ([]:List Tg)).n c14)⟩ K)))
   rintro g9 w9 _ z9 _ ⟨rfl,rfl,_,c9⟩;rw[show dnS s ⟨k,ci,q,ni,v⟩=s from if_neg (λg=>g.2.1 (by show q<s.L ci;omega)),show dnC s ⟨k,ci,q,ni,v⟩=s.C ci from(if_neg h1).trans (if_pos h2),show dnA s ⟨k,ci,q,ni,v⟩=s.A ci from(if_neg h1).trans (if_pos h2)];exact qE4 4 5 87 83 2 (σ1 2) 3 (σ1 3) (stA s) #[iv (s.C ci),iv (s.A ci)] λK=>⟨rfl,Cg.below ((((((c1.trans c3).trans c4).trans c6).trans c7).trans c8).trans c9) (λ_ _=>H')⟩
  .refine qI (((s.L ci)==(q+1))) false (by simpa using h2) ?_;refine qR [] 8 [1] λσ16 g16 w16 c16=>?_;by_cases h3:q<s.L ci
   .refine qI ((decide (q<(s.L ci)))) true (I' h3) ?_;refine qR [] 7 [0,2,0,3,0] λσ17 g17 w17 c17=>?_;rw[show dnS s ⟨k,ci,q,ni,v⟩=s from if_neg (λg=>g.2.1 h3),show dnC s ⟨k,ci,q,ni,v⟩=7 from(if_neg h1).trans ((if_neg h2).trans (if_pos h3)),show dnA s ⟨k,ci,q,ni,v⟩=0 from(if_neg h1).trans ((if_neg h2).trans (if_pos h3))];exact qE4 4 5 87 83 2 (σ1 2) 3 (σ1 3) (stA s) #[iv 7,iv 0] λK=>⟨rfl,Cg.below ((((((c1.trans c3).trans c4).trans c6).trans c7).trans c16).trans c17) (λ_ _=>H')⟩
   .refine qI ((decide (q<(s.L ci)))) false (D' h3) ?_;refine qR [] 2 [] λσ18 g18 w18 c18=>?_;refine BG 49 (λg' w' e L=>e=[(2,pt (σ1 0) 0),(3,pt (σ1 1) 0),(4,pt (σ1 2) 0),(5,pt (σ1 3) 0),(36,.bool (s.R ci))]/\L=[⟨(σ1 0),.cells (stA s) 87,.z,false⟩,⟨(σ1 1),.cells #[iv k,iv (ci:Int),iv q,iv (ni:Int),iv v] 53,.z,false⟩,⟨(σ1 2),.cells (stA Fq) 87,.l,false⟩,⟨(σ1 3),.cells #[iv 0,iv 0] 83,.l,false⟩]/\True/\Cg w.heap.size ([]:List Tg) g18 w18 g' w') (by kernel_rfl) ?_ ?_
    .intro J hJ;rcases lt8 hc with rfl|rfl|rfl|rfl|rfl|rfl|rfl|rfl <;>
     (refine qR [] 7 [1,0] λσ20 g20 w20 c20=>?_;exact qB [true,true,true,true] λz K0 K=>hJ _ _ _ z _ ⟨rfl,rfl,trivial,(c20.nil ([]:List Tg))⟩ K)
    rintro g19 w19 _ z19 _ ⟨rfl,rfl,_,c19⟩;by_cases h4:s.R ci=true
    .refine qI ((s.R ci)) true h4 ?_;refine qR [] 7 [0,2,0,3,0] λσ22 g22 w22 c22=>?_;rw[show dnS s ⟨k,ci,q,ni,v⟩=s from if_neg (λg=>Bool.noConfusion (h4.symm.trans g.2.2)),show dnC s ⟨k,ci,q,ni,v⟩=11 from(if_neg h1).trans ((if_neg h2).trans ((if_neg h3).trans (if_pos h4))),show dnA s ⟨k,ci,q,ni,v⟩=0 from(if_neg h1).trans ((if_neg h2).trans ((if_neg h3).trans (if_pos h4)))];exact qE4 4 5 87 83 2 (σ1 2) 3 (σ1 3) (stA s) #[iv 11,iv 0] λK=>⟨rfl,Cg.below ((((((((c1.trans c3).trans c4).trans c6).trans c7).trans c16).trans c18).trans c19).trans c22) (λ_ _=>H')⟩
    .refine qI ((s.R ci)) false (by simpa using h4) ?_;obtain⟨S,hS⟩:∃ S,M0 s ⟨k,ci,q,ni,v⟩=S:=⟨_,rfl⟩;obtain⟨A,hA⟩:∃ A,Lb s ⟨k,ci,q,ni,v⟩=A:=⟨_,rfl⟩;refine qR [] 6 [0,1] λσ23 g23 w23 c23=>?_;have bb24:=(Cg.below ((((((((c1.trans c3).trans c4).trans c6).trans c7).trans c16).trans c18).trans c19).trans c23) (λ_ _=>H'));refine Ae λKq24=>?_;have hG24:∀ z,w23.heap.size<=z->g23.t z=.z:=λz hz=>(Kq24.new z hz).1;refine qC 2 (Uf s k ci ni q v w23 (by omega) hc hn q0 q1 hS hA) ?_;rintro e' w24 ⟨rfl,b24⟩;refine⟨_,rfl,b24,?_⟩;have c24:=Cg.ofBelow (B:=w.heap.size) (T:=[]) (g:=g23) b24;refine qR [] 5 [2,0,3,0] λσ25 g25 w25 c25=>?_;rw[show dnS s ⟨k,ci,q,ni,v⟩=S from(if_pos ⟨h1,h3,by simpa using h4⟩).trans hS,show dnC s ⟨k,ci,q,ni,v⟩=0 from(if_neg h1).trans ((if_neg h2).trans ((if_neg h3).trans (if_neg h4))),show dnA s ⟨k,ci,q,ni,v⟩=A from(if_neg h1).trans ((if_neg h2).trans ((if_neg h3).trans ((if_neg h4).trans hA)))];exact qE4 4 5 87 83 2 (σ1 2) 3 (σ1 3) (stA S) #[iv 0,iv A] λK=>⟨rfl,Cg.below ((((((((((c1.trans c3).trans c4).trans c6).trans c7).trans c16).trans c18).trans c19).trans c23).trans c24).trans c25) (λ_ _=>H')⟩
theorem WY(he:m.e=0)(hS:dnS s m=S){C:Int}(hC:dnC s m=C)(hA:dnA s m=A) :
  Calls prog 96 #[.agg (stA s),.agg #[iv m.k,iv m.c,iv m.s,iv m.n,iv m.v]] w λe w'=>e=.returned (.tuple #[.agg (stA S),.agg #[iv C,iv A]])/\Bw w w':=by
 subst hS hC hA;obtain⟨k,c,q,n,v⟩:=m;obtain⟨hk,hi⟩:=Xx he;unfold InC at hi;simp only at hk hi ⊢;obtain⟨ci,rfl⟩:∃ ci:Nat,c=(ci:Int):=⟨c.toNat,by omega⟩;obtain⟨ni,rfl⟩:∃ ni:Nat,n=(ni:Int):=⟨n.toNat,by omega⟩;exact TP s k ci ni q v w hk.1 hk.2 (by omega) (by omega) (by omega) (by omega)
theorem TL(hE:Lj s=E):Calls prog 95 #[.agg (stA s)] w λe w'=>e=.returned (iv E)/\Bw w w':=by subst hE;exact QT s w
theorem SY(ht:NTab w)(hE:m.e=E):Calls prog 73 #[.agg #[iv m.k,iv m.c,iv m.s,iv m.n,iv m.v]] w λe w'=>e=.returned (iv E)/\Bw w w':=by subst hE;exact Dt m.k m.c m.s m.n m.v w ht
theorem ey(s:Sto)(m:Cmd)(w:World)(hN:NTab w) :
  Calls prog 50 #[.agg (stA s),.agg #[iv m.k,iv m.c,iv m.s,iv m.n,iv m.v]] w λe w'=>e=.returned (.tuple #[.agg (stA (doS s m)),.agg #[iv (doC s m),iv (doA s m)],iv (doE s m)])/\Bw w w':=by
 obtain⟨E,hE⟩:∃ E,Lj s=E:=⟨_,rfl⟩;obtain⟨F,hF⟩:∃ F,m.e=F:=⟨_,rfl⟩;have hgz:∀ b,w.heap.size<=b->gS.t b=.z/\gS.k b=0:=λ_ _=>⟨rfl,rfl⟩;refine gI (fn:=f50) [] gS func50 hgz ?_;refine qR [] 12 [0,0,0,0,1,0,1,0,0] λσ1 g1 w1 c1=>?_;have bb2:=(Cg.below c1 (λ_ _=>H'));refine Ae λKq2=>?_;have hG2:∀ z,w1.heap.size<=z->g1.t z=.z:=λz hz=>(Kq2.new z hz).1;refine qC 1 (TL hE) ?_;rintro e' w2 ⟨rfl,b2⟩;refine⟨_,rfl,b2,?_⟩;have c2:=Cg.ofBelow (B:=w.heap.size) (T:=[]) (g:=g1) b2;refine qR [] 7 [] λσ3 g3 w3 c3=>?_;by_cases h1:E≠0
 .refine qI ((E != 0)) true (by simpa using h1) ?_;refine qR [] 9 [2,0,3,0] λσ4 g4 w4 c4=>?_;have hD:doE s m=E:=by unfold doE;unfold Lj at hE;split at hE;exact absurd hE.symm h1;rename_i g;rw[if_neg g];exact hE
  have hD0:doE s m≠0:=by rw[hD];exact h1
  rw[UF hD0,UC hD0,show doA s m=0 from if_neg hD0,hD];exact qE5 4 5 6 87 83 2 (σ1 2) 3 (σ1 3) (stA Fq) #[iv 0,iv 0] (iv E) λK=>⟨rfl,(Cg.below (((c1.trans c2).trans c3).trans c4) (λ_ _=>H'))⟩
 .refine qI ((E != 0)) false (by simpa using h1) ?_;have hB:RX s:=Classical.byContradiction λg=>absurd (hE.symm.trans (Jv g)) (by rw[show E=0 from by simpa using h1];decide);refine qR [] 5 [1] λσ5 g5 w5 c5=>?_;have bb6:=(Cg.below (((c1.trans c2).trans c3).trans c5) (λ_ _=>H'));refine Ae λKq6=>?_;have hG6:∀ z,w5.heap.size<=z->g5.t z=.z:=λz hz=>(Kq6.new z hz).1;refine qC 1 (SY (hN.below bb6) hF) ?_;rintro e' w6 ⟨rfl,b6⟩;refine⟨_,rfl,b6,?_⟩;have c6:=Cg.ofBelow (B:=w.heap.size) (T:=[]) (g:=g5) b6;refine qR [] 7 [] λσ7 g7 w7 c7=>?_;by_cases h2:F≠0
  .refine qI ((F != 0)) true (by simpa using h2) ?_;refine qR [] 9 [2,0,3,0] λσ8 g8 w8 c8=>?_;have hD:doE s m=F:=(if_pos hB).trans hF;have hD0:doE s m≠0:=by rw[hD];exact h2
   rw[UF hD0,UC hD0,show doA s m=0 from if_neg hD0,hD];exact qE5 4 5 6 87 83 2 (σ1 2) 3 (σ1 3) (stA Fq) #[iv 0,iv 0] (iv F) λK=>⟨rfl,(Cg.below ((((((c1.trans c2).trans c3).trans c5).trans c6).trans c7).trans c8) (λ_ _=>H'))⟩
  .refine qI ((F != 0)) false (by simpa using h2) ?_;have hF0:m.e=0:=by rw[hF];simpa using h2
   have hD:doE s m=0:=(if_pos hB).trans hF0;obtain⟨S,hS⟩:∃ S,dnS s m=S:=⟨_,rfl⟩;obtain⟨C,hC⟩:∃ C,dnC s m=C:=⟨_,rfl⟩;obtain⟨A,hA⟩:∃ A,dnA s m=A:=⟨_,rfl⟩;refine qR [] 5 [0,1] λσ9 g9 w9 c9=>?_;have bb10:=(Cg.below ((((((c1.trans c2).trans c3).trans c5).trans c6).trans c7).trans c9) (λ_ _=>H'));refine Ae λKq10=>?_;have hG10:∀ z,w9.heap.size<=z->g9.t z=.z:=λz hz=>(Kq10.new z hz).1;refine qC 2 (WY hF0 hS hC hA) ?_;rintro e' w10 ⟨rfl,b10⟩;refine⟨_,rfl,b10,?_⟩;have c10:=Cg.ofBelow (B:=w.heap.size) (T:=[]) (g:=g9) b10;refine qR [] 11 [0,0,0,0,4,0,5,0,2,0,4] λσ11 g11 w11 c11=>?_;refine BG 33 (λg' w' e L=>e=[(4,pt (σ1 2) 0),(5,pt (σ1 3) 0),(6,iv 0)]/\L=[⟨(σ1 0),.cells (stA s) 87,.z,false⟩,⟨(σ1 1),.cells #[iv m.k,iv m.c,iv m.s,iv m.n,iv m.v] 53,.z,false⟩,⟨(σ1 2),.cells (stA S) 87,.l,false⟩,⟨(σ1 3),.cells #[iv C,iv A] 83,.l,false⟩,⟨(σ11 0),.cells (stA S) 87,.z,false⟩,⟨(σ11 1),.cells #[iv C,iv A] 83,.z,false⟩]/\True/\Cg w.heap.size ([]:List Tg) g11 w11 g' w') (by kernel_rfl) ?_ ?_
   .intro J hJ
    (exact Cu 1 2 (by kernel_rfl) (by(refine qR [] 5 [5,5,2,0,7,3,0,8] λσ14 g14 w14 c14=>?_;exact qB [true,true,true,true,true,true] λz K0 K=>hJ _ _ _ z _ ⟨rfl,rfl,trivial,(c14.nil ([]:List Tg))⟩ K)) (by(refine qR [] 5 [2,0,3,5,7,3,0,8] λσ15 g15 w15 c15=>?_;exact qB [true,true,true,true,true,true] λz K0 K=>hJ _ _ _ z _ ⟨rfl,rfl,trivial,(c15.nil ([]:List Tg))⟩ K)))
   rintro g12 w12 _ z12 _ ⟨rfl,rfl,_,c12⟩;rw[aC hD,aw hD,aq hD,hD,hS,hC,hA];exact qE5 4 5 6 87 83 2 (σ1 2) 3 (σ1 3) (stA S) #[iv C,iv A] (iv 0) λK=>⟨rfl,(Cg.below (((((((((c1.trans c2).trans c3).trans c5).trans c6).trans c7).trans c9).trans c10).trans c11).trans c12) (λ_ _=>H'))⟩
theorem CQ(s:Sto)(k c q n v:Int)(w:World)(hN:NTab w) :
  Calls prog 50 #[.agg (stA s),.agg (cmA k c q n v)] w λe w'=>e=.returned (.tuple #[.agg (stA (doS s ⟨k,c,q,n,v⟩)),.agg #[.int .i64 (doC s ⟨k,c,q,n,v⟩),.int .i64 (doA s ⟨k,c,q,n,v⟩)],.int .i64 (doE s ⟨k,c,q,n,v⟩)])/\Bw w w':=ey s ⟨k,c,q,n,v⟩ w hN
theorem V5{v:Value}{l:List Int}{now:Int}(h:Sl w v l)(hT:AA w)(hq:Cf w)(hN:NTab w)(he:opE l now=e0)(hc:Kj l now=c) :
  Calls prog 48 #[v,iv now] w λe w'=>e=.returned (.tuple #[.agg #[iv c.k,iv c.c,iv c.s,iv c.n,iv c.v],iv e0])/\Bw w w':=by
 have h1:=ST v l now w h hT hq hN;rw[bj,he,hc]at h1
 exact h1
theorem Tz{g:Gh}{nb ob:Nat}{p:Nod}{ls:List Let}{ts:List Tol}(h:NS i nb ob g w p ls ts){w0:World}(hB:Base w0 g w)(hT:Tabs w0)(dv:S3)(data:List Int)(hd:Sl w dv.v data){n:Nat}(hok:NOk n p)(hbad:p.bad<100000000)(hw:p.wants.length<100000000)(hts:ts.length<100000000)(he:opE data (p.done:Int)=e0)(hc:Kj data (p.done:Int)=c) :
  Calls prog 23 #[pt nb 0,dv.v] w (NP i nb ob g w (.tuple #[]) (p.sub0 i e0 c ts).1 ls (p.sub0 i e0 c ts).2):=by
 obtain⟨x,lt,tl,hN,hO,hg⟩:=h;have hdn:=hok.dn;have hag:=hok.ag;refine gI (fn:=f23) (TN i) g func23 hg ?_;refine qN hN ?_;refine qO hO ?_;refine qR [] 9 [0] λs1 g1 w1 c1=>?_;by_cases h1:p.up=true
 .refine qI ((!p.up)) false (by simpa using h1) ?_;have hdown:¬ p.up=false:=by simp[h1]
  refine qR [] 9 [0] λs2 g2 w2 c2=>?_;have hB1:=hB.ch (c1.trans c2);have hb1:=Cg.below (c1.trans c2) (λ_ _=>H');refine qC 6 (V5 (hd.below hb1) (hB1.tt hT) (hB1.tq hT) (hB1.tn hT) he hc) ?_;rintro e' w3 ⟨rfl,b3⟩;refine⟨_,rfl,b3,?_⟩;have c3:=Cg.ofBelow (B:=w.heap.size) (T:=[]) (g:=g2) b3;refine qR [] 13 [0,0,2,0] λs4 g4 w4 c4=>?_;by_cases h2:e0≠0
  .refine qI ((e0 != 0)) true (by simpa using h2) ?_;refine qR [] 6 [0] λs5 g5 w5 c5=>?_;refine qV 4 (iv ((p.bad+1:Nat):Int)) (AK (x:=(.tmp 29)) (y:=(.const (iv 1))) (p.bad:Int) 1 underlying3 (by omega)) ?_;refine qR [.n 0 i] 4 [0,1] λs6 g6 w6 c6=>?_;refine qE (.tuple #[]) λK=>?_;rw[show p.sub0 i e0 c ts=({ p with bad:=p.bad+1 },ts)from(if_neg hdown).trans (if_pos h2)];have C7:=(((((c1.nil ([.n 0 i]:List Tg)).n c2).n c3).n c4).n c5).trans (c6);exact⟨_,rfl,⟨x,lt,tl,K.ndu 0 hN C7,hO.ch C7 (hn:=by simp<;>omega),K.new⟩,((((((c1.nil (TN i)).n c2).n c3).n c4).n c5).trans (c6.mono (by simp[TN])))⟩
  .refine qI ((e0 != 0)) false (by simpa using h2) ?_;refine qR [] 6 [4,0,4,2] λs8 g8 w8 c8=>?_;refine Ae λK=>?_;have N10:NS i nb ob g8 w8 p ls ts:=(nsC hN hO ((((c1.n c2).n c3).n c4).n c8) K);refine qC 1 (Rx N10 hdn) ?_;rintro e' w11 ⟨y11,rfl,hy11,b11⟩;refine⟨_,rfl,b11,?_⟩;have c11:=Cg.ofBelow (B:=w.heap.size) (T:=[]) (g:=g8) b11;refine qC 3 (Er (l:=p.agreed.take p.done) hy11 (by rw[fx];omega) c) ?_;rintro e' w13 ⟨rfl,b13⟩;refine⟨_,rfl,b13,?_⟩;have c13:=Cg.ofBelow (B:=w.heap.size) (T:=[]) (g:=g8) b13;refine qR [] 1 [] λs14 g14 w14 c14=>?_;by_cases h3:c∈p.agreed.take p.done
   .refine qI ((decide (c∈p.agreed.take p.done))) true (by simpa using h3) ?_;refine qR [] 8 [16,0,2,4,6,8,0,10,2] λs15 g15 w15 c15=>?_;refine BG 55 (λg' w' e L=>∃ (b6 b7:Nat),e=[(0,pt nb 0),(4,pt (s4 0) 0),(6,pt b6 0),(7,pt b7 0)]/\L=[⟨nb,.cells (Ax i ob p x) 95,.n 0 i,false⟩,⟨ob,.cells #[S3.v lt,S3.v tl] 65,.n 50 0,false⟩,⟨(s4 0),.cells #[iv c.k,iv c.c,iv c.s,iv c.n,iv c.v] 53,.z,false⟩,⟨b6,.cells (stA (doS p.sto c)) 87,.l,false⟩,⟨b7,.cells #[iv (doC p.sto c),iv (doA p.sto c)] 83,.l,false⟩]/\Cg w.heap.size [] g w g' w') (by kernel_rfl) ?_ ?_
    .intro J hJ;refine UX 6 11 12 (by kernel_rfl) ?_ ?_ ?_
     .have hB18:=hB.ch ((((((((c1.trans c2).trans c3).trans c4).trans c8).trans c11).trans c13).trans c14).trans c15) (by simp);refine qC 6 (CQ p.sto c.k c.c c.s c.n c.v w15 (hB18.tn hT)) ?_;rintro e' w19 ⟨rfl,b19⟩;refine⟨_,rfl,b19,?_⟩;have c19:=Cg.ofBelow (B:=w.heap.size) (T:=[]) (g:=g15) b19;refine qR [] 4 [14,16,18,20] λs20 g20 w20 c20=>?_;refine Cu 11 12 (by kernel_rfl) ?_ ?_
      .refine qR [] 6 [1,0,25,1,0,27,3,0,29,4,0,30] λs21 g21 w21 c21=>?_;exact qB [true,true,true,true,true] λz K0 K=>hJ _ _ _ z _ ⟨(s21 0),(s21 1),rfl,rfl,(((((((((((c1.trans c2).trans c3).trans c4).trans c8).trans c11).trans c13).trans c14).trans c15).trans c19).trans c20).trans c21)⟩ K
      .refine qR [] 6 [1,0,23,1,0,27,4,0,29,3,0,30] λs22 g22 w22 c22=>?_;refine Lz ?_;exact qB [true,true,true,true,true] λz K0 K=>hJ _ _ _ z _ ⟨(s22 1),(s22 0),rfl,rfl,(((((((((((c1.trans c2).trans c3).trans c4).trans c8).trans c11).trans c13).trans c14).trans c15).trans c19).trans c20).trans c22)⟩ K
     .refine qR [] 1 [1,0] λs23 g23 w23 c23=>?_;refine Cu 6 12 (by kernel_rfl) ?_ ?_
      .have hB25:=hB.ch (((((((((c1.trans c2).trans c3).trans c4).trans c8).trans c11).trans c13).trans c14).trans c15).trans c23) (by simp);refine qC 6 (CQ p.sto c.k c.c c.s c.n c.v w23 (hB25.tn hT)) ?_;rintro e' w26 ⟨rfl,b26⟩;refine⟨_,rfl,b26,?_⟩;have c26:=Cg.ofBelow (B:=w.heap.size) (T:=[]) (g:=g23) b26;refine qR [] 9 [14,16,18,20,25,1,0,27,3,0,29,4,0,30] λs27 g27 w27 c27=>?_;exact qB [true,true,true,true,true] λz K0 K=>hJ _ _ _ z _ ⟨(s23 0),(s27 0),rfl,rfl,(((((((((((c1.trans c2).trans c3).trans c4).trans c8).trans c11).trans c13).trans c14).trans c15).trans c23).trans c26).trans c27)⟩ K
      .refine qR [] 1 [1,0] λs28 g28 w28 c28=>?_;have hB29:=hB.ch ((((((((((c1.trans c2).trans c3).trans c4).trans c8).trans c11).trans c13).trans c14).trans c15).trans c23).trans c28) (by simp);refine qC 6 (CQ p.sto c.k c.c c.s c.n c.v w28 (hB29.tn hT)) ?_;rintro e' w30 ⟨rfl,b30⟩;refine⟨_,rfl,b30,?_⟩;have c30:=Cg.ofBelow (B:=w.heap.size) (T:=[]) (g:=g28) b30;refine qR [] 8 [14,16,18,20,27,3,0,29,4,0,30] λs31 g31 w31 c31=>?_;exact qB [true,true,true,true,true] λz K0 K=>hJ _ _ _ z _ ⟨(s23 0),(s28 0),rfl,rfl,((((((((((((c1.trans c2).trans c3).trans c4).trans c8).trans c11).trans c13).trans c14).trans c15).trans c23).trans c28).trans c30).trans c31)⟩ K
     .refine qR [] 1 [1,0] λs32 g32 w32 c32=>?_;refine Cu 6 11 (by kernel_rfl) ?_ ?_
      .have hB34:=hB.ch (((((((((c1.trans c2).trans c3).trans c4).trans c8).trans c11).trans c13).trans c14).trans c15).trans c32) (by simp);refine qC 6 (CQ p.sto c.k c.c c.s c.n c.v w32 (hB34.tn hT)) ?_;rintro e' w35 ⟨rfl,b35⟩;refine⟨_,rfl,b35,?_⟩;have c35:=Cg.ofBelow (B:=w.heap.size) (T:=[]) (g:=g32) b35;refine qR [] 9 [14,16,18,20,23,1,0,27,4,0,29,3,0,30] λs36 g36 w36 c36=>?_;refine Lz ?_;exact qB [true,true,true,true,true] λz K0 K=>hJ _ _ _ z _ ⟨(s36 0),(s32 0),rfl,rfl,(((((((((((c1.trans c2).trans c3).trans c4).trans c8).trans c11).trans c13).trans c14).trans c15).trans c32).trans c35).trans c36)⟩ K
      .refine qR [] 1 [1,0] λs37 g37 w37 c37=>?_;have hB38:=hB.ch ((((((((((c1.trans c2).trans c3).trans c4).trans c8).trans c11).trans c13).trans c14).trans c15).trans c32).trans c37) (by simp);refine qC 6 (CQ p.sto c.k c.c c.s c.n c.v w37 (hB38.tn hT)) ?_;rintro e' w39 ⟨rfl,b39⟩;refine⟨_,rfl,b39,?_⟩;have c39:=Cg.ofBelow (B:=w.heap.size) (T:=[]) (g:=g37) b39;refine qR [] 8 [14,16,18,20,27,4,0,29,3,0,30] λs40 g40 w40 c40=>?_;refine Lz ?_;exact qB [true,true,true,true,true] λz K0 K=>hJ _ _ _ z _ ⟨(s37 0),(s32 0),rfl,rfl,((((((((((((c1.trans c2).trans c3).trans c4).trans c8).trans c11).trans c13).trans c14).trans c15).trans c32).trans c37).trans c39).trans c40)⟩ K
    .rintro g16 w16 _ z16 _ ⟨b6,b7,rfl,rfl,hcc⟩;refine qR [] 5 [2,4] λs41 g41 w41 c41=>?_;rw[show p.sub0 i e0 c ts=(p,(ts++[⟨i,c.c,c.s,doC p.sto c,doA p.sto c⟩]))from(if_neg hdown).trans ((if_neg h2).trans (if_pos h3))];refine qS 3 [false,false,true,true,true] hN hO (hcc.n c41) (λN42=>OX N42 hts c (doC p.sto c) (doA p.sto c)) λg42 w42 x42 lt42 tl42 hN42 hO42 c42=>?_;refine qR [] 1 [] λs44 g44 w44 c44=>?_;exact qF hN42 hO42 c44 ((((hcc.nil (TN i)).n c41).trans (c42)).n c44)
   .refine qI ((decide (c∈p.agreed.take p.done))) false (by simpa using h3) ?_;refine qR [] 4 [2] λs46 g46 w46 c46=>?_;rw[show p.sub0 i e0 c ts=(p.want c,ts)from(if_neg hdown).trans ((if_neg h2).trans (if_neg h3))];refine qS 2 [false,false,true] hN hO ((((((((c1.n c2).n c3).n c4).n c8).n c11).n c13).n c14).n c46) (λN47=>Xd N47 h1 hw c) λg47 w47 x47 lt47 tl47 hN47 hO47 c47=>?_;refine qR [] 1 [] λs49 g49 w49 c49=>?_;exact qF hN47 hO47 c49 (((((((((((c1.nil (TN i)).n c2).n c3).n c4).n c8).n c11).n c13).n c14).n c46).trans (c47)).n c49)
 .refine qI ((!p.up)) true (by simpa using h1) ?_;refine qE (.tuple #[]) λK=>?_;rw[show p.sub0 i e0 c ts=(p,ts)from if_pos (by simpa using h1)];exact⟨_,rfl,(nsC hN hO c1 K),(c1.nil (TN i))⟩
end
end Go.Proofs.YtalbmmghmoggcabGreatDoor
