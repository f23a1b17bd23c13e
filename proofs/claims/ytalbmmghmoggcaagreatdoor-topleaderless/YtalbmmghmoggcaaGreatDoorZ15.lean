/- Part 15 of the walk. -/
import Derived.Test.YtalbmmghmoggcaaGreatDoorZ14
set_option maxRecDepth 100000
set_option maxHeartbeats 4000000
open Go.Proofs.Tryz
set_option linter.unusedVariables false
namespace Go.Proofs.YtalbmmghmoggcaaGreatDoor
open Go.RowKit
theorem Mj(n g:Int)(w:World) :
  Calls prog 127 #[.int .i64 n,.int .i64 g] w fun e w'=>e=.returned (.bool (decide (0<=n/\n<=g)))/\w'=w:=by
 by_cases h0:0<=n
 .by_cases h1:n<=g
  .rw[decide_eq_true (show 0<=n/\n<=g from⟨h0,h1⟩)];go_enter func127,ntmps127
   go_wp2
   go_ret;exact⟨rfl,rfl⟩
  .rw[decide_eq_false (show ¬ (0<=n/\n<=g)from fun h=>h1 h.2)];go_enter func127,ntmps127
   go_wp2
   go_ret;exact⟨rfl,rfl⟩
 .rw[decide_eq_false (show ¬ (0<=n/\n<=g)from fun h=>h0 h.1)];go_enter func127,ntmps127
  go_wp2
  go_ret;exact⟨rfl,rfl⟩
theorem Rf(s:Sto)(w:World) :
  Calls prog 96 #[.agg (stA s)] w fun e w'=>e=.returned (.int .i64 (Lr s))/\Bw w w':=by
 have bb:Bw w (w.alloc (.cells (stA s) 88)):=(Below.refl _ _).alloc (Nat.le_refl _) _;have hS:Bs (w.alloc (.cells (stA s) 88)) w.heap.size s:=heap_alloc_new _ _;generalize hW:w.alloc (.cells (stA s) 88)=W at bb hS;go_enter func96,ntmps96
 go_wp2_with ((with_reducible (refine DV ?_));(refine Fz rfl _ rfl w.heap.size 0 rfl s.V hS.rangeV ?_))
 clear hW
 go_loopw [9] (fun iv wr=>∃ i:Nat,i<=8/\iv=.int .i64 (i:Int)/\Hid (∀ j,j<i->VaB (s.V j))/\W=wr) (fun iv _=>(8-intOf iv).toNat)
 case atStart=>exact⟨0,by omega,rfl,fun j hj=>by omega,rfl⟩
 case round =>
  obtain⟨i,hi,rfl,hb,rfl⟩:=hrel;by_cases hlt:i<8
  .have hlt':(i:Int)<8:=by omega
   have hix:=Sa s.V i hlt;go_wp2_with fail
   refine(Mj (s.V i) 1073741824 _).mono ?_;rintro e w1 ⟨rfl,rfl⟩;by_cases hv:0<=s.V i/\s.V i<=1073741824
   .rw[decide_eq_true hv];have hB:Hid (∀ j,j<i+1->VaB (s.V j)):=fun j hj=>by
     by_cases h:j=i
     .subst h;exact hv
     .exact hb.out j (by omega)
    clear hv hix hb;go_wp2
    go_roundw
    case rel=>exact⟨i+1,by omega,by go_num,hB,by simp⟩
    case measure=>simp[intOf];omega
   .rw[decide_eq_false hv];have hE:Hid (Lr s=5):=Jy (fun h=>hv (h.1 i hlt));clear hv hix hb;go_wp2
    go_ret;rw[hE.out];exact⟨rfl,bb⟩
  .obtain rfl:i=8:=by omega
   clear hlt hi;go_wp2_with ((with_reducible (refine DV ?_));(refine Fz rfl _ rfl w.heap.size 8 rfl s.L hS.rangeL ?_))
   go_loopw [18] (fun iv wr=>∃ i:Nat,i<=8/\iv=.int .i64 (i:Int)/\Hid (∀ j,j<i->ClB (s.L j) (s.C j) (s.A j))/\W=wr) (fun iv _=>(8-intOf iv).toNat)
   case atStart=>exact⟨0,by omega,rfl,fun j hj=>by omega,rfl⟩
   case round =>
    obtain⟨i,hi,rfl,hc,rfl⟩:=hrel;by_cases hlt:i<8
    .have hlt':(i:Int)<8:=by omega
     have hix:=Sa s.L i hlt;go_wp2_with fail
     refine(Mj (s.L i) 1048577 _).mono ?_;rintro e w1 ⟨rfl,rfl⟩;by_cases hv:0<=s.L i/\s.L i<=1048577
     .rw[decide_eq_true hv];have c0:=hS.cellC i hlt;have c1:=hS.cellA i hlt;have i0:(0:Int)<=(i:Int):=by omega
      by_cases h0:s.L i=0
      .rw[h0];by_cases hca:s.C i=0/\s.A i=0
       .rw[hca.1]at c0
        rw[hca.2]at c1
        have hB:Hid (∀ j,j<i+1->ClB (s.L j) (s.C j) (s.A j)):=fun j hj=>by
         by_cases h:j=i
         .subst h;exact⟨hv,fun _=>hca⟩
         .exact hc.out j (by omega)
        clear hv hix hca h0 hc;go_wp2
        go_roundw
        case rel=>exact⟨i+1,by omega,by go_num,hB,by simp⟩
        case measure=>simp[intOf];omega
       .have hE:Hid (Lr s=5):=Jy (fun h=>hca ((h.2 i hlt).2 h0));have hne:=Yz (s.C i) (s.A i);rw[decide_eq_false hca]at hne
        clear hv hix hca h0 hc hb;go_wp2
        go_ret;rw[hE.out];exact⟨rfl,bb⟩
      .have hB:Hid (∀ j,j<i+1->ClB (s.L j) (s.C j) (s.A j)):=fun j hj=>by
        by_cases h:j=i
        .subst h;exact⟨hv,fun g=>absurd g h0⟩
        .exact hc.out j (by omega)
       have hne:(s.L i==0)=false:=by simpa using h0
       clear hv hix hc;go_wp2
       go_roundw
       case rel=>exact⟨i+1,by omega,by go_num,hB,by simp⟩
       case measure=>simp[intOf];omega
     .rw[decide_eq_false hv];have hE:Hid (Lr s=5):=Jy (fun h=>hv (h.2 i hlt).1);clear hv hix hb hc;go_wp2
      go_ret;rw[hE.out];exact⟨rfl,bb⟩
    .obtain rfl:i=8:=by omega
     have hE:Hid (Lr s=0):=Zc ⟨hb.out,hc.out⟩;clear hlt hi hc hb;go_wp2
     go_ret;rw[hE.out];exact⟨rfl,bb⟩
theorem lt8{i:Nat}(h:i<8):i=0\/i=1\/i=2\/i=3\/i=4\/i=5\/i=6\/i=7:=by omega
theorem aA(s:Sto)(ci ni:Nat)(q v:Int)(w:World)(hc:ci<8)(hn:ni<8)(q0:0<=q)(q1:q<=1048576) :
  Calls prog 128 #[.agg (stA s),.agg #[iv 1,iv (ci:Int),iv q,iv (ni:Int),iv v]] w fun e w'=>e=.returned (.tuple #[.agg (stA (MI s ⟨1,ci,q,ni,v⟩)),.agg #[iv 0,iv (Lj s ⟨1,ci,q,ni,v⟩)]])/\Bw w w':=by
 have hgz:∀ b,w.heap.size<=b->gS.t b=.z/\gS.k b=0:=fun _ _=>⟨rfl,rfl⟩;refine gI (fn:=f128) [] gS func128 hgz ?_;refine qR [] 26 [1,0,0,0,1,0,1,0,1,0,1] fun σ1 g1 w1 c1=>?_;refine BG 48 (fun g' w' e L=>e=[(2,pt (σ1 0) 0),(3,pt (σ1 1) 0),(4,pt (σ1 2) 0),(5,pt (σ1 3) 0),(6,pt (σ1 4) 0)]/\L=[⟨(σ1 0),.cells (stA ({ s with V:=Bd s.V ni v })) 88,.l,false⟩,⟨(σ1 1),.cells #[iv 1,iv (ci:Int),iv q,iv (ni:Int),iv v] 54,.z,false⟩,⟨(σ1 2),.cells (stA Fs) 88,.l,false⟩,⟨(σ1 3),.cells #[iv 0,iv 0] 84,.l,false⟩,⟨(σ1 4),.cells #[iv 0,iv 0] 84,.l,false⟩]/\True/\Cg w.heap.size ([]:List Tg) g1 w1 g' w') (by kernel_rfl) ?_ ?_
 .intro J hJ;rcases lt8 hn with rfl|rfl|rfl|rfl|rfl|rfl|rfl|rfl <;>
  (refine qR [] 8 [1,1,0,0] fun σ3 g3 w3 c3=>?_;exact qB [true,true,true,true,true] fun z K0 K=>hJ _ _ _ z _ ⟨rfl,rfl,trivial,(c3.nil ([]:List Tg))⟩ K)
 rintro g2 w2 _ z2 _ ⟨rfl,rfl,_,c2⟩;refine qR [] 13 [1,4,0,1,1] fun σ4 g4 w4 c4=>?_;refine qV 4 (iv (q+1)) (AN (x:=(.tmp 37)) (y:=(.const (iv 1))) q 1 underlying3 (by omega)) ?_;refine BG 48 (fun g' w' e L=>e=[(2,pt (σ1 0) 0),(3,pt (σ1 1) 0),(4,pt (σ1 2) 0),(5,pt (σ1 3) 0),(6,pt (σ1 4) 0)]/\L=[⟨(σ1 0),.cells (stA (Sto.mk (Bd s.V ni v) (Bd s.L ci (q+1)) s.C s.A s.R)) 88,.l,false⟩,⟨(σ1 1),.cells #[iv 1,iv (ci:Int),iv q,iv (ni:Int),iv v] 54,.z,false⟩,⟨(σ1 2),.cells (stA Fs) 88,.l,false⟩,⟨(σ1 3),.cells #[iv 0,iv 0] 84,.l,false⟩,⟨(σ1 4),.cells #[iv 0,iv v] 84,.l,false⟩]/\True/\Cg w.heap.size ([]:List Tg) g4 w4 g' w') (by kernel_rfl) ?_ ?_
 .intro J hJ;rcases lt8 hc with rfl|rfl|rfl|rfl|rfl|rfl|rfl|rfl <;>
  (refine qR [] 4 [0,0] fun σ6 g6 w6 c6=>?_;exact qB [true,true,true,true,true] fun z K0 K=>hJ _ _ _ z _ ⟨rfl,rfl,trivial,(c6.nil ([]:List Tg))⟩ K)
 rintro g5 w5 _ z5 _ ⟨rfl,rfl,_,c5⟩;refine qR [] 2 [] fun σ7 g7 w7 c7=>?_;refine BG 48 (fun g' w' e L=>e=[(2,pt (σ1 0) 0),(3,pt (σ1 1) 0),(4,pt (σ1 2) 0),(5,pt (σ1 3) 0),(6,pt (σ1 4) 0)]/\L=[⟨(σ1 0),.cells (stA (Sto.mk (Bd s.V ni v) (Bd s.L ci (q+1)) (Bd s.C ci 0) (Bd s.A ci v) s.R)) 88,.l,false⟩,⟨(σ1 1),.cells #[iv 1,iv (ci:Int),iv q,iv (ni:Int),iv v] 54,.z,false⟩,⟨(σ1 2),.cells (stA Fs) 88,.l,false⟩,⟨(σ1 3),.cells #[iv 0,iv 0] 84,.l,false⟩,⟨(σ1 4),.cells #[iv 0,iv v] 84,.l,false⟩]/\True/\Cg w.heap.size ([]:List Tg) g7 w7 g' w') (by kernel_rfl) ?_ ?_
 .intro J hJ;rcases lt8 hc with rfl|rfl|rfl|rfl|rfl|rfl|rfl|rfl <;>
  (refine qR [] 7 [1,4,0,0] fun σ9 g9 w9 c9=>?_;exact qB [true,true,true,true,true] fun z K0 K=>hJ _ _ _ z _ ⟨rfl,rfl,trivial,(c9.nil ([]:List Tg))⟩ K)
 rintro g8 w8 _ z8 _ ⟨rfl,rfl,_,c8⟩;refine qR [] 3 [2,0,0] fun σ10 g10 w10 c10=>?_;refine BG 48 (fun g' w' e L=>e=[(2,pt (σ1 0) 0),(3,pt (σ1 1) 0),(4,pt (σ1 2) 0),(5,pt (σ1 3) 0),(6,pt (σ1 4) 0)]/\L=[⟨(σ1 0),.cells (stA (Sto.mk (Bd s.V ni v) (Bd s.L ci (q+1)) (Bd s.C ci 0) (Bd s.A ci v) s.R)) 88,.l,false⟩,⟨(σ1 1),.cells #[iv 1,iv (ci:Int),iv q,iv (ni:Int),iv v] 54,.z,false⟩,⟨(σ1 2),.cells (stA (Sto.mk (Bd s.V ni v) (Bd s.L ci (q+1)) (Bd s.C ci 0) (Bd s.A ci v) s.R)) 88,.l,false⟩,⟨(σ1 3),.cells #[iv 0,iv v] 84,.l,false⟩,⟨(σ1 4),.cells #[iv 0,iv v] 84,.l,false⟩]/\True/\Cg w.heap.size ([]:List Tg) g10 w10 g' w') (by kernel_rfl) ?_ ?_
 .intro J hJ
  (exact Cv 1 2 (by kernel_rfl) (by(refine qR [] 4 [4,5,2,0,7,3,0] fun σ13 g13 w13 c13=>?_;exact qB [true,true,true,true,true] fun z K0 K=>hJ _ _ _ z _ ⟨rfl,rfl,trivial,(c13.nil ([]:List Tg))⟩ K)) (by(refine qR [] 4 [2,0,3,4,7,3,0] fun σ14 g14 w14 c14=>?_;exact qB [true,true,true,true,true] fun z K0 K=>hJ _ _ _ z _ ⟨rfl,rfl,trivial,(c14.nil ([]:List Tg))⟩ K)))
 rintro g11 w11 _ z11 _ ⟨rfl,rfl,_,c11⟩;exact qE4 4 5 88 84 2 (σ1 2) 3 (σ1 3) (stA (MI s ⟨1,ci,q,ni,v⟩)) #[iv 0,iv (Lj s ⟨1,ci,q,ni,v⟩)] fun K=>⟨rfl,Cg.below (((((((c1.trans c2).trans c4).trans c5).trans c7).trans c8).trans c10).trans c11) (fun _ _=>List.not_mem_nil)⟩
theorem aB(s:Sto)(ci ni:Nat)(q v:Int)(w:World)(hc:ci<8)(hn:ni<8)(q0:0<=q)(q1:q<=1048576) :
  Calls prog 128 #[.agg (stA s),.agg #[iv 2,iv (ci:Int),iv q,iv (ni:Int),iv v]] w fun e w'=>e=.returned (.tuple #[.agg (stA (MI s ⟨2,ci,q,ni,v⟩)),.agg #[iv 0,iv (Lj s ⟨2,ci,q,ni,v⟩)]])/\Bw w w':=by
 have hgz:∀ b,w.heap.size<=b->gS.t b=.z/\gS.k b=0:=fun _ _=>⟨rfl,rfl⟩;refine gI (fn:=f128) [] gS func128 hgz ?_;refine qR [] 31 [1,0,0,0,1,0,1,0,1,0,1] fun σ1 g1 w1 c1=>?_;refine BG 48 (fun g' w' e L=>e=[(2,pt (σ1 0) 0),(3,pt (σ1 1) 0),(4,pt (σ1 2) 0),(5,pt (σ1 3) 0),(6,pt (σ1 4) 0)]/\L=[⟨(σ1 0),.cells (stA s) 88,.l,false⟩,⟨(σ1 1),.cells #[iv 2,iv (ci:Int),iv q,iv (ni:Int),iv v] 54,.z,false⟩,⟨(σ1 2),.cells (stA Fs) 88,.l,false⟩,⟨(σ1 3),.cells #[iv 0,iv 0] 84,.l,false⟩,⟨(σ1 4),.cells #[iv 0,iv (s.V ni)] 84,.l,false⟩]/\True/\Cg w.heap.size ([]:List Tg) g1 w1 g' w') (by kernel_rfl) ?_ ?_
 .intro J hJ;rcases lt8 hn with rfl|rfl|rfl|rfl|rfl|rfl|rfl|rfl <;>
  (refine qR [] 8 [1,0,4,0] fun σ3 g3 w3 c3=>?_;exact qB [true,true,true,true,true] fun z K0 K=>hJ _ _ _ z _ ⟨rfl,rfl,trivial,(c3.nil ([]:List Tg))⟩ K)
 rintro g2 w2 _ z2 _ ⟨rfl,rfl,_,c2⟩;refine qR [] 7 [1,1] fun σ4 g4 w4 c4=>?_;refine qV 4 (iv (q+1)) (AN (x:=(.tmp 37)) (y:=(.const (iv 1))) q 1 underlying3 (by omega)) ?_;refine BG 48 (fun g' w' e L=>e=[(2,pt (σ1 0) 0),(3,pt (σ1 1) 0),(4,pt (σ1 2) 0),(5,pt (σ1 3) 0),(6,pt (σ1 4) 0)]/\L=[⟨(σ1 0),.cells (stA (Sto.mk s.V (Bd s.L ci (q+1)) s.C s.A s.R)) 88,.l,false⟩,⟨(σ1 1),.cells #[iv 2,iv (ci:Int),iv q,iv (ni:Int),iv v] 54,.z,false⟩,⟨(σ1 2),.cells (stA Fs) 88,.l,false⟩,⟨(σ1 3),.cells #[iv 0,iv 0] 84,.l,false⟩,⟨(σ1 4),.cells #[iv 0,iv (s.V ni)] 84,.l,false⟩]/\True/\Cg w.heap.size ([]:List Tg) g4 w4 g' w') (by kernel_rfl) ?_ ?_
 .intro J hJ;rcases lt8 hc with rfl|rfl|rfl|rfl|rfl|rfl|rfl|rfl <;>
  (refine qR [] 4 [0,0] fun σ6 g6 w6 c6=>?_;exact qB [true,true,true,true,true] fun z K0 K=>hJ _ _ _ z _ ⟨rfl,rfl,trivial,(c6.nil ([]:List Tg))⟩ K)
 rintro g5 w5 _ z5 _ ⟨rfl,rfl,_,c5⟩;refine qR [] 2 [] fun σ7 g7 w7 c7=>?_;refine BG 48 (fun g' w' e L=>e=[(2,pt (σ1 0) 0),(3,pt (σ1 1) 0),(4,pt (σ1 2) 0),(5,pt (σ1 3) 0),(6,pt (σ1 4) 0)]/\L=[⟨(σ1 0),.cells (stA (Sto.mk s.V (Bd s.L ci (q+1)) (Bd s.C ci 0) (Bd s.A ci (s.V ni)) s.R)) 88,.l,false⟩,⟨(σ1 1),.cells #[iv 2,iv (ci:Int),iv q,iv (ni:Int),iv v] 54,.z,false⟩,⟨(σ1 2),.cells (stA Fs) 88,.l,false⟩,⟨(σ1 3),.cells #[iv 0,iv 0] 84,.l,false⟩,⟨(σ1 4),.cells #[iv 0,iv (s.V ni)] 84,.l,false⟩]/\True/\Cg w.heap.size ([]:List Tg) g7 w7 g' w') (by kernel_rfl) ?_ ?_
 .intro J hJ;rcases lt8 hc with rfl|rfl|rfl|rfl|rfl|rfl|rfl|rfl <;>
  (refine qR [] 7 [1,4,0,0] fun σ9 g9 w9 c9=>?_;exact qB [true,true,true,true,true] fun z K0 K=>hJ _ _ _ z _ ⟨rfl,rfl,trivial,(c9.nil ([]:List Tg))⟩ K)
 rintro g8 w8 _ z8 _ ⟨rfl,rfl,_,c8⟩;refine qR [] 3 [2,0,0] fun σ10 g10 w10 c10=>?_;refine BG 48 (fun g' w' e L=>e=[(2,pt (σ1 0) 0),(3,pt (σ1 1) 0),(4,pt (σ1 2) 0),(5,pt (σ1 3) 0),(6,pt (σ1 4) 0)]/\L=[⟨(σ1 0),.cells (stA (Sto.mk s.V (Bd s.L ci (q+1)) (Bd s.C ci 0) (Bd s.A ci (s.V ni)) s.R)) 88,.l,false⟩,⟨(σ1 1),.cells #[iv 2,iv (ci:Int),iv q,iv (ni:Int),iv v] 54,.z,false⟩,⟨(σ1 2),.cells (stA (Sto.mk s.V (Bd s.L ci (q+1)) (Bd s.C ci 0) (Bd s.A ci (s.V ni)) s.R)) 88,.l,false⟩,⟨(σ1 3),.cells #[iv 0,iv (s.V ni)] 84,.l,false⟩,⟨(σ1 4),.cells #[iv 0,iv (s.V ni)] 84,.l,false⟩]/\True/\Cg w.heap.size ([]:List Tg) g10 w10 g' w') (by kernel_rfl) ?_ ?_
 .intro J hJ
  (exact Cv 1 2 (by kernel_rfl) (by(refine qR [] 4 [4,5,2,0,7,3,0] fun σ13 g13 w13 c13=>?_;exact qB [true,true,true,true,true] fun z K0 K=>hJ _ _ _ z _ ⟨rfl,rfl,trivial,(c13.nil ([]:List Tg))⟩ K)) (by(refine qR [] 4 [2,0,3,4,7,3,0] fun σ14 g14 w14 c14=>?_;exact qB [true,true,true,true,true] fun z K0 K=>hJ _ _ _ z _ ⟨rfl,rfl,trivial,(c14.nil ([]:List Tg))⟩ K)))
 rintro g11 w11 _ z11 _ ⟨rfl,rfl,_,c11⟩;exact qE4 4 5 88 84 2 (σ1 2) 3 (σ1 3) (stA (MI s ⟨2,ci,q,ni,v⟩)) #[iv 0,iv (Lj s ⟨2,ci,q,ni,v⟩)] fun K=>⟨rfl,Cg.below (((((((c1.trans c2).trans c4).trans c5).trans c7).trans c8).trans c10).trans c11) (fun _ _=>List.not_mem_nil)⟩
theorem aC(s:Sto)(ci ni:Nat)(q v:Int)(w:World)(hc:ci<8)(hn:ni<8)(q0:0<=q)(q1:q<=1048576) :
  Calls prog 128 #[.agg (stA s),.agg #[iv 3,iv (ci:Int),iv q,iv (ni:Int),iv v]] w fun e w'=>e=.returned (.tuple #[.agg (stA (MI s ⟨3,ci,q,ni,v⟩)),.agg #[iv 0,iv (Lj s ⟨3,ci,q,ni,v⟩)]])/\Bw w w':=by
 have hgz:∀ b,w.heap.size<=b->gS.t b=.z/\gS.k b=0:=fun _ _=>⟨rfl,rfl⟩;refine gI (fn:=f128) [] gS func128 hgz ?_;refine qR [] 37 [1,0,0,0,1,0,1,0,1,0,1] fun σ1 g1 w1 c1=>?_;refine BG 48 (fun g' w' e L=>e=[(2,pt (σ1 0) 0),(3,pt (σ1 1) 0),(4,pt (σ1 2) 0),(5,pt (σ1 3) 0),(6,pt (σ1 4) 0)]/\L=[⟨(σ1 0),.cells (stA ({ s with R:=Bd s.R ni true })) 88,.l,false⟩,⟨(σ1 1),.cells #[iv 3,iv (ci:Int),iv q,iv (ni:Int),iv v] 54,.z,false⟩,⟨(σ1 2),.cells (stA Fs) 88,.l,false⟩,⟨(σ1 3),.cells #[iv 0,iv 0] 84,.l,false⟩,⟨(σ1 4),.cells #[iv 0,iv 0] 84,.l,false⟩]/\True/\Cg w.heap.size ([]:List Tg) g1 w1 g' w') (by kernel_rfl) ?_ ?_
 .intro J hJ;rcases lt8 hn with rfl|rfl|rfl|rfl|rfl|rfl|rfl|rfl <;>
  (refine qR [] 6 [1,0,0] fun σ3 g3 w3 c3=>?_;exact qB [true,true,true,true,true] fun z K0 K=>hJ _ _ _ z _ ⟨rfl,rfl,trivial,(c3.nil ([]:List Tg))⟩ K)
 rintro g2 w2 _ z2 _ ⟨rfl,rfl,_,c2⟩;refine qR [] 7 [1,1] fun σ4 g4 w4 c4=>?_;refine qV 4 (iv (q+1)) (AN (x:=(.tmp 37)) (y:=(.const (iv 1))) q 1 underlying3 (by omega)) ?_;refine BG 48 (fun g' w' e L=>e=[(2,pt (σ1 0) 0),(3,pt (σ1 1) 0),(4,pt (σ1 2) 0),(5,pt (σ1 3) 0),(6,pt (σ1 4) 0)]/\L=[⟨(σ1 0),.cells (stA (Sto.mk s.V (Bd s.L ci (q+1)) s.C s.A (Bd s.R ni true))) 88,.l,false⟩,⟨(σ1 1),.cells #[iv 3,iv (ci:Int),iv q,iv (ni:Int),iv v] 54,.z,false⟩,⟨(σ1 2),.cells (stA Fs) 88,.l,false⟩,⟨(σ1 3),.cells #[iv 0,iv 0] 84,.l,false⟩,⟨(σ1 4),.cells #[iv 0,iv 0] 84,.l,false⟩]/\True/\Cg w.heap.size ([]:List Tg) g4 w4 g' w') (by kernel_rfl) ?_ ?_
 .intro J hJ;rcases lt8 hc with rfl|rfl|rfl|rfl|rfl|rfl|rfl|rfl <;>
  (refine qR [] 4 [0,0] fun σ6 g6 w6 c6=>?_;exact qB [true,true,true,true,true] fun z K0 K=>hJ _ _ _ z _ ⟨rfl,rfl,trivial,(c6.nil ([]:List Tg))⟩ K)
 rintro g5 w5 _ z5 _ ⟨rfl,rfl,_,c5⟩;refine qR [] 2 [] fun σ7 g7 w7 c7=>?_;refine BG 48 (fun g' w' e L=>e=[(2,pt (σ1 0) 0),(3,pt (σ1 1) 0),(4,pt (σ1 2) 0),(5,pt (σ1 3) 0),(6,pt (σ1 4) 0)]/\L=[⟨(σ1 0),.cells (stA (Sto.mk s.V (Bd s.L ci (q+1)) (Bd s.C ci 0) (Bd s.A ci 0) (Bd s.R ni true))) 88,.l,false⟩,⟨(σ1 1),.cells #[iv 3,iv (ci:Int),iv q,iv (ni:Int),iv v] 54,.z,false⟩,⟨(σ1 2),.cells (stA Fs) 88,.l,false⟩,⟨(σ1 3),.cells #[iv 0,iv 0] 84,.l,false⟩,⟨(σ1 4),.cells #[iv 0,iv 0] 84,.l,false⟩]/\True/\Cg w.heap.size ([]:List Tg) g7 w7 g' w') (by kernel_rfl) ?_ ?_
 .intro J hJ;rcases lt8 hc with rfl|rfl|rfl|rfl|rfl|rfl|rfl|rfl <;>
  (refine qR [] 7 [1,4,0,0] fun σ9 g9 w9 c9=>?_;exact qB [true,true,true,true,true] fun z K0 K=>hJ _ _ _ z _ ⟨rfl,rfl,trivial,(c9.nil ([]:List Tg))⟩ K)
 rintro g8 w8 _ z8 _ ⟨rfl,rfl,_,c8⟩;refine qR [] 3 [2,0,0] fun σ10 g10 w10 c10=>?_;refine BG 48 (fun g' w' e L=>e=[(2,pt (σ1 0) 0),(3,pt (σ1 1) 0),(4,pt (σ1 2) 0),(5,pt (σ1 3) 0),(6,pt (σ1 4) 0)]/\L=[⟨(σ1 0),.cells (stA (Sto.mk s.V (Bd s.L ci (q+1)) (Bd s.C ci 0) (Bd s.A ci 0) (Bd s.R ni true))) 88,.l,false⟩,⟨(σ1 1),.cells #[iv 3,iv (ci:Int),iv q,iv (ni:Int),iv v] 54,.z,false⟩,⟨(σ1 2),.cells (stA (Sto.mk s.V (Bd s.L ci (q+1)) (Bd s.C ci 0) (Bd s.A ci 0) (Bd s.R ni true))) 88,.l,false⟩,⟨(σ1 3),.cells #[iv 0,iv 0] 84,.l,false⟩,⟨(σ1 4),.cells #[iv 0,iv 0] 84,.l,false⟩]/\True/\Cg w.heap.size ([]:List Tg) g10 w10 g' w') (by kernel_rfl) ?_ ?_
 .intro J hJ
  (exact Cv 1 2 (by kernel_rfl) (by(refine qR [] 4 [4,5,2,0,7,3,0] fun σ13 g13 w13 c13=>?_;exact qB [true,true,true,true,true] fun z K0 K=>hJ _ _ _ z _ ⟨rfl,rfl,trivial,(c13.nil ([]:List Tg))⟩ K)) (by(refine qR [] 4 [2,0,3,4,7,3,0] fun σ14 g14 w14 c14=>?_;exact qB [true,true,true,true,true] fun z K0 K=>hJ _ _ _ z _ ⟨rfl,rfl,trivial,(c14.nil ([]:List Tg))⟩ K)))
 rintro g11 w11 _ z11 _ ⟨rfl,rfl,_,c11⟩;exact qE4 4 5 88 84 2 (σ1 2) 3 (σ1 3) (stA (MI s ⟨3,ci,q,ni,v⟩)) #[iv 0,iv (Lj s ⟨3,ci,q,ni,v⟩)] fun K=>⟨rfl,Cg.below (((((((c1.trans c2).trans c4).trans c5).trans c7).trans c8).trans c10).trans c11) (fun _ _=>List.not_mem_nil)⟩
theorem Ur(s:Sto)(k:Int)(ci ni:Nat)(q v:Int)(w:World)(hk:1<=k/\k<=3)(hc:ci<8)(hn:ni<8)(q0:0<=q)(q1:q<=1048576){S:Sto}(hS:MI s ⟨k,ci,q,ni,v⟩=S){A:Int}(hA:Lj s ⟨k,ci,q,ni,v⟩=A) :
  Calls prog 128 #[.agg (stA s),.agg #[iv k,iv (ci:Int),iv q,iv (ni:Int),iv v]] w fun e w'=>e=.returned (.tuple #[.agg (stA S),.agg #[iv 0,iv A]])/\Bw w w':=by
 subst hS hA;rcases(show k=1\/k=2\/k=3 by omega)with rfl|rfl|rfl
 .exact aA s ci ni q v w hc hn q0 q1
 .exact aB s ci ni q v w hc hn q0 q1
 .exact aC s ci ni q v w hc hn q0 q1
theorem Ud(s:Sto)(k:Int)(ci ni:Nat)(q v:Int)(w:World)(k0:0<=k)(k3:k<=3)(hc:ci<8)(hn:ni<8)(q0:0<=q)(q1:q<=1048576) :
  Calls prog 97 #[.agg (stA s),.agg #[iv k,iv (ci:Int),iv q,iv (ni:Int),iv v]] w fun e w'=>e=.returned (.tuple #[.agg (stA (dnS s ⟨k,ci,q,ni,v⟩)),.agg #[iv (dnC s ⟨k,ci,q,ni,v⟩),iv (dnA s ⟨k,ci,q,ni,v⟩)]])/\Bw w w':=by
 have hgz:∀ b,w.heap.size<=b->gS.t b=.z/\gS.k b=0:=fun _ _=>⟨rfl,rfl⟩;refine gI (fn:=f97) [] gS func97 hgz ?_;refine qR [] 14 [0,0,0,0,1,0,1,0,1] fun σ1 g1 w1 c1=>?_;by_cases h1:k=0
 .refine qI ((k==0)) true (by simpa using h1) ?_;refine qR [] 7 [0,2,0,3,0] fun σ2 g2 w2 c2=>?_;rw[show dnS s ⟨k,ci,q,ni,v⟩=s from if_neg (fun g=>g.1 h1),show dnC s ⟨k,ci,q,ni,v⟩=0 from if_pos h1,show dnA s ⟨k,ci,q,ni,v⟩=0 from if_pos h1];exact qE4 4 5 88 84 2 (σ1 2) 3 (σ1 3) (stA s) #[iv 0,iv 0] fun K=>⟨rfl,Cg.below (c1.trans c2) (fun _ _=>List.not_mem_nil)⟩
 .refine qI ((k==0)) false (by simpa using h1) ?_;refine qR [] 3 [] fun σ3 g3 w3 c3=>?_;refine BG 49 (fun g' w' e L=>e=[(2,pt (σ1 0) 0),(3,pt (σ1 1) 0),(4,pt (σ1 2) 0),(5,pt (σ1 3) 0),(6,iv (s.L ci))]/\L=[⟨(σ1 0),.cells (stA s) 88,.z,false⟩,⟨(σ1 1),.cells #[iv k,iv (ci:Int),iv q,iv (ni:Int),iv v] 54,.z,false⟩,⟨(σ1 2),.cells (stA Fs) 88,.l,false⟩,⟨(σ1 3),.cells #[iv 0,iv 0] 84,.l,false⟩]/\True/\Cg w.heap.size ([]:List Tg) g3 w3 g' w') (by kernel_rfl) ?_ ?_
  .intro J hJ;rcases lt8 hc with rfl|rfl|rfl|rfl|rfl|rfl|rfl|rfl <;>
   (refine qR [] 7 [1,0] fun σ5 g5 w5 c5=>?_;exact qB [true,true,true,true] fun z K0 K=>hJ _ _ _ z _ ⟨rfl,rfl,trivial,(c5.nil ([]:List Tg))⟩ K)
  rintro g4 w4 _ z4 _ ⟨rfl,rfl,_,c4⟩;refine qR [] 7 [1] fun σ6 g6 w6 c6=>?_;refine qV 3 (iv (q+1)) (AN (x:=(.tmp 20)) (y:=(.const (iv 1))) q 1 underlying3 (by omega)) ?_;refine qR [] 3 [] fun σ7 g7 w7 c7=>?_;by_cases h2:s.L ci=q+1
  .refine qI (((s.L ci)==(q+1))) true (by simpa using h2) ?_;refine qR [] 2 [6] fun σ8 g8 w8 c8=>?_;refine BG 49 (fun g' w' e L=>e=[(2,pt (σ1 0) 0),(3,pt (σ1 1) 0),(4,pt (σ1 2) 0),(5,pt (σ1 3) 0)]/\L=[⟨(σ1 0),.cells (stA s) 88,.z,false⟩,⟨(σ1 1),.cells #[iv k,iv (ci:Int),iv q,iv (ni:Int),iv v] 54,.z,false⟩,⟨(σ1 2),.cells (stA s) 88,.l,false⟩,⟨(σ1 3),.cells #[iv (s.C ci),iv (s.A ci)] 84,.l,false⟩]/\True/\Cg w.heap.size ([]:List Tg) g8 w8 g' w') (by kernel_rfl) ?_ ?_
   .intro J hJ;rcases lt8 hc with rfl|rfl|rfl|rfl|rfl|rfl|rfl|rfl <;>
    (refine qR [] 3 [0,0,2,6] fun σ10 g10 w10 c10=>?_;exact Cv 2 6 (by kernel_rfl) (by(refine qR [] 2 [1,8] fun σ11 g11 w11 c11=>?_;exact Cv 5 6 (by kernel_rfl) (by(refine qR [] 4 [0,13,2,0,15,3,0] fun σ12 g12 w12 c12=>?_;exact qB [true,true,true,true] fun z K0 K=>hJ _ _ _ z _ ⟨rfl,rfl,trivial,(((c10.nil ([]:List Tg)).n c11).n c12)⟩ K)) (by(refine qR [] 4 [2,0,11,0,15,3,0] fun σ13 g13 w13 c13=>?_;exact qB [true,true,true,true] fun z K0 K=>hJ _ _ _ z _ ⟨rfl,rfl,trivial,(((c10.nil ([]:List Tg)).n c11).n c13)⟩ K)))) (by(refine qR [] 6 [2,0,5,1,8,11,0,15,3,0] fun σ14 g14 w14 c14=>?_;exact qB [true,true,true,true] fun z K0 K=>hJ _ _ _ z _ ⟨rfl,rfl,trivial,((c10.nil ([]:List Tg)).n c14)⟩ K)))
   rintro g9 w9 _ z9 _ ⟨rfl,rfl,_,c9⟩;rw[show dnS s ⟨k,ci,q,ni,v⟩=s from if_neg (fun g=>g.2.1 (by show q<s.L ci;omega)),show dnC s ⟨k,ci,q,ni,v⟩=s.C ci from(if_neg h1).trans (if_pos h2),show dnA s ⟨k,ci,q,ni,v⟩=s.A ci from(if_neg h1).trans (if_pos h2)];exact qE4 4 5 88 84 2 (σ1 2) 3 (σ1 3) (stA s) #[iv (s.C ci),iv (s.A ci)] fun K=>⟨rfl,Cg.below ((((((c1.trans c3).trans c4).trans c6).trans c7).trans c8).trans c9) (fun _ _=>List.not_mem_nil)⟩
  .refine qI (((s.L ci)==(q+1))) false (by simpa using h2) ?_;refine qR [] 8 [1] fun σ16 g16 w16 c16=>?_;by_cases h3:q<s.L ci
   .refine qI ((decide (q<(s.L ci)))) true (decide_eq_true h3) ?_;refine qR [] 7 [0,2,0,3,0] fun σ17 g17 w17 c17=>?_;rw[show dnS s ⟨k,ci,q,ni,v⟩=s from if_neg (fun g=>g.2.1 h3),show dnC s ⟨k,ci,q,ni,v⟩=7 from(if_neg h1).trans ((if_neg h2).trans (if_pos h3)),show dnA s ⟨k,ci,q,ni,v⟩=0 from(if_neg h1).trans ((if_neg h2).trans (if_pos h3))];exact qE4 4 5 88 84 2 (σ1 2) 3 (σ1 3) (stA s) #[iv 7,iv 0] fun K=>⟨rfl,Cg.below ((((((c1.trans c3).trans c4).trans c6).trans c7).trans c16).trans c17) (fun _ _=>List.not_mem_nil)⟩
   .refine qI ((decide (q<(s.L ci)))) false (decide_eq_false h3) ?_;refine qR [] 2 [] fun σ18 g18 w18 c18=>?_;refine BG 49 (fun g' w' e L=>e=[(2,pt (σ1 0) 0),(3,pt (σ1 1) 0),(4,pt (σ1 2) 0),(5,pt (σ1 3) 0),(36,.bool (s.R ci))]/\L=[⟨(σ1 0),.cells (stA s) 88,.z,false⟩,⟨(σ1 1),.cells #[iv k,iv (ci:Int),iv q,iv (ni:Int),iv v] 54,.z,false⟩,⟨(σ1 2),.cells (stA Fs) 88,.l,false⟩,⟨(σ1 3),.cells #[iv 0,iv 0] 84,.l,false⟩]/\True/\Cg w.heap.size ([]:List Tg) g18 w18 g' w') (by kernel_rfl) ?_ ?_
    .intro J hJ;rcases lt8 hc with rfl|rfl|rfl|rfl|rfl|rfl|rfl|rfl <;>
     (refine qR [] 7 [1,0] fun σ20 g20 w20 c20=>?_;exact qB [true,true,true,true] fun z K0 K=>hJ _ _ _ z _ ⟨rfl,rfl,trivial,(c20.nil ([]:List Tg))⟩ K)
    rintro g19 w19 _ z19 _ ⟨rfl,rfl,_,c19⟩;by_cases h4:s.R ci=true
    .refine qI ((s.R ci)) true h4 ?_;refine qR [] 7 [0,2,0,3,0] fun σ22 g22 w22 c22=>?_;rw[show dnS s ⟨k,ci,q,ni,v⟩=s from if_neg (fun g=>Bool.noConfusion (h4.symm.trans g.2.2)),show dnC s ⟨k,ci,q,ni,v⟩=11 from(if_neg h1).trans ((if_neg h2).trans ((if_neg h3).trans (if_pos h4))),show dnA s ⟨k,ci,q,ni,v⟩=0 from(if_neg h1).trans ((if_neg h2).trans ((if_neg h3).trans (if_pos h4)))];exact qE4 4 5 88 84 2 (σ1 2) 3 (σ1 3) (stA s) #[iv 11,iv 0] fun K=>⟨rfl,Cg.below ((((((((c1.trans c3).trans c4).trans c6).trans c7).trans c16).trans c18).trans c19).trans c22) (fun _ _=>List.not_mem_nil)⟩
    .refine qI ((s.R ci)) false (by simpa using h4) ?_;obtain⟨S,hS⟩:∃ S,MI s ⟨k,ci,q,ni,v⟩=S:=⟨_,rfl⟩;obtain⟨A,hA⟩:∃ A,Lj s ⟨k,ci,q,ni,v⟩=A:=⟨_,rfl⟩;refine qR [] 6 [0,1] fun σ23 g23 w23 c23=>?_;have bb24:=(Cg.below ((((((((c1.trans c3).trans c4).trans c6).trans c7).trans c16).trans c18).trans c19).trans c23) (fun _ _=>List.not_mem_nil));refine Ae fun Kq24=>?_;have hG24:∀ z,w23.heap.size<=z->g23.t z=.z:=fun z hz=>(Kq24.new z hz).1;refine qC 2 (Ur s k ci ni q v w23 (by omega) hc hn q0 q1 hS hA) ?_;rintro e' w24 ⟨rfl,b24⟩;refine⟨_,rfl,b24,?_⟩;have c24:=Cg.ofBelow (B:=w.heap.size) (T:=[]) (g:=g23) b24;refine qR [] 5 [2,0,3,0] fun σ25 g25 w25 c25=>?_;rw[show dnS s ⟨k,ci,q,ni,v⟩=S from(if_pos ⟨h1,h3,by simpa using h4⟩).trans hS,show dnC s ⟨k,ci,q,ni,v⟩=0 from(if_neg h1).trans ((if_neg h2).trans ((if_neg h3).trans (if_neg h4))),show dnA s ⟨k,ci,q,ni,v⟩=A from(if_neg h1).trans ((if_neg h2).trans ((if_neg h3).trans ((if_neg h4).trans hA)))];exact qE4 4 5 88 84 2 (σ1 2) 3 (σ1 3) (stA S) #[iv 0,iv A] fun K=>⟨rfl,Cg.below ((((((((((c1.trans c3).trans c4).trans c6).trans c7).trans c16).trans c18).trans c19).trans c23).trans c24).trans c25) (fun _ _=>List.not_mem_nil)⟩
theorem Xo{s:Sto}{m:Cmd}{w:World}(he:m.e=0){S:Sto}(hS:dnS s m=S){C A:Int}(hC:dnC s m=C)(hA:dnA s m=A) :
  Calls prog 97 #[.agg (stA s),.agg #[iv m.k,iv m.c,iv m.s,iv m.n,iv m.v]] w fun e w'=>e=.returned (.tuple #[.agg (stA S),.agg #[iv C,iv A]])/\Bw w w':=by
 subst hS hC hA;obtain⟨k,c,q,n,v⟩:=m;obtain⟨hk,hi⟩:=XG he;unfold InC at hi;simp only at hk hi ⊢;obtain⟨ci,rfl⟩:∃ ci:Nat,c=(ci:Int):=⟨c.toNat,by omega⟩;obtain⟨ni,rfl⟩:∃ ni:Nat,n=(ni:Int):=⟨n.toNat,by omega⟩;exact Ud s k ci ni q v w hk.1 hk.2 (by omega) (by omega) (by omega) (by omega)
theorem Uc{s:Sto}{w:World}{E:Int}(hE:Lr s=E):Calls prog 96 #[.agg (stA s)] w fun e w'=>e=.returned (iv E)/\Bw w w':=by subst hE;exact Rf s w
theorem Tk{m:Cmd}{w:World}(ht:NTab w){E:Int}(hE:m.e=E):Calls prog 74 #[.agg #[iv m.k,iv m.c,iv m.s,iv m.n,iv m.v]] w fun e w'=>e=.returned (iv E)/\Bw w w':=by subst hE;exact Du m.k m.c m.s m.n m.v w ht
theorem eU(s:Sto)(m:Cmd)(w:World)(hN:NTab w) :
  Calls prog 51 #[.agg (stA s),.agg #[iv m.k,iv m.c,iv m.s,iv m.n,iv m.v]] w fun e w'=>e=.returned (.tuple #[.agg (stA (doS s m)),.agg #[iv (doC s m),iv (doA s m)],iv (doE s m)])/\Bw w w':=by
 obtain⟨E,hE⟩:∃ E,Lr s=E:=⟨_,rfl⟩;obtain⟨F,hF⟩:∃ F,m.e=F:=⟨_,rfl⟩;have hgz:∀ b,w.heap.size<=b->gS.t b=.z/\gS.k b=0:=fun _ _=>⟨rfl,rfl⟩;refine gI (fn:=f51) [] gS func51 hgz ?_;refine qR [] 12 [0,0,0,0,1,0,1,0,0] fun σ1 g1 w1 c1=>?_;have bb2:=(Cg.below c1 (fun _ _=>List.not_mem_nil));refine Ae fun Kq2=>?_;have hG2:∀ z,w1.heap.size<=z->g1.t z=.z:=fun z hz=>(Kq2.new z hz).1;refine qC 1 (Uc hE) ?_;rintro e' w2 ⟨rfl,b2⟩;refine⟨_,rfl,b2,?_⟩;have c2:=Cg.ofBelow (B:=w.heap.size) (T:=[]) (g:=g1) b2;refine qR [] 7 [] fun σ3 g3 w3 c3=>?_;by_cases h1:E≠0
 .refine qI ((E != 0)) true (by simpa using h1) ?_;refine qR [] 9 [2,0,3,0] fun σ4 g4 w4 c4=>?_;have hD:doE s m=E:=by unfold doE;unfold Lr at hE;split at hE;exact absurd hE.symm h1;rename_i g;rw[if_neg g];exact hE
  have hD0:doE s m≠0:=by rw[hD];exact h1
  rw[US hD0,UP hD0,show doA s m=0 from if_neg hD0,hD];exact qE5 4 5 6 88 84 2 (σ1 2) 3 (σ1 3) (stA Fs) #[iv 0,iv 0] (iv E) fun K=>⟨rfl,(Cg.below (((c1.trans c2).trans c3).trans c4) (fun _ _=>List.not_mem_nil))⟩
 .refine qI ((E != 0)) false (by simpa using h1) ?_;have hB:Sn s:=Classical.byContradiction fun g=>absurd (hE.symm.trans (Jy g)) (by rw[show E=0 from by simpa using h1];decide);refine qR [] 5 [1] fun σ5 g5 w5 c5=>?_;have bb6:=(Cg.below (((c1.trans c2).trans c3).trans c5) (fun _ _=>List.not_mem_nil));refine Ae fun Kq6=>?_;have hG6:∀ z,w5.heap.size<=z->g5.t z=.z:=fun z hz=>(Kq6.new z hz).1;refine qC 1 (Tk (hN.below bb6) hF) ?_;rintro e' w6 ⟨rfl,b6⟩;refine⟨_,rfl,b6,?_⟩;have c6:=Cg.ofBelow (B:=w.heap.size) (T:=[]) (g:=g5) b6;refine qR [] 7 [] fun σ7 g7 w7 c7=>?_;by_cases h2:F≠0
  .refine qI ((F != 0)) true (by simpa using h2) ?_;refine qR [] 9 [2,0,3,0] fun σ8 g8 w8 c8=>?_;have hD:doE s m=F:=(if_pos hB).trans hF;have hD0:doE s m≠0:=by rw[hD];exact h2
   rw[US hD0,UP hD0,show doA s m=0 from if_neg hD0,hD];exact qE5 4 5 6 88 84 2 (σ1 2) 3 (σ1 3) (stA Fs) #[iv 0,iv 0] (iv F) fun K=>⟨rfl,(Cg.below ((((((c1.trans c2).trans c3).trans c5).trans c6).trans c7).trans c8) (fun _ _=>List.not_mem_nil))⟩
  .refine qI ((F != 0)) false (by simpa using h2) ?_;have hF0:m.e=0:=by rw[hF];simpa using h2
   have hD:doE s m=0:=(if_pos hB).trans hF0;obtain⟨S,hS⟩:∃ S,dnS s m=S:=⟨_,rfl⟩;obtain⟨C,hC⟩:∃ C,dnC s m=C:=⟨_,rfl⟩;obtain⟨A,hA⟩:∃ A,dnA s m=A:=⟨_,rfl⟩;refine qR [] 5 [0,1] fun σ9 g9 w9 c9=>?_;have bb10:=(Cg.below ((((((c1.trans c2).trans c3).trans c5).trans c6).trans c7).trans c9) (fun _ _=>List.not_mem_nil));refine Ae fun Kq10=>?_;have hG10:∀ z,w9.heap.size<=z->g9.t z=.z:=fun z hz=>(Kq10.new z hz).1;refine qC 2 (Xo hF0 hS hC hA) ?_;rintro e' w10 ⟨rfl,b10⟩;refine⟨_,rfl,b10,?_⟩;have c10:=Cg.ofBelow (B:=w.heap.size) (T:=[]) (g:=g9) b10;refine qR [] 11 [0,0,0,0,4,0,5,0,2,0,4] fun σ11 g11 w11 c11=>?_;refine BG 33 (fun g' w' e L=>e=[(4,pt (σ1 2) 0),(5,pt (σ1 3) 0),(6,iv 0)]/\L=[⟨(σ1 0),.cells (stA s) 88,.z,false⟩,⟨(σ1 1),.cells #[iv m.k,iv m.c,iv m.s,iv m.n,iv m.v] 54,.z,false⟩,⟨(σ1 2),.cells (stA S) 88,.l,false⟩,⟨(σ1 3),.cells #[iv C,iv A] 84,.l,false⟩,⟨(σ11 0),.cells (stA S) 88,.z,false⟩,⟨(σ11 1),.cells #[iv C,iv A] 84,.z,false⟩]/\True/\Cg w.heap.size ([]:List Tg) g11 w11 g' w') (by kernel_rfl) ?_ ?_
   .intro J hJ
    (exact Cv 1 2 (by kernel_rfl) (by(refine qR [] 5 [5,5,2,0,7,3,0,8] fun σ14 g14 w14 c14=>?_;exact qB [true,true,true,true,true,true] fun z K0 K=>hJ _ _ _ z _ ⟨rfl,rfl,trivial,(c14.nil ([]:List Tg))⟩ K)) (by(refine qR [] 5 [2,0,3,5,7,3,0,8] fun σ15 g15 w15 c15=>?_;exact qB [true,true,true,true,true,true] fun z K0 K=>hJ _ _ _ z _ ⟨rfl,rfl,trivial,(c15.nil ([]:List Tg))⟩ K)))
   rintro g12 w12 _ z12 _ ⟨rfl,rfl,_,c12⟩;rw[aS hD,aO hD,aN hD,hD,hS,hC,hA];exact qE5 4 5 6 88 84 2 (σ1 2) 3 (σ1 3) (stA S) #[iv C,iv A] (iv 0) fun K=>⟨rfl,(Cg.below (((((((((c1.trans c2).trans c3).trans c5).trans c6).trans c7).trans c9).trans c10).trans c11).trans c12) (fun _ _=>List.not_mem_nil))⟩
theorem CP(s:Sto)(k c q n v:Int)(w:World)(hN:NTab w) :
  Calls prog 51 #[.agg (stA s),.agg (cmA k c q n v)] w fun e w'=>e=.returned (.tuple #[.agg (stA (doS s ⟨k,c,q,n,v⟩)),.agg #[.int .i64 (doC s ⟨k,c,q,n,v⟩),.int .i64 (doA s ⟨k,c,q,n,v⟩)],.int .i64 (doE s ⟨k,c,q,n,v⟩)])/\Bw w w':=eU s ⟨k,c,q,n,v⟩ w hN
theorem VM{v:Value}{l:List Int}{now:Int}{w:World}{e0:Int}{c:Cmd}(h:Sl w v l)(hT:AA w)(hq:Cf w)(hN:NTab w)(he:opE l now=e0)(hc:Kp l now=c) :
  Calls prog 49 #[v,iv now] w fun e w'=>e=.returned (.tuple #[.agg #[iv c.k,iv c.c,iv c.s,iv c.n,iv c.v],iv e0])/\Bw w w':=by
 have h1:=Tf v l now w h hT hq hN;rw[bP,he,hc]at h1
 exact h1
theorem TC{g:Gh}{w:World}{i nb ob:Nat}{p:Nod}{ls:List Let}{ts:List Tol}(h:NS i nb ob g w p ls ts){w0:World}(hB:Base w0 g w)(hT:Tabs w0)(dv:S3)(data:List Int)(hd:Sl w dv.v data){n:Nat}(hok:NOk n p)(hbad:p.bad<100000000)(hw:p.wants.length<100000000)(hts:ts.length<100000000){e0:Int}{c:Cmd}(he:opE data (p.done:Int)=e0)(hc:Kp data (p.done:Int)=c) :
  Calls prog 24 #[pt nb 0,dv.v] w (NP i nb ob g w (.tuple #[]) (p.sub0 i e0 c ts).1 ls (p.sub0 i e0 c ts).2):=by
 obtain⟨x,lt,tl,hN,hO,hg⟩:=h;have hdn:=hok.dn;have hag:=hok.ag;refine gI (fn:=f24) (TN i) g func24 hg ?_;refine qN hN ?_;refine qO hO ?_;refine qR [] 9 [0] fun s1 g1 w1 c1=>?_;by_cases h1:p.up=true
 .refine qI ((!p.up)) false (by simpa using h1) ?_;have hdown:¬ p.up=false:=by simp[h1]
  refine qR [] 9 [0] fun s2 g2 w2 c2=>?_;have hB1:=hB.ch (c1.trans c2);have hb1:=Cg.below (c1.trans c2) (fun _ _=>List.not_mem_nil);refine qC 6 (VM (hd.below hb1) (hB1.tt hT) (hB1.tq hT) (hB1.tn hT) he hc) ?_;rintro e' w3 ⟨rfl,b3⟩;refine⟨_,rfl,b3,?_⟩;have c3:=Cg.ofBelow (B:=w.heap.size) (T:=[]) (g:=g2) b3;refine qR [] 13 [0,0,2,0] fun s4 g4 w4 c4=>?_;by_cases h2:e0≠0
  .refine qI ((e0 != 0)) true (by simpa using h2) ?_;refine qR [] 6 [0] fun s5 g5 w5 c5=>?_;refine qV 4 (iv ((p.bad+1:Nat):Int)) (AN (x:=(.tmp 29)) (y:=(.const (iv 1))) (p.bad:Int) 1 underlying3 (by omega)) ?_;refine qR [.n 0 i] 4 [0,1] fun s6 g6 w6 c6=>?_;refine qE (.tuple #[]) fun K=>?_;rw[show p.sub0 i e0 c ts=({ p with bad:=p.bad+1 },ts)from(if_neg hdown).trans (if_pos h2)];have C7:=(((((c1.nil ([.n 0 i]:List Tg)).n c2).n c3).n c4).n c5).trans (c6);exact⟨_,rfl,⟨x,lt,tl,K.ndu 0 hN C7,hO.ch C7 (hn:=by simp<;>omega),K.new⟩,((((((c1.nil (TN i)).n c2).n c3).n c4).n c5).trans (c6.mono (by simp[TN])))⟩
  .refine qI ((e0 != 0)) false (by simpa using h2) ?_;refine qR [] 6 [4,0,4,2] fun s8 g8 w8 c8=>?_;refine Ae fun K=>?_;have N10:NS i nb ob g8 w8 p ls ts:=(nsC hN hO ((((c1.n c2).n c3).n c4).n c8) K);refine qC 1 (R9 N10 hdn) ?_;rintro e' w11 ⟨y11,rfl,hy11,b11⟩;refine⟨_,rfl,b11,?_⟩;have c11:=Cg.ofBelow (B:=w.heap.size) (T:=[]) (g:=g8) b11;refine qC 3 (Et (l:=p.agreed.take p.done) hy11 (by rw[List.length_take];omega) c) ?_;rintro e' w13 ⟨rfl,b13⟩;refine⟨_,rfl,b13,?_⟩;have c13:=Cg.ofBelow (B:=w.heap.size) (T:=[]) (g:=g8) b13;refine qR [] 1 [] fun s14 g14 w14 c14=>?_;by_cases h3:c∈p.agreed.take p.done
   .refine qI ((decide (c∈p.agreed.take p.done))) true (by simpa using h3) ?_;refine qR [] 8 [16,0,2,4,6,8,0,10,2] fun s15 g15 w15 c15=>?_;refine BG 55 (fun g' w' e L=>∃ (b6 b7:Nat),e=[(0,pt nb 0),(4,pt (s4 0) 0),(6,pt b6 0),(7,pt b7 0)]/\L=[⟨nb,.cells (Ax i ob p x) 96,.n 0 i,false⟩,⟨ob,.cells #[S3.v lt,S3.v tl] 66,.n 50 0,false⟩,⟨(s4 0),.cells #[iv c.k,iv c.c,iv c.s,iv c.n,iv c.v] 54,.z,false⟩,⟨b6,.cells (stA (doS p.sto c)) 88,.l,false⟩,⟨b7,.cells #[iv (doC p.sto c),iv (doA p.sto c)] 84,.l,false⟩]/\Cg w.heap.size [] g w g' w') (by kernel_rfl) ?_ ?_
    .intro J hJ;refine Vl 6 11 12 (by kernel_rfl) ?_ ?_ ?_
     .have hB18:=hB.ch ((((((((c1.trans c2).trans c3).trans c4).trans c8).trans c11).trans c13).trans c14).trans c15) (by simp);refine qC 6 (CP p.sto c.k c.c c.s c.n c.v w15 (hB18.tn hT)) ?_;rintro e' w19 ⟨rfl,b19⟩;refine⟨_,rfl,b19,?_⟩;have c19:=Cg.ofBelow (B:=w.heap.size) (T:=[]) (g:=g15) b19;refine qR [] 4 [14,16,18,20] fun s20 g20 w20 c20=>?_;refine Cv 11 12 (by kernel_rfl) ?_ ?_
      .refine qR [] 6 [1,0,25,1,0,27,3,0,29,4,0,30] fun s21 g21 w21 c21=>?_;exact qB [true,true,true,true,true] fun z K0 K=>hJ _ _ _ z _ ⟨(s21 0),(s21 1),rfl,rfl,(((((((((((c1.trans c2).trans c3).trans c4).trans c8).trans c11).trans c13).trans c14).trans c15).trans c19).trans c20).trans c21)⟩ K
      .refine qR [] 6 [1,0,23,1,0,27,4,0,29,3,0,30] fun s22 g22 w22 c22=>?_;refine LC ?_;exact qB [true,true,true,true,true] fun z K0 K=>hJ _ _ _ z _ ⟨(s22 1),(s22 0),rfl,rfl,(((((((((((c1.trans c2).trans c3).trans c4).trans c8).trans c11).trans c13).trans c14).trans c15).trans c19).trans c20).trans c22)⟩ K
     .refine qR [] 1 [1,0] fun s23 g23 w23 c23=>?_;refine Cv 6 12 (by kernel_rfl) ?_ ?_
      .have hB25:=hB.ch (((((((((c1.trans c2).trans c3).trans c4).trans c8).trans c11).trans c13).trans c14).trans c15).trans c23) (by simp);refine qC 6 (CP p.sto c.k c.c c.s c.n c.v w23 (hB25.tn hT)) ?_;rintro e' w26 ⟨rfl,b26⟩;refine⟨_,rfl,b26,?_⟩;have c26:=Cg.ofBelow (B:=w.heap.size) (T:=[]) (g:=g23) b26;refine qR [] 9 [14,16,18,20,25,1,0,27,3,0,29,4,0,30] fun s27 g27 w27 c27=>?_;exact qB [true,true,true,true,true] fun z K0 K=>hJ _ _ _ z _ ⟨(s23 0),(s27 0),rfl,rfl,(((((((((((c1.trans c2).trans c3).trans c4).trans c8).trans c11).trans c13).trans c14).trans c15).trans c23).trans c26).trans c27)⟩ K
      .refine qR [] 1 [1,0] fun s28 g28 w28 c28=>?_;have hB29:=hB.ch ((((((((((c1.trans c2).trans c3).trans c4).trans c8).trans c11).trans c13).trans c14).trans c15).trans c23).trans c28) (by simp);refine qC 6 (CP p.sto c.k c.c c.s c.n c.v w28 (hB29.tn hT)) ?_;rintro e' w30 ⟨rfl,b30⟩;refine⟨_,rfl,b30,?_⟩;have c30:=Cg.ofBelow (B:=w.heap.size) (T:=[]) (g:=g28) b30;refine qR [] 8 [14,16,18,20,27,3,0,29,4,0,30] fun s31 g31 w31 c31=>?_;exact qB [true,true,true,true,true] fun z K0 K=>hJ _ _ _ z _ ⟨(s23 0),(s28 0),rfl,rfl,((((((((((((c1.trans c2).trans c3).trans c4).trans c8).trans c11).trans c13).trans c14).trans c15).trans c23).trans c28).trans c30).trans c31)⟩ K
     .refine qR [] 1 [1,0] fun s32 g32 w32 c32=>?_;refine Cv 6 11 (by kernel_rfl) ?_ ?_
      .have hB34:=hB.ch (((((((((c1.trans c2).trans c3).trans c4).trans c8).trans c11).trans c13).trans c14).trans c15).trans c32) (by simp);refine qC 6 (CP p.sto c.k c.c c.s c.n c.v w32 (hB34.tn hT)) ?_;rintro e' w35 ⟨rfl,b35⟩;refine⟨_,rfl,b35,?_⟩;have c35:=Cg.ofBelow (B:=w.heap.size) (T:=[]) (g:=g32) b35;refine qR [] 9 [14,16,18,20,23,1,0,27,4,0,29,3,0,30] fun s36 g36 w36 c36=>?_;refine LC ?_;exact qB [true,true,true,true,true] fun z K0 K=>hJ _ _ _ z _ ⟨(s36 0),(s32 0),rfl,rfl,(((((((((((c1.trans c2).trans c3).trans c4).trans c8).trans c11).trans c13).trans c14).trans c15).trans c32).trans c35).trans c36)⟩ K
      .refine qR [] 1 [1,0] fun s37 g37 w37 c37=>?_;have hB38:=hB.ch ((((((((((c1.trans c2).trans c3).trans c4).trans c8).trans c11).trans c13).trans c14).trans c15).trans c32).trans c37) (by simp);refine qC 6 (CP p.sto c.k c.c c.s c.n c.v w37 (hB38.tn hT)) ?_;rintro e' w39 ⟨rfl,b39⟩;refine⟨_,rfl,b39,?_⟩;have c39:=Cg.ofBelow (B:=w.heap.size) (T:=[]) (g:=g37) b39;refine qR [] 8 [14,16,18,20,27,4,0,29,3,0,30] fun s40 g40 w40 c40=>?_;refine LC ?_;exact qB [true,true,true,true,true] fun z K0 K=>hJ _ _ _ z _ ⟨(s37 0),(s32 0),rfl,rfl,((((((((((((c1.trans c2).trans c3).trans c4).trans c8).trans c11).trans c13).trans c14).trans c15).trans c32).trans c37).trans c39).trans c40)⟩ K
    .rintro g16 w16 _ z16 _ ⟨b6,b7,rfl,rfl,hcc⟩;refine qR [] 5 [2,4] fun s41 g41 w41 c41=>?_;rw[show p.sub0 i e0 c ts=(p,(ts++[⟨i,c.c,c.s,doC p.sto c,doA p.sto c⟩]))from(if_neg hdown).trans ((if_neg h2).trans (if_pos h3))];refine qS 3 [false,false,true,true,true] hN hO (hcc.n c41) (fun N42=>Pf N42 hts c (doC p.sto c) (doA p.sto c)) fun g42 w42 x42 lt42 tl42 hN42 hO42 c42=>?_;refine qR [] 1 [] fun s44 g44 w44 c44=>?_;exact qF hN42 hO42 c44 ((((hcc.nil (TN i)).n c41).trans (c42)).n c44)
   .refine qI ((decide (c∈p.agreed.take p.done))) false (by simpa using h3) ?_;refine qR [] 4 [2] fun s46 g46 w46 c46=>?_;rw[show p.sub0 i e0 c ts=(p.want c,ts)from(if_neg hdown).trans ((if_neg h2).trans (if_neg h3))];refine qS 2 [false,false,true] hN hO ((((((((c1.n c2).n c3).n c4).n c8).n c11).n c13).n c14).n c46) (fun N47=>Xu N47 h1 hw c) fun g47 w47 x47 lt47 tl47 hN47 hO47 c47=>?_;refine qR [] 1 [] fun s49 g49 w49 c49=>?_;exact qF hN47 hO47 c49 (((((((((((c1.nil (TN i)).n c2).n c3).n c4).n c8).n c11).n c13).n c14).n c46).trans (c47)).n c49)
 .refine qI ((!p.up)) true (by simpa using h1) ?_;refine qE (.tuple #[]) fun K=>?_;rw[show p.sub0 i e0 c ts=(p,ts)from if_pos (by simpa using h1)];exact⟨_,rfl,(nsC hN hO c1 K),(c1.nil (TN i))⟩
def ND(Q:Nat->Bool):Nat->Nat
 | 0=>0
 | k+1=>ND Q k+(Q k).toNat
theorem dF(Q:Nat->Bool):ND Q 5=aM Q:=by simp only[ND,aM];omega
theorem XI(Q:Nat->Bool)(k:Nat):ND Q k<=k:=by
 induction k with
 | zero=>exact Nat.le_refl _
 | succ k ih=>simp only[ND];cases Q k<;>simp<;>omega
theorem fB{P:Program}{W:World}{x y:Operand}{t:TypeId}(a b:Int)(hk:P.underlying t=some (.int .i64))(h:-9223372036854775808<=a*b/\a*b<=9223372036854775807):(do Go.eqGuard .mul t x y (iv a) (iv b);Go.binOp .mul t (iv a) (iv b):Sem Value).run P W=.ok (iv (a*b)) W:=by
 have hw:IntKind.i64.wrap (a*b)=a*b:=by rw[IntKind.wrap_i64];omega
 simp[Go.eqGuard,Go.binOp,go_sem,hw]
theorem PK{g:Gh}{w:World}{i nb ob:Nat}{p:Nod}{ls:List Let}{ts:List Tol}(h:NS i nb ob g w p ls ts) :
  Calls prog 102 #[pt nb 11] w fun e w'=>e=.returned (.bool p.rnd.enough)/\Bw w w':=by
 obtain⟨x,lt,tl,hN,hO,hg⟩:=h;refine gI (fn:=f102) (TN i) g func102 hg ?_;refine qN hN ?_;refine qO hO ?_;refine qR [] 18 [0] fun s1 g1 w1 c1=>?_;refine Br 20 [(3,iv 0),(9,.agg #[.bool (p.rnd.pro 0),.bool (p.rnd.pro 1),.bool (p.rnd.pro 2),.bool (p.rnd.pro 3),.bool (p.rnd.pro 4)]),(10,iv 0)] [false,false] [] (fun k g' w' e L=>∃ (k0 c:Nat),c=ND p.rnd.pro k0/\k=5-k0/\k0<=5/\e=[(3,iv (c:Int)),(9,.agg #[.bool (p.rnd.pro 0),.bool (p.rnd.pro 1),.bool (p.rnd.pro 2),.bool (p.rnd.pro 3),.bool (p.rnd.pro 4)]),(10,iv (k0:Int))]/\L=[]/\Cg w.heap.size [] g w g' w') (by kernel_rfl) (by kernel_rfl) (by kernel_rfl) (by kernel_rfl) 5 (fun K=>?_) ?_
 .exact⟨0,0,rfl,rfl,by omega,rfl,rfl,c1⟩
 .rintro k gr wr _ zr _ ⟨k0,c,hc,rfl,hk0,rfl,rfl,hC⟩ J hJ;have hcl:=XI p.rnd.pro k0;refine qR [] 5 [] fun s2 g2 w2 c2=>?_;by_cases h1:k0<5
  .refine qI ((decide ((k0:Int)<5))) true (decide_eq_true (by omega)) ?_;refine qR [] 5 [] fun s3 g3 w3 c3=>?_;refine Yb 0 (.bool (p.rnd.pro k0)) (fun K=>(by rcases five h1 with rfl|rfl|rfl|rfl|rfl<;>kernel_rfl)) (by kernel_rfl) ?_;refine qR [] 6 [] fun s4 g4 w4 c4=>?_;by_cases h2:p.rnd.pro k0=true
   .refine qI ((p.rnd.pro k0)) true h2 ?_;refine qR [] 2 [] fun s5 g5 w5 c5=>?_;refine qV 1 (iv ((c:Int)+1)) (AN (x:=(.tmp 14)) (y:=(.const (iv 1))) (c:Int) 1 underlying3 (by omega)) ?_;refine qR [] 4 [] fun s6 g6 w6 c6=>?_;refine qV 0 (iv ((k0:Int)+1)) (AN (x:=(.tmp 10)) (y:=(.const (iv 1))) (k0:Int) 1 underlying3 (by omega)) ?_;refine qR [] 2 [] fun s7 g7 w7 c7=>?_;exact qB [] fun z K0 K=>hJ (5-(k0+1)) _ _ _ z _ (by omega) ⟨k0+1,(c+1),by simp only[ND];rw[h2,hc];rfl,rfl,by omega,rfl,rfl,hC.trans (((((c2.trans c3).trans c4).trans c5).trans c6).trans c7)⟩ K
   .refine qI ((p.rnd.pro k0)) false (by simpa using h2) ?_;refine qR [] 3 [] fun s8 g8 w8 c8=>?_;refine qV 0 (iv ((k0:Int)+1)) (AN (x:=(.tmp 10)) (y:=(.const (iv 1))) (k0:Int) 1 underlying3 (by omega)) ?_;refine qR [] 2 [] fun s9 g9 w9 c9=>?_;exact qB [] fun z K0 K=>hJ (5-(k0+1)) _ _ _ z _ (by omega) ⟨k0+1,c,by simp only[ND];rw[(by simpa using h2:p.rnd.pro k0=false),hc];rfl,rfl,by omega,rfl,rfl,hC.trans ((((c2.trans c3).trans c4).trans c8).trans c9)⟩ K
  .refine qI ((decide ((k0:Int)<5))) false (decide_eq_false (by omega)) ?_;obtain rfl:k0=5:=by omega
   rw[dF]at hc hcl
   refine qR [] 4 [] fun s10 g10 w10 c10=>?_;refine qV 1 (iv (2*(c:Int))) (fB (x:=(.const (iv 2))) (y:=(.tmp 17)) 2 (c:Int) underlying3 (by omega)) ?_;refine qR [] 3 [] fun s11 g11 w11 c11=>?_;rw[show p.rnd.enough=decide ((5:Int)<2*(c:Int))from by unfold Rnd.enough;rw[<- hc];by_cases hx:5<2*c<;>simp[hx]<;>omega];exact qE (.bool (decide ((5:Int)<2*(c:Int)))) fun K=>⟨rfl,Cg.below (hC.trans ((c2.trans c10).trans c11)) (fun _ _=>List.not_mem_nil)⟩
structure Svv(w:World)(x:Value)(ls:List (List Vt)):Prop where
 ex:∃ a cap,x=.slice a ls.length cap/\(ls=[]\/∃ b off,a=some ⟨b,off,none⟩/\b<w.heap.size/\∀ (i:Nat) (l:List Vt),ls[i]?=some l->∃ y,w.cell? ⟨b,off+i,none⟩=some y/\Sv w y l)
 len:ls.length<=5864062014634
theorem Svv.below{w w':World}{x:Value}{ls:List (List Vt)}(h:Svv w x ls)(hb:Bw w w'):Svv w' x ls:=by
 obtain⟨⟨a,cap,rfl,h1⟩,h2⟩:=h;refine⟨⟨a,cap,rfl,?_⟩,h2⟩;rcases h1 with h1|⟨b,off,ha,hbs,hc⟩
 .exact .inl h1
 .refine .inr ⟨b,off,ha,Nat.lt_of_lt_of_le hbs hb.size,fun i l hi=>?_⟩;obtain⟨y,h3,h4⟩:=hc i l hi;exact⟨y,(hb.cell (p:=⟨b,off+i,none⟩) hbs).trans h3,h4.below hb⟩
theorem Svv.shape{w:World}{x:Value}{ls:List (List Vt)}(h:Svv w x ls):∃ a cap,x=.slice a ls.length cap:=by
 obtain⟨⟨a,cap,e,_⟩,_⟩:=h;exact⟨a,cap,e⟩
theorem Svv.spot{w:World}{a:Option Addr}{n cap:Nat}{ls:List (List Vt)}(h:Svv w (.slice a n cap) ls)(i:Nat)(l:List Vt)(hi:ls[i]?=some l):∃ b off y,a=some ⟨b,off,none⟩/\b<w.heap.size/\w.cell? ⟨b,off+i,none⟩=some y/\Sv w y l:=by
 obtain⟨⟨a',cap',e,h1⟩,_⟩:=h;simp only[Value.slice.injEq]at e;obtain⟨rfl,rfl,rfl⟩:=e;rcases h1 with rfl|⟨b,off,rfl,hb,hc⟩
 .simp at hi
 .obtain⟨y,h3,h4⟩:=hc i l hi;exact⟨b,off,y,rfl,hb,h3,h4⟩
theorem aV:prog.elem 216=75:=by kernel_rfl
theorem cL(w:World):(Go.sizeOf 75).run prog w=.ok 1 w:=by
 have h:=cS;cases hi:prog.info? 75 with
 | none=>rw[hi]at h;cases h
 | some i =>
  rw[hi]at h
  simp at h;simp[sizeOf,typeInfo,hi,h]
theorem T4(b o n c:Nat)(i:Nat)(hi:i<n)(w:World):(Instr.indexAt 216 (.slice (some ⟨b,o,none⟩) n c) (.int .i64 (i:Int))).run prog w=.ok (.pointer (some ⟨b,o+i,none⟩)) w:=by
 rw[run_indexAt_slice (P:=prog) w 216 _ n c .i64 _ underlying216,if_pos ⟨by omega,by omega⟩,aV,cL];simp[Result.andThen,Addr.add_mid]
theorem Xy{ops:Array Oper}{S:World->Prop}{op:Oper}{a:Act}(hw:Region.wanted op (yielded ops a.tmps)=true)(x y:Operand)(ho:op.op=.binOp .neq 74 x y 74)
  (r n r' n':Int)(hx:a.eval x=.agg #[.int .i64 r,.int .i64 n])(hy:a.eval y=.agg #[.int .i64 r',.int .i64 n']):YieldsIf prog ops S op (.bool (!decide (r=r'/\n=n'))) a :=
 .inl ⟨hw,fun w _=>by
  unfold execOp;simp only[ho,hx,hy,Sem.run_bind,run_eqGuard_agg (P:=prog) (w:=w) .neq 74 x y _ _ (by kernel_rfl),RF r n r' n' w,Result.andThen_ok,Sem.run_pure]⟩
theorem cm5:(prog.info? 54).map (·.size)=some 5:=by kernel_rfl
structure Bv(w:World)(g:Nat)(v:Vt):Prop where
 lt:g<w.heap.size
 row:w.heap[g]?=some (.cells (vtA v) 139 (0,0))
theorem Bv.mid{w:World}{g:Nat}{v:Vt}(h:Bv w g v):w.rangeAt g 1 [.int .i64 v.b.r,.int .i64 v.b.n]/\w.rangeAt g 3 [.int .i64 v.w.k,.int .i64 v.w.c,.int .i64 v.w.s,.int .i64 v.w.n,.int .i64 v.w.v]:=by
 obtain⟨c0,c1,c2,c3,c4,c5,c6,c7⟩:=Iz h.row;refine⟨QN (o:=1) c1 c2,fun j u hj=>?_⟩
 match j,hj with
 | 0,hj=>simp at hj;subst hj;exact c3
 | 1,hj=>simp at hj;subst hj;exact c4
 | 2,hj=>simp at hj;subst hj;exact c5
 | 3,hj=>simp at hj;subst hj;exact c6
 | 4,hj=>simp at hj;subst hj;exact c7
 | q+5,hj=>simp at hj
theorem Wf(x:Value)(ls:List (List Vt))(s:Int)(w:World)(h:Svv w x ls)(ht:NTab w) :
  Calls prog 139 #[x,.int .i64 s] w fun e w'=>e=.returned (.tuple #[.agg (cmC (GY ls s)),.bool (FV ls s),.int .i64 (Cp ls s)])/\Bw w w':=by
 have hlen:=h.len;obtain⟨ax,cp,rfl⟩:=h.shape;obtain⟨N,hN⟩:∃ N,ls.length=N:=⟨_,rfl⟩;have HN:Hid (ls.length=N):=hN;rw[hN]at h hlen ⊢
 clear hN;have hz5:(zV5:Array Value).all (·.oneCell')=true:=by simp[Value.oneCell']
 have rr:=heap_alloc_new w (.cells zV5 54);have bb:Bw w (w.alloc (.cells zV5 54)):=(Below.refl _ _).alloc (Nat.le_refl _) _;have z0:(w.alloc (.cells zV5 54)).heap.size=w.heap.size+1:=by simp
 generalize hW0:w.alloc (.cells zV5 54)=W0 at rr bb z0;have h0:=h.below bb;have t0:=ht.below bb;clear h ht;go_enter func139,ntmps139
 go_wp2_with fail
 clear hW0;refine(Gg s _).mono ?_;rintro e w1 ⟨rfl,rfl⟩;by_cases h1:0<=s/\s<=39
 .rw[decide_eq_true h1];have HS:Hid (0<=s/\s<=39):=h1;clear h1;have b0:Below (w.heap.size+1) w1 (w1.alloc (.cells zV8 139)):=(Below.refl _ _).alloc (by omega) _;have v0:(w1.alloc (.cells zV8 139)).heap[w.heap.size+1]?=some (.cells (vtA vt0) 139 (0,0)):=by rw[<- z0];exact heap_alloc_new _ _
  generalize hWA:w1.alloc (.cells zV8 139)=WA at b0 v0;go_wp2_with fail
  clear hWA;have hne:w.heap.size<w.heap.size+1:=by omega
  generalize hB:w.heap.size+1=B at b0 v0 z0 hne ⊢;have HB:Hid (B=w1.heap.size):=z0.symm;have hwB:w.heap.size+1=B:=hB;clear hB z0
  go_loopw [18] (fun iv wr=>∃ (j:Nat) (best:Vt),j<=N/\iv=.int .i64 (j:Int)/\wr.heap[B]?=some (.cells (vtA best) 139 (0,0))/\D8 (Cl (Al (ls.take j).flatten s) none) best/\(∀ l∈ls.take j,∀ v∈l,Am v)/\Below B w1 wr) (fun iv _=>((N:Int)-intOf iv).toNat)
  case atStart=>exact⟨0,vt0,by omega,rfl,v0,.inl ⟨rfl,rfl⟩,fun l hl=>by simp at hl,b0⟩
  case round =>
   clear v0 b0;obtain⟨j,best,hj,rfl,rB,hkv,hmay,hbel⟩:=hrel;have HKV:Hid (D8 (Cl (Al (ls.take j).flatten s) none) best):=hkv;have HMJ:Hid (∀ l∈ls.take j,∀ v∈l,Am v):=hmay;clear hkv hmay;by_cases hjN:j<N
   .have hji:(j:Int)<(N:Int):=by omega
    obtain⟨l,hl⟩:∃ l,ls[j]?=some l:=⟨_,List.getElem?_eq_getElem (by have:=HN.out;omega)⟩;obtain⟨b,off,y,rfl,ltb,hc0,hsy0⟩:=h0.spot j l hl;have hixS:=T4 b off N cp j hjN;obtain⟨ay,cy,hy⟩:=hsy0.shape;obtain⟨M,hM⟩:∃ M,l.length=M:=⟨_,rfl⟩;have HM:Hid (l.length=M):=hM;rw[hM]at hy
    subst hy;have HJ:Hid (ls[j]?=some l):=hl;have hMl:M<=2199023255488:=by have:=hsy0.len;omega
    have hc:=(hbel.cell (p:=⟨b,off+j,none⟩) (show b<B by rw[HB.out];exact ltb)).trans hc0;clear hl hM;go_wp2_with fail
    clear hc
    go_loopw [24] (fun kv wr=>∃ (k:Nat) (best:Vt),k<=M/\kv=.int .i64 (k:Int)/\wr.heap[B]?=some (.cells (vtA best) 139 (0,0))/\D8 (Cl (Al ((ls.take j).flatten++l.take k) s) none) best/\(∀ v∈l.take k,Am v)/\Below B w1 wr) (fun kv _=>((M:Int)-intOf kv).toNat)
    case atStart=>exact⟨0,best,by omega,rfl,rB,by simpa using HKV.out,fun v hv=>by simp at hv,hbel⟩
    case round =>
     clear HKV hbel rB;obtain⟨k,best,hk,rfl,rB,hkv,hmay,hbel⟩:=hrel;have HKV:Hid (D8 (Cl (Al ((ls.take j).flatten++l.take k) s) none) best):=hkv;have HMK:Hid (∀ v∈l.take k,Am v):=hmay;clear hkv hmay;have hsz:=hbel.size;have ltB:B<wr.heap.size:=(Array.getElem?_eq_some_iff.1 rB).1;by_cases hkM:k<M
     .have hki:(k:Int)<(M:Int):=by omega
      obtain⟨u,hu⟩:∃ u,l[k]?=some u:=⟨_,List.getElem?_eq_getElem (by have:=HM.out;omega)⟩;obtain⟨b2,o2,rfl,ltb2,hr0⟩:=hsy0.spot k u hu;have hr:=Gn hbel (show b2<B by rw[HB.out];exact ltb2) hr0;have hix:=Dk b2 o2 M cy k hkM;have HU:Hid (l[k]?=some u):=hu;have hi:=Iq u;clear hu hr0;obtain⟨us,⟨ur,un⟩,⟨uk,uc,uq,um,ux⟩⟩:=u;simp only[vtC]at hr hi;have bN:Bw wr (wr.alloc (.cells zV8 139)):=(Below.refl _ _).alloc (Nat.le_refl _) _;have rN:=heap_alloc_new wr (.cells zV8 139);have hi2:(prog.info? 139).map (·.size)=some (#[.int .i64 us,.int .i64 ur,.int .i64 un,.int .i64 uk,.int .i64 uc,.int .i64 uq,.int .i64 um,.int .i64 ux]:Array Value).size:=hi;have hone:(#[.int .i64 us,.int .i64 ur,.int .i64 un,.int .i64 uk,.int .i64 uc,.int .i64 uq,.int .i64 um,.int .i64 ux]:Array Value).all (·.oneCell')=true:=by simp[Value.oneCell']
      generalize hWN:wr.alloc (.cells zV8 139)=WN at bN rN
      go_upto_region 10 with((with_reducible (refine Ar ?_));first|(refine wpList_load_mid rfl 139 _ rfl b2 (o2+8*k) rfl [.int .i64 us,.int .i64 ur,.int .i64 un,.int .i64 uk,.int .i64 uc,.int .i64 uq,.int .i64 um,.int .i64 ux] _ hr underlying139 rfl hi ?_)|(refine wpList_store_row rfl 139 (.tmp 11) (.tmp 27) rfl wr.heap.size (#[.int .i64 us,.int .i64 ur,.int .i64 un,.int .i64 uk,.int .i64 uc,.int .i64 uq,.int .i64 um,.int .i64 ux]) rfl rfl 139 _ rN hi2 rfl hone ?_))
      clear hWN;have q:=setRow_heap WN wr.heap.size _ (#[.int .i64 us,.int .i64 ur,.int .i64 un,.int .i64 uk,.int .i64 uc,.int .i64 uq,.int .i64 um,.int .i64 ux]) 139 _ rN;replace bN:=Ai bN (Nat.le_refl _) (#[.int .i64 us,.int .i64 ur,.int .i64 un,.int .i64 uk,.int .i64 uc,.int .i64 uq,.int .i64 um,.int .i64 ux]);generalize WN.setRow wr.heap.size (#[.int .i64 us,.int .i64 ur,.int .i64 un,.int .i64 uk,.int .i64 uc,.int .i64 uq,.int .i64 um,.int .i64 ux])=W at q bN ⊢;have ltG:wr.heap.size<W.heap.size:=(Array.getElem?_eq_some_iff.1 q).1;have rBW:=(bN.block B ltB).trans rB;have eW:=hbel.trans (bN.mono (by omega));have tW:=t0.below (eW.mono (by rw[<- HB.out];exact Nat.le_refl _));obtain⟨G,hG⟩:∃ G,G=wr.heap.size:=⟨_,rfl⟩;rw[<- hG]at q ltG ltB ⊢
      clear rN hr hix hi2 bN rB hbel hsz hG;go_wp2_with ((with_reducible (refine Ar ?_));refine wpList_load_row rfl 139 _ rfl G rfl 139 _ (0,0) _ q underlying139 rfl hi ?_)
      refine(GR ⟨us,⟨ur,un⟩,⟨uk,uc,uq,um,ux⟩⟩ W tW).mono ?_;rintro e W2 ⟨rfl,b2⟩;have e2:=eW.trans (b2.mono (by have:=eW.size;have:=HB.out;omega));have q2:=(b2.block _ ltG).trans q;have rB2:=(b2.block B (by omega)).trans rBW;have ltG2:G<W2.heap.size:=Nat.lt_of_lt_of_le ltG b2.size;have x0:W2.cell? ⟨G,0,none⟩=some (.int .i64 us):=cell_of_row _ _ 0 _ _ _ q2;have x1:W2.cell? ⟨G,1,none⟩=some (.int .i64 ur):=cell_of_row _ _ 1 _ _ _ q2;have x2:W2.cell? ⟨G,2,none⟩=some (.int .i64 un):=cell_of_row _ _ 2 _ _ _ q2;clear b2 q eW tW rBW ltG;by_cases hv:Am ⟨us,⟨ur,un⟩,⟨uk,uc,uq,um,ux⟩⟩
      .rw[decide_eq_true hv];have HMK1:Hid (∀ v∈l.take (k+1),Am v):=Xe HU.out HMK.out hv;have hvb:Ad ⟨ur,un⟩:=hv.2.1;by_cases hus:us=s
       .have HT:Hid (Al ((ls.take j).flatten++l.take (k+1)) s=Al ((ls.take j).flatten++l.take k) s++[(⟨us,⟨ur,un⟩,⟨uk,uc,uq,um,ux⟩⟩:Vt)]):=by
         unfold Hid;rw[D3 l k _ HU.out,<- List.append_assoc,IF,if_pos hus]
        have HK1:Hid (D8 (Cl (Al ((ls.take j).flatten++l.take (k+1)) s) none) (if best.b.lt ⟨ur,un⟩then⟨us,⟨ur,un⟩,⟨uk,uc,uq,um,ux⟩⟩else best)):=by
         unfold Hid;rw[HT.out,Pw];exact HKV.out.next (v:=⟨us,⟨ur,un⟩,⟨uk,uc,uq,um,ux⟩⟩) hvb
        obtain⟨bs,⟨br,bn⟩,⟨bk,bc,bq,bm,bx⟩⟩:=best;have y1:W2.cell? ⟨B,1,none⟩=some (.int .i64 br):=cell_of_row _ _ 1 _ _ _ rB2;have y2:W2.cell? ⟨B,2,none⟩=some (.int .i64 bn):=cell_of_row _ _ 2 _ _ _ rB2;clear hv hvb HT HKV HMK;subst hus;go_wp2_with fail
        refine(Dq ⟨br,bn⟩ ⟨ur,un⟩ W2).mono ?_;rintro e W3 ⟨rfl,b3⟩;have e3:=e2.trans (b3.mono (by have:=e2.size;have:=HB.out;omega));have q3:=(b3.block _ ltG2).trans q2;have rB3:=(b3.block B (by omega)).trans rB2;clear b3 x0 x1 x2 y1 y2 q2 rB2;by_cases hlt:Bal.lt ⟨br,bn⟩ ⟨ur,un⟩
        .rw[decide_eq_true hlt];have HK2:Hid (D8 (Cl (Al ((ls.take j).flatten++l.take (k+1)) us) none) ⟨us,⟨ur,un⟩,⟨uk,uc,uq,um,ux⟩⟩):=by
          have g:=HK1.out;rw[if_pos hlt]at g
          exact g
         clear hlt HK1;go_wp2_with ((with_reducible (refine Ar ?_));first|(refine wpList_load_row rfl 139 (.tmp 11) rfl G rfl 139 _ (0,0) _ q3 underlying139 rfl hi ?_)|(refine wpList_store_row rfl 139 (.tmp 7) (.tmp 43) rfl B (#[.int .i64 us,.int .i64 ur,.int .i64 un,.int .i64 uk,.int .i64 uc,.int .i64 uq,.int .i64 um,.int .i64 ux]) rfl rfl 139 _ rB3 hi rfl hone ?_))
         have rB4:=setRow_heap W3 B _ (#[.int .i64 us,.int .i64 ur,.int .i64 un,.int .i64 uk,.int .i64 uc,.int .i64 uq,.int .i64 um,.int .i64 ux]) 139 _ rB3;have e4:=Ai e3 (Nat.le_refl _) (#[.int .i64 us,.int .i64 ur,.int .i64 un,.int .i64 uk,.int .i64 uc,.int .i64 uq,.int .i64 um,.int .i64 ux]);go_roundw
         case rel=>exact⟨k+1,⟨us,⟨ur,un⟩,⟨uk,uc,uq,um,ux⟩⟩,by omega,by go_num,rB4,HK2.out,HMK1.out,e4⟩
         case measure=>simp[intOf];omega
        .rw[decide_eq_false hlt];have HK2:Hid (D8 (Cl (Al ((ls.take j).flatten++l.take (k+1)) us) none) ⟨bs,⟨br,bn⟩,⟨bk,bc,bq,bm,bx⟩⟩):=by
          have g:=HK1.out;rw[if_neg hlt]at g
          exact g
         clear hlt HK1;go_wp2
         go_roundw
         case rel=>exact⟨k+1,⟨bs,⟨br,bn⟩,⟨bk,bc,bq,bm,bx⟩⟩,by omega,by go_num,rB3,HK2.out,HMK1.out,e3⟩
         case measure=>simp[intOf];omega
       .have HT:Hid (Al ((ls.take j).flatten++l.take (k+1)) s=Al ((ls.take j).flatten++l.take k) s):=by
         unfold Hid;rw[D3 l k _ HU.out,<- List.append_assoc,IF,if_neg hus,List.append_nil]
        clear hv hvb;go_wp2
        go_roundw
        case rel=>exact⟨k+1,best,by omega,by go_num,rB2,by rw[HT.out];exact HKV.out,HMK1.out,e2⟩
        case measure=>simp[intOf];omega
      .rw[decide_eq_false hv];have HF:Hid (GY ls s=⟨0,0,0,0,0⟩/\FV ls s=false/\Cp ls s=5):=QE HS.out (fun g=>hv (g l (List.mem_iff_getElem?.2 ⟨j,HJ.out⟩) _ (List.mem_iff_getElem?.2 ⟨k,HU.out⟩)));clear hv;have rR:=(e2.block w.heap.size (by have:=HB.out;omega)).trans rr;go_wp2_with ((with_reducible (refine Ar ?_));refine wpList_store_row rfl 54 (.tmp 4) (.tmp 31) rfl w.heap.size zV5 rfl rfl 54 _ rR cm5 rfl hz5 ?_)
       have q9:=setRow_heap W2 w.heap.size _ (zV5) 54 _ rR;have d9:=Ai (bb.trans (e2.mono (by have:=HB.out;omega))) (Nat.le_refl _) (zV5);refine bodyPost_ret (IH rfl _ _ w.heap.size 54 _ (0,0) _ rfl q9 underlying54 rfl cm5) rfl ?_;rw[HF.out.1,HF.out.2.1,HF.out.2.2];exact⟨rfl,d9⟩
     .have HK1:Hid (D8 (Cl (Al (ls.take (j+1)).flatten s) none) best):=by
       have g:=HKV.out;rw[show l.take k=l from List.take_of_length_le (by have:=HM.out;omega)]at g
       unfold Hid;rw[TU ls j l HJ.out];exact g
      have HM1:Hid (∀ l∈ls.take (j+1),∀ v∈l,Am v):=by
       have g:=HMK.out;rw[show l.take k=l from List.take_of_length_le (by have:=HM.out;omega)]at g
       exact Xd HJ.out HMJ.out g
      clear HKV HMK HMJ;go_wp2
      go_roundw
      case rel=>exact⟨j+1,best,by omega,by go_num,rB,HK1.out,HM1.out,hbel⟩
      case measure=>simp[intOf];omega
   .have HF:Hid (GY ls s=best.w/\FV ls s=!decide (best.b.r=0/\best.b.n=0)/\Cp ls s=0):=by
     have g:=HKV.out;have g2:=HMJ.out;rw[List.take_of_length_le (by have:=HN.out;omega)]at g g2
     exact g.pick HS.out g2
    obtain⟨bs,⟨br,bn⟩,⟨bk,bc,bq,bm,bx⟩⟩:=best;clear HKV HMJ;have rR:=(hbel.block w.heap.size (by have:=HB.out;omega)).trans rr;have dr:=bb.trans (hbel.mono (by have:=HB.out;omega));have hone5:(#[.int .i64 bk,.int .i64 bc,.int .i64 bq,.int .i64 bm,.int .i64 bx]:Array Value).all (·.oneCell')=true:=by simp[Value.oneCell']
    go_wp2_with fail
    apply YD (fun W2=>W2.heap[w.heap.size]?=some (.cells #[.int .i64 bk,.int .i64 bc,.int .i64 bq,.int .i64 bm,.int .i64 bx] 54 (0,0))/\Bw w W2)
    .intro K2 HK2;have S0:Hid (∀ w':World,w'.heap[B]?=some (.cells (vtA ⟨bs,⟨br,bn⟩,⟨bk,bc,bq,bm,bx⟩⟩) 139 (0,0))->w'.rangeAt B 1 [.int .i64 br,.int .i64 bn]/\w'.rangeAt B 3 [.int .i64 bk,.int .i64 bc,.int .i64 bq,.int .i64 bm,.int .i64 bx]):=fun w' h'=>Bv.mid (v:=⟨bs,⟨br,bn⟩,⟨bk,bc,bq,bm,bx⟩⟩) ⟨(Array.getElem?_eq_some_iff.1 h').1,h'⟩;refine wp_region_held (S:=fun w'=>w'.heap[B]?=some (.cells (vtA ⟨bs,⟨br,bn⟩,⟨bk,bc,bq,bm,bx⟩⟩) 139 (0,0))) (by kernel_rfl) ?_;have hS0:(fun w':World=>w'.heap[B]?=some (.cells (vtA ⟨bs,⟨br,bn⟩,⟨bk,bc,bq,bm,bx⟩⟩) 139 (0,0))) wr.drew:=rB;have rRd:wr.drew.heap[w.heap.size]?=some (.cells zV5 54 (0,0)):=rR;have rBd:wr.drew.heap[B]?=some (.cells (vtA ⟨bs,⟨br,bn⟩,⟨bk,bc,bq,bm,bx⟩⟩) 139 (0,0)):=rB;refine Af (i:=0) 46 (v:=.pointer (some ⟨B,3,none⟩)) rfl rfl (by kernel_rfl) (by kernel_rfl) (by kernel_rfl) (fun _ _ _ h=>h) (Or.inl ⟨by rfl,fun _ _=>by kernel_rfl⟩) hS0 ?_;simp only[Act.put,List.setIfInBounds_toArray,List.set_cons_zero,List.set_cons_succ];refine Af (i:=1) 47 (v:=.agg #[.int .i64 bk,.int .i64 bc,.int .i64 bq,.int .i64 bm,.int .i64 bx]) rfl rfl (by kernel_rfl) (by kernel_rfl) (by kernel_rfl) (fun _ _ _ h=>h) (yieldsIf_load_mid (by rfl) 54 (.tmp 46) rfl B 3 rfl [.int .i64 bk,.int .i64 bc,.int .i64 bq,.int .i64 bm,.int .i64 bx] _ (fun w' hw'=>(S0.out w' hw').2) underlying54 rfl cm5) hS0 ?_;simp only[Act.put,List.setIfInBounds_toArray,List.set_cons_zero,List.set_cons_succ];refine Af (i:=2) 48 (v:=.pointer (some ⟨B,1,none⟩)) rfl rfl (by kernel_rfl) (by kernel_rfl) (by kernel_rfl) (fun _ _ _ h=>h) (Or.inl ⟨by rfl,fun _ _=>by kernel_rfl⟩) hS0 ?_;simp only[Act.put,List.setIfInBounds_toArray,List.set_cons_zero,List.set_cons_succ];refine Af (i:=3) 49 (v:=.agg #[.int .i64 br,.int .i64 bn]) rfl rfl (by kernel_rfl) (by kernel_rfl) (by kernel_rfl) (fun _ _ _ h=>h) (yieldsIf_load_mid (by rfl) 74 (.tmp 48) rfl B 1 rfl [.int .i64 br,.int .i64 bn] _ (fun w' hw'=>(S0.out w' hw').1) underlying74 rfl J9) hS0 ?_;simp only[Act.put,List.setIfInBounds_toArray,List.set_cons_zero,List.set_cons_succ];refine Af (i:=4) 50 (v:=.agg #[.int .i64 0,.int .i64 0]) rfl rfl (by kernel_rfl) (by kernel_rfl) (by kernel_rfl) (fun _ _ _ h=>h) (Or.inl ⟨by rfl,fun _ _=>by kernel_rfl⟩) hS0 ?_;simp only[Act.put,List.setIfInBounds_toArray,List.set_cons_zero,List.set_cons_succ];refine Af (i:=5) 51 (v:=.bool (!decide (br=0/\bn=0))) rfl rfl (by kernel_rfl) (by kernel_rfl) (by kernel_rfl) (fun _ _ _ h=>h) (Xy (by rfl) (.tmp 49) (.tmp 50) rfl br bn 0 0 rfl rfl) hS0 ?_;simp only[Act.put,List.setIfInBounds_toArray,List.set_cons_zero,List.set_cons_succ];refine Bz (i:=6) (by kernel_rfl) (GW (i:=6) rfl (by kernel_rfl) rfl 54 (.tmp 4) (.tmp 47) rfl w.heap.size #[.int .i64 bk,.int .i64 bc,.int .i64 bq,.int .i64 bm,.int .i64 bx] (by kernel_rfl) (by kernel_rfl) 54 _ rRd cm5 rfl hone5 ⟨(setRow_other _ _ _ _ (by omega)).trans rBd,?_⟩);refine Af (i:=7) 5 (v:=.bool (!decide (br=0/\bn=0))) rfl rfl (by kernel_rfl) (by kernel_rfl) (by kernel_rfl) (fun _ _ _ h=>h) (Or.inl ⟨by rfl,fun _ _=>by kernel_rfl⟩) ((setRow_other _ _ _ _ (by omega)).trans rBd) ?_;simp only[Act.put,List.setIfInBounds_toArray,List.set_cons_zero,List.set_cons_succ];refine Af (i:=8) 6 (v:=.int .i64 0) rfl rfl (by kernel_rfl) (by kernel_rfl) (by kernel_rfl) (fun _ _ _ h=>h) (Or.inl ⟨by rfl,fun _ _=>by kernel_rfl⟩) ((setRow_other _ _ _ _ (by omega)).trans rBd) ?_;simp only[Act.put,List.setIfInBounds_toArray,List.set_cons_zero,List.set_cons_succ];exact wpAnyH_done (by kernel_rfl) (HK2.out _ ⟨setRow_heap _ _ _ _ _ _ rRd,Ai dr.drew (Nat.le_refl _) _⟩) _
    intro W2 hW2;obtain⟨q9,d9⟩:=hW2;clear rR rB hbel;generalize hbz:(!decide (br=0/\bn=0))=bz at HF;go_wp2
    refine bodyPost_ret (IH rfl _ _ w.heap.size 54 _ (0,0) _ rfl q9 underlying54 rfl cm5) rfl ?_;rw[HF.out.1,HF.out.2.1,HF.out.2.2];exact⟨rfl,d9⟩
 .rw[decide_eq_false h1];have HF:Hid (GY ls s=⟨0,0,0,0,0⟩/\FV ls s=false/\Cp ls s=2):=Wj h1;clear h1;go_wp2_with ((with_reducible (refine Ar ?_));refine wpList_store_row rfl 54 (.tmp 4) (.tmp 15) rfl w.heap.size zV5 rfl rfl 54 _ rr cm5 rfl hz5 ?_)
  have q9:=setRow_heap w1 w.heap.size _ (zV5) 54 _ rr;have d9:=Ai bb (Nat.le_refl _) (zV5);refine bodyPost_ret (IH rfl _ _ w.heap.size 54 _ (0,0) _ rfl q9 underlying54 rfl cm5) rfl ?_;rw[HF.out.1,HF.out.2.1,HF.out.2.2];exact⟨rfl,d9⟩
def gz:Gh:=⟨fun _=>.z,fun _=>0⟩
theorem Ds{b:Nat}:gz.t b∉([.n 60 0]:List Tg):=by simp[gz]
def Ol(x:NX)(k:Nat):List Value:=(List.range k).map fun j=>S3.v (x.hv j)
theorem Tc(x:NX)(k:Nat):Ol x (k+1)=Ol x k++[S3.v (x.hv k)]:=by unfold Ol;rw[List.range_succ,List.map_append];rfl
theorem YC{g:Gh}{w:World}{τ:Tg}{e:TypeId}{y:S3}{x:NX}{r:Rnd}(h:OwnS g w τ false e 1 y (Ol x 5))(hs:∀ j,j<5->Sv w (x.hv j).v (r.heard j).vs):Svv w y.v (r.accs.map (·.vs)):=by
 have hl:=h.len;have hn:y.n=5:=by simp[Ol]at hl;omega
 obtain⟨b,hb,hbs,_⟩:=h.cell (j:=0) (u:=S3.v (x.hv 0)) rfl;refine⟨⟨y.a,y.c,by unfold S3.v;rw[hn];rfl,.inr ⟨b,0,hb,hbs,fun j l hj=>?_⟩⟩,by show 5<=5864062014634;decide⟩;have hj5:j<5:=by have:=(List.getElem?_eq_some_iff.1 hj).1;exact this
 have hlj:(Ol x 5)[j]?=some (S3.v (x.hv j)):=by rcases five hj5 with rfl|rfl|rfl|rfl|rfl<;>rfl
 obtain⟨b',hb',_,hc⟩:=h.cell hlj;rw[hb]at hb'
 simp only[Option.some.injEq,Addr.mk.injEq,and_true]at hb';subst hb';refine⟨S3.v (x.hv j),by rw[Nat.zero_add];exact hc,?_⟩;have h2:=hs j hj5;rcases five hj5 with rfl|rfl|rfl|rfl|rfl<;>(simp[Rnd.accs]at hj;subst hj;exact h2)
theorem SI{l:List Cmd}{f:Cmd->Bool}{j:Nat}{c:Cmd}(h:l[j]?=some c):(l.drop j).find? f=if f c then some c else(l.drop (j+1)).find? f:=by
 rw[CT h,List.find?_cons];split<;>simp_all
theorem Jg{g:Gh}{w:World}{i nb ob:Nat}{p:Nod}{ls:List Let}{ts:List Tol}(h:NS i nb ob g w p ls ts){w0:World}(hB:Base w0 g w)(hT:Tabs w0)(s:Nat)(hq:p.rnd.queue.length<100000000)(hba:p.agreed.length<100000000) :
  Calls prog 103 #[pt nb 0,iv (s:Int)] w fun e w'=>e=.returned (.tuple #[.agg (cmC ((p.nextC s).getD S2)),.bool (p.nextC s).isSome])/\Bw w w':=by
 obtain⟨x,lt,tl,hN,hO,hg⟩:=h;have hQ:=hN.queue.rd;have hA:=hN.agreed.rd;have hqn:=hQ.len;have hH:∀ j,j<5->Sv w (x.hv j).v (p.rnd.heard j).vs:=fun j hj=>(hN.heard j hj).s;have hB1:Base w0 gz w:=⟨hB.b,fun _ _=>rfl⟩;refine gI (fn:=f103) [.n 60 0] gz func103 (fun _ _=>⟨rfl,rfl⟩) ?_;refine BF ⟨nb,.cells (Ax i ob p x) 96,.z,false⟩ (fun _=>⟨hN.row,rfl,fun h=>(by cases h),fun h=>absurd rfl h⟩) (by kernel_rfl) ?_;refine qR [] 21 [1,0,0] fun s1 g1 w1 c1=>?_;refine Br 63 [(0,pt nb 0),(1,iv (s:Int)),(4,pt (s1 0) 0),(6,sn),(19,.agg #[iv ((p.rnd.heard 0).p.r),iv ((p.rnd.heard 0).p.n),S3.v (x.hv 0),iv ((p.rnd.heard 1).p.r),iv ((p.rnd.heard 1).p.n),S3.v (x.hv 1),iv ((p.rnd.heard 2).p.r),iv ((p.rnd.heard 2).p.n),S3.v (x.hv 2),iv ((p.rnd.heard 3).p.r),iv ((p.rnd.heard 3).p.n),S3.v (x.hv 3),iv ((p.rnd.heard 4).p.r),iv ((p.rnd.heard 4).p.n),S3.v (x.hv 4)]),(20,iv 0)] [true,true] [⟨nb,.cells (Ax i ob p x) 96,.z,false⟩,⟨(s1 0),.cells #[iv 0,iv 0,iv 0,iv 0,iv 0] 54,.l,false⟩] (fun k g' w' e L=>∃ (k0:Nat) (y:S3),k=5-k0/\k0<=5/\e=[(0,pt nb 0),(1,iv (s:Int)),(4,pt (s1 0) 0),(6,S3.v y),(19,.agg #[iv (p.rnd.heard 0).p.r,iv (p.rnd.heard 0).p.n,S3.v (x.hv 0),iv (p.rnd.heard 1).p.r,iv (p.rnd.heard 1).p.n,S3.v (x.hv 1),iv (p.rnd.heard 2).p.r,iv (p.rnd.heard 2).p.n,S3.v (x.hv 2),iv (p.rnd.heard 3).p.r,iv (p.rnd.heard 3).p.n,S3.v (x.hv 3),iv (p.rnd.heard 4).p.r,iv (p.rnd.heard 4).p.n,S3.v (x.hv 4)]),(20,iv (k0:Int))]/\L=[⟨nb,.cells (Ax i ob p x) 96,.z,false⟩,⟨(s1 0),.cells #[iv 0,iv 0,iv 0,iv 0,iv 0] 54,.l,false⟩]/\OwnS g' w' (.n 60 0) false 75 1 y (Ol x k0)/\Cg w.heap.size [.n 60 0] gz w g' w') (by kernel_rfl) (by kernel_rfl) (by kernel_rfl) (by kernel_rfl) 5 (fun K=>?_) ?_
 .exact⟨0,s30,rfl,by omega,rfl,rfl,OwnS.nil _ _ _ _ _ _,(c1.nil [.n 60 0])⟩
 .rintro k gr wr _ zr _ ⟨k0,y,rfl,hk0,rfl,rfl,hy,hC⟩ J hJ;refine qR [] 5 [] fun s2 g2 w2 c2=>?_;by_cases h1:k0<5
  .refine qI ((decide ((k0:Int)<5))) true (decide_eq_true (by omega)) ?_;refine qR [] 5 [] fun s3 g3 w3 c3=>?_;refine Yb 0 (.agg #[iv (p.rnd.heard k0).p.r,iv (p.rnd.heard k0).p.n,S3.v (x.hv k0)]) (fun K=>(by rcases five h1 with rfl|rfl|rfl|rfl|rfl<;>kernel_rfl)) (by kernel_rfl) ?_;refine qR [] 8 [0,0,2,0,2,0,0] fun s4 g4 w4 c4=>?_;have hyn:y.n=k0:=by have:=hy.len;simp[Ol]at this;omega
   refine Jd 4 (x:=y) 216 216 75 1 24 (.slice none 0 0) ⟨(s4 1),0,none⟩ 1 1 [S3.v (x.hv k0)] (((hy.ch c2).ch c3).ch c4) (by kernel_rfl) (by kernel_rfl) (by kernel_rfl) underlying216 (by kernel_rfl) (by kernel_rfl) (by decide) (by decide) rfl (by simp[Value.oneCell']) (fun K=>BW K 3 (s4 1) [S3.v (x.hv k0)] 75 .z true (by kernel_rfl)) (by unfold maxLen;omega) (by omega) ?_;intro y5 g5 w5 a5 n5 cc5 G5;have c5:=cc5 w.heap.size [.n 60 0] (List.mem_singleton.2 rfl);refine qR [] 4 [] fun s6 g6 w6 c6=>?_;refine qV 0 (iv ((k0:Int)+1)) (AN (x:=(.tmp 20)) (y:=(.const (iv 1))) (k0:Int) 1 underlying3 (by omega)) ?_;refine qR [] 2 [] fun s7 g7 w7 c7=>?_;exact qB [true,true,false,false] fun z K0 K=>hJ (5-(k0+1)) _ _ _ z _ (by omega) ⟨k0+1,y5,rfl,by omega,rfl,rfl,(by rw[Tc];exact((a5.ch c6).ch c7)),((((((hC.n c2).n c3).n c4).trans c5).n c6).n c7)⟩ K
  .refine qI ((decide ((k0:Int)<5))) false (decide_eq_false (by omega)) ?_;obtain rfl:k0=5:=by omega
   refine qR [] 5 [] fun s8 g8 w8 c8=>?_;have hD:=((hC.n c2).n c8);have hS:=YC (r:=p.rnd) ((hy.ch c2).ch c8) (fun j hj=>(hH j hj).below (hD.below (fun _ _=>Ds)));refine qC 2 (Wf _ _ (s:Int) w8 hS ((hB1.ch hD).tn hT)) ?_;rintro e' w9 ⟨rfl,b9⟩;refine⟨_,rfl,b9,?_⟩;have c9:=Cg.ofBelow (B:=w.heap.size) (T:=[]) (g:=g8) b9;refine qR [] 15 [0,0,2,0] fun s10 g10 w10 c10=>?_;by_cases h2:(Cp (p.rnd.accs.map (·.vs)) (s:Int))≠0
   .refine qI (((Cp (p.rnd.accs.map (·.vs)) (s:Int)) != 0)) true (by simpa using h2) ?_;refine qR [] 6 [1,0] fun s11 g11 w11 c11=>?_;rw[show p.nextC s=none from if_pos h2];exact qE2 4 5 54 1 (s1 0) (cmC S2) (.bool false) fun K=>⟨rfl,Cg.below (((((hC.n c2).n c8).n c9).n c10).n c11) (fun _ _=>Ds)⟩
   .refine qI (((Cp (p.rnd.accs.map (·.vs)) (s:Int)) != 0)) false (by simpa using h2) ?_;refine qR [] 6 [] fun s12 g12 w12 c12=>?_;by_cases h3:(FV (p.rnd.accs.map (·.vs)) (s:Int))=true
    .refine qI ((FV (p.rnd.accs.map (·.vs)) (s:Int))) true h3 ?_;refine qR [] 6 [2,1,0] fun s13 g13 w13 c13=>?_;rw[show p.nextC s=some (GY (p.rnd.accs.map (·.vs)) (s:Int))from(if_neg h2).trans (if_pos h3)];exact qE2 4 5 54 1 (s1 0) (cmC (GY (p.rnd.accs.map (·.vs)) (s:Int))) (.bool true) fun K=>⟨rfl,Cg.below ((((((hC.n c2).n c8).n c9).n c10).n c12).n c13) (fun _ _=>Ds)⟩
    .refine qI ((FV (p.rnd.accs.map (·.vs)) (s:Int))) false (by simpa using h3) ?_;refine qR [] 14 [0] fun s14 g14 w14 c14=>?_;have hX:p.nextC s=p.rnd.queue.find? (fun c=>decide (c∉p.agreed)):=(if_neg h2).trans (if_neg h3);refine Br 63 [(0,pt nb 0),(4,pt (s1 0) 0),(46,S3.v x.queue),(47,iv (x.queue.n:Int)),(48,iv 0)] [true,true,false] [⟨nb,.cells (Ax i ob p x) 96,.z,false⟩,⟨(s1 0),.cells #[iv 0,iv 0,iv 0,iv 0,iv 0] 54,.l,false⟩] (fun k g' w' e L=>∃ j:Nat,k=p.rnd.queue.length-j/\j<=p.rnd.queue.length/\e=[(0,pt nb 0),(4,pt (s1 0) 0),(46,S3.v x.queue),(47,iv (x.queue.n:Int)),(48,iv (j:Int))]/\L=[⟨nb,.cells (Ax i ob p x) 96,.z,false⟩,⟨(s1 0),.cells #[iv 0,iv 0,iv 0,iv 0,iv 0] 54,.l,false⟩]/\(p.rnd.queue.drop j).find? (fun c=>decide (c∉p.agreed))=p.nextC s/\Cg w.heap.size [.n 60 0] gz w g' w') (by kernel_rfl) (by kernel_rfl) (by kernel_rfl) (by kernel_rfl) p.rnd.queue.length (fun K=>?_) ?_
     .exact⟨0,rfl,by omega,rfl,rfl,by rw[hX];rfl,((((((hC.n c2).n c8).n c9).n c10).n c12).n c14)⟩
     .rintro k gr wr _ zr _ ⟨j,rfl,hj,rfl,rfl,hI,hC2⟩ J hJ;refine qR [] 5 [] fun s15 g15 w15 c15=>?_;by_cases h4:j<p.rnd.queue.length
      .refine qI ((decide ((j:Int)<(x.queue.n:Int)))) true (decide_eq_true (by omega)) ?_;obtain⟨c,hcj⟩:∃ c,p.rnd.queue[j]?=some c:=⟨_,List.getElem?_eq_getElem h4⟩;obtain⟨bx,ox,hxa⟩:=hQ.addr h4;rw[SI hcj]at hI
       refine qR [] 5 [] fun s16 g16 w16 c16=>?_;refine qV 0 (pt bx (ox+5*j)) (OH hxa j (by omega)) ?_;have hQr:=hQ.below (((hC2.n c15).n c16).below (fun _ _=>Ds));refine qV 1 (.agg #[iv c.k,iv c.c,iv c.s,iv c.n,iv c.v]) (Wp c fun q_ u hu=>hQr.cellAt hxa hcj hu) ?_;refine qR [] 11 [0,0,2,0,8,0,2,4,6,8,0,10,2] fun s18 g18 w18 c18=>?_;refine qC 6 (Et (l:=p.agreed) (hA.below ((((hC2.n c15).n c16).n c18).below (fun _ _=>Ds))) hba c) ?_;rintro e' w19 ⟨rfl,b19⟩;refine⟨_,rfl,b19,?_⟩;have c19:=Cg.ofBelow (B:=w.heap.size) (T:=[]) (g:=g18) b19;refine qR [] 2 [14] fun s20 g20 w20 c20=>?_;by_cases h5:c∈p.agreed
       .refine qI ((!(decide (c∈p.agreed)))) false (by simpa using h5) ?_;refine qR [] 3 [] fun s21 g21 w21 c21=>?_;refine qV 0 (iv ((j:Int)+1)) (AN (x:=(.tmp 48)) (y:=(.const (iv 1))) (j:Int) 1 underlying3 (by omega)) ?_;refine qR [] 2 [] fun s22 g22 w22 c22=>?_;exact qB [true,true,false] fun z K0 K=>hJ (p.rnd.queue.length-(j+1)) _ _ _ z _ (by omega) ⟨j+1,rfl,by omega,rfl,rfl,(by rw[<- hI,if_neg (by simpa using h5)]),(((((((hC2.n c15).n c16).n c18).n c19).n c20).n c21).n c22)⟩ K
       .refine qI ((!(decide (c∈p.agreed)))) true (by simpa using h5) ?_;refine qR [] 6 [2,1,0] fun s23 g23 w23 c23=>?_;rw[if_pos (by simpa using h5)]at hI
        rw[<- hI];exact qE2 4 5 54 1 (s1 0) (cmC c) (.bool true) fun K=>⟨rfl,Cg.below ((((((hC2.n c15).n c16).n c18).n c19).n c20).n c23) (fun _ _=>Ds)⟩
      .refine qI ((decide ((j:Int)<(x.queue.n:Int)))) false (decide_eq_false (by omega)) ?_;refine qR [] 7 [1,0] fun s24 g24 w24 c24=>?_;obtain rfl:j=p.rnd.queue.length:=by omega
       rw[List.drop_length]at hI
       rw[<- hI];exact qE2 4 5 54 1 (s1 0) (cmC S2) (.bool false) fun K=>⟨rfl,Cg.below ((hC2.n c15).n c24) (fun _ _=>Ds)⟩
theorem L9{g:Gh}{w:World}{i nb ob:Nat}{p:Nod}{ls:List Let}{ts:List Tol}(h:NS i nb ob g w p ls ts){b:Bool}(hb:p.rnd.enough=b) :
  Calls prog 102 #[pt nb 11] w fun e w'=>e=.returned (.bool b)/\Bw w w':=by subst hb;exact PK h
theorem Ot{g:Gh}{w:World}{i nb ob:Nat}{p:Nod}{ls:List Let}{ts:List Tol}(h:NS i nb ob g w p ls ts){w0:World}(hB:Base w0 g w)(hT:Tabs w0)(s:Nat)(hq:p.rnd.queue.length<100000000)(hba:p.agreed.length<100000000){o:Option Cmd}(ho:p.nextC s=o) :
  Calls prog 103 #[pt nb 0,iv (s:Int)] w fun e w'=>e=.returned (.tuple #[.agg (cmC (o.getD S2)),.bool o.isSome])/\Bw w w':=by subst ho;exact Jg h hB hT s hq hba
theorem Xp(p:Nod)(v:Vt):(p.vote v).1.rnd=p.rnd:=by
 unfold Nod.vote;repeat' split
 all_goals rfl
theorem OC{g:Gh}{w:World}{i nb ob:Nat}{p:Nod}{ls:List Let}{ts:List Tol}(h:NS i nb ob g w p ls ts){w0:World}(hB:Base w0 g w)(hT:Tabs w0)(hq:p.rnd.queue.length<100000000)(hba:p.agreed.length<100000000)(hb:p.pend.length<100000000)(hvo:p.vo.vs.length<100000000) :
  Calls prog 61 #[pt nb 0] w (NP i nb ob g w (.tuple #[]) p.propose ls ts):=by
 obtain⟨x,lt,tl,hN,hO,hg⟩:=h;have hn:x.agreed.n=p.agreed.length:=hN.agreed.num;refine gI (fn:=f61) (TN i) g func61 hg ?_;refine qN hN ?_;refine qO hO ?_;refine qR [] 18 [0,0,2,0,2] fun s1 g1 w1 c1=>?_;by_cases h1:p.leads=false
 .refine Ae fun K=>?_;have N3:NS i nb ob g1 w1 p ls ts:=(nsC hN hO c1 K);refine qC 1 (Ef N3 h1) ?_;rintro e' w4 ⟨rfl,b4⟩;refine⟨_,rfl,b4,?_⟩;have c4:=Cg.ofBelow (B:=w.heap.size) (T:=[]) (g:=g1) b4;refine qR [] 21 [] fun s5 g5 w5 c5=>?_;refine qE (.tuple #[]) fun K=>?_;rw[show p.propose=p from by unfold Nod.propose;rw[if_pos (.inl h1)]];exact⟨_,rfl,(nsC hN hO ((c1.n c4).n c5) K),(((c1.nil (TN i)).n c4).n c5)⟩
 .have h10:p.leads=true:=by simpa using h1
  refine Ae fun K=>?_;have N8:NS i nb ob g1 w1 p ls ts:=(nsC hN hO c1 K);refine qC 1 (Ef N8 h10) ?_;rintro e' w9 ⟨rfl,b9⟩;refine⟨_,rfl,b9,?_⟩;have c9:=Cg.ofBelow (B:=w.heap.size) (T:=[]) (g:=g1) b9;refine qR [] 6 [2] fun s10 g10 w10 c10=>?_;by_cases h2:p.rnd.enough=false
  .refine Ae fun K=>?_;have N12:NS i nb ob g10 w10 p ls ts:=(nsC hN hO ((c1.n c9).n c10) K);refine qC 8 (L9 N12 h2) ?_;rintro e' w13 ⟨rfl,b13⟩;refine⟨_,rfl,b13,?_⟩;have c13:=Cg.ofBelow (B:=w.heap.size) (T:=[]) (g:=g10) b13;refine qR [] 14 [] fun s14 g14 w14 c14=>?_;refine qE (.tuple #[]) fun K=>?_;rw[show p.propose=p from by unfold Nod.propose;rw[if_pos (.inr (.inl h2))]];exact⟨_,rfl,(nsC hN hO ((((c1.n c9).n c10).n c13).n c14) K),(((((c1.nil (TN i)).n c9).n c10).n c13).n c14)⟩
  .have h20:p.rnd.enough=true:=by simpa using h2
   refine Ae fun K=>?_;have N17:NS i nb ob g10 w10 p ls ts:=(nsC hN hO ((c1.n c9).n c10) K);refine qC 8 (L9 N17 h20) ?_;rintro e' w18 ⟨rfl,b18⟩;refine⟨_,rfl,b18,?_⟩;have c18:=Cg.ofBelow (B:=w.heap.size) (T:=[]) (g:=g10) b18;refine qR [] 13 [2,0] fun s19 g19 w19 c19=>?_;by_cases h3:(x.agreed.n:Int)<(p.rnd.next:Int)
   .have h30:p.agreed.length<p.rnd.next:=by omega
    refine qI ((decide ((x.agreed.n:Int)<(p.rnd.next:Int)))) true (decide_eq_true (by omega)) ?_;refine qE (.tuple #[]) fun K=>?_;rw[show p.propose=p from by unfold Nod.propose;rw[if_pos (.inr (.inr h30))]];exact⟨_,rfl,(nsC hN hO ((((c1.n c9).n c10).n c18).n c19) K),(((((c1.nil (TN i)).n c9).n c10).n c18).n c19)⟩
   .refine qI ((decide ((x.agreed.n:Int)<(p.rnd.next:Int)))) false (decide_eq_false (by omega)) ?_;have h40:¬ (p.leads=false\/p.rnd.enough=false\/p.agreed.length<p.rnd.next):=by rintro(h|h|h);exact h1 h;exact h2 h;omega
    refine qR [] 5 [2] fun s22 g22 w22 c22=>?_;cases ho:p.nextC x.agreed.n with
    | none =>
     refine Ae fun K=>?_;have N24:NS i nb ob g22 w22 p ls ts:=(nsC hN hO (((((c1.n c9).n c10).n c18).n c19).n c22) K);refine qC 2 (Ot N24 (hB.ch ((((((c1.nil (TN i)).n c9).n c10).n c18).n c19).n c22) (AV i)) hT x.agreed.n hq hba ho) ?_;rintro e' w25 ⟨rfl,b25⟩;refine⟨_,rfl,b25,?_⟩;have c25:=Cg.ofBelow (B:=w.heap.size) (T:=[]) (g:=g22) b25;refine qR [] 14 [0,0,3,0] fun s26 g26 w26 c26=>?_;refine qE (.tuple #[]) fun K=>?_;rw[show p.propose=p from by unfold Nod.propose;rw[if_neg h40,<- hn,ho]];exact⟨_,rfl,(nsC hN hO (((((((c1.n c9).n c10).n c18).n c19).n c22).n c25).n c26) K),((((((((c1.nil (TN i)).n c9).n c10).n c18).n c19).n c22).n c25).n c26)⟩
    | some c =>
     refine Ae fun K=>?_;have N29:NS i nb ob g22 w22 p ls ts:=(nsC hN hO (((((c1.n c9).n c10).n c18).n c19).n c22) K);refine qC 2 (Ot N29 (hB.ch ((((((c1.nil (TN i)).n c9).n c10).n c18).n c19).n c22) (AV i)) hT x.agreed.n hq hba ho) ?_;rintro e' w30 ⟨rfl,b30⟩;refine⟨_,rfl,b30,?_⟩;have c30:=Cg.ofBelow (B:=w.heap.size) (T:=[]) (g:=g22) b30;refine qR [] 34 [0,0,3,0,11,0,2,2,4,6,8,10,12,0,14,3,16,19,0,0,21,4,0,2,4] fun s31 g31 w31 c31=>?_;refine qS 2 [false,false,true,true,true] hN hO (((((((c1.n c9).n c10).n c18).n c19).n c22).n c30).n c31) (fun N32=>LS N32 (hB.ch ((((((((c1.nil (TN i)).n c9).n c10).n c18).n c19).n c22).n c30).n c31) (AV i)) hT (⟨(x.agreed.n:Int),p.rnd.bal,c⟩:Vt) hvo) fun g32 w32 x32 lt32 tl32 hN32 hO32 c32=>?_;refine qR [] 2 [] fun s34 g34 w34 c34=>?_;by_cases h5:(p.vote (⟨(x.agreed.n:Int),p.rnd.bal,c⟩:Vt)).2≠0
     .refine qI (((p.vote (⟨(x.agreed.n:Int),p.rnd.bal,c⟩:Vt)).2 != 0)) true (by simpa using h5) ?_;refine qE (.tuple #[]) fun K=>?_;rw[show p.propose=(p.vote (⟨(x.agreed.n:Int),p.rnd.bal,c⟩:Vt)).1 from by rw[Sb h5];unfold Nod.propose;rw[if_neg h40,<- hn,ho];exact if_pos h5];exact⟨_,rfl,(nsC hN32 hO32 c34 K),((((((((((c1.nil (TN i)).n c9).n c10).n c18).n c19).n c22).n c30).n c31).trans (c32)).n c34)⟩
     .refine qI (((p.vote (⟨(x.agreed.n:Int),p.rnd.bal,c⟩:Vt)).2 != 0)) false (by simpa using h5) ?_;refine qR [] 5 [0] fun s37 g37 w37 c37=>?_;refine qV 2 (iv ((x.agreed.n:Int)+1)) (AN (x:=(.tmp 55)) (y:=(.const (iv 1))) (x.agreed.n:Int) 1 underlying3 (by omega)) ?_;refine qR [.n 0 i] 9 [3,1,0] fun s38 g38 w38 c38=>?_;rw[show p.propose=Nod.wait { (p.vote (⟨(x.agreed.n:Int),p.rnd.bal,c⟩:Vt)).1 with rnd:={ (p.vote (⟨(x.agreed.n:Int),p.rnd.bal,c⟩:Vt)).1.rnd with next:=x.agreed.n+1 } } (.prop (⟨(x.agreed.n:Int),p.rnd.bal,c⟩:Vt))from by unfold Nod.propose;rw[if_neg h40,<- hn,ho,Xp];exact if_neg h5];refine Ae fun K=>?_;obtain⟨z1,z2⟩:=K.isZ 0 (s1 0) (.cells #[pt nb 0] 69) false (by kernel_rfl);obtain⟨z3,z4⟩:=K.isZ 2 (s31 1) (.cells (vtA (⟨(x.agreed.n:Int),p.rnd.bal,c⟩:Vt)) 139) false (by kernel_rfl);have C40:=((c34.nil ([.n 0 i]:List Tg)).n c37).trans (c38);have N39:NS i nb ob g38 w38 ({ (p.vote (⟨(x.agreed.n:Int),p.rnd.bal,c⟩:Vt)).1 with rnd:={ (p.vote (⟨(x.agreed.n:Int),p.rnd.bal,c⟩:Vt)).1.rnd with next:=x.agreed.n+1 } }) ls ts:=⟨x32,lt32,tl32,K.ndu 3 hN32 C40,hO32.ch C40 (hn:=by simp<;>omega),K.new⟩;refine qS0 2 [true,true,true,false,false] (AG N39 (by show(p.vote (⟨(x.agreed.n:Int),p.rnd.bal,c⟩:Vt)).1.pend.length<_;rw[Ml];exact hb) _ _ (.prop (⟨(x.agreed.n:Int),p.rnd.bal,c⟩:Vt)) ⟨(s1 0),(s31 1),rfl,⟨z1,z2⟩,⟨z3,z4⟩⟩) fun g39 w39 x39 lt39 tl39 hN39 hO39 c39=>?_;refine qR [] 1 [] fun s41 g41 w41 c41=>?_;exact qF hN39 hO39 c41 ((((((((((((((c1.nil (TN i)).n c9).n c10).n c18).n c19).n c22).n c30).n c31).trans (c32)).n c34).n c37).trans (c38.mono (by simp[TN]))).trans (c39)).n c41)
end Go.Proofs.YtalbmmghmoggcaaGreatDoor
