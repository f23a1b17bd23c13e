/- Part 14 of the walk. -/
import Derived.Test.YthohlalejhgbmaaGreatDoorZ13
set_option maxRecDepth 100000
set_option maxHeartbeats 4000000
open Go.Proofs.Tryz
set_option linter.unusedVariables false
namespace Go.Proofs.YthohlalejhgbmaaGreatDoor
open Go.RowKit
section
theorem NE(n g:Int)(w:World) :
  Calls prog 78 #[.int .i64 n,.int .i64 g] w λe w'=>e=.returned (.bool (decide (0<=n/\n<=g)))/\w'=w:=by
 by_cases a:0<=n
 .by_cases h1:n<=g
  .rw[I' (show 0<=n/\n<=g from⟨a,h1⟩)];go_enter func78,ntmps78
   go_wp2
   go_ret;exact⟨rfl,rfl⟩
  .rw[D' (show ¬ (0<=n/\n<=g)from λh=>h1 h.2)];go_enter func78,ntmps78
   go_wp2
   go_ret;exact⟨rfl,rfl⟩
 .rw[D' (show ¬ (0<=n/\n<=g)from λh=>a h.1)];go_enter func78,ntmps78
  go_wp2
  go_ret;exact⟨rfl,rfl⟩
theorem SC(s:Sto)(w:World) :
  Calls prog 38 #[.agg (stA s)] w λe w'=>e=.returned (.int .i64 (MB s))/\Bw w w':=by
 have n:Bw w (w.alloc (.cells (stA s) 43)):=(Below.refl _ _).alloc (A' _) _;have p:Bs (w.alloc (.cells (stA s) 43)) w.heap.size s:=heap_alloc_new _ _;generalize u:w.alloc (.cells (stA s) 43)=W at n p;go_enter func38,ntmps38
 go_wp2_with ((with_reducible (refine Dy ?_));(refine Gb rfl _ rfl w.heap.size 0 rfl s.V p.pD ?_))
 clear u
 go_loopw [9] (λiv wr=>∃ i:Nat,i<=8/\iv=.int .i64 (i:Int)/\Hid (∀ j,j<i->VaB (s.V j))/\W=wr) (λiv _=>(8-intOf iv).toNat)
 case atStart=>exact⟨0,by omega,rfl,λj r=>by omega,rfl⟩
 case round =>
  obtain⟨i,t,rfl,l,rfl⟩:=hrel;by_cases a:i<8
  .have hlt':(i:Int)<8:=by omega
   have d:=TC s.V i a;go_wp2_with fail
   refine(NE (s.V i) 1073741824 _).mono ?_;rintro e v ⟨rfl,rfl⟩;by_cases b:0<=s.V i/\s.V i<=1073741824
   .rw[I' b];have o:Hid (∀ j,j<i+1->VaB (s.V j)):=λj r=>by
     by_cases h:j=i
     .subst h;exact b
     .exact l.out j (by omega)
    clear b d l;go_wp2
    go_roundw
    case rel=>exact⟨i+1,by omega,by go_num,o,by simp⟩
    case measure=>simp[intOf];omega
   .rw[D' b];have k:Hid (MB s=5):=Ks (λh=>b (h.1 i a));clear b d l;go_wp2
    go_ret;rw[k.out];exact⟨rfl,n⟩
  .obtain rfl:i=8:=by omega
   clear a t;go_wp2_with ((with_reducible (refine Dy ?_));(refine Gb rfl _ rfl w.heap.size 8 rfl s.L p.pC ?_))
   go_loopw [18] (λiv wr=>∃ i:Nat,i<=8/\iv=.int .i64 (i:Int)/\Hid (∀ j,j<i->ClB (s.L j) (s.C j) (s.A j))/\W=wr) (λiv _=>(8-intOf iv).toNat)
   case atStart=>exact⟨0,by omega,rfl,λj r=>by omega,rfl⟩
   case round =>
    obtain⟨i,t,rfl,f,rfl⟩:=hrel;by_cases a:i<8
    .have hlt':(i:Int)<8:=by omega
     have d:=TC s.L i a;go_wp2_with fail
     refine(NE (s.L i) 1048577 _).mono ?_;rintro e v ⟨rfl,rfl⟩;by_cases b:0<=s.L i/\s.L i<=1048577
     .rw[I' b];have c0:=p.pG i a;have c1:=p.pF i a;have x:(0:Int)<=(i:Int):=by omega
      by_cases m:s.L i=0
      .rw[m];by_cases c:s.C i=0/\s.A i=0
       .rw[c.1]at c0
        rw[c.2]at c1
        have o:Hid (∀ j,j<i+1->ClB (s.L j) (s.C j) (s.A j)):=λj r=>by
         by_cases h:j=i
         .subst h;exact⟨b,λ_=>c⟩
         .exact f.out j (by omega)
        clear b d c m f;go_wp2
        go_roundw
        case rel=>exact⟨i+1,by omega,by go_num,o,by simp⟩
        case measure=>simp[intOf];omega
       .have k:Hid (MB s=5):=Ks (λh=>c ((h.2 i a).2 m));have q:=bg (s.C i) (s.A i);rw[D' c]at q
        clear b d c m f l;go_wp2
        go_ret;rw[k.out];exact⟨rfl,n⟩
      .have o:Hid (∀ j,j<i+1->ClB (s.L j) (s.C j) (s.A j)):=λj r=>by
        by_cases h:j=i
        .subst h;exact⟨b,λg=>absurd g m⟩
        .exact f.out j (by omega)
       have q:(s.L i==0)=false:=by simpa using m
       clear b d f;go_wp2
       go_roundw
       case rel=>exact⟨i+1,by omega,by go_num,o,by simp⟩
       case measure=>simp[intOf];omega
     .rw[D' b];have k:Hid (MB s=5):=Ks (λh=>b (h.2 i a).1);clear b d l f;go_wp2
      go_ret;rw[k.out];exact⟨rfl,n⟩
    .obtain rfl:i=8:=by omega
     have k:Hid (MB s=0):=cI ⟨l.out,f.out⟩;clear a t f l;go_wp2
     go_ret;rw[k.out];exact⟨rfl,n⟩
variable{E e0 s:Int}{L:List Vt}{W w:World}{b u:Vt}{c m:Cmd}{g:Gh}{i n nb ob:Nat}{ls:List Let}{p:Nod}{ts:List Tol}
theorem lt8(h:i<8):i=0\/i=1\/i=2\/i=3\/i=4\/i=5\/i=6\/i=7:=by omega
theorem el(s:Sto)(c d:Nat)(q v:Int)(w:World)(x:c<8)(X:d<8)(q0:0<=q)(q1:q<=1048576) :
  Calls prog 82 #[.agg (stA s),.agg #[iv 1,iv (c:Int),iv q,iv (d:Int),iv v]] w λe w'=>e=.returned (.tuple #[.agg (stA (JQ s ⟨1,c,q,d,v⟩)),.agg #[iv 0,iv (JP s ⟨1,c,q,d,v⟩)]])/\Bw w w':=by
 have r:∀ b,w.heap.size<=b->gS.t b=.z/\gS.k b=0:=λ_ _=>⟨rfl,rfl⟩;refine gI (fn:=f82) [] gS func82 r (qR [] 26 [1,0,0,0,1,0,1,0,1,0,1] λa P Y c1=>BV 48 (λg w' e L=>e=[(2,pt (a 0) 0),(3,pt (a 1) 0),(4,pt (a 2) 0),(5,pt (a 3) 0),(6,pt (a 4) 0)]/\L=[⟨(a 0),.cells (stA ({ s with V:=Bi s.V d v })) 43,.l,false⟩,⟨(a 1),.cells #[iv 1,iv (c:Int),iv q,iv (d:Int),iv v] 47,.z,false⟩,⟨(a 2),.cells (stA AD) 43,.l,false⟩,⟨(a 3),.cells #[iv 0,iv 0] 39,.l,false⟩,⟨(a 4),.cells #[iv 0,iv 0] 39,.l,false⟩]/\True/\Cg w.heap.size ([]:List Tg) P Y g w') (by kernel_rfl) ?_ ?_)
 .intro J hJ;rcases lt8 X with rfl|rfl|rfl|rfl|rfl|rfl|rfl|rfl <;>
  (refine qR [] 8 [1,1,0,0] λa3 g3 w3 F=>?_;exact qB [true,true,true,true,true] λz h K=>hJ _ _ _ z _ ⟨rfl,rfl,trivial,(F.nil ([]:List Tg))⟩ K)
 rintro g2 w2 _ z2 _ ⟨rfl,rfl,_,E⟩;refine qR [] 13 [1,4,0,1,1] λa4 U w4 G=>qV 4 (iv (q+1)) (AR 37 q underlying3 (by omega)) (BV 48 (λg w' e L=>e=[(2,pt (a 0) 0),(3,pt (a 1) 0),(4,pt (a 2) 0),(5,pt (a 3) 0),(6,pt (a 4) 0)]/\L=[⟨(a 0),.cells (stA (Sto.mk (Bi s.V d v) (Bi s.L c (q+1)) s.C s.A s.R)) 43,.l,false⟩,⟨(a 1),.cells #[iv 1,iv (c:Int),iv q,iv (d:Int),iv v] 47,.z,false⟩,⟨(a 2),.cells (stA AD) 43,.l,false⟩,⟨(a 3),.cells #[iv 0,iv 0] 39,.l,false⟩,⟨(a 4),.cells #[iv 0,iv v] 39,.l,false⟩]/\True/\Cg w.heap.size ([]:List Tg) U w4 g w') (by kernel_rfl) ?_ ?_)
 .intro J hJ;rcases lt8 x with rfl|rfl|rfl|rfl|rfl|rfl|rfl|rfl <;>
  (refine qR [] 4 [0,0] λa5 g6 w6 I=>?_;exact qB [true,true,true,true,true] λz h K=>hJ _ _ _ z _ ⟨rfl,rfl,trivial,(I.nil ([]:List Tg))⟩ K)
 rintro g5 w5 _ z5 _ ⟨rfl,rfl,_,H⟩;refine qR [] 2 [] λa6 W w7 M=>BV 48 (λg w' e L=>e=[(2,pt (a 0) 0),(3,pt (a 1) 0),(4,pt (a 2) 0),(5,pt (a 3) 0),(6,pt (a 4) 0)]/\L=[⟨(a 0),.cells (stA (Sto.mk (Bi s.V d v) (Bi s.L c (q+1)) (Bi s.C c 0) (Bi s.A c v) s.R)) 43,.l,false⟩,⟨(a 1),.cells #[iv 1,iv (c:Int),iv q,iv (d:Int),iv v] 47,.z,false⟩,⟨(a 2),.cells (stA AD) 43,.l,false⟩,⟨(a 3),.cells #[iv 0,iv 0] 39,.l,false⟩,⟨(a 4),.cells #[iv 0,iv v] 39,.l,false⟩]/\True/\Cg w.heap.size ([]:List Tg) W w7 g w') (by kernel_rfl) ?_ ?_
 .intro J hJ;rcases lt8 x with rfl|rfl|rfl|rfl|rfl|rfl|rfl|rfl <;>
  (refine qR [] 7 [1,4,0,0] λa7 g9 w9 O=>?_;exact qB [true,true,true,true,true] λz h K=>hJ _ _ _ z _ ⟨rfl,rfl,trivial,(O.nil ([]:List Tg))⟩ K)
 rintro g8 w8 _ z8 _ ⟨rfl,rfl,_,N⟩;refine qR [] 3 [2,0,0] λy p u i=>BV 48 (λg w' e L=>e=[(2,pt (a 0) 0),(3,pt (a 1) 0),(4,pt (a 2) 0),(5,pt (a 3) 0),(6,pt (a 4) 0)]/\L=[⟨(a 0),.cells (stA (Sto.mk (Bi s.V d v) (Bi s.L c (q+1)) (Bi s.C c 0) (Bi s.A c v) s.R)) 43,.l,false⟩,⟨(a 1),.cells #[iv 1,iv (c:Int),iv q,iv (d:Int),iv v] 47,.z,false⟩,⟨(a 2),.cells (stA (Sto.mk (Bi s.V d v) (Bi s.L c (q+1)) (Bi s.C c 0) (Bi s.A c v) s.R)) 43,.l,false⟩,⟨(a 3),.cells #[iv 0,iv v] 39,.l,false⟩,⟨(a 4),.cells #[iv 0,iv v] 39,.l,false⟩]/\True/\Cg w.heap.size ([]:List Tg) p u g w') (by kernel_rfl) ?_ ?_
 .intro J hJ
  (exact CU 1 2 (by kernel_rfl) (by(refine qR [] 4 [4,5,2,0,7,3,0] λB S a0 m=>?_;exact qB [true,true,true,true,true] λz h K=>hJ _ _ _ z _ ⟨rfl,rfl,trivial,(m.nil ([]:List Tg))⟩ K)) (by(refine qR [] 4 [2,0,3,4,7,3,0] λD T a1 o=>?_;exact qB [true,true,true,true,true] λz h K=>hJ _ _ _ z _ ⟨rfl,rfl,trivial,(o.nil ([]:List Tg))⟩ K)))
 rintro Q Z _ a2 _ ⟨rfl,rfl,_,j⟩;exact qE4 4 5 43 39 2 (a 2) 3 (a 3) (stA (JQ s ⟨1,c,q,d,v⟩)) #[iv 0,iv (JP s ⟨1,c,q,d,v⟩)] λK=>⟨rfl,Cg.ab (((((((c1.trans E).trans G).trans H).trans M).trans N).trans i).trans j) (λ_ _=>N')⟩
theorem ep(s:Sto)(c d:Nat)(q v:Int)(w:World)(x:c<8)(X:d<8)(q0:0<=q)(q1:q<=1048576) :
  Calls prog 82 #[.agg (stA s),.agg #[iv 2,iv (c:Int),iv q,iv (d:Int),iv v]] w λe w'=>e=.returned (.tuple #[.agg (stA (JQ s ⟨2,c,q,d,v⟩)),.agg #[iv 0,iv (JP s ⟨2,c,q,d,v⟩)]])/\Bw w w':=by
 have r:∀ b,w.heap.size<=b->gS.t b=.z/\gS.k b=0:=λ_ _=>⟨rfl,rfl⟩;refine gI (fn:=f82) [] gS func82 r (qR [] 31 [1,0,0,0,1,0,1,0,1,0,1] λa P Y c1=>BV 48 (λg w' e L=>e=[(2,pt (a 0) 0),(3,pt (a 1) 0),(4,pt (a 2) 0),(5,pt (a 3) 0),(6,pt (a 4) 0)]/\L=[⟨(a 0),.cells (stA s) 43,.l,false⟩,⟨(a 1),.cells #[iv 2,iv (c:Int),iv q,iv (d:Int),iv v] 47,.z,false⟩,⟨(a 2),.cells (stA AD) 43,.l,false⟩,⟨(a 3),.cells #[iv 0,iv 0] 39,.l,false⟩,⟨(a 4),.cells #[iv 0,iv (s.V d)] 39,.l,false⟩]/\True/\Cg w.heap.size ([]:List Tg) P Y g w') (by kernel_rfl) ?_ ?_)
 .intro J hJ;rcases lt8 X with rfl|rfl|rfl|rfl|rfl|rfl|rfl|rfl <;>
  (refine qR [] 8 [1,0,4,0] λa3 g3 w3 F=>?_;exact qB [true,true,true,true,true] λz h K=>hJ _ _ _ z _ ⟨rfl,rfl,trivial,(F.nil ([]:List Tg))⟩ K)
 rintro g2 w2 _ z2 _ ⟨rfl,rfl,_,E⟩;refine qR [] 7 [1,1] λa4 U w4 G=>qV 4 (iv (q+1)) (AR 37 q underlying3 (by omega)) (BV 48 (λg w' e L=>e=[(2,pt (a 0) 0),(3,pt (a 1) 0),(4,pt (a 2) 0),(5,pt (a 3) 0),(6,pt (a 4) 0)]/\L=[⟨(a 0),.cells (stA (Sto.mk s.V (Bi s.L c (q+1)) s.C s.A s.R)) 43,.l,false⟩,⟨(a 1),.cells #[iv 2,iv (c:Int),iv q,iv (d:Int),iv v] 47,.z,false⟩,⟨(a 2),.cells (stA AD) 43,.l,false⟩,⟨(a 3),.cells #[iv 0,iv 0] 39,.l,false⟩,⟨(a 4),.cells #[iv 0,iv (s.V d)] 39,.l,false⟩]/\True/\Cg w.heap.size ([]:List Tg) U w4 g w') (by kernel_rfl) ?_ ?_)
 .intro J hJ;rcases lt8 x with rfl|rfl|rfl|rfl|rfl|rfl|rfl|rfl <;>
  (refine qR [] 4 [0,0] λa5 g6 w6 I=>?_;exact qB [true,true,true,true,true] λz h K=>hJ _ _ _ z _ ⟨rfl,rfl,trivial,(I.nil ([]:List Tg))⟩ K)
 rintro g5 w5 _ z5 _ ⟨rfl,rfl,_,H⟩;refine qR [] 2 [] λa6 W w7 M=>BV 48 (λg w' e L=>e=[(2,pt (a 0) 0),(3,pt (a 1) 0),(4,pt (a 2) 0),(5,pt (a 3) 0),(6,pt (a 4) 0)]/\L=[⟨(a 0),.cells (stA (Sto.mk s.V (Bi s.L c (q+1)) (Bi s.C c 0) (Bi s.A c (s.V d)) s.R)) 43,.l,false⟩,⟨(a 1),.cells #[iv 2,iv (c:Int),iv q,iv (d:Int),iv v] 47,.z,false⟩,⟨(a 2),.cells (stA AD) 43,.l,false⟩,⟨(a 3),.cells #[iv 0,iv 0] 39,.l,false⟩,⟨(a 4),.cells #[iv 0,iv (s.V d)] 39,.l,false⟩]/\True/\Cg w.heap.size ([]:List Tg) W w7 g w') (by kernel_rfl) ?_ ?_
 .intro J hJ;rcases lt8 x with rfl|rfl|rfl|rfl|rfl|rfl|rfl|rfl <;>
  (refine qR [] 7 [1,4,0,0] λa7 g9 w9 O=>?_;exact qB [true,true,true,true,true] λz h K=>hJ _ _ _ z _ ⟨rfl,rfl,trivial,(O.nil ([]:List Tg))⟩ K)
 rintro g8 w8 _ z8 _ ⟨rfl,rfl,_,N⟩;refine qR [] 3 [2,0,0] λy p u i=>BV 48 (λg w' e L=>e=[(2,pt (a 0) 0),(3,pt (a 1) 0),(4,pt (a 2) 0),(5,pt (a 3) 0),(6,pt (a 4) 0)]/\L=[⟨(a 0),.cells (stA (Sto.mk s.V (Bi s.L c (q+1)) (Bi s.C c 0) (Bi s.A c (s.V d)) s.R)) 43,.l,false⟩,⟨(a 1),.cells #[iv 2,iv (c:Int),iv q,iv (d:Int),iv v] 47,.z,false⟩,⟨(a 2),.cells (stA (Sto.mk s.V (Bi s.L c (q+1)) (Bi s.C c 0) (Bi s.A c (s.V d)) s.R)) 43,.l,false⟩,⟨(a 3),.cells #[iv 0,iv (s.V d)] 39,.l,false⟩,⟨(a 4),.cells #[iv 0,iv (s.V d)] 39,.l,false⟩]/\True/\Cg w.heap.size ([]:List Tg) p u g w') (by kernel_rfl) ?_ ?_
 .intro J hJ
  (exact CU 1 2 (by kernel_rfl) (by(refine qR [] 4 [4,5,2,0,7,3,0] λB S a0 m=>?_;exact qB [true,true,true,true,true] λz h K=>hJ _ _ _ z _ ⟨rfl,rfl,trivial,(m.nil ([]:List Tg))⟩ K)) (by(refine qR [] 4 [2,0,3,4,7,3,0] λD T a1 o=>?_;exact qB [true,true,true,true,true] λz h K=>hJ _ _ _ z _ ⟨rfl,rfl,trivial,(o.nil ([]:List Tg))⟩ K)))
 rintro Q Z _ a2 _ ⟨rfl,rfl,_,j⟩;exact qE4 4 5 43 39 2 (a 2) 3 (a 3) (stA (JQ s ⟨2,c,q,d,v⟩)) #[iv 0,iv (JP s ⟨2,c,q,d,v⟩)] λK=>⟨rfl,Cg.ab (((((((c1.trans E).trans G).trans H).trans M).trans N).trans i).trans j) (λ_ _=>N')⟩
theorem eq(s:Sto)(c d:Nat)(q v:Int)(w:World)(x:c<8)(X:d<8)(q0:0<=q)(q1:q<=1048576) :
  Calls prog 82 #[.agg (stA s),.agg #[iv 3,iv (c:Int),iv q,iv (d:Int),iv v]] w λe w'=>e=.returned (.tuple #[.agg (stA (JQ s ⟨3,c,q,d,v⟩)),.agg #[iv 0,iv (JP s ⟨3,c,q,d,v⟩)]])/\Bw w w':=by
 have r:∀ b,w.heap.size<=b->gS.t b=.z/\gS.k b=0:=λ_ _=>⟨rfl,rfl⟩;refine gI (fn:=f82) [] gS func82 r (qR [] 37 [1,0,0,0,1,0,1,0,1,0,1] λa P Y c1=>BV 48 (λg w' e L=>e=[(2,pt (a 0) 0),(3,pt (a 1) 0),(4,pt (a 2) 0),(5,pt (a 3) 0),(6,pt (a 4) 0)]/\L=[⟨(a 0),.cells (stA ({ s with R:=Bi s.R d true })) 43,.l,false⟩,⟨(a 1),.cells #[iv 3,iv (c:Int),iv q,iv (d:Int),iv v] 47,.z,false⟩,⟨(a 2),.cells (stA AD) 43,.l,false⟩,⟨(a 3),.cells #[iv 0,iv 0] 39,.l,false⟩,⟨(a 4),.cells #[iv 0,iv 0] 39,.l,false⟩]/\True/\Cg w.heap.size ([]:List Tg) P Y g w') (by kernel_rfl) ?_ ?_)
 .intro J hJ;rcases lt8 X with rfl|rfl|rfl|rfl|rfl|rfl|rfl|rfl <;>
  (refine qR [] 6 [1,0,0] λa3 g3 w3 F=>?_;exact qB [true,true,true,true,true] λz h K=>hJ _ _ _ z _ ⟨rfl,rfl,trivial,(F.nil ([]:List Tg))⟩ K)
 rintro g2 w2 _ z2 _ ⟨rfl,rfl,_,E⟩;refine qR [] 7 [1,1] λa4 U w4 G=>qV 4 (iv (q+1)) (AR 37 q underlying3 (by omega)) (BV 48 (λg w' e L=>e=[(2,pt (a 0) 0),(3,pt (a 1) 0),(4,pt (a 2) 0),(5,pt (a 3) 0),(6,pt (a 4) 0)]/\L=[⟨(a 0),.cells (stA (Sto.mk s.V (Bi s.L c (q+1)) s.C s.A (Bi s.R d true))) 43,.l,false⟩,⟨(a 1),.cells #[iv 3,iv (c:Int),iv q,iv (d:Int),iv v] 47,.z,false⟩,⟨(a 2),.cells (stA AD) 43,.l,false⟩,⟨(a 3),.cells #[iv 0,iv 0] 39,.l,false⟩,⟨(a 4),.cells #[iv 0,iv 0] 39,.l,false⟩]/\True/\Cg w.heap.size ([]:List Tg) U w4 g w') (by kernel_rfl) ?_ ?_)
 .intro J hJ;rcases lt8 x with rfl|rfl|rfl|rfl|rfl|rfl|rfl|rfl <;>
  (refine qR [] 4 [0,0] λa5 g6 w6 I=>?_;exact qB [true,true,true,true,true] λz h K=>hJ _ _ _ z _ ⟨rfl,rfl,trivial,(I.nil ([]:List Tg))⟩ K)
 rintro g5 w5 _ z5 _ ⟨rfl,rfl,_,H⟩;refine qR [] 2 [] λa6 W w7 M=>BV 48 (λg w' e L=>e=[(2,pt (a 0) 0),(3,pt (a 1) 0),(4,pt (a 2) 0),(5,pt (a 3) 0),(6,pt (a 4) 0)]/\L=[⟨(a 0),.cells (stA (Sto.mk s.V (Bi s.L c (q+1)) (Bi s.C c 0) (Bi s.A c 0) (Bi s.R d true))) 43,.l,false⟩,⟨(a 1),.cells #[iv 3,iv (c:Int),iv q,iv (d:Int),iv v] 47,.z,false⟩,⟨(a 2),.cells (stA AD) 43,.l,false⟩,⟨(a 3),.cells #[iv 0,iv 0] 39,.l,false⟩,⟨(a 4),.cells #[iv 0,iv 0] 39,.l,false⟩]/\True/\Cg w.heap.size ([]:List Tg) W w7 g w') (by kernel_rfl) ?_ ?_
 .intro J hJ;rcases lt8 x with rfl|rfl|rfl|rfl|rfl|rfl|rfl|rfl <;>
  (refine qR [] 7 [1,4,0,0] λa7 g9 w9 O=>?_;exact qB [true,true,true,true,true] λz h K=>hJ _ _ _ z _ ⟨rfl,rfl,trivial,(O.nil ([]:List Tg))⟩ K)
 rintro g8 w8 _ z8 _ ⟨rfl,rfl,_,N⟩;refine qR [] 3 [2,0,0] λy p u i=>BV 48 (λg w' e L=>e=[(2,pt (a 0) 0),(3,pt (a 1) 0),(4,pt (a 2) 0),(5,pt (a 3) 0),(6,pt (a 4) 0)]/\L=[⟨(a 0),.cells (stA (Sto.mk s.V (Bi s.L c (q+1)) (Bi s.C c 0) (Bi s.A c 0) (Bi s.R d true))) 43,.l,false⟩,⟨(a 1),.cells #[iv 3,iv (c:Int),iv q,iv (d:Int),iv v] 47,.z,false⟩,⟨(a 2),.cells (stA (Sto.mk s.V (Bi s.L c (q+1)) (Bi s.C c 0) (Bi s.A c 0) (Bi s.R d true))) 43,.l,false⟩,⟨(a 3),.cells #[iv 0,iv 0] 39,.l,false⟩,⟨(a 4),.cells #[iv 0,iv 0] 39,.l,false⟩]/\True/\Cg w.heap.size ([]:List Tg) p u g w') (by kernel_rfl) ?_ ?_
 .intro J hJ
  (exact CU 1 2 (by kernel_rfl) (by(refine qR [] 4 [4,5,2,0,7,3,0] λB S a0 m=>?_;exact qB [true,true,true,true,true] λz h K=>hJ _ _ _ z _ ⟨rfl,rfl,trivial,(m.nil ([]:List Tg))⟩ K)) (by(refine qR [] 4 [2,0,3,4,7,3,0] λD T a1 o=>?_;exact qB [true,true,true,true,true] λz h K=>hJ _ _ _ z _ ⟨rfl,rfl,trivial,(o.nil ([]:List Tg))⟩ K)))
 rintro Q Z _ a2 _ ⟨rfl,rfl,_,j⟩;exact qE4 4 5 43 39 2 (a 2) 3 (a 3) (stA (JQ s ⟨3,c,q,d,v⟩)) #[iv 0,iv (JP s ⟨3,c,q,d,v⟩)] λK=>⟨rfl,Cg.ab (((((((c1.trans E).trans G).trans H).trans M).trans N).trans i).trans j) (λ_ _=>N')⟩
theorem VM(s:Sto)(k:Int)(a b:Nat)(q v:Int)(w:World)(j:1<=k/\k<=3)(c:a<8)(d:b<8)(f:0<=q)(g:q<=1048576){S:Sto}(i:JQ s ⟨k,a,q,b,v⟩=S){A:Int}(h:JP s ⟨k,a,q,b,v⟩=A) :
  Calls prog 82 #[.agg (stA s),.agg #[iv k,iv (a:Int),iv q,iv (b:Int),iv v]] w λe w'=>e=.returned (.tuple #[.agg (stA S),.agg #[iv 0,iv A]])/\Bw w w':=by
 subst i h;rcases(show k=1\/k=2\/k=3 by omega)with rfl|rfl|rfl
 .exact el s a b q v w c d f g
 .exact ep s a b q v w c d f g
 .exact eq s a b q v w c d f g
theorem V8(s:Sto)(k:Int)(c d:Nat)(q v:Int)(w:World)(k0:0<=k)(k3:k<=3)(Q:c<8)(hn:d<8)(q0:0<=q)(q1:q<=1048576) :
  Calls prog 40 #[.agg (stA s),.agg #[iv k,iv (c:Int),iv q,iv (d:Int),iv v]] w λe w'=>e=.returned (.tuple #[.agg (stA (dnS s ⟨k,c,q,d,v⟩)),.agg #[iv (dnC s ⟨k,c,q,d,v⟩),iv (dnA s ⟨k,c,q,d,v⟩)]])/\Bw w w':=by
 have a3:∀ b,w.heap.size<=b->gS.t b=.z/\gS.k b=0:=λ_ _=>⟨rfl,rfl⟩;refine gI (fn:=f40) [] gS func40 a3 (qR [] 14 [0,0,0,0,1,0,1,0,1] λa g1 w1 c1=>?_);by_cases h:k=0
 .refine qI ((k==0)) true (by simpa using h) (qR [] 7 [0,2,0,3,0] λf2 g2 w2 c2=>?_);rw[show dnS s ⟨k,c,q,d,v⟩=s from if_neg (λg=>g.1 h),show dnC s ⟨k,c,q,d,v⟩=0 from if_pos h,show dnA s ⟨k,c,q,d,v⟩=0 from if_pos h];exact qE4 4 5 43 39 2 (a 2) 3 (a 3) (stA s) #[iv 0,iv 0] λK=>⟨rfl,Cg.ab (c1.trans c2) (λ_ _=>N')⟩
 .refine qI ((k==0)) false (by simpa using h) (qR [] 3 [] λf3 g3 w3 F=>BV 49 (λM w' e L=>e=[(2,pt (a 0) 0),(3,pt (a 1) 0),(4,pt (a 2) 0),(5,pt (a 3) 0),(6,iv (s.L c))]/\L=[⟨(a 0),.cells (stA s) 43,.z,false⟩,⟨(a 1),.cells #[iv k,iv (c:Int),iv q,iv (d:Int),iv v] 47,.z,false⟩,⟨(a 2),.cells (stA AD) 43,.l,false⟩,⟨(a 3),.cells #[iv 0,iv 0] 39,.l,false⟩]/\True/\Cg w.heap.size ([]:List Tg) g3 w3 M w') (by kernel_rfl) ?_ ?_)
  .intro J hJ;rcases lt8 Q with rfl|rfl|rfl|rfl|rfl|rfl|rfl|rfl <;>
   (refine qR [] 7 [1,0] λf4 g5 w5 c5=>?_;exact qB [true,true,true,true] λz P K=>hJ _ _ _ z _ ⟨rfl,rfl,trivial,(c5.nil ([]:List Tg))⟩ K)
  rintro g4 w4 _ z4 _ ⟨rfl,rfl,_,G⟩;refine qR [] 7 [1] λf5 g6 w6 H=>qV 3 (iv (q+1)) (AR 20 q underlying3 (by omega)) (qR [] 3 [] λf6 g7 w7 I=>?_);by_cases i:s.L c=q+1
  .refine qI (((s.L c)==(q+1))) true (by simpa using i) (qR [] 2 [6] λf7 g8 w8 c8=>BV 49 (λM w' e L=>e=[(2,pt (a 0) 0),(3,pt (a 1) 0),(4,pt (a 2) 0),(5,pt (a 3) 0)]/\L=[⟨(a 0),.cells (stA s) 43,.z,false⟩,⟨(a 1),.cells #[iv k,iv (c:Int),iv q,iv (d:Int),iv v] 47,.z,false⟩,⟨(a 2),.cells (stA s) 43,.l,false⟩,⟨(a 3),.cells #[iv (s.C c),iv (s.A c)] 39,.l,false⟩]/\True/\Cg w.heap.size ([]:List Tg) g8 w8 M w') (by kernel_rfl) ?_ ?_)
   .intro J hJ;rcases lt8 Q with rfl|rfl|rfl|rfl|rfl|rfl|rfl|rfl <;>
    (refine qR [] 3 [0,0,2,6] λa7 b9 d9 p=>?_;exact CU 2 6 (by kernel_rfl) (by(refine qR [] 2 [1,8] λa8 c0 e0 D=>?_;exact CU 5 6 (by kernel_rfl) (by(refine qR [] 4 [0,13,2,0,15,3,0] λa9 d0 e1 U=>?_;exact qB [true,true,true,true] λz P K=>hJ _ _ _ z _ ⟨rfl,rfl,trivial,(((p.nil ([]:List Tg)).n D).n U)⟩ K)) (by(refine qR [] 4 [2,0,11,0,15,3,0] λb0 d1 e2 V=>?_;exact qB [true,true,true,true] λz P K=>hJ _ _ _ z _ ⟨rfl,rfl,trivial,(((p.nil ([]:List Tg)).n D).n V)⟩ K)))) (by(refine qR [] 6 [2,0,5,1,8,11,0,15,3,0] λb1 d2 e3 W=>?_;exact qB [true,true,true,true] λz P K=>hJ _ _ _ z _ ⟨rfl,rfl,trivial,((p.nil ([]:List Tg)).n W)⟩ K)))
   rintro g9 w9 _ z9 _ ⟨rfl,rfl,_,c9⟩;rw[show dnS s ⟨k,c,q,d,v⟩=s from if_neg (λg=>g.2.1 (by show q<s.L c;omega)),show dnC s ⟨k,c,q,d,v⟩=s.C c from(if_neg h).trans (if_pos i),show dnA s ⟨k,c,q,d,v⟩=s.A c from(if_neg h).trans (if_pos i)];exact qE4 4 5 43 39 2 (a 2) 3 (a 3) (stA s) #[iv (s.C c),iv (s.A c)] λK=>⟨rfl,Cg.ab ((((((c1.trans F).trans G).trans H).trans I).trans c8).trans c9) (λ_ _=>N')⟩
  .refine qI (((s.L c)==(q+1))) false (by simpa using i) (qR [] 8 [1] λb2 d3 e4 m=>?_);by_cases j:q<s.L c
   .refine qI ((decide (q<(s.L c)))) true (I' j) (qR [] 7 [0,2,0,3,0] λb3 d4 e5 X=>?_);rw[show dnS s ⟨k,c,q,d,v⟩=s from if_neg (λg=>g.2.1 j),show dnC s ⟨k,c,q,d,v⟩=7 from(if_neg h).trans ((if_neg i).trans (if_pos j)),show dnA s ⟨k,c,q,d,v⟩=0 from(if_neg h).trans ((if_neg i).trans (if_pos j))];exact qE4 4 5 43 39 2 (a 2) 3 (a 3) (stA s) #[iv 7,iv 0] λK=>⟨rfl,Cg.ab ((((((c1.trans F).trans G).trans H).trans I).trans m).trans X) (λ_ _=>N')⟩
   .refine qI ((decide (q<(s.L c)))) false (D' j) (qR [] 2 [] λb4 a2 a4 r=>BV 49 (λM w' e L=>e=[(2,pt (a 0) 0),(3,pt (a 1) 0),(4,pt (a 2) 0),(5,pt (a 3) 0),(36,.bool (s.R c))]/\L=[⟨(a 0),.cells (stA s) 43,.z,false⟩,⟨(a 1),.cells #[iv k,iv (c:Int),iv q,iv (d:Int),iv v] 47,.z,false⟩,⟨(a 2),.cells (stA AD) 43,.l,false⟩,⟨(a 3),.cells #[iv 0,iv 0] 39,.l,false⟩]/\True/\Cg w.heap.size ([]:List Tg) a2 a4 M w') (by kernel_rfl) ?_ ?_)
    .intro J hJ;rcases lt8 Q with rfl|rfl|rfl|rfl|rfl|rfl|rfl|rfl <;>
     (refine qR [] 7 [1,0] λb5 d6 e7 Y=>?_;exact qB [true,true,true,true] λz P K=>hJ _ _ _ z _ ⟨rfl,rfl,trivial,(Y.nil ([]:List Tg))⟩ K)
    rintro d5 e6 _ f1 _ ⟨rfl,rfl,_,u⟩;by_cases o:s.R c=true
    .refine qI ((s.R c)) true o (qR [] 7 [0,2,0,3,0] λb6 d7 e8 Z=>?_);rw[show dnS s ⟨k,c,q,d,v⟩=s from if_neg (λg=>Bool.noConfusion (o.symm.trans g.2.2)),show dnC s ⟨k,c,q,d,v⟩=11 from(if_neg h).trans ((if_neg i).trans ((if_neg j).trans (if_pos o))),show dnA s ⟨k,c,q,d,v⟩=0 from(if_neg h).trans ((if_neg i).trans ((if_neg j).trans (if_pos o)))];exact qE4 4 5 43 39 2 (a 2) 3 (a 3) (stA s) #[iv 11,iv 0] λK=>⟨rfl,Cg.ab ((((((((c1.trans F).trans G).trans H).trans I).trans m).trans r).trans u).trans Z) (λ_ _=>N')⟩
    .refine qI ((s.R c)) false (by simpa using o) ?_;obtain⟨S,hS⟩:∃ S,JQ s ⟨k,c,q,d,v⟩=S:=⟨_,rfl⟩;obtain⟨A,hA⟩:∃ A,JP s ⟨k,c,q,d,v⟩=A:=⟨_,rfl⟩;refine qR [] 6 [0,1] λb7 N O E=>?_;have a5:=(Cg.ab ((((((((c1.trans F).trans G).trans H).trans I).trans m).trans r).trans u).trans E) (λ_ _=>N'));refine Ae λx=>?_;have a6:∀ z,O.heap.size<=z->N.t z=.z:=λz hz=>(x.new z hz).1;refine qC 2 (VM s k c d q v O (by omega) Q hn q0 q1 hS hA) ?_;rintro e' e9 ⟨rfl,y⟩;refine⟨_,rfl,y,?_⟩;have a0:=Cg.bu (B:=w.heap.size) (T:=[]) (g:=N) y;refine qR [] 5 [2,0,3,0] λb8 d8 f0 a1=>?_;rw[show dnS s ⟨k,c,q,d,v⟩=S from(if_pos ⟨h,j,by simpa using o⟩).trans hS,show dnC s ⟨k,c,q,d,v⟩=0 from(if_neg h).trans ((if_neg i).trans ((if_neg j).trans (if_neg o))),show dnA s ⟨k,c,q,d,v⟩=A from(if_neg h).trans ((if_neg i).trans ((if_neg j).trans ((if_neg o).trans hA)))];exact qE4 4 5 43 39 2 (a 2) 3 (a 3) (stA S) #[iv 0,iv A] λK=>⟨rfl,Cg.ab ((((((((((c1.trans F).trans G).trans H).trans I).trans m).trans r).trans u).trans E).trans a0).trans a1) (λ_ _=>N')⟩
theorem Za{s:Sto}(j:m.e=0){S:Sto}(i:dnS s m=S){C A:Int}(h:dnC s m=C)(g:dnA s m=A) :
  Calls prog 40 #[.agg (stA s),.agg #[iv m.k,iv m.c,iv m.s,iv m.n,iv m.v]] w λe w'=>e=.returned (.tuple #[.agg (stA S),.agg #[iv C,iv A]])/\Bw w w':=by
 subst i h g;obtain⟨k,c,q,n,v⟩:=m;obtain⟨b,f⟩:=Kk j;unfold InC at f;simp only at b f ⊢;obtain⟨a,rfl⟩:∃ a:Nat,c=(a:Int):=⟨c.toNat,by omega⟩;obtain⟨d,rfl⟩:∃ d:Nat,n=(d:Int):=⟨n.toNat,by omega⟩;exact V8 s k a d q v w b.1 b.2 (by omega) (by omega) (by omega) (by omega)
theorem V7{s:Sto}(a:MB s=E):Calls prog 38 #[.agg (stA s)] w λe w'=>e=.returned (iv E)/\Bw w w':=by subst a;exact SC s w
theorem UO(b:NTab w){E:Int}(a:m.e=E):Calls prog 39 #[.agg #[iv m.k,iv m.c,iv m.s,iv m.n,iv m.v]] w λe w'=>e=.returned (iv E)/\Bw w w':=by subst a;exact DL m.k m.c m.s m.n m.v w b
theorem dM(s:Sto)(m:Cmd)(w:World)(hN:NTab w) :
  Calls prog 18 #[.agg (stA s),.agg #[iv m.k,iv m.c,iv m.s,iv m.n,iv m.v]] w λe w'=>e=.returned (.tuple #[.agg (stA (doS s m)),.agg #[iv (doC s m),iv (doA s m)],iv (doE s m)])/\Bw w w':=by
 obtain⟨E,j⟩:∃ E,MB s=E:=⟨_,rfl⟩;obtain⟨F,X⟩:∃ F,m.e=F:=⟨_,rfl⟩;have Y:∀ b,w.heap.size<=b->gS.t b=.z/\gS.k b=0:=λ_ _=>⟨rfl,rfl⟩;refine gI (fn:=f18) [] gS func18 Y (qR [] 12 [0,0,0,0,1,0,1,0,0] λa g1 w1 c1=>?_);have a4:=(Cg.ab c1 (λ_ _=>N'));refine Ae λH=>?_;have a8:∀ z,w1.heap.size<=z->g1.t z=.z:=λz y=>(H.new z y).1;refine qC 1 (V7 j) ?_;rintro e' w2 ⟨rfl,b2⟩;refine⟨_,rfl,b2,?_⟩;have q:=Cg.bu (B:=w.heap.size) (T:=[]) (g:=g1) b2;refine qR [] 7 [] λb7 g3 w3 r=>?_;by_cases u:E≠0
 .refine qI ((E != 0)) true (by simpa using u) (qR [] 9 [2,0,3,0] λb8 g4 w4 c4=>?_);have h:doE s m=E:=by unfold doE;unfold MB at j;split at j;exact absurd j.symm u;rename_i g;rw[if_neg g];exact j
  have d:doE s m≠0:=by rw[h];exact u
  rw[Wx d,Wt d,show doA s m=0 from if_neg d,h];exact qE5 4 5 6 43 39 2 (a 2) 3 (a 3) (stA AD) #[iv 0,iv 0] (iv E) λK=>⟨rfl,(Cg.ab (((c1.trans q).trans r).trans c4) (λ_ _=>N'))⟩
 .refine qI ((E != 0)) false (by simpa using u) ?_;have hB:Gw s:=nm λg=>absurd (j.symm.trans (Ks g)) (by rw[show E=0 from by simpa using u];decide);refine qR [] 5 [1] λb9 g5 w5 D=>?_;have M:=(Cg.ab (((c1.trans q).trans r).trans D) (λ_ _=>N'));refine Ae λI=>?_;have a9:∀ z,w5.heap.size<=z->g5.t z=.z:=λz y=>(I.new z y).1;refine qC 1 (UO (hN.ab M) X) ?_;rintro e' w6 ⟨rfl,b6⟩;refine⟨_,rfl,b6,?_⟩;have U:=Cg.bu (B:=w.heap.size) (T:=[]) (g:=g5) b6;refine qR [] 7 [] λc0 g7 w7 V=>?_;by_cases G:F≠0
  .refine qI ((F != 0)) true (by simpa using G) (qR [] 9 [2,0,3,0] λd0 g8 w8 c8=>?_);have h:doE s m=F:=(if_pos hB).trans X;have d:doE s m≠0:=by rw[h];exact G
   rw[Wx d,Wt d,show doA s m=0 from if_neg d,h];exact qE5 4 5 6 43 39 2 (a 2) 3 (a 3) (stA AD) #[iv 0,iv 0] (iv F) λK=>⟨rfl,(Cg.ab ((((((c1.trans q).trans r).trans D).trans U).trans V).trans c8) (λ_ _=>N'))⟩
  .refine qI ((F != 0)) false (by simpa using G) ?_;have x:m.e=0:=by rw[X];simpa using G
   have h:doE s m=0:=(if_pos hB).trans x;obtain⟨S,hS⟩:∃ S,dnS s m=S:=⟨_,rfl⟩;obtain⟨C,hC⟩:∃ C,dnC s m=C:=⟨_,rfl⟩;obtain⟨A,hA⟩:∃ A,dnA s m=A:=⟨_,rfl⟩;refine qR [] 5 [0,1] λd1 g9 w9 c9=>?_;have a0:=(Cg.ab ((((((c1.trans q).trans r).trans D).trans U).trans V).trans c9) (λ_ _=>N'));refine Ae λo=>?_;have a1:∀ z,w9.heap.size<=z->g9.t z=.z:=λz y=>(o.new z y).1;refine qC 2 (Za x hS hC hA) ?_;rintro e' b0 ⟨rfl,p⟩;refine⟨_,rfl,p,?_⟩;have N:=Cg.bu (B:=w.heap.size) (T:=[]) (g:=g9) p;refine qR [] 11 [0,0,0,0,4,0,5,0,2,0,4] λi W Z O=>BV 33 (λg' w' e L=>e=[(4,pt (a 2) 0),(5,pt (a 3) 0),(6,iv 0)]/\L=[⟨(a 0),.cells (stA s) 43,.z,false⟩,⟨(a 1),.cells #[iv m.k,iv m.c,iv m.s,iv m.n,iv m.v] 47,.z,false⟩,⟨(a 2),.cells (stA S) 43,.l,false⟩,⟨(a 3),.cells #[iv C,iv A] 39,.l,false⟩,⟨(i 0),.cells (stA S) 43,.z,false⟩,⟨(i 1),.cells #[iv C,iv A] 39,.z,false⟩]/\True/\Cg w.heap.size ([]:List Tg) W Z g' w') (by kernel_rfl) ?_ ?_
   .intro J hJ
    (exact CU 1 2 (by kernel_rfl) (by(refine qR [] 5 [5,5,2,0,7,3,0,8] λa2 a6 b3 Q=>?_;exact qB [true,true,true,true,true,true] λz K0 K=>hJ _ _ _ z _ ⟨rfl,rfl,trivial,(Q.nil ([]:List Tg))⟩ K)) (by(refine qR [] 5 [2,0,3,5,7,3,0,8] λa3 a7 b4 R=>?_;exact qB [true,true,true,true,true,true] λz K0 K=>hJ _ _ _ z _ ⟨rfl,rfl,trivial,(R.nil ([]:List Tg))⟩ K)))
   rintro a5 b1 _ b5 _ ⟨rfl,rfl,_,P⟩;rw[Wy h,Wu h,Ws h,h,hS,hC,hA];exact qE5 4 5 6 43 39 2 (a 2) 3 (a 3) (stA S) #[iv C,iv A] (iv 0) λK=>⟨rfl,(Cg.ab (((((((((c1.trans q).trans r).trans D).trans U).trans V).trans c9).trans N).trans O).trans P) (λ_ _=>N'))⟩
theorem Dn(s:Sto)(k c q n v:Int)(w:World)(a:NTab w) :
  Calls prog 18 #[.agg (stA s),.agg (cmA k c q n v)] w λe w'=>e=.returned (.tuple #[.agg (stA (doS s ⟨k,c,q,n,v⟩)),.agg #[.int .i64 (doC s ⟨k,c,q,n,v⟩),.int .i64 (doA s ⟨k,c,q,n,v⟩)],.int .i64 (doE s ⟨k,c,q,n,v⟩)])/\Bw w w':=dM s ⟨k,c,q,n,v⟩ w a
theorem XD{v:Value}{l:List Int}{a:Int}(h:Sl w v l)(f:Ax w)(j:Cp w)(d:NTab w)(i:opE l a=e0)(g:GX l a=c) :
  Calls prog 54 #[v,iv a] w λe w'=>e=.returned (.tuple #[.agg #[iv c.k,iv c.c,iv c.s,iv c.n,iv c.v],iv e0])/\Bw w w':=by
 have b:=UH v l a w h f j d;rw[fB,i,g]at b
 exact b
theorem Vo(h:NS i nb ob g w p ls ts){w0:World}(G:Base w0 g w)(D:Tabs w0)(dv:S3)(u:List Int)(hd:Sl w dv.v u){n:Nat}(a9:NOk n p)(f8:p.bad<100000000)(hw:p.an.length<100000000)(e8:ts.length<100000000){y:Int}{c:Cmd}(he:opE u (p.done:Int)=y)(hc:GX u (p.done:Int)=c) :
  Calls prog 25 #[pt nb 0,dv.v] w (NP i nb ob g w (.tuple #[]) (p.oz i y c ts).1 ls (p.oz i y c ts).2):=by
 obtain⟨x,lt,tl,H,I,hg⟩:=h;have e7:=a9.dn;have i6:=a9.ag;refine gI (fn:=f25) (TN i) g func25 hg (qN H (qO I (qR [] 9 [0] λs1 g1 w1 c1=>?_)));by_cases h1:p.up=true
 .refine qI ((!p.up)) false (by simpa using h1) ?_;have r:¬ p.up=false:=by simp[h1]
  refine qR [] 9 [0] λs2 g2 w2 m=>?_;have F:=G.ch (c1.trans m);have e6:=Cg.ab (c1.trans m) (λ_ _=>N');refine qC 6 (XD (hd.ab e6) (F.tt D) (F.tq D) (F.tn D) he hc) ?_;rintro E w3 ⟨rfl,b3⟩;refine⟨_,rfl,b3,?_⟩;have o:=Cg.bu (B:=w.heap.size) (T:=[]) (g:=g2) b3;refine qR [] 13 [0,0,2,0] λs4 g4 w4 q=>?_;by_cases h2:y≠0
  .refine qI ((y != 0)) true (by simpa using h2) (qR [] 6 [0] λs5 g5 w5 c5=>qV 4 (iv ((p.bad+1:Nat):Int)) (AR 29 (p.bad:Int) underlying3 (by omega)) (qR [.n 0 i] 4 [0,1] λs6 g6 w6 c6=>qE (.tuple #[]) λK=>?_));rw[show p.oz i y c ts=({ p with bad:=p.bad+1 },ts)from(if_neg r).trans (if_pos h2)];have C7:=(((((c1.nil ([.n 0 i]:List Tg)).n m).n o).n q).n c5).trans (c6);exact⟨_,rfl,⟨x,lt,tl,K.pA 0 H C7,I.ch C7 (hn:=by simp<;>omega),K.new⟩,((((((c1.nil (TN i)).n m).n o).n q).n c5).trans (c6.mono (by simp[TN])))⟩
  .refine qI ((y != 0)) false (by simpa using h2) (qR [] 6 [4,0,4,2] λs8 g8 w8 t=>Ae λK=>?_);have b8:NS i nb ob g8 w8 p ls ts:=(nsC H I ((((c1.n m).n o).n q).n t) K);refine qC 1 (Ti b8 e7) ?_;rintro E j6 ⟨l9,rfl,b0,N⟩;refine⟨_,rfl,N,?_⟩;have a:=Cg.bu (B:=w.heap.size) (T:=[]) (g:=g8) N;refine qC 3 (ES (l:=p.ae.take p.done) b0 (by rw[X'];omega) c) ?_;rintro E j7 ⟨rfl,O⟩;refine⟨_,rfl,O,?_⟩;have b:=Cg.bu (B:=w.heap.size) (T:=[]) (g:=g8) O;refine qR [] 1 [] λi7 g9 j8 d=>?_;by_cases h3:c∈p.ae.take p.done
   .refine qI ((decide (c∈p.ae.take p.done))) true (by simpa using h3) (qR [] 8 [16,0,2,4,6,8,0,10,2] λi8 e1 f3 j=>BV 55 (λg' w' e L=>∃ (b6 b7:Nat),e=[(0,pt nb 0),(4,pt (s4 0) 0),(6,pt b6 0),(7,pt b7 0)]/\L=[⟨nb,.cells (AB i ob p x) 103,.n 0 i,false⟩,⟨ob,.cells #[S3.v lt,S3.v tl] 80,.n 50 0,false⟩,⟨(s4 0),.cells #[iv c.k,iv c.c,iv c.s,iv c.n,iv c.v] 47,.z,false⟩,⟨b6,.cells (stA (doS p.lr c)) 43,.l,false⟩,⟨b7,.cells #[iv (doC p.lr c),iv (doA p.lr c)] 39,.l,false⟩]/\Cg w.heap.size [] g w g' w') (by kernel_rfl) ?_ ?_)
    .intro J hJ;refine WW 6 11 12 (by kernel_rfl) ?_ ?_ ?_
     .have hB18:=G.ch ((((((((c1.trans m).trans o).trans q).trans t).trans a).trans b).trans d).trans j) (by simp);refine qC 6 (Dn p.lr c.k c.c c.s c.n c.v f3 (hB18.tn D)) ?_;rintro E j9 ⟨rfl,P⟩;refine⟨_,rfl,P,?_⟩;have V:=Cg.bu (B:=w.heap.size) (T:=[]) (g:=e1) P;refine qR [] 4 [14,16,18,20] λi9 h0 k0 W=>CU 11 12 (by kernel_rfl) ?_ ?_
      .refine qR [] 6 [1,0,25,1,0,27,3,0,29,4,0,30] λb1 h4 k1 c7=>qB [true,true,true,true,true] λz M K=>hJ _ _ _ z _ ⟨(b1 0),(b1 1),rfl,rfl,(((((((((((c1.trans m).trans o).trans q).trans t).trans a).trans b).trans d).trans j).trans V).trans W).trans c7)⟩ K
      .refine qR [] 6 [1,0,23,1,0,27,4,0,29,3,0,30] λb2 h5 k2 c9=>MX ?_;exact qB [true,true,true,true,true] λz M K=>hJ _ _ _ z _ ⟨(b2 1),(b2 0),rfl,rfl,(((((((((((c1.trans m).trans o).trans q).trans t).trans a).trans b).trans d).trans j).trans V).trans W).trans c9)⟩ K
     .refine qR [] 1 [1,0] λb4 e2 f4 A=>CU 6 12 (by kernel_rfl) ?_ ?_
      .have hB25:=G.ch (((((((((c1.trans m).trans o).trans q).trans t).trans a).trans b).trans d).trans j).trans A) (by simp);refine qC 6 (Dn p.lr c.k c.c c.s c.n c.v f4 (hB25.tn D)) ?_;rintro E k3 ⟨rfl,Q⟩;refine⟨_,rfl,Q,?_⟩;have d0:=Cg.bu (B:=w.heap.size) (T:=[]) (g:=e2) Q;refine qR [] 9 [14,16,18,20,25,1,0,27,3,0,29,4,0,30] λe9 h6 k4 d1=>qB [true,true,true,true,true] λz M K=>hJ _ _ _ z _ ⟨(b4 0),(e9 0),rfl,rfl,(((((((((((c1.trans m).trans o).trans q).trans t).trans a).trans b).trans d).trans j).trans A).trans d0).trans d1)⟩ K
      .refine qR [] 1 [1,0] λf0 e3 f5 X=>?_;have a3:=G.ch ((((((((((c1.trans m).trans o).trans q).trans t).trans a).trans b).trans d).trans j).trans A).trans X) (by simp);refine qC 6 (Dn p.lr c.k c.c c.s c.n c.v f5 (a3.tn D)) ?_;rintro E k5 ⟨rfl,R⟩;refine⟨_,rfl,R,?_⟩;have d2:=Cg.bu (B:=w.heap.size) (T:=[]) (g:=e3) R;refine qR [] 8 [14,16,18,20,27,3,0,29,4,0,30] λj0 h7 k6 d3=>qB [true,true,true,true,true] λz M K=>hJ _ _ _ z _ ⟨(b4 0),(f0 0),rfl,rfl,((((((((((((c1.trans m).trans o).trans q).trans t).trans a).trans b).trans d).trans j).trans A).trans X).trans d2).trans d3)⟩ K
     .refine qR [] 1 [1,0] λb5 e4 f6 C=>CU 6 11 (by kernel_rfl) ?_ ?_
      .have hB34:=G.ch (((((((((c1.trans m).trans o).trans q).trans t).trans a).trans b).trans d).trans j).trans C) (by simp);refine qC 6 (Dn p.lr c.k c.c c.s c.n c.v f6 (hB34.tn D)) ?_;rintro E k7 ⟨rfl,S⟩;refine⟨_,rfl,S,?_⟩;have d4:=Cg.bu (B:=w.heap.size) (T:=[]) (g:=e4) S;refine qR [] 9 [14,16,18,20,23,1,0,27,4,0,29,3,0,30] λf1 h8 k8 d5=>MX ?_;exact qB [true,true,true,true,true] λz M K=>hJ _ _ _ z _ ⟨(f1 0),(b5 0),rfl,rfl,(((((((((((c1.trans m).trans o).trans q).trans t).trans a).trans b).trans d).trans j).trans C).trans d4).trans d5)⟩ K
      .refine qR [] 1 [1,0] λf2 e5 f7 Y=>?_;have a4:=G.ch ((((((((((c1.trans m).trans o).trans q).trans t).trans a).trans b).trans d).trans j).trans C).trans Y) (by simp);refine qC 6 (Dn p.lr c.k c.c c.s c.n c.v f7 (a4.tn D)) ?_;rintro E k9 ⟨rfl,U⟩;refine⟨_,rfl,U,?_⟩;have d6:=Cg.bu (B:=w.heap.size) (T:=[]) (g:=e5) U;refine qR [] 8 [14,16,18,20,27,4,0,29,3,0,30] λj1 h9 l0 d7=>MX ?_;exact qB [true,true,true,true,true] λz M K=>hJ _ _ _ z _ ⟨(f2 0),(b5 0),rfl,rfl,((((((((((((c1.trans m).trans o).trans q).trans t).trans a).trans b).trans d).trans j).trans C).trans Y).trans d6).trans d7)⟩ K
    .rintro g16 w16 _ z16 _ ⟨b6,b7,rfl,rfl,hcc⟩;refine qR [] 5 [2,4] λj2 i0 l1 Z=>?_;rw[show p.oz i y c ts=(p,(ts++[⟨i,c.c,c.s,doC p.lr c,doA p.lr c⟩]))from(if_neg r).trans ((if_neg h2).trans (if_pos h3))];refine qS 3 [false,false,true,true,true] H I (hcc.n Z) (λb9=>Qv b9 e8 c (doC p.lr c) (doA p.lr c)) λi1 l2 l7 f9 g3 a5 a7 d8=>qR [] 1 [] λj3 i2 l3 a0=>qF a5 a7 a0 ((((hcc.nil (TN i)).n Z).trans (d8)).n a0)
   .refine qI ((decide (c∈p.ae.take p.done))) false (by simpa using h3) (qR [] 4 [2] λj4 i3 l4 a1=>?_);rw[show p.oz i y c ts=(p.want c,ts)from(if_neg r).trans ((if_neg h2).trans (if_neg h3))];refine qS 2 [false,false,true] H I ((((((((c1.n m).n o).n q).n t).n a).n b).n d).n a1) (λc0=>Zg c0 h1 hw c) λi4 l5 l8 g0 g7 a6 a8 d9=>qR [] 1 [] λj5 i5 l6 a2=>qF a6 a8 a2 (((((((((((c1.nil (TN i)).n m).n o).n q).n t).n a).n b).n d).n a1).trans (d9)).n a2)
 .refine qI ((!p.up)) true (by simpa using h1) (qE (.tuple #[]) λK=>?_);rw[show p.oz i y c ts=(p,ts)from if_pos (by simpa using h1)];exact⟨_,rfl,(nsC H I c1 K),(c1.nil (TN i))⟩
def Pe(Q:Nat->Bool):Nat->Nat
 | 0=>0
 | k+1=>Pe Q k+(Q k).toNat
theorem gW(Q:Nat->Bool):Pe Q 5=KE Q:=by simp only[Pe,KE];omega
theorem ZJ(Q:Nat->Bool)(k:Nat):Pe Q k<=k:=by
 induction k with
 | zero=>exact A' _
 | succ k ih=>simp only[Pe];cases Q k<;>simp<;>omega
theorem j1{P:Program}{x y:Operand}{t:TypeId}(a b:Int)(d:P.underlying t=some (.int .i64))(h:-9223372036854775808<=a*b/\a*b<=9223372036854775807):(do Go.eqGuard .mul t x y (iv a) (iv b);Go.binOp .mul t (iv a) (iv b):Sem Value).run P W=.ok (iv (a*b)) W:=by
 have c:IntKind.i64.wrap (a*b)=a*b:=by rw[IntKind.wrap_i64];omega
 simp[Go.eqGuard,Go.binOp,go_sem,c]
theorem Rf(h:NS i nb ob g w p ls ts) :
  Calls prog 107 #[pt nb 11] w λe w'=>e=.returned (.bool p.br.om)/\Bw w w':=by
 obtain⟨x,lt,tl,D,E,F⟩:=h;refine gI (fn:=f107) (TN i) g func107 F (qN D (qO E (qR [] 18 [0] λX O w1 c1=>BL 20 [(3,iv 0),(9,.agg #[.bool (p.br.nX 0),.bool (p.br.nX 1),.bool (p.br.nX 2),.bool (p.br.nX 3),.bool (p.br.nX 4)]),(10,iv 0)] [false,false] [] (λk v w' e L=>∃ (k0 c:Nat),c=Pe p.br.nX k0/\k=5-k0/\k0<=5/\e=[(3,iv (c:Int)),(9,.agg #[.bool (p.br.nX 0),.bool (p.br.nX 1),.bool (p.br.nX 2),.bool (p.br.nX 3),.bool (p.br.nX 4)]),(10,iv (k0:Int))]/\L=[]/\Cg w.heap.size [] g w v w') (by kernel_rfl) (by kernel_rfl) (by kernel_rfl) (by kernel_rfl) 5 (λK=>?_) ?_)))
 .exact⟨0,0,rfl,rfl,by omega,rfl,rfl,c1⟩
 .rintro k gr wr _ zr _ ⟨k0,c,hc,rfl,hk0,rfl,rfl,hC⟩ J hJ;have l:=ZJ p.br.nX k0;refine qR [] 5 [] λY P w2 j=>?_;by_cases C:k0<5
  .refine qI ((decide ((k0:Int)<5))) true (I' (by omega)) (qR [] 5 [] λs3 Q w3 m=>?_);refine aD 0 (.bool (p.br.nX k0)) (λK=>(by rcases nT C with rfl|rfl|rfl|rfl|rfl<;>kernel_rfl)) (by kernel_rfl) ?_;refine qR [] 6 [] λZ R w4 n=>?_;by_cases a:p.br.nX k0=true
   .refine qI ((p.br.nX k0)) true a (qR [] 2 [] λs5 S w5 q=>qV 1 (iv ((c:Int)+1)) (AR 14 (c:Int) underlying3 (by omega)) (qR [] 4 [] λs6 T w6 r=>qV 0 (iv ((k0:Int)+1)) (AR 10 (k0:Int) underlying3 (by omega)) (qR [] 2 [] λs7 U w7 s=>qB [] λz o K=>hJ (5-(k0+1)) _ _ _ z _ (by omega) ⟨k0+1,(c+1),by simp only[Pe];rw[a,hc];rfl,rfl,by omega,rfl,rfl,hC.trans (((((j.trans m).trans n).trans q).trans r).trans s)⟩ K)))
   .refine qI ((p.br.nX k0)) false (by simpa using a) (qR [] 3 [] λs8 V w8 t=>qV 0 (iv ((k0:Int)+1)) (AR 10 (k0:Int) underlying3 (by omega)) (qR [] 2 [] λs9 W w9 u=>qB [] λz o K=>hJ (5-(k0+1)) _ _ _ z _ (by omega) ⟨k0+1,c,by simp only[Pe];rw[(by simpa using a:p.br.nX k0=false),hc];rfl,rfl,by omega,rfl,rfl,hC.trans ((((j.trans m).trans n).trans t).trans u)⟩ K))
  .refine qI ((decide ((k0:Int)<5))) false (D' (by omega)) ?_;obtain rfl:k0=5:=by omega
   rw[gW]at hc l
   refine qR [] 4 [] λH A M b=>qV 1 (iv (2*(c:Int))) (j1 (x:=(.const (iv 2))) (y:=(.tmp 17)) 2 (c:Int) underlying3 (by omega)) (qR [] 3 [] λI B N d=>?_);rw[show p.br.om=decide ((5:Int)<2*(c:Int))from by unfold Rnd.om;rw[<- hc];by_cases G:5<2*c<;>simp[G]<;>omega];exact qE (.bool (decide ((5:Int)<2*(c:Int)))) λK=>⟨rfl,Cg.ab (hC.trans ((j.trans b).trans d)) (λ_ _=>N')⟩
structure Svv(w:World)(x:Value)(ls:List (List Vt)):Prop where
 ex:∃ a cap,x=.slice a ls.length cap/\(ls=[]\/∃ b off,a=some ⟨b,off,none⟩/\b<w.heap.size/\∀ (i:Nat) (l:List Vt),ls[i]?=some l->∃ y,w.cell? ⟨b,off+i,none⟩=some y/\Sv w y l)
 len:ls.length<=5864062014634
theorem Svv.shape{x:Value}{b:List (List Vt)}(h:Svv w x b):∃ a cap,x=.slice a b.length cap:=by
 obtain⟨⟨a,cap,e,_⟩,_⟩:=h;exact⟨a,cap,e⟩
theorem Svv.spot{a:Option Addr}{c:Nat}{g:List (List Vt)}(h:Svv w (.slice a n c) g)(i:Nat)(l:List Vt)(f:g[i]?=some l):∃ b off y,a=some ⟨b,off,none⟩/\b<w.heap.size/\w.cell? ⟨b,off+i,none⟩=some y/\Sv w y l:=by
 obtain⟨⟨k,d,e,j⟩,_⟩:=h;simp only[Value.slice.injEq]at e;obtain⟨rfl,rfl,rfl⟩:=e;rcases j with rfl|⟨b,off,rfl,hb,hc⟩
 .simp at f
 .obtain⟨y,h3,h4⟩:=hc i l f;exact⟨b,off,y,rfl,hb,h3,h4⟩
theorem fJ{x:S3}{b c:Nat}(d:x.a=some ⟨b,c,none⟩)(j:Nat)(f:j<x.n):(Instr.indexAt 230 x.v (iv (j:Int))).run prog W=.ok (pt b (c+j)) W:=by
 obtain⟨g,i,h⟩:=x;simp only at d f;subst d;exact L2 (P:=prog) (e:=89) (z:=1) underlying230 (by kernel_rfl) (by kernel_rfl) f _ (by rw[nP])
theorem aQ(h:E2 (BQ (Af L s) none) b)(a:u.au≠s):E2 (BQ (Af (L++[u]) s) none) b:=by
 rw[Jx,if_neg a,ki];exact h
theorem aP(h:E2 (BQ (Af L s) none) b)(a:u.au=s)(c:Ad u.b):E2 (BQ (Af (L++[u]) s) none) (if b.b.lt u.b then u else b):=by
 rw[Jx,if_pos a,QG];exact h.next c
theorem PT{a:List (List Vt)}{d:World}{f:Bool}(h:(GC a s=b.w/\Fx a s=!decide (b.b.r=0/\b.b.n=0)/\CM a s=0))(g:decide (b.b=Bh)=!f)(e:Bw w d):(Ending.returned (.tuple #[.agg #[iv b.w.k,iv b.w.c,iv b.w.s,iv b.w.n,iv b.w.v],.bool f,iv 0]):Ending)=.returned (.tuple #[.agg (cmC (GC a s)),.bool (Fx a s),.int .i64 (CM a s)])/\Bw w d:=by
 rw[h.1,h.2.1,h.2.2,show decide (b.b.r=0/\b.b.n=0)=decide (b.b=Bh)from kN.2 (Bal.eq_iff b.b Bh),g,Bool.not_not];exact⟨rfl,e⟩
theorem XX(x:Value)(ls:List (List Vt))(s:Int)(w:World)(h:Svv w x ls)(ht:NTab w) :
  Calls prog 142 #[x,.int .i64 s] w λe w'=>e=.returned (.tuple #[.agg (cmC (GC ls s)),.bool (Fx ls s),.int .i64 (CM ls s)])/\Bw w w':=by
 have c5:=h.len;obtain⟨a,P,rfl⟩:=h.shape;obtain⟨y,hy⟩:∃ y:S3,y=⟨a,ls.length,P⟩:=⟨_,rfl⟩;have c7:y.n=ls.length:=by rw[hy]
 rw[show(.slice a ls.length P:Value)=y.v by rw[hy]]at h ⊢
 clear hy;refine tIn [] func142 trivial (tR 10 [1,0] λd _ _=>?_);by_cases G:0<=s/\s<=39
 .refine tC 1 (λF C=>DA (r:=true) (I' G)) λNz=>?_;rintro _ _ ⟨rfl,W⟩;refine⟨_,_,rfl,W,id,?_⟩;refine tR 16 [1,0] λo _ _=>Eh 52 [(1,iv s),(4,pt (d 0) 0),(7,pt (o 0) 0),(16,S3.v y),(17,iv (y.n:Int)),(18,iv 0)] [true,true] [⟨(d 0),.cells #[iv 0,iv 0,iv 0,iv 0,iv 0] 47,.l,false⟩,⟨(o 0),.cells #[iv 0,iv 0,iv 0,iv 0,iv 0,iv 0,iv 0,iv 0] 148,.l,false⟩] [] (λkk E D f=>∃ (j:Nat) (b:Vt),kk=y.n-j/\E=[(1,iv s),(4,pt (d 0) 0),(7,pt (o 0) 0),(16,S3.v y),(17,iv (y.n:Int)),(18,iv (j:Int))]/\D=[⟨(d 0),.cells #[iv 0,iv 0,iv 0,iv 0,iv 0] 47,.l,false⟩,⟨(o 0),.cells #[iv b.au,iv b.b.r,iv b.b.n,iv b.w.k,iv b.w.c,iv b.w.s,iv b.w.n,iv b.w.v] 148,.l,false⟩]/\f=[]/\j<=ls.length/\E2 (BQ (Af (ls.take j).flatten s) none) b/\∀ l∈ls.take j,∀ v∈l,Ak v) (y.n) ⟨0,vt0,rfl,rfl,rfl,rfl,by omega,.inl ⟨rfl,rfl⟩,λl L=>(by simp at L)⟩ (λF=>trivial) ?_;rintro k _ _ _ ⟨j,b,rfl,rfl,rfl,rfl,hj,q,O⟩ _ _ _ J I;refine tR 5 [] λc9 _ _=>?_;by_cases h2:j<y.n
  .refine tI ((decide ((j:Int)<(y.n:Int)))) true (I' (by omega)) ?_;obtain⟨l,A⟩:∃ l,ls[j]?=some l:=⟨_,E' (by omega)⟩;obtain⟨bb,S,yl,a1,a0,Z,L⟩:=h.spot j l A;obtain⟨z,rfl⟩:=L.s3;have c8:=L.op.1;have hF:(ls.take (j+1)).flatten=_:=Vy ls j l A;have c6:=L.len;refine tR 5 [] λd0 _ _=>tV 0 (pt bb (S+j)) (λF C=>(fJ a1 j (by omega))) (tV 1 (S3.v z) (λF C=>(BX underlying89 rfl (((CgQ.ab C).cell (p:=⟨bb,S+j,none⟩) a0).trans Z))) (tR 9 [] λd1 _ _=>Eh 52 [(1,iv s),(4,pt (d 0) 0),(7,pt (o 0) 0),(16,S3.v y),(17,iv (y.n:Int)),(18,iv (j:Int)),(22,S3.v z),(23,iv (z.n:Int)),(24,iv 0)] [true,true] [⟨(d 0),.cells #[iv 0,iv 0,iv 0,iv 0,iv 0] 47,.l,false⟩,⟨(o 0),.cells #[iv b.au,iv b.b.r,iv b.b.n,iv b.w.k,iv b.w.c,iv b.w.s,iv b.w.n,iv b.w.v] 148,.l,false⟩] [] (λkk E D f=>∃ (k:Nat) (b:Vt),kk=z.n-k/\E=[(1,iv s),(4,pt (d 0) 0),(7,pt (o 0) 0),(16,S3.v y),(17,iv (y.n:Int)),(18,iv (j:Int)),(22,S3.v z),(23,iv (z.n:Int)),(24,iv (k:Int))]/\D=[⟨(d 0),.cells #[iv 0,iv 0,iv 0,iv 0,iv 0] 47,.l,false⟩,⟨(o 0),.cells #[iv b.au,iv b.b.r,iv b.b.n,iv b.w.k,iv b.w.c,iv b.w.s,iv b.w.n,iv b.w.v] 148,.l,false⟩]/\f=[]/\k<=l.length/\E2 (BQ (Af ((ls.take j).flatten++l.take k) s) none) b/\∀ v∈l.take k,Ak v) (z.n) ⟨0,b,rfl,rfl,rfl,rfl,by omega,(by rw[kZ,ki];exact q),λv hv=>(by simp at hv)⟩ (λF=>trivial) ?_));rintro k _ _ _ ⟨k,b,rfl,rfl,rfl,rfl,hk,q,N⟩ _ _ _ Jb K;refine tR 5 [] λd2 _ _=>?_;by_cases H:k<z.n
   .refine tI ((decide ((k:Int)<(z.n:Int)))) true (I' (by omega)) ?_;obtain⟨u,V⟩:∃ u,l[k]?=some u:=⟨_,E' (by omega)⟩;obtain⟨W,o2,R⟩:=L.ad (i:=k) (by omega);have Y:=Fr l k u V;refine tR 5 [] λd3 _ _=>tV 0 (pt W (o2+8*k)) (λF C=>(Tw R k (by omega))) (tV 1 (.agg #[iv u.au,iv u.b.r,iv u.b.n,iv u.w.k,iv u.w.c,iv u.w.s,iv u.w.n,iv u.w.v]) (λF C=>(bO u ((L.ab (CgQ.ab C)).at_ R V))) (tR 7 [0,0,2,0,2] λa2 _ _=>?_));by_cases Q:Ak u
    .refine tC1 1 (λF C=>Gq (v:=u) (ht.ab (CgQ.ab C)) (r:=true) (I' Q)) λ_=>?_;have M:∀ v∈l.take (k+1),Ak v:=YR V N Q;refine tR 9 [2] λa3 _ _=>?_;by_cases T:u.au=s
     .refine tV 3 (.bool true) (λF C=>(EF (t:=3) (m:=u.au) (n:=s) (x:=(.tmp 33)) (y:=(.tmp 34)) (by simpa using T))) (tR 5 [1,2] λa4 _ _=>?_);have B:=aP q T Q.2.1;by_cases U:b.b.lt u.b
      .rw[if_pos U]at B
       refine tC1 9 (λF C=>DG (a:=b.b) (b:=u.b) (r:=true) (I' U)) λ_=>tR 9 [2,1,0] λa5 _ _=>tV 0 (iv ((k:Int)+1)) (λF C=>(AR 24 (k:Int) underlying3 (by omega))) (tR 2 [] λa6 _ _=>tB K (z.n-(k+1)) (by omega) [true,true,false] ⟨k+1,u,rfl,rfl,rfl,rfl,by omega,by rw[Y,<- jI];exact B,M⟩ (λF=>trivial))
      .rw[if_neg U]at B
       refine tC1 9 (λF C=>DG (a:=b.b) (b:=u.b) (r:=false) (D' U)) λ_=>tR 6 [] λa7 _ _=>tV 0 (iv ((k:Int)+1)) (λF C=>(AR 24 (k:Int) underlying3 (by omega))) (tR 2 [] λa8 _ _=>tB K (z.n-(k+1)) (by omega) [true,true,false] ⟨k+1,b,rfl,rfl,rfl,rfl,by omega,by rw[Y,<- jI];exact B,M⟩ (λF=>trivial))
     .refine tV 3 (.bool false) (λF C=>(EF (t:=3) (m:=u.au) (n:=s) (x:=(.tmp 33)) (y:=(.tmp 34)) (by simpa using T))) (tR 12 [] λa9 _ _=>tV 0 (iv ((k:Int)+1)) (λF C=>(AR 24 (k:Int) underlying3 (by omega))) (tR 2 [] λb0 _ _=>tB K (z.n-(k+1)) (by omega) [true,true,false] ⟨k+1,b,rfl,rfl,rfl,rfl,by omega,by rw[Y,<- jI];exact aQ q T,M⟩ (λF=>trivial)))
    .refine tC1 1 (λF C=>Gq (v:=u) (ht.ab (CgQ.ab C)) (r:=false) (D' Q)) λ_=>?_;have X:=Se (ls:=ls) G λg=>Q (g l (jJ A) u (jJ V));refine tR 10 [0,0] λb1 _ _=>tX λF C=>qE3 4 5 6 47 0 (d 0) #[iv 0,iv 0,iv 0,iv 0,iv 0] (.bool false) (iv 5) λ_=>by rw[X.1,X.2.1,X.2.2];exact⟨rfl,CgQ.ab C⟩
   .refine tI ((decide ((k:Int)<(z.n:Int)))) false (D' (by omega)) ?_;rw[jS (show l.length<=k by omega)]at q N
    rw[<- hF]at q
    refine tR 3 [] λb3 _ _=>tV 0 (iv ((j:Int)+1)) (λF C=>(AR 18 (j:Int) underlying3 (by omega))) (tR 2 [] λb4 _ _=>tB I (y.n-(j+1)) (by omega) [true,true] ⟨j+1,b,rfl,rfl,rfl,rfl,by omega,q,YQ A O N⟩ (λF=>trivial))
  .refine tI ((decide ((j:Int)<(y.n:Int)))) false (D' (by omega)) ?_;rw[jS (show ls.length<=j by omega)]at q O
   have hK:=E2.pick G O q;refine tR 7 [6,0,2,1,4,8] λb5 _ _=>?_;by_cases H:b.b=Bh
   .refine JY 52 (λE D f=>∃ (_:Unit),E=[(4,pt (d 0) 0),(5,.bool false),(6,iv 0)]/\D=[⟨(d 0),.cells #[iv b.w.k,iv b.w.c,iv b.w.s,iv b.w.n,iv b.w.v] 47,.l,false⟩,⟨(o 0),.cells #[iv b.au,iv b.b.r,iv b.b.n,iv b.w.k,iv b.w.c,iv b.w.s,iv b.w.n,iv b.w.v] 148,.l,false⟩]/\f=[]) (λJ I=>?_) ?_
    .refine Hh 3 6 ?_ ?_
     .refine tR 1 [1] λb6 _ _=>tT 5 (.bool false) (λ_=>(Ij (x:=(.tmp 49)) (y:=(.tmp 50)) b.b Bh H)) (tR 4 [13,0,0,14,16] λb7 _ _=>tD I [true,true] ⟨(),rfl,rfl,rfl⟩ (λF=>trivial))
     .refine tR 2 [0,0,7,1] λb8 _ _=>tT 5 (.bool false) (λ_=>(Ij (x:=(.tmp 49)) (y:=(.tmp 50)) b.b Bh H)) (tR 3 [14,16] λb9 _ _=>tD I [true,true] ⟨(),rfl,rfl,rfl⟩ (λF=>trivial))
    rintro _ _ _ ⟨_,rfl,rfl,rfl⟩ _ _ _;exact tX λF C=>qE3 4 5 6 47 0 (d 0) #[iv b.w.k,iv b.w.c,iv b.w.s,iv b.w.n,iv b.w.v] (.bool false) (iv 0) λ_=>PT hK (I' H) (CgQ.ab C)
   .refine JY 52 (λE D f=>∃ (_:Unit),E=[(4,pt (d 0) 0),(5,.bool true),(6,iv 0)]/\D=[⟨(d 0),.cells #[iv b.w.k,iv b.w.c,iv b.w.s,iv b.w.n,iv b.w.v] 47,.l,false⟩,⟨(o 0),.cells #[iv b.au,iv b.b.r,iv b.b.n,iv b.w.k,iv b.w.c,iv b.w.s,iv b.w.n,iv b.w.v] 148,.l,false⟩]/\f=[]) (λJ I=>?_) ?_
    .refine Hh 3 6 ?_ ?_
     .refine tR 1 [1] λc0 _ _=>tT 5 (.bool true) (λ_=>(Ik (x:=(.tmp 49)) (y:=(.tmp 50)) b.b Bh H)) (tR 4 [13,0,0,14,16] λc1 _ _=>tD I [true,true] ⟨(),rfl,rfl,rfl⟩ (λF=>trivial))
     .refine tR 2 [0,0,7,1] λc2 _ _=>tT 5 (.bool true) (λ_=>(Ik (x:=(.tmp 49)) (y:=(.tmp 50)) b.b Bh H)) (tR 3 [14,16] λc3 _ _=>tD I [true,true] ⟨(),rfl,rfl,rfl⟩ (λF=>trivial))
    rintro _ _ _ ⟨_,rfl,rfl,rfl⟩ _ _ _;exact tX λF C=>qE3 4 5 6 47 0 (d 0) #[iv b.w.k,iv b.w.c,iv b.w.s,iv b.w.n,iv b.w.v] (.bool true) (iv 0) λ_=>PT hK (D' H) (CgQ.ab C)
 .refine tC1 1 (λF C=>DA (r:=false) (D' G)) λ_=>tR 10 [0,0] λc4 _ _=>tX λF C=>qE3 4 5 6 47 0 (d 0) #[iv 0,iv 0,iv 0,iv 0,iv 0] (.bool false) (iv 2) λ_=>by rw[(Lt G).1,(Lt G).2.1,(Lt G).2.2];exact⟨rfl,CgQ.ab C⟩
def gz:Gh:=⟨λ_=>.z,λ_=>0⟩
theorem DJ{b:Nat}:gz.t b∉([.n 60 0]:List Tg):=by simp[gz]
def PA(x:NX)(k:Nat):List Value:=(List.range k).map λj=>S3.v (x.hv j)
theorem UE(x:NX)(k:Nat):PA x (k+1)=PA x k++[S3.v (x.hv k)]:=by unfold PA;rw[lJ,jW];rfl
theorem bG{τ:Tg}{e:TypeId}{y:S3}{x:NX}{r:Rnd}(h:OwnS g w τ false e 1 y (PA x 5))(A:∀ j,j<5->Sv w (x.hv j).v (r.al j).vs):Svv w y.v (r.jv.map (·.vs)):=by
 have s:=h.len;have t:y.n=5:=by simp[PA]at s;omega
 obtain⟨b,o,i,_⟩:=h.cell (j:=0) (u:=S3.v (x.hv 0)) rfl;refine⟨⟨y.a,y.c,by unfold S3.v;rw[t];rfl,.inr ⟨b,0,o,i,λj l k=>?_⟩⟩,by show 5<=5864062014634;decide⟩;have f:j<5:=by have:=(U'.1 k).1;exact this
 have m:(PA x 5)[j]?=some (S3.v (x.hv j)):=by rcases nT f with rfl|rfl|rfl|rfl|rfl<;>rfl
 obtain⟨B,d,_,q⟩:=h.cell m;rw[o]at d
 simp only[V',Addr.mk.injEq,and_true]at d;subst d;refine⟨S3.v (x.hv j),by rw[kl];exact q,?_⟩;have p:=A j f;rcases nT f with rfl|rfl|rfl|rfl|rfl<;>(simp[Rnd.jv]at k;subst k;exact p)
theorem Un{l:List Cmd}{f:Cmd->Bool}{j:Nat}(h:l[j]?=some c):(l.drop j).find? f=if f c then some c else(l.drop (j+1)).find? f:=by
 rw[Ds h,mi];split<;>simp_all
theorem JR(h:NS i nb ob g w p ls ts){w0:World}(hB:Base w0 g w)(hT:Tabs w0)(s:Nat)(hq:p.br.dW.length<100000000)(a4:p.ae.length<100000000) :
  Calls prog 108 #[pt nb 0,iv (s:Int)] w λe w'=>e=.returned (.tuple #[.agg (cmC ((p.oo s).getD QS)),.bool (p.oo s).isSome])/\Bw w w':=by
 obtain⟨x,lt,tl,P,hO,hg⟩:=h;have hQ:=P.dW.rd;have hA:=P.ae.rd;have b8:=hQ.len;have hH:∀ j,j<5->Sv w (x.hv j).v (p.br.al j).vs:=λj Q=>(P.al j Q).s;have a2:Base w0 gz w:=⟨hB.b,λ_ _=>rfl⟩;refine gI (fn:=f108) [.n 60 0] gz func108 (λ_ _=>⟨rfl,rfl⟩) (BU ⟨nb,.cells (AB i ob p x) 103,.z,false⟩ (λ_=>⟨P.row,rfl,λh=>(by cases h),λh=>absurd rfl h⟩) (by kernel_rfl) ?_);refine qR [] 21 [1,0,0] λa g1 w1 c1=>BL 63 [(0,pt nb 0),(1,iv (s:Int)),(4,pt (a 0) 0),(6,sn),(19,.agg #[iv ((p.br.al 0).p.r),iv ((p.br.al 0).p.n),S3.v (x.hv 0),iv ((p.br.al 1).p.r),iv ((p.br.al 1).p.n),S3.v (x.hv 1),iv ((p.br.al 2).p.r),iv ((p.br.al 2).p.n),S3.v (x.hv 2),iv ((p.br.al 3).p.r),iv ((p.br.al 3).p.n),S3.v (x.hv 3),iv ((p.br.al 4).p.r),iv ((p.br.al 4).p.n),S3.v (x.hv 4)]),(20,iv 0)] [true,true] [⟨nb,.cells (AB i ob p x) 103,.z,false⟩,⟨(a 0),.cells #[iv 0,iv 0,iv 0,iv 0,iv 0] 47,.l,false⟩] (λk M w' e L=>∃ (k0:Nat) (y:S3),k=5-k0/\k0<=5/\e=[(0,pt nb 0),(1,iv (s:Int)),(4,pt (a 0) 0),(6,S3.v y),(19,.agg #[iv (p.br.al 0).p.r,iv (p.br.al 0).p.n,S3.v (x.hv 0),iv (p.br.al 1).p.r,iv (p.br.al 1).p.n,S3.v (x.hv 1),iv (p.br.al 2).p.r,iv (p.br.al 2).p.n,S3.v (x.hv 2),iv (p.br.al 3).p.r,iv (p.br.al 3).p.n,S3.v (x.hv 3),iv (p.br.al 4).p.r,iv (p.br.al 4).p.n,S3.v (x.hv 4)]),(20,iv (k0:Int))]/\L=[⟨nb,.cells (AB i ob p x) 103,.z,false⟩,⟨(a 0),.cells #[iv 0,iv 0,iv 0,iv 0,iv 0] 47,.l,false⟩]/\OwnS M w' (.n 60 0) false 89 1 y (PA x k0)/\Cg w.heap.size [.n 60 0] gz w M w') (by kernel_rfl) (by kernel_rfl) (by kernel_rfl) (by kernel_rfl) 5 (λK=>?_) ?_
 .exact⟨0,s30,rfl,by omega,rfl,rfl,OwnS.nil _ _ _ _ _ _,(c1.nil [.n 60 0])⟩
 .rintro k gr wr _ zr _ ⟨k0,y,rfl,hk0,rfl,rfl,hy,hC⟩ J hJ;refine qR [] 5 [] λs2 g2 w2 t=>?_;by_cases h1:k0<5
  .refine qI ((decide ((k0:Int)<5))) true (I' (by omega)) (qR [] 5 [] λs3 g3 w3 c3=>?_);refine aD 0 (.agg #[iv (p.br.al k0).p.r,iv (p.br.al k0).p.n,S3.v (x.hv k0)]) (λK=>(by rcases nT h1 with rfl|rfl|rfl|rfl|rfl<;>kernel_rfl)) (by kernel_rfl) ?_;refine qR [] 8 [0,0,2,0,2,0,0] λs4 g4 w4 c4=>?_;have c0:y.n=k0:=by have:=hy.len;simp[PA]at this;omega
   refine JL 4 (x:=y) 230 230 89 1 24 (.slice none 0 0) ⟨(s4 1),0,none⟩ 1 1 [S3.v (x.hv k0)] (((hy.ch t).ch c3).ch c4) (by kernel_rfl) (by kernel_rfl) (by kernel_rfl) underlying230 (by kernel_rfl) (by kernel_rfl) (by decide) (by decide) rfl (by simp[Value.oneCell']) (λK=>Cw K 3 (s4 1) [S3.v (x.hv k0)] 89 .z true (by kernel_rfl)) (by unfold maxLen;omega) (by omega) ?_;intro y5 g5 w5 a5 n5 a0 G5;have c5:=a0 w.heap.size [.n 60 0] (G'.2 rfl);refine qR [] 4 [] λs6 g6 w6 c6=>qV 0 (iv ((k0:Int)+1)) (AR 20 (k0:Int) underlying3 (by omega)) (qR [] 2 [] λs7 g7 w7 c7=>qB [true,true,false,false] λz K0 K=>hJ (5-(k0+1)) _ _ _ z _ (by omega) ⟨k0+1,y5,rfl,by omega,rfl,rfl,(by rw[UE];exact((a5.ch c6).ch c7)),((((((hC.n t).n c3).n c4).trans c5).n c6).n c7)⟩ K)
  .refine qI ((decide ((k0:Int)<5))) false (D' (by omega)) ?_;obtain rfl:k0=5:=by omega
   refine qR [] 5 [] λs8 g8 w8 F=>?_;have hD:=((hC.n t).n F);have hS:=bG (r:=p.br) ((hy.ch t).ch F) (λj Q=>(hH j Q).ab (hD.ab (λ_ _=>DJ)));refine qC 2 (XX _ _ (s:Int) w8 hS ((a2.ch hD).tn hT)) ?_;rintro e' w9 ⟨rfl,b9⟩;refine⟨_,rfl,b9,?_⟩;have Z:=Cg.bu (B:=w.heap.size) (T:=[]) (g:=g8) b9;refine qR [] 15 [0,0,2,0] λd0 a6 e3 o=>?_;by_cases G:(CM (p.br.jv.map (·.vs)) (s:Int))≠0
   .refine qI (((CM (p.br.jv.map (·.vs)) (s:Int)) != 0)) true (by simpa using G) (qR [] 6 [1,0] λd1 a7 e4 R=>?_);rw[show p.oo s=none from if_pos G];exact qE2 4 5 47 1 (a 0) (cmC QS) (.bool false) λK=>⟨rfl,Cg.ab (((((hC.n t).n F).n Z).n o).n R) (λ_ _=>DJ)⟩
   .refine qI (((CM (p.br.jv.map (·.vs)) (s:Int)) != 0)) false (by simpa using G) (qR [] 6 [] λd2 a8 e5 C=>?_);by_cases N:(Fx (p.br.jv.map (·.vs)) (s:Int))=true
    .refine qI ((Fx (p.br.jv.map (·.vs)) (s:Int))) true N (qR [] 6 [2,1,0] λd3 a9 e6 S=>?_);rw[show p.oo s=some (GC (p.br.jv.map (·.vs)) (s:Int))from(if_neg G).trans (if_pos N)];exact qE2 4 5 47 1 (a 0) (cmC (GC (p.br.jv.map (·.vs)) (s:Int))) (.bool true) λK=>⟨rfl,Cg.ab ((((((hC.n t).n F).n Z).n o).n C).n S) (λ_ _=>DJ)⟩
    .refine qI ((Fx (p.br.jv.map (·.vs)) (s:Int))) false (by simpa using N) (qR [] 14 [0] λd4 b0 e7 U=>?_);have hX:p.oo s=p.br.dW.find? (λc=>decide (c∉p.ae)):=(if_neg G).trans (if_neg N);refine BL 63 [(0,pt nb 0),(4,pt (a 0) 0),(46,S3.v x.dW),(47,iv (x.dW.n:Int)),(48,iv 0)] [true,true,false] [⟨nb,.cells (AB i ob p x) 103,.z,false⟩,⟨(a 0),.cells #[iv 0,iv 0,iv 0,iv 0,iv 0] 47,.l,false⟩] (λk M w' e L=>∃ j:Nat,k=p.br.dW.length-j/\j<=p.br.dW.length/\e=[(0,pt nb 0),(4,pt (a 0) 0),(46,S3.v x.dW),(47,iv (x.dW.n:Int)),(48,iv (j:Int))]/\L=[⟨nb,.cells (AB i ob p x) 103,.z,false⟩,⟨(a 0),.cells #[iv 0,iv 0,iv 0,iv 0,iv 0] 47,.l,false⟩]/\(p.br.dW.drop j).find? (λc=>decide (c∉p.ae))=p.oo s/\Cg w.heap.size [.n 60 0] gz w M w') (by kernel_rfl) (by kernel_rfl) (by kernel_rfl) (by kernel_rfl) p.br.dW.length (λK=>?_) ?_
     .exact⟨0,rfl,by omega,rfl,rfl,by rw[hX];rfl,((((((hC.n t).n F).n Z).n o).n C).n U)⟩
     .rintro k gr wr _ zr _ ⟨j,rfl,Q,rfl,rfl,hI,hC2⟩ J hJ;refine qR [] 5 [] λd5 b1 e8 d=>?_;by_cases h4:j<p.br.dW.length
      .refine qI ((decide ((j:Int)<(x.dW.n:Int)))) true (I' (by omega)) ?_;obtain⟨c,H⟩:∃ c,p.br.dW[j]?=some c:=⟨_,E' h4⟩;obtain⟨bx,ox,I⟩:=hQ.addr h4;rw[Un H]at hI
       refine qR [] 5 [] λd6 b2 e9 m=>qV 0 (pt bx (ox+5*j)) (Np I j (by omega)) ?_;have a3:=hQ.ab (((hC2.n d).n m).ab (λ_ _=>DJ));refine qV 1 (.agg #[iv c.k,iv c.c,iv c.s,iv c.n,iv c.v]) (Vc c λq_ u hu=>a3.cellAt I H hu) (qR [] 11 [0,0,2,0,8,0,2,4,6,8,0,10,2] λd7 a1 f0 q=>qC 6 (ES (l:=p.ae) (hA.ab ((((hC2.n d).n m).n q).ab (λ_ _=>DJ))) a4 c) ?_);rintro e' f1 ⟨rfl,A⟩;refine⟨_,rfl,A,?_⟩;have D:=Cg.bu (B:=w.heap.size) (T:=[]) (g:=a1) A;refine qR [] 2 [14] λd8 b3 f2 E=>?_;by_cases O:c∈p.ae
       .refine qI ((!(decide (c∈p.ae)))) false (by simpa using O) (qR [] 3 [] λd9 b4 f3 V=>qV 0 (iv ((j:Int)+1)) (AR 48 (j:Int) underlying3 (by omega)) (qR [] 2 [] λe0 b5 f4 W=>qB [true,true,false] λz K0 K=>hJ (p.br.dW.length-(j+1)) _ _ _ z _ (by omega) ⟨j+1,rfl,by omega,rfl,rfl,(by rw[<- hI,if_neg (by simpa using O)]),(((((((hC2.n d).n m).n q).n D).n E).n V).n W)⟩ K))
       .refine qI ((!(decide (c∈p.ae)))) true (by simpa using O) (qR [] 6 [2,1,0] λe1 b6 f5 X=>?_);rw[if_pos (by simpa using O)]at hI
        rw[<- hI];exact qE2 4 5 47 1 (a 0) (cmC c) (.bool true) λK=>⟨rfl,Cg.ab ((((((hC2.n d).n m).n q).n D).n E).n X) (λ_ _=>DJ)⟩
      .refine qI ((decide ((j:Int)<(x.dW.n:Int)))) false (D' (by omega)) (qR [] 7 [1,0] λe2 b7 f6 Y=>?_);obtain rfl:j=p.br.dW.length:=by omega
       rw[lH]at hI
       rw[<- hI];exact qE2 4 5 47 1 (a 0) (cmC QS) (.bool false) λK=>⟨rfl,Cg.ab ((hC2.n d).n Y) (λ_ _=>DJ)⟩
theorem MU(h:NS i nb ob g w p ls ts){b:Bool}(a:p.br.om=b) :
  Calls prog 107 #[pt nb 11] w λe w'=>e=.returned (.bool b)/\Bw w w':=by subst a;exact Rf h
theorem PG(h:NS i nb ob g w p ls ts){b:World}(c:Base b g w)(d:Tabs b)(s:Nat)(j:p.br.dW.length<100000000)(a:p.ae.length<100000000){o:Option Cmd}(f:p.oo s=o) :
  Calls prog 108 #[pt nb 0,iv (s:Int)] w λe w'=>e=.returned (.tuple #[.agg (cmC (o.getD QS)),.bool o.isSome])/\Bw w w':=by subst f;exact JR h c d s j a
theorem Zb(p:Nod)(v:Vt):(p.bN v).1.br=p.br:=by
 unfold Nod.bN;repeat' split
 all_goals rfl
theorem PX(h:NS i nb ob g w p ls ts){w0:World}(hB:Base w0 g w)(hT:Tabs w0)(hq:p.br.dW.length<100000000)(U:p.ae.length<100000000)(hb:p.bn.length<100000000)(a8:p.vo.vs.length<100000000) :
  Calls prog 65 #[pt nb 0] w (NP i nb ob g w (.tuple #[]) p.dT ls ts):=by
 obtain⟨x,lt,tl,k,m,hg⟩:=h;have hn:x.ae.n=p.ae.length:=k.ae.num;refine gI (fn:=f65) (TN i) g func65 hg (qN k (qO m (qR [] 18 [0,0,2,0,2] λs1 g1 w1 c1=>?_)));by_cases h1:p.leads=false
 .refine Ae λK=>?_;have N3:NS i nb ob g1 w1 p ls ts:=(nsC k m c1 K);refine qC 1 (EB N3 h1) ?_;rintro P w4 ⟨rfl,b4⟩;refine⟨_,rfl,b4,?_⟩;have c4:=Cg.bu (B:=w.heap.size) (T:=[]) (g:=g1) b4;refine qR [] 21 [] λs5 g5 w5 c5=>qE (.tuple #[]) λK=>?_;rw[show p.dT=p from by unfold Nod.dT;rw[if_pos (.inl h1)]];exact⟨_,rfl,(nsC k m ((c1.n c4).n c5) K),(((c1.nil (TN i)).n c4).n c5)⟩
 .have h10:p.leads=true:=by simpa using h1
  refine Ae λK=>?_;have N8:NS i nb ob g1 w1 p ls ts:=(nsC k m c1 K);refine qC 1 (EB N8 h10) ?_;rintro P w9 ⟨rfl,b9⟩;refine⟨_,rfl,b9,?_⟩;have j:=Cg.bu (B:=w.heap.size) (T:=[]) (g:=g1) b9;refine qR [] 6 [2] λc7 s Y a=>?_;by_cases h2:p.br.om=false
  .refine Ae λK=>?_;have a0:NS i nb ob s Y p ls ts:=(nsC k m ((c1.n j).n a) K);refine qC 8 (MU a0 h2) ?_;rintro P d7 ⟨rfl,C⟩;refine⟨_,rfl,C,?_⟩;have G:=Cg.bu (B:=w.heap.size) (T:=[]) (g:=s) C;refine qR [] 14 [] λc8 b3 d8 H=>qE (.tuple #[]) λK=>?_;rw[show p.dT=p from by unfold Nod.dT;rw[if_pos (.inr (.inl h2))]];exact⟨_,rfl,(nsC k m ((((c1.n j).n a).n G).n H) K),(((((c1.nil (TN i)).n j).n a).n G).n H)⟩
  .have h20:p.br.om=true:=by simpa using h2
   refine Ae λK=>?_;have a1:NS i nb ob s Y p ls ts:=(nsC k m ((c1.n j).n a) K);refine qC 8 (MU a1 h20) ?_;rintro P d9 ⟨rfl,D⟩;refine⟨_,rfl,D,?_⟩;have b:=Cg.bu (B:=w.heap.size) (T:=[]) (g:=s) D;refine qR [] 13 [2,0] λd0 b5 e0 d=>?_;by_cases h3:(x.ae.n:Int)<(p.br.next:Int)
   .have h30:p.ae.length<p.br.next:=by omega
    refine qI ((decide ((x.ae.n:Int)<(p.br.next:Int)))) true (I' (by omega)) (qE (.tuple #[]) λK=>?_);rw[show p.dT=p from by unfold Nod.dT;rw[if_pos (.inr (.inr h30))]];exact⟨_,rfl,(nsC k m ((((c1.n j).n a).n b).n d) K),(((((c1.nil (TN i)).n j).n a).n b).n d)⟩
   .refine qI ((decide ((x.ae.n:Int)<(p.br.next:Int)))) false (D' (by omega)) ?_;have y:¬ (p.leads=false\/p.br.om=false\/p.ae.length<p.br.next):=by rintro(h|h|h);exact h1 h;exact h2 h;omega
    refine qR [] 5 [2] λd1 t Z e=>?_;cases ho:p.oo x.ae.n with
    | none =>
     refine Ae λK=>?_;have a2:NS i nb ob t Z p ls ts:=(nsC k m (((((c1.n j).n a).n b).n d).n e) K);refine qC 2 (PG a2 (hB.ch ((((((c1.nil (TN i)).n j).n a).n b).n d).n e) (Bg i)) hT x.ae.n hq U ho) ?_;rintro P e1 ⟨rfl,E⟩;refine⟨_,rfl,E,?_⟩;have I:=Cg.bu (B:=w.heap.size) (T:=[]) (g:=t) E;refine qR [] 14 [0,0,3,0] λd2 b6 e2 J=>qE (.tuple #[]) λK=>?_;rw[show p.dT=p from by unfold Nod.dT;rw[if_neg y,<- hn,ho]];exact⟨_,rfl,(nsC k m (((((((c1.n j).n a).n b).n d).n e).n I).n J) K),((((((((c1.nil (TN i)).n j).n a).n b).n d).n e).n I).n J)⟩
    | some c =>
     refine Ae λK=>?_;have a3:NS i nb ob t Z p ls ts:=(nsC k m (((((c1.n j).n a).n b).n d).n e) K);refine qC 2 (PG a3 (hB.ch ((((((c1.nil (TN i)).n j).n a).n b).n d).n e) (Bg i)) hT x.ae.n hq U ho) ?_;rintro P e3 ⟨rfl,F⟩;refine⟨_,rfl,F,?_⟩;have o:=Cg.bu (B:=w.heap.size) (T:=[]) (g:=t) F;refine qR [] 34 [0,0,3,0,11,0,2,2,4,6,8,10,12,0,14,3,16,19,0,0,21,4,0,2,4] λW b7 e4 q=>qS 2 [false,false,true,true,true] k m (((((((c1.n j).n a).n b).n d).n e).n o).n q) (λa4=>Nj a4 (hB.ch ((((((((c1.nil (TN i)).n j).n a).n b).n d).n e).n o).n q) (Bg i)) hT (⟨(x.ae.n:Int),p.br.fv,c⟩:Vt) a8) λb8 e5 b0 V X u v L=>qR [] 2 [] λd3 c0 e6 r=>?_;by_cases Q:(p.bN (⟨(x.ae.n:Int),p.br.fv,c⟩:Vt)).2≠0
     .refine qI (((p.bN (⟨(x.ae.n:Int),p.br.fv,c⟩:Vt)).2 != 0)) true (by simpa using Q) (qE (.tuple #[]) λK=>?_);rw[show p.dT=(p.bN (⟨(x.ae.n:Int),p.br.fv,c⟩:Vt)).1 from by rw[TE Q];unfold Nod.dT;rw[if_neg y,<- hn,ho];exact if_pos Q];exact⟨_,rfl,(nsC u v r K),((((((((((c1.nil (TN i)).n j).n a).n b).n d).n e).n o).n q).trans (L)).n r)⟩
     .refine qI (((p.bN (⟨(x.ae.n:Int),p.br.fv,c⟩:Vt)).2 != 0)) false (by simpa using Q) (qR [] 5 [0] λd4 c2 e7 M=>qV 2 (iv ((x.ae.n:Int)+1)) (AR 55 (x.ae.n:Int) underlying3 (by omega)) (qR [.n 0 i] 9 [3,1,0] λd5 a7 a9 N=>?_));rw[show p.dT=Nod.wait { (p.bN (⟨(x.ae.n:Int),p.br.fv,c⟩:Vt)).1 with br:={ (p.bN (⟨(x.ae.n:Int),p.br.fv,c⟩:Vt)).1.br with next:=x.ae.n+1 } } (.prop (⟨(x.ae.n:Int),p.br.fv,c⟩:Vt))from by unfold Nod.dT;rw[if_neg y,<- hn,ho,Zb];exact if_neg Q];refine Ae λK=>?_;obtain⟨z1,z2⟩:=K.oG 0 (s1 0) (.cells #[pt nb 0] 83) false (by kernel_rfl);obtain⟨z3,z4⟩:=K.oG 2 (W 1) (.cells (vtA (⟨(x.ae.n:Int),p.br.fv,c⟩:Vt)) 148) false (by kernel_rfl);have A:=((r.nil ([.n 0 i]:List Tg)).n M).trans (N);have a5:NS i nb ob a7 a9 ({ (p.bN (⟨(x.ae.n:Int),p.br.fv,c⟩:Vt)).1 with br:={ (p.bN (⟨(x.ae.n:Int),p.br.fv,c⟩:Vt)).1.br with next:=x.ae.n+1 } }) ls ts:=⟨b0,V,X,K.pA 3 u A,v.ch A (hn:=by simp<;>omega),K.new⟩;refine qS0 2 [true,true,true,false,false] (AK a5 (by show(p.bN (⟨(x.ae.n:Int),p.br.fv,c⟩:Vt)).1.bn.length<_;rw[NG];exact hb) _ _ (.prop (⟨(x.ae.n:Int),p.br.fv,c⟩:Vt)) ⟨(s1 0),(W 1),rfl,⟨z1,z2⟩,⟨z3,z4⟩⟩) λc3 e8 f0 b1 b2 R S a6=>qR [] 1 [] λd6 c6 e9 O=>qF R S O ((((((((((((((c1.nil (TN i)).n j).n a).n b).n d).n e).n o).n q).trans (L)).n r).n M).trans (N.mono (by simp[TN]))).trans (a6)).n O)
end
end Go.Proofs.YthohlalejhgbmaaGreatDoor
