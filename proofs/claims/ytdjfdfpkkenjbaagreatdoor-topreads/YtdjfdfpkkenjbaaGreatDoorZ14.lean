/- Part 14 of the walk. -/
import Derived.Test.YtdjfdfpkkenjbaaGreatDoorZ13
set_option maxRecDepth 100000
set_option maxHeartbeats 4000000
open Go.Proofs.Tryz
set_option linter.unusedVariables false
namespace Go.Proofs.YtdjfdfpkkenjbaaGreatDoor
open Go.RowKit
section
theorem MO(n g:Int)(w:World) :
  Calls prog 80 #[.int .i64 n,.int .i64 g] w λe w'=>e=.returned (.bool (decide (0<=n/\n<=g)))/\w'=w:=by
 by_cases a:0<=n
 .by_cases h1:n<=g
  .rw[I' (show 0<=n/\n<=g from⟨a,h1⟩)];go_enter func80,ntmps80
   go_wp2
   go_ret;exact⟨rfl,rfl⟩
  .rw[D' (show ¬ (0<=n/\n<=g)from λh=>h1 h.2)];go_enter func80,ntmps80
   go_wp2
   go_ret;exact⟨rfl,rfl⟩
 .rw[D' (show ¬ (0<=n/\n<=g)from λh=>a h.1)];go_enter func80,ntmps80
  go_wp2
  go_ret;exact⟨rfl,rfl⟩
theorem RP(s:Sto)(w:World) :
  Calls prog 40 #[.agg (stA s)] w λe w'=>e=.returned (.int .i64 (LW s))/\Bw w w':=by
 have n:Bw w (w.alloc (.cells (stA s) 45)):=(Below.refl _ _).alloc (A' _) _;have p:Bs (w.alloc (.cells (stA s) 45)) w.heap.size s:=heap_alloc_new _ _;generalize u:w.alloc (.cells (stA s) 45)=W at n p;go_enter func40,ntmps40
 go_wp2_with ((with_reducible (refine Ds ?_));(refine FO rfl _ rfl w.heap.size 0 rfl s.V p.nB ?_))
 clear u
 go_loopw [9] (λiv wr=>∃ i:Nat,i<=8/\iv=.int .i64 (i:Int)/\Hid (∀ j,j<i->VaB (s.V j))/\W=wr) (λiv _=>(8-intOf iv).toNat)
 case atStart=>exact⟨0,by omega,rfl,λj r=>by omega,rfl⟩
 case round =>
  obtain⟨i,t,rfl,l,rfl⟩:=hrel;by_cases a:i<8
  .have hlt':(i:Int)<8:=by omega
   have d:=SW s.V i a;go_wp2_with fail
   refine(MO (s.V i) 1073741824 _).mono ?_;rintro e v ⟨rfl,rfl⟩;by_cases b:0<=s.V i/\s.V i<=1073741824
   .rw[I' b];have o:Hid (∀ j,j<i+1->VaB (s.V j)):=λj r=>by
     by_cases h:j=i
     .subst h;exact b
     .exact l.out j (by omega)
    clear b d l;go_wp2
    go_roundw
    case rel=>exact⟨i+1,by omega,by go_num,o,by simp⟩
    case measure=>simp[intOf];omega
   .rw[D' b];have k:Hid (LW s=5):=JQ (λh=>b (h.1 i a));clear b d l;go_wp2
    go_ret;rw[k.out];exact⟨rfl,n⟩
  .obtain rfl:i=8:=by omega
   clear a t;go_wp2_with ((with_reducible (refine Ds ?_));(refine FO rfl _ rfl w.heap.size 8 rfl s.L p.nA ?_))
   go_loopw [18] (λiv wr=>∃ i:Nat,i<=8/\iv=.int .i64 (i:Int)/\Hid (∀ j,j<i->ClB (s.L j) (s.C j) (s.A j))/\W=wr) (λiv _=>(8-intOf iv).toNat)
   case atStart=>exact⟨0,by omega,rfl,λj r=>by omega,rfl⟩
   case round =>
    obtain⟨i,t,rfl,f,rfl⟩:=hrel;by_cases a:i<8
    .have hlt':(i:Int)<8:=by omega
     have d:=SW s.L i a;go_wp2_with fail
     refine(MO (s.L i) 1048577 _).mono ?_;rintro e v ⟨rfl,rfl⟩;by_cases b:0<=s.L i/\s.L i<=1048577
     .rw[I' b];have c0:=p.nE i a;have c1:=p.nD i a;have x:(0:Int)<=(i:Int):=by omega
      by_cases m:s.L i=0
      .rw[m];by_cases c:s.C i=0/\s.A i=0
       .rw[c.1]at c0
        rw[c.2]at c1
        have o:Hid (∀ j,j<i+1->ClB (s.L j) (s.C j) (s.A j)):=λj r=>by
         by_cases h:j=i
         .subst h;exact⟨b,λ_=>c⟩
         .exact f.out j (by omega)
        clear b d c m f;go_wp2
        go_roundw
        case rel=>exact⟨i+1,by omega,by go_num,o,by simp⟩
        case measure=>simp[intOf];omega
       .have k:Hid (LW s=5):=JQ (λh=>c ((h.2 i a).2 m));have q:=ZG (s.C i) (s.A i);rw[D' c]at q
        clear b d c m f l;go_wp2
        go_ret;rw[k.out];exact⟨rfl,n⟩
      .have o:Hid (∀ j,j<i+1->ClB (s.L j) (s.C j) (s.A j)):=λj r=>by
        by_cases h:j=i
        .subst h;exact⟨b,λg=>absurd g m⟩
        .exact f.out j (by omega)
       have q:(s.L i==0)=false:=by simpa using m
       clear b d f;go_wp2
       go_roundw
       case rel=>exact⟨i+1,by omega,by go_num,o,by simp⟩
       case measure=>simp[intOf];omega
     .rw[D' b];have k:Hid (LW s=5):=JQ (λh=>b (h.2 i a).1);clear b d l f;go_wp2
      go_ret;rw[k.out];exact⟨rfl,n⟩
    .obtain rfl:i=8:=by omega
     have k:Hid (LW s=0):=aK ⟨l.out,f.out⟩;clear a t f l;go_wp2
     go_ret;rw[k.out];exact⟨rfl,n⟩
variable{A E e0 s:Int}{L:List Vt}{S:Sto}{W w w0:World}{b u:Vt}{c m:Cmd}{g:Gh}{i n nb ob:Nat}{ls:List Let}{p:Nod}{ts:List Tol}
theorem lt8(h:i<8):i=0\/i=1\/i=2\/i=3\/i=4\/i=5\/i=6\/i=7:=by omega
theorem cJ(s:Sto)(c d:Nat)(q v:Int)(w:World)(x:c<8)(X:d<8)(q0:0<=q)(q1:q<=1048576) :
  Calls prog 84 #[.agg (stA s),.agg #[iv 1,iv (c:Int),iv q,iv (d:Int),iv v]] w λe w'=>e=.returned (.tuple #[.agg (stA (Gm s ⟨1,c,q,d,v⟩)),.agg #[iv 0,iv (I2 s ⟨1,c,q,d,v⟩)]])/\Bw w w':=by
 have r:∀ b,w.heap.size<=b->gS.t b=.z/\gS.k b=0:=λ_ _=>⟨rfl,rfl⟩;refine gI (fn:=f84) [] gS func84 r (qR [] 26 [1,0,0,0,1,0,1,0,1,0,1] λa P Y c1=>BK 48 (λg w' e L=>e=[(2,pt (a 0) 0),(3,pt (a 1) 0),(4,pt (a 2) 0),(5,pt (a 3) 0),(6,pt (a 4) 0)]/\L=[⟨(a 0),.cells (stA ({ s with V:=AV s.V d v })) 45,.l,false⟩,⟨(a 1),.cells #[iv 1,iv (c:Int),iv q,iv (d:Int),iv v] 49,.z,false⟩,⟨(a 2),.cells (stA AB) 45,.l,false⟩,⟨(a 3),.cells #[iv 0,iv 0] 41,.l,false⟩,⟨(a 4),.cells #[iv 0,iv 0] 41,.l,false⟩]/\True/\Cg w.heap.size ([]:List Tg) P Y g w') (by kernel_rfl) ?_ ?_)
 .intro J hJ;rcases lt8 X with rfl|rfl|rfl|rfl|rfl|rfl|rfl|rfl <;>
  (refine qR [] 8 [1,1,0,0] λa3 g3 w3 F=>?_;exact qB [true,true,true,true,true] λz h K=>hJ _ _ _ z _ ⟨rfl,rfl,trivial,(F.nil ([]:List Tg))⟩ K)
 rintro g2 w2 _ z2 _ ⟨rfl,rfl,_,E⟩;refine qR [] 13 [1,4,0,1,1] λa4 U w4 G=>qV 4 (iv (q+1)) (AD 37 q underlying3 (by omega)) (BK 48 (λg w' e L=>e=[(2,pt (a 0) 0),(3,pt (a 1) 0),(4,pt (a 2) 0),(5,pt (a 3) 0),(6,pt (a 4) 0)]/\L=[⟨(a 0),.cells (stA (Sto.mk (AV s.V d v) (AV s.L c (q+1)) s.C s.A s.R)) 45,.l,false⟩,⟨(a 1),.cells #[iv 1,iv (c:Int),iv q,iv (d:Int),iv v] 49,.z,false⟩,⟨(a 2),.cells (stA AB) 45,.l,false⟩,⟨(a 3),.cells #[iv 0,iv 0] 41,.l,false⟩,⟨(a 4),.cells #[iv 0,iv v] 41,.l,false⟩]/\True/\Cg w.heap.size ([]:List Tg) U w4 g w') (by kernel_rfl) ?_ ?_)
 .intro J hJ;rcases lt8 x with rfl|rfl|rfl|rfl|rfl|rfl|rfl|rfl <;>
  (refine qR [] 4 [0,0] λa5 g6 w6 I=>?_;exact qB [true,true,true,true,true] λz h K=>hJ _ _ _ z _ ⟨rfl,rfl,trivial,(I.nil ([]:List Tg))⟩ K)
 rintro g5 w5 _ z5 _ ⟨rfl,rfl,_,H⟩;refine qR [] 2 [] λa6 W w7 M=>BK 48 (λg w' e L=>e=[(2,pt (a 0) 0),(3,pt (a 1) 0),(4,pt (a 2) 0),(5,pt (a 3) 0),(6,pt (a 4) 0)]/\L=[⟨(a 0),.cells (stA (Sto.mk (AV s.V d v) (AV s.L c (q+1)) (AV s.C c 0) (AV s.A c v) s.R)) 45,.l,false⟩,⟨(a 1),.cells #[iv 1,iv (c:Int),iv q,iv (d:Int),iv v] 49,.z,false⟩,⟨(a 2),.cells (stA AB) 45,.l,false⟩,⟨(a 3),.cells #[iv 0,iv 0] 41,.l,false⟩,⟨(a 4),.cells #[iv 0,iv v] 41,.l,false⟩]/\True/\Cg w.heap.size ([]:List Tg) W w7 g w') (by kernel_rfl) ?_ ?_
 .intro J hJ;rcases lt8 x with rfl|rfl|rfl|rfl|rfl|rfl|rfl|rfl <;>
  (refine qR [] 7 [1,4,0,0] λa7 g9 w9 O=>?_;exact qB [true,true,true,true,true] λz h K=>hJ _ _ _ z _ ⟨rfl,rfl,trivial,(O.nil ([]:List Tg))⟩ K)
 rintro g8 w8 _ z8 _ ⟨rfl,rfl,_,N⟩;refine qR [] 3 [2,0,0] λy p u i=>BK 48 (λg w' e L=>e=[(2,pt (a 0) 0),(3,pt (a 1) 0),(4,pt (a 2) 0),(5,pt (a 3) 0),(6,pt (a 4) 0)]/\L=[⟨(a 0),.cells (stA (Sto.mk (AV s.V d v) (AV s.L c (q+1)) (AV s.C c 0) (AV s.A c v) s.R)) 45,.l,false⟩,⟨(a 1),.cells #[iv 1,iv (c:Int),iv q,iv (d:Int),iv v] 49,.z,false⟩,⟨(a 2),.cells (stA (Sto.mk (AV s.V d v) (AV s.L c (q+1)) (AV s.C c 0) (AV s.A c v) s.R)) 45,.l,false⟩,⟨(a 3),.cells #[iv 0,iv v] 41,.l,false⟩,⟨(a 4),.cells #[iv 0,iv v] 41,.l,false⟩]/\True/\Cg w.heap.size ([]:List Tg) p u g w') (by kernel_rfl) ?_ ?_
 .intro J hJ
  (exact CH 1 2 (by kernel_rfl) (by(refine qR [] 4 [4,5,2,0,7,3,0] λB S a0 m=>?_;exact qB [true,true,true,true,true] λz h K=>hJ _ _ _ z _ ⟨rfl,rfl,trivial,(m.nil ([]:List Tg))⟩ K)) (by(refine qR [] 4 [2,0,3,4,7,3,0] λD T a1 o=>?_;exact qB [true,true,true,true,true] λz h K=>hJ _ _ _ z _ ⟨rfl,rfl,trivial,(o.nil ([]:List Tg))⟩ K)))
 rintro Q Z _ a2 _ ⟨rfl,rfl,_,j⟩;exact qE4 4 5 45 41 2 (a 2) 3 (a 3) (stA (Gm s ⟨1,c,q,d,v⟩)) #[iv 0,iv (I2 s ⟨1,c,q,d,v⟩)] λK=>⟨rfl,Cg.ab (((((((c1.trans E).trans G).trans H).trans M).trans N).trans i).trans j) (λ_ _=>M')⟩
theorem cK(s:Sto)(c d:Nat)(q v:Int)(w:World)(x:c<8)(X:d<8)(q0:0<=q)(q1:q<=1048576) :
  Calls prog 84 #[.agg (stA s),.agg #[iv 2,iv (c:Int),iv q,iv (d:Int),iv v]] w λe w'=>e=.returned (.tuple #[.agg (stA (Gm s ⟨2,c,q,d,v⟩)),.agg #[iv 0,iv (I2 s ⟨2,c,q,d,v⟩)]])/\Bw w w':=by
 have r:∀ b,w.heap.size<=b->gS.t b=.z/\gS.k b=0:=λ_ _=>⟨rfl,rfl⟩;refine gI (fn:=f84) [] gS func84 r (qR [] 31 [1,0,0,0,1,0,1,0,1,0,1] λa P Y c1=>BK 48 (λg w' e L=>e=[(2,pt (a 0) 0),(3,pt (a 1) 0),(4,pt (a 2) 0),(5,pt (a 3) 0),(6,pt (a 4) 0)]/\L=[⟨(a 0),.cells (stA s) 45,.l,false⟩,⟨(a 1),.cells #[iv 2,iv (c:Int),iv q,iv (d:Int),iv v] 49,.z,false⟩,⟨(a 2),.cells (stA AB) 45,.l,false⟩,⟨(a 3),.cells #[iv 0,iv 0] 41,.l,false⟩,⟨(a 4),.cells #[iv 0,iv (s.V d)] 41,.l,false⟩]/\True/\Cg w.heap.size ([]:List Tg) P Y g w') (by kernel_rfl) ?_ ?_)
 .intro J hJ;rcases lt8 X with rfl|rfl|rfl|rfl|rfl|rfl|rfl|rfl <;>
  (refine qR [] 8 [1,0,4,0] λa3 g3 w3 F=>?_;exact qB [true,true,true,true,true] λz h K=>hJ _ _ _ z _ ⟨rfl,rfl,trivial,(F.nil ([]:List Tg))⟩ K)
 rintro g2 w2 _ z2 _ ⟨rfl,rfl,_,E⟩;refine qR [] 7 [1,1] λa4 U w4 G=>qV 4 (iv (q+1)) (AD 37 q underlying3 (by omega)) (BK 48 (λg w' e L=>e=[(2,pt (a 0) 0),(3,pt (a 1) 0),(4,pt (a 2) 0),(5,pt (a 3) 0),(6,pt (a 4) 0)]/\L=[⟨(a 0),.cells (stA (Sto.mk s.V (AV s.L c (q+1)) s.C s.A s.R)) 45,.l,false⟩,⟨(a 1),.cells #[iv 2,iv (c:Int),iv q,iv (d:Int),iv v] 49,.z,false⟩,⟨(a 2),.cells (stA AB) 45,.l,false⟩,⟨(a 3),.cells #[iv 0,iv 0] 41,.l,false⟩,⟨(a 4),.cells #[iv 0,iv (s.V d)] 41,.l,false⟩]/\True/\Cg w.heap.size ([]:List Tg) U w4 g w') (by kernel_rfl) ?_ ?_)
 .intro J hJ;rcases lt8 x with rfl|rfl|rfl|rfl|rfl|rfl|rfl|rfl <;>
  (refine qR [] 4 [0,0] λa5 g6 w6 I=>?_;exact qB [true,true,true,true,true] λz h K=>hJ _ _ _ z _ ⟨rfl,rfl,trivial,(I.nil ([]:List Tg))⟩ K)
 rintro g5 w5 _ z5 _ ⟨rfl,rfl,_,H⟩;refine qR [] 2 [] λa6 W w7 M=>BK 48 (λg w' e L=>e=[(2,pt (a 0) 0),(3,pt (a 1) 0),(4,pt (a 2) 0),(5,pt (a 3) 0),(6,pt (a 4) 0)]/\L=[⟨(a 0),.cells (stA (Sto.mk s.V (AV s.L c (q+1)) (AV s.C c 0) (AV s.A c (s.V d)) s.R)) 45,.l,false⟩,⟨(a 1),.cells #[iv 2,iv (c:Int),iv q,iv (d:Int),iv v] 49,.z,false⟩,⟨(a 2),.cells (stA AB) 45,.l,false⟩,⟨(a 3),.cells #[iv 0,iv 0] 41,.l,false⟩,⟨(a 4),.cells #[iv 0,iv (s.V d)] 41,.l,false⟩]/\True/\Cg w.heap.size ([]:List Tg) W w7 g w') (by kernel_rfl) ?_ ?_
 .intro J hJ;rcases lt8 x with rfl|rfl|rfl|rfl|rfl|rfl|rfl|rfl <;>
  (refine qR [] 7 [1,4,0,0] λa7 g9 w9 O=>?_;exact qB [true,true,true,true,true] λz h K=>hJ _ _ _ z _ ⟨rfl,rfl,trivial,(O.nil ([]:List Tg))⟩ K)
 rintro g8 w8 _ z8 _ ⟨rfl,rfl,_,N⟩;refine qR [] 3 [2,0,0] λy p u i=>BK 48 (λg w' e L=>e=[(2,pt (a 0) 0),(3,pt (a 1) 0),(4,pt (a 2) 0),(5,pt (a 3) 0),(6,pt (a 4) 0)]/\L=[⟨(a 0),.cells (stA (Sto.mk s.V (AV s.L c (q+1)) (AV s.C c 0) (AV s.A c (s.V d)) s.R)) 45,.l,false⟩,⟨(a 1),.cells #[iv 2,iv (c:Int),iv q,iv (d:Int),iv v] 49,.z,false⟩,⟨(a 2),.cells (stA (Sto.mk s.V (AV s.L c (q+1)) (AV s.C c 0) (AV s.A c (s.V d)) s.R)) 45,.l,false⟩,⟨(a 3),.cells #[iv 0,iv (s.V d)] 41,.l,false⟩,⟨(a 4),.cells #[iv 0,iv (s.V d)] 41,.l,false⟩]/\True/\Cg w.heap.size ([]:List Tg) p u g w') (by kernel_rfl) ?_ ?_
 .intro J hJ
  (exact CH 1 2 (by kernel_rfl) (by(refine qR [] 4 [4,5,2,0,7,3,0] λB S a0 m=>?_;exact qB [true,true,true,true,true] λz h K=>hJ _ _ _ z _ ⟨rfl,rfl,trivial,(m.nil ([]:List Tg))⟩ K)) (by(refine qR [] 4 [2,0,3,4,7,3,0] λD T a1 o=>?_;exact qB [true,true,true,true,true] λz h K=>hJ _ _ _ z _ ⟨rfl,rfl,trivial,(o.nil ([]:List Tg))⟩ K)))
 rintro Q Z _ a2 _ ⟨rfl,rfl,_,j⟩;exact qE4 4 5 45 41 2 (a 2) 3 (a 3) (stA (Gm s ⟨2,c,q,d,v⟩)) #[iv 0,iv (I2 s ⟨2,c,q,d,v⟩)] λK=>⟨rfl,Cg.ab (((((((c1.trans E).trans G).trans H).trans M).trans N).trans i).trans j) (λ_ _=>M')⟩
theorem cL(s:Sto)(c d:Nat)(q v:Int)(w:World)(x:c<8)(X:d<8)(q0:0<=q)(q1:q<=1048576) :
  Calls prog 84 #[.agg (stA s),.agg #[iv 3,iv (c:Int),iv q,iv (d:Int),iv v]] w λe w'=>e=.returned (.tuple #[.agg (stA (Gm s ⟨3,c,q,d,v⟩)),.agg #[iv 0,iv (I2 s ⟨3,c,q,d,v⟩)]])/\Bw w w':=by
 have r:∀ b,w.heap.size<=b->gS.t b=.z/\gS.k b=0:=λ_ _=>⟨rfl,rfl⟩;refine gI (fn:=f84) [] gS func84 r (qR [] 37 [1,0,0,0,1,0,1,0,1,0,1] λa P Y c1=>BK 48 (λg w' e L=>e=[(2,pt (a 0) 0),(3,pt (a 1) 0),(4,pt (a 2) 0),(5,pt (a 3) 0),(6,pt (a 4) 0)]/\L=[⟨(a 0),.cells (stA ({ s with R:=AV s.R d true })) 45,.l,false⟩,⟨(a 1),.cells #[iv 3,iv (c:Int),iv q,iv (d:Int),iv v] 49,.z,false⟩,⟨(a 2),.cells (stA AB) 45,.l,false⟩,⟨(a 3),.cells #[iv 0,iv 0] 41,.l,false⟩,⟨(a 4),.cells #[iv 0,iv 0] 41,.l,false⟩]/\True/\Cg w.heap.size ([]:List Tg) P Y g w') (by kernel_rfl) ?_ ?_)
 .intro J hJ;rcases lt8 X with rfl|rfl|rfl|rfl|rfl|rfl|rfl|rfl <;>
  (refine qR [] 6 [1,0,0] λa3 g3 w3 F=>?_;exact qB [true,true,true,true,true] λz h K=>hJ _ _ _ z _ ⟨rfl,rfl,trivial,(F.nil ([]:List Tg))⟩ K)
 rintro g2 w2 _ z2 _ ⟨rfl,rfl,_,E⟩;refine qR [] 7 [1,1] λa4 U w4 G=>qV 4 (iv (q+1)) (AD 37 q underlying3 (by omega)) (BK 48 (λg w' e L=>e=[(2,pt (a 0) 0),(3,pt (a 1) 0),(4,pt (a 2) 0),(5,pt (a 3) 0),(6,pt (a 4) 0)]/\L=[⟨(a 0),.cells (stA (Sto.mk s.V (AV s.L c (q+1)) s.C s.A (AV s.R d true))) 45,.l,false⟩,⟨(a 1),.cells #[iv 3,iv (c:Int),iv q,iv (d:Int),iv v] 49,.z,false⟩,⟨(a 2),.cells (stA AB) 45,.l,false⟩,⟨(a 3),.cells #[iv 0,iv 0] 41,.l,false⟩,⟨(a 4),.cells #[iv 0,iv 0] 41,.l,false⟩]/\True/\Cg w.heap.size ([]:List Tg) U w4 g w') (by kernel_rfl) ?_ ?_)
 .intro J hJ;rcases lt8 x with rfl|rfl|rfl|rfl|rfl|rfl|rfl|rfl <;>
  (refine qR [] 4 [0,0] λa5 g6 w6 I=>?_;exact qB [true,true,true,true,true] λz h K=>hJ _ _ _ z _ ⟨rfl,rfl,trivial,(I.nil ([]:List Tg))⟩ K)
 rintro g5 w5 _ z5 _ ⟨rfl,rfl,_,H⟩;refine qR [] 2 [] λa6 W w7 M=>BK 48 (λg w' e L=>e=[(2,pt (a 0) 0),(3,pt (a 1) 0),(4,pt (a 2) 0),(5,pt (a 3) 0),(6,pt (a 4) 0)]/\L=[⟨(a 0),.cells (stA (Sto.mk s.V (AV s.L c (q+1)) (AV s.C c 0) (AV s.A c 0) (AV s.R d true))) 45,.l,false⟩,⟨(a 1),.cells #[iv 3,iv (c:Int),iv q,iv (d:Int),iv v] 49,.z,false⟩,⟨(a 2),.cells (stA AB) 45,.l,false⟩,⟨(a 3),.cells #[iv 0,iv 0] 41,.l,false⟩,⟨(a 4),.cells #[iv 0,iv 0] 41,.l,false⟩]/\True/\Cg w.heap.size ([]:List Tg) W w7 g w') (by kernel_rfl) ?_ ?_
 .intro J hJ;rcases lt8 x with rfl|rfl|rfl|rfl|rfl|rfl|rfl|rfl <;>
  (refine qR [] 7 [1,4,0,0] λa7 g9 w9 O=>?_;exact qB [true,true,true,true,true] λz h K=>hJ _ _ _ z _ ⟨rfl,rfl,trivial,(O.nil ([]:List Tg))⟩ K)
 rintro g8 w8 _ z8 _ ⟨rfl,rfl,_,N⟩;refine qR [] 3 [2,0,0] λy p u i=>BK 48 (λg w' e L=>e=[(2,pt (a 0) 0),(3,pt (a 1) 0),(4,pt (a 2) 0),(5,pt (a 3) 0),(6,pt (a 4) 0)]/\L=[⟨(a 0),.cells (stA (Sto.mk s.V (AV s.L c (q+1)) (AV s.C c 0) (AV s.A c 0) (AV s.R d true))) 45,.l,false⟩,⟨(a 1),.cells #[iv 3,iv (c:Int),iv q,iv (d:Int),iv v] 49,.z,false⟩,⟨(a 2),.cells (stA (Sto.mk s.V (AV s.L c (q+1)) (AV s.C c 0) (AV s.A c 0) (AV s.R d true))) 45,.l,false⟩,⟨(a 3),.cells #[iv 0,iv 0] 41,.l,false⟩,⟨(a 4),.cells #[iv 0,iv 0] 41,.l,false⟩]/\True/\Cg w.heap.size ([]:List Tg) p u g w') (by kernel_rfl) ?_ ?_
 .intro J hJ
  (exact CH 1 2 (by kernel_rfl) (by(refine qR [] 4 [4,5,2,0,7,3,0] λB S a0 m=>?_;exact qB [true,true,true,true,true] λz h K=>hJ _ _ _ z _ ⟨rfl,rfl,trivial,(m.nil ([]:List Tg))⟩ K)) (by(refine qR [] 4 [2,0,3,4,7,3,0] λD T a1 o=>?_;exact qB [true,true,true,true,true] λz h K=>hJ _ _ _ z _ ⟨rfl,rfl,trivial,(o.nil ([]:List Tg))⟩ K)))
 rintro Q Z _ a2 _ ⟨rfl,rfl,_,j⟩;exact qE4 4 5 45 41 2 (a 2) 3 (a 3) (stA (Gm s ⟨3,c,q,d,v⟩)) #[iv 0,iv (I2 s ⟨3,c,q,d,v⟩)] λK=>⟨rfl,Cg.ab (((((((c1.trans E).trans G).trans H).trans M).trans N).trans i).trans j) (λ_ _=>M')⟩
theorem UY(s:Sto)(k:Int)(a b:Nat)(q v:Int)(w:World)(j:1<=k/\k<=3)(c:a<8)(d:b<8)(f:0<=q)(g:q<=1048576)(i:Gm s ⟨k,a,q,b,v⟩=S)(h:I2 s ⟨k,a,q,b,v⟩=A) :
  Calls prog 84 #[.agg (stA s),.agg #[iv k,iv (a:Int),iv q,iv (b:Int),iv v]] w λe w'=>e=.returned (.tuple #[.agg (stA S),.agg #[iv 0,iv A]])/\Bw w w':=by
 subst i h;rcases(show k=1\/k=2\/k=3 by omega)with rfl|rfl|rfl
 .exact cJ s a b q v w c d f g
 .exact cK s a b q v w c d f g
 .exact cL s a b q v w c d f g
theorem UI(s:Sto)(k:Int)(c d:Nat)(q v:Int)(w:World)(k0:0<=k)(k3:k<=3)(Q:c<8)(hn:d<8)(q0:0<=q)(q1:q<=1048576) :
  Calls prog 42 #[.agg (stA s),.agg #[iv k,iv (c:Int),iv q,iv (d:Int),iv v]] w λe w'=>e=.returned (.tuple #[.agg (stA (dnS s ⟨k,c,q,d,v⟩)),.agg #[iv (dnC s ⟨k,c,q,d,v⟩),iv (dnA s ⟨k,c,q,d,v⟩)]])/\Bw w w':=by
 have a3:∀ b,w.heap.size<=b->gS.t b=.z/\gS.k b=0:=λ_ _=>⟨rfl,rfl⟩;refine gI (fn:=f42) [] gS func42 a3 (qR [] 14 [0,0,0,0,1,0,1,0,1] λa g1 w1 c1=>?_);by_cases h:k=0
 .refine qI ((k==0)) true (by simpa using h) (qR [] 7 [0,2,0,3,0] λf2 g2 w2 c2=>?_);rw[show dnS s ⟨k,c,q,d,v⟩=s from if_neg (λg=>g.1 h),show dnC s ⟨k,c,q,d,v⟩=0 from if_pos h,show dnA s ⟨k,c,q,d,v⟩=0 from if_pos h];exact qE4 4 5 45 41 2 (a 2) 3 (a 3) (stA s) #[iv 0,iv 0] λK=>⟨rfl,Cg.ab (c1.trans c2) (λ_ _=>M')⟩
 .refine qI ((k==0)) false (by simpa using h) (qR [] 3 [] λf3 g3 w3 F=>BK 49 (λM w' e L=>e=[(2,pt (a 0) 0),(3,pt (a 1) 0),(4,pt (a 2) 0),(5,pt (a 3) 0),(6,iv (s.L c))]/\L=[⟨(a 0),.cells (stA s) 45,.z,false⟩,⟨(a 1),.cells #[iv k,iv (c:Int),iv q,iv (d:Int),iv v] 49,.z,false⟩,⟨(a 2),.cells (stA AB) 45,.l,false⟩,⟨(a 3),.cells #[iv 0,iv 0] 41,.l,false⟩]/\True/\Cg w.heap.size ([]:List Tg) g3 w3 M w') (by kernel_rfl) ?_ ?_)
  .intro J hJ;rcases lt8 Q with rfl|rfl|rfl|rfl|rfl|rfl|rfl|rfl <;>
   (refine qR [] 7 [1,0] λf4 g5 w5 c5=>?_;exact qB [true,true,true,true] λz P K=>hJ _ _ _ z _ ⟨rfl,rfl,trivial,(c5.nil ([]:List Tg))⟩ K)
  rintro g4 w4 _ z4 _ ⟨rfl,rfl,_,G⟩;refine qR [] 7 [1] λf5 g6 w6 H=>qV 3 (iv (q+1)) (AD 20 q underlying3 (by omega)) (qR [] 3 [] λf6 g7 w7 I=>?_);by_cases i:s.L c=q+1
  .refine qI (((s.L c)==(q+1))) true (by simpa using i) (qR [] 2 [6] λf7 g8 w8 c8=>BK 49 (λM w' e L=>e=[(2,pt (a 0) 0),(3,pt (a 1) 0),(4,pt (a 2) 0),(5,pt (a 3) 0)]/\L=[⟨(a 0),.cells (stA s) 45,.z,false⟩,⟨(a 1),.cells #[iv k,iv (c:Int),iv q,iv (d:Int),iv v] 49,.z,false⟩,⟨(a 2),.cells (stA s) 45,.l,false⟩,⟨(a 3),.cells #[iv (s.C c),iv (s.A c)] 41,.l,false⟩]/\True/\Cg w.heap.size ([]:List Tg) g8 w8 M w') (by kernel_rfl) ?_ ?_)
   .intro J hJ;rcases lt8 Q with rfl|rfl|rfl|rfl|rfl|rfl|rfl|rfl <;>
    (refine qR [] 3 [0,0,2,6] λa7 b9 d9 p=>?_;exact CH 2 6 (by kernel_rfl) (by(refine qR [] 2 [1,8] λa8 c0 e0 D=>?_;exact CH 5 6 (by kernel_rfl) (by(refine qR [] 4 [0,13,2,0,15,3,0] λa9 d0 e1 U=>?_;exact qB [true,true,true,true] λz P K=>hJ _ _ _ z _ ⟨rfl,rfl,trivial,(((p.nil ([]:List Tg)).n D).n U)⟩ K)) (by(refine qR [] 4 [2,0,11,0,15,3,0] λb0 d1 e2 V=>?_;exact qB [true,true,true,true] λz P K=>hJ _ _ _ z _ ⟨rfl,rfl,trivial,(((p.nil ([]:List Tg)).n D).n V)⟩ K)))) (by(refine qR [] 6 [2,0,5,1,8,11,0,15,3,0] λb1 d2 e3 W=>?_;exact qB [true,true,true,true] λz P K=>hJ _ _ _ z _ ⟨rfl,rfl,trivial,((p.nil ([]:List Tg)).n W)⟩ K)))
   rintro g9 w9 _ z9 _ ⟨rfl,rfl,_,c9⟩;rw[show dnS s ⟨k,c,q,d,v⟩=s from if_neg (λg=>g.2.1 (by show q<s.L c;omega)),show dnC s ⟨k,c,q,d,v⟩=s.C c from(if_neg h).trans (if_pos i),show dnA s ⟨k,c,q,d,v⟩=s.A c from(if_neg h).trans (if_pos i)];exact qE4 4 5 45 41 2 (a 2) 3 (a 3) (stA s) #[iv (s.C c),iv (s.A c)] λK=>⟨rfl,Cg.ab ((((((c1.trans F).trans G).trans H).trans I).trans c8).trans c9) (λ_ _=>M')⟩
  .refine qI (((s.L c)==(q+1))) false (by simpa using i) (qR [] 8 [1] λb2 d3 e4 m=>?_);by_cases j:q<s.L c
   .refine qI ((decide (q<(s.L c)))) true (I' j) (qR [] 7 [0,2,0,3,0] λb3 d4 e5 X=>?_);rw[show dnS s ⟨k,c,q,d,v⟩=s from if_neg (λg=>g.2.1 j),show dnC s ⟨k,c,q,d,v⟩=7 from(if_neg h).trans ((if_neg i).trans (if_pos j)),show dnA s ⟨k,c,q,d,v⟩=0 from(if_neg h).trans ((if_neg i).trans (if_pos j))];exact qE4 4 5 45 41 2 (a 2) 3 (a 3) (stA s) #[iv 7,iv 0] λK=>⟨rfl,Cg.ab ((((((c1.trans F).trans G).trans H).trans I).trans m).trans X) (λ_ _=>M')⟩
   .refine qI ((decide (q<(s.L c)))) false (D' j) (qR [] 2 [] λb4 a2 a4 r=>BK 49 (λM w' e L=>e=[(2,pt (a 0) 0),(3,pt (a 1) 0),(4,pt (a 2) 0),(5,pt (a 3) 0),(36,.bool (s.R c))]/\L=[⟨(a 0),.cells (stA s) 45,.z,false⟩,⟨(a 1),.cells #[iv k,iv (c:Int),iv q,iv (d:Int),iv v] 49,.z,false⟩,⟨(a 2),.cells (stA AB) 45,.l,false⟩,⟨(a 3),.cells #[iv 0,iv 0] 41,.l,false⟩]/\True/\Cg w.heap.size ([]:List Tg) a2 a4 M w') (by kernel_rfl) ?_ ?_)
    .intro J hJ;rcases lt8 Q with rfl|rfl|rfl|rfl|rfl|rfl|rfl|rfl <;>
     (refine qR [] 7 [1,0] λb5 d6 e7 Y=>?_;exact qB [true,true,true,true] λz P K=>hJ _ _ _ z _ ⟨rfl,rfl,trivial,(Y.nil ([]:List Tg))⟩ K)
    rintro d5 e6 _ f1 _ ⟨rfl,rfl,_,u⟩;by_cases o:s.R c=true
    .refine qI ((s.R c)) true o (qR [] 7 [0,2,0,3,0] λb6 d7 e8 Z=>?_);rw[show dnS s ⟨k,c,q,d,v⟩=s from if_neg (λg=>Bool.noConfusion (o.symm.trans g.2.2)),show dnC s ⟨k,c,q,d,v⟩=11 from(if_neg h).trans ((if_neg i).trans ((if_neg j).trans (if_pos o))),show dnA s ⟨k,c,q,d,v⟩=0 from(if_neg h).trans ((if_neg i).trans ((if_neg j).trans (if_pos o)))];exact qE4 4 5 45 41 2 (a 2) 3 (a 3) (stA s) #[iv 11,iv 0] λK=>⟨rfl,Cg.ab ((((((((c1.trans F).trans G).trans H).trans I).trans m).trans r).trans u).trans Z) (λ_ _=>M')⟩
    .refine qI ((s.R c)) false (by simpa using o) ?_;obtain⟨S,hS⟩:∃ S,Gm s ⟨k,c,q,d,v⟩=S:=⟨_,rfl⟩;obtain⟨A,hA⟩:∃ A,I2 s ⟨k,c,q,d,v⟩=A:=⟨_,rfl⟩;refine qR [] 6 [0,1] λb7 N O E=>?_;have a5:=(Cg.ab ((((((((c1.trans F).trans G).trans H).trans I).trans m).trans r).trans u).trans E) (λ_ _=>M'));refine Ae λx=>?_;have a6:∀ z,O.heap.size<=z->N.t z=.z:=λz hz=>(x.new z hz).1;refine qC 2 (UY s k c d q v O (by omega) Q hn q0 q1 hS hA) ?_;rintro e' e9 ⟨rfl,y⟩;refine⟨_,rfl,y,?_⟩;have a0:=Cg.bu (B:=w.heap.size) (T:=[]) (g:=N) y;refine qR [] 5 [2,0,3,0] λb8 d8 f0 a1=>?_;rw[show dnS s ⟨k,c,q,d,v⟩=S from(if_pos ⟨h,j,by simpa using o⟩).trans hS,show dnC s ⟨k,c,q,d,v⟩=0 from(if_neg h).trans ((if_neg i).trans ((if_neg j).trans (if_neg o))),show dnA s ⟨k,c,q,d,v⟩=A from(if_neg h).trans ((if_neg i).trans ((if_neg j).trans ((if_neg o).trans hA)))];exact qE4 4 5 45 41 2 (a 2) 3 (a 3) (stA S) #[iv 0,iv A] λK=>⟨rfl,Cg.ab ((((((((((c1.trans F).trans G).trans H).trans I).trans m).trans r).trans u).trans E).trans a0).trans a1) (λ_ _=>M')⟩
theorem Yo{s:Sto}(j:m.e=0)(i:dnS s m=S){C:Int}(h:dnC s m=C)(g:dnA s m=A) :
  Calls prog 42 #[.agg (stA s),.agg #[iv m.k,iv m.c,iv m.s,iv m.n,iv m.v]] w λe w'=>e=.returned (.tuple #[.agg (stA S),.agg #[iv C,iv A]])/\Bw w w':=by
 subst i h g;obtain⟨k,c,q,n,v⟩:=m;obtain⟨b,f⟩:=DW j;unfold InC at f;simp only at b f ⊢;obtain⟨a,rfl⟩:∃ a:Nat,c=(a:Int):=⟨c.toNat,by omega⟩;obtain⟨d,rfl⟩:∃ d:Nat,n=(d:Int):=⟨n.toNat,by omega⟩;exact UI s k a d q v w b.1 b.2 (by omega) (by omega) (by omega) (by omega)
theorem UH{s:Sto}(a:LW s=E):Calls prog 40 #[.agg (stA s)] w λe w'=>e=.returned (iv E)/\Bw w w':=by subst a;exact RP s w
theorem Ua(b:NTab w)(a:m.e=E):Calls prog 41 #[.agg #[iv m.k,iv m.c,iv m.s,iv m.n,iv m.v]] w λe w'=>e=.returned (iv E)/\Bw w w':=by subst a;exact DH m.k m.c m.s m.n m.v w b
theorem bZ(s:Sto)(m:Cmd)(w:World)(hN:NTab w) :
  Calls prog 21 #[.agg (stA s),.agg #[iv m.k,iv m.c,iv m.s,iv m.n,iv m.v]] w λe w'=>e=.returned (.tuple #[.agg (stA (doS s m)),.agg #[iv (doC s m),iv (doA s m)],iv (doE s m)])/\Bw w w':=by
 obtain⟨E,j⟩:∃ E,LW s=E:=⟨_,rfl⟩;obtain⟨F,X⟩:∃ F,m.e=F:=⟨_,rfl⟩;have Y:∀ b,w.heap.size<=b->gS.t b=.z/\gS.k b=0:=λ_ _=>⟨rfl,rfl⟩;refine gI (fn:=f21) [] gS func21 Y (qR [] 12 [0,0,0,0,1,0,1,0,0] λa g1 w1 c1=>?_);have a4:=(Cg.ab c1 (λ_ _=>M'));refine Ae λH=>?_;have a8:∀ z,w1.heap.size<=z->g1.t z=.z:=λz y=>(H.new z y).1;refine qC 1 (UH j) ?_;rintro e' w2 ⟨rfl,b2⟩;refine⟨_,rfl,b2,?_⟩;have q:=Cg.bu (B:=w.heap.size) (T:=[]) (g:=g1) b2;refine qR [] 7 [] λb7 g3 w3 r=>?_;by_cases u:E≠0
 .refine qI ((E != 0)) true (by simpa using u) (qR [] 9 [2,0,3,0] λb8 g4 w4 c4=>?_);have h:doE s m=E:=by unfold doE;unfold LW at j;split at j;exact absurd j.symm u;rename_i g;rw[if_neg g];exact j
  have d:doE s m≠0:=by rw[h];exact u
  rw[VB d,V7 d,show doA s m=0 from if_neg d,h];exact qE5 4 5 6 45 41 2 (a 2) 3 (a 3) (stA AB) #[iv 0,iv 0] (iv E) λK=>⟨rfl,(Cg.ab (((c1.trans q).trans r).trans c4) (λ_ _=>M'))⟩
 .refine qI ((E != 0)) false (by simpa using u) ?_;have hB:Gf s:=Classical.byContradiction λg=>absurd (j.symm.trans (JQ g)) (by rw[show E=0 from by simpa using u];decide);refine qR [] 5 [1] λb9 g5 w5 D=>?_;have M:=(Cg.ab (((c1.trans q).trans r).trans D) (λ_ _=>M'));refine Ae λI=>?_;have a9:∀ z,w5.heap.size<=z->g5.t z=.z:=λz y=>(I.new z y).1;refine qC 1 (Ua (hN.ab M) X) ?_;rintro e' w6 ⟨rfl,b6⟩;refine⟨_,rfl,b6,?_⟩;have U:=Cg.bu (B:=w.heap.size) (T:=[]) (g:=g5) b6;refine qR [] 7 [] λc0 g7 w7 V=>?_;by_cases G:F≠0
  .refine qI ((F != 0)) true (by simpa using G) (qR [] 9 [2,0,3,0] λd0 g8 w8 c8=>?_);have h:doE s m=F:=(if_pos hB).trans X;have d:doE s m≠0:=by rw[h];exact G
   rw[VB d,V7 d,show doA s m=0 from if_neg d,h];exact qE5 4 5 6 45 41 2 (a 2) 3 (a 3) (stA AB) #[iv 0,iv 0] (iv F) λK=>⟨rfl,(Cg.ab ((((((c1.trans q).trans r).trans D).trans U).trans V).trans c8) (λ_ _=>M'))⟩
  .refine qI ((F != 0)) false (by simpa using G) ?_;have x:m.e=0:=by rw[X];simpa using G
   have h:doE s m=0:=(if_pos hB).trans x;obtain⟨S,hS⟩:∃ S,dnS s m=S:=⟨_,rfl⟩;obtain⟨C,hC⟩:∃ C,dnC s m=C:=⟨_,rfl⟩;obtain⟨A,hA⟩:∃ A,dnA s m=A:=⟨_,rfl⟩;refine qR [] 5 [0,1] λd1 g9 w9 c9=>?_;have a0:=(Cg.ab ((((((c1.trans q).trans r).trans D).trans U).trans V).trans c9) (λ_ _=>M'));refine Ae λo=>?_;have a1:∀ z,w9.heap.size<=z->g9.t z=.z:=λz y=>(o.new z y).1;refine qC 2 (Yo x hS hC hA) ?_;rintro e' b0 ⟨rfl,p⟩;refine⟨_,rfl,p,?_⟩;have N:=Cg.bu (B:=w.heap.size) (T:=[]) (g:=g9) p;refine qR [] 11 [0,0,0,0,4,0,5,0,2,0,4] λi W Z O=>BK 33 (λg' w' e L=>e=[(4,pt (a 2) 0),(5,pt (a 3) 0),(6,iv 0)]/\L=[⟨(a 0),.cells (stA s) 45,.z,false⟩,⟨(a 1),.cells #[iv m.k,iv m.c,iv m.s,iv m.n,iv m.v] 49,.z,false⟩,⟨(a 2),.cells (stA S) 45,.l,false⟩,⟨(a 3),.cells #[iv C,iv A] 41,.l,false⟩,⟨(i 0),.cells (stA S) 45,.z,false⟩,⟨(i 1),.cells #[iv C,iv A] 41,.z,false⟩]/\True/\Cg w.heap.size ([]:List Tg) W Z g' w') (by kernel_rfl) ?_ ?_
   .intro J hJ
    (exact CH 1 2 (by kernel_rfl) (by(refine qR [] 5 [5,5,2,0,7,3,0,8] λa2 a6 b3 Q=>?_;exact qB [true,true,true,true,true,true] λz K0 K=>hJ _ _ _ z _ ⟨rfl,rfl,trivial,(Q.nil ([]:List Tg))⟩ K)) (by(refine qR [] 5 [2,0,3,5,7,3,0,8] λa3 a7 b4 R=>?_;exact qB [true,true,true,true,true,true] λz K0 K=>hJ _ _ _ z _ ⟨rfl,rfl,trivial,(R.nil ([]:List Tg))⟩ K)))
   rintro a5 b1 _ b5 _ ⟨rfl,rfl,_,P⟩;rw[VC h,V8 h,V6 h,h,hS,hC,hA];exact qE5 4 5 6 45 41 2 (a 2) 3 (a 3) (stA S) #[iv C,iv A] (iv 0) λK=>⟨rfl,(Cg.ab (((((((((c1.trans q).trans r).trans D).trans U).trans V).trans c9).trans N).trans O).trans P) (λ_ _=>M'))⟩
theorem Dh(s:Sto)(k c q n v:Int)(w:World)(a:NTab w) :
  Calls prog 21 #[.agg (stA s),.agg (cmA k c q n v)] w λe w'=>e=.returned (.tuple #[.agg (stA (doS s ⟨k,c,q,n,v⟩)),.agg #[.int .i64 (doC s ⟨k,c,q,n,v⟩),.int .i64 (doA s ⟨k,c,q,n,v⟩)],.int .i64 (doE s ⟨k,c,q,n,v⟩)])/\Bw w w':=bZ s ⟨k,c,q,n,v⟩ w a
theorem WQ{v:Value}{l:List Int}{a:Int}(h:Sl w v l)(f:Av w)(j:Ct w)(d:NTab w)(i:opE l a=e0)(g:LN l a=c) :
  Calls prog 60 #[v,iv a] w λe w'=>e=.returned (.tuple #[.agg #[iv c.k,iv c.c,iv c.s,iv c.n,iv c.v],iv e0])/\Bw w w':=by
 have b:=TU v l a w h f j d;rw[dJ,i,g]at b
 exact b
theorem Uy(h:NS i nb ob g w p ls ts)(F:Base w0 g w)(C:Tabs w0)(dv:S3)(u:List Int)(hd:Sl w dv.v u)(a8:NOk n p)(f7:p.bad<100000000)(hw:p.an.length<100000000)(e7:ts.length<100000000)(he:opE u (p.done:Int)=e0)(hc:LN u (p.done:Int)=c) :
  Calls prog 30 #[pt nb 0,dv.v] w (NP i nb ob g w (.tuple #[]) (p.mF i e0 c ts).1 ls (p.mF i e0 c ts).2):=by
 obtain⟨x,lt,tl,G,H,hg⟩:=h;have e6:=a8.dn;have i5:=a8.ag;refine gI (fn:=f30) (TN i) g func30 hg (qN G (qO H (qR [] 9 [0] λs1 g1 w1 c1=>?_)));by_cases h1:p.up=true
 .refine qI ((!p.up)) false (by simpa using h1) ?_;have r:¬ p.up=false:=by simp[h1]
  refine qR [] 9 [0] λs2 g2 w2 m=>?_;have E:=F.ch (c1.trans m);have e5:=Cg.ab (c1.trans m) (λ_ _=>M');refine qC 6 (WQ (hd.ab e5) (E.tt C) (E.tq C) (E.tn C) he hc) ?_;rintro D w3 ⟨rfl,b3⟩;refine⟨_,rfl,b3,?_⟩;have o:=Cg.bu (B:=w.heap.size) (T:=[]) (g:=g2) b3;refine qR [] 13 [0,0,2,0] λs4 g4 w4 q=>?_;by_cases h2:e0≠0
  .refine qI ((e0 != 0)) true (by simpa using h2) (qR [] 6 [0] λs5 g5 w5 c5=>qV 4 (iv ((p.bad+1:Nat):Int)) (AD 29 (p.bad:Int) underlying3 (by omega)) (qR [.n 0 i] 4 [0,1] λs6 g6 w6 c6=>qE (.tuple #[]) λK=>?_));rw[show p.mF i e0 c ts=({ p with bad:=p.bad+1 },ts)from(if_neg r).trans (if_pos h2)];have C7:=(((((c1.nil ([.n 0 i]:List Tg)).n m).n o).n q).n c5).trans (c6);exact⟨_,rfl,⟨x,lt,tl,K.ny 0 G C7,H.ch C7 (hn:=by simp<;>omega),K.new⟩,((((((c1.nil (TN i)).n m).n o).n q).n c5).trans (c6.mono (by simp[TN])))⟩
  .refine qI ((e0 != 0)) false (by simpa using h2) (qR [] 6 [4,0,4,2] λs8 g8 w8 t=>Ae λK=>?_);have b5:NS i nb ob g8 w8 p ls ts:=(nsC G H ((((c1.n m).n o).n q).n t) K);refine qC 1 (Sz b5 e6) ?_;rintro D j5 ⟨l8,rfl,a9,M⟩;refine⟨_,rfl,M,?_⟩;have a:=Cg.bu (B:=w.heap.size) (T:=[]) (g:=g8) M;refine qC 3 (EI (l:=p.ae.take p.done) a9 (by rw[X'];omega) c) ?_;rintro D j6 ⟨rfl,N⟩;refine⟨_,rfl,N,?_⟩;have b:=Cg.bu (B:=w.heap.size) (T:=[]) (g:=g8) N;refine qR [] 1 [] λi6 g7 j7 d=>?_;by_cases h3:c∈p.ae.take p.done
   .refine qI ((decide (c∈p.ae.take p.done))) true (by simpa using h3) (qR [] 8 [16,0,2,4,6,8,0,10,2] λi7 d9 f2 j=>BK 55 (λg' w' e L=>∃ (b6 b7:Nat),e=[(0,pt nb 0),(4,pt (s4 0) 0),(6,pt b6 0),(7,pt b7 0)]/\L=[⟨nb,.cells (Az i ob p x) 109,.n 0 i,false⟩,⟨ob,.cells #[S3.v lt,S3.v tl] 86,.n 50 0,false⟩,⟨(s4 0),.cells #[iv c.k,iv c.c,iv c.s,iv c.n,iv c.v] 49,.z,false⟩,⟨b6,.cells (stA (doS p.mh c)) 45,.l,false⟩,⟨b7,.cells #[iv (doC p.mh c),iv (doA p.mh c)] 41,.l,false⟩]/\Cg w.heap.size [] g w g' w') (by kernel_rfl) ?_ ?_)
    .intro J hJ;refine Wb 6 11 12 (by kernel_rfl) ?_ ?_ ?_
     .have hB18:=F.ch ((((((((c1.trans m).trans o).trans q).trans t).trans a).trans b).trans d).trans j) (by simp);refine qC 6 (Dh p.mh c.k c.c c.s c.n c.v f2 (hB18.tn C)) ?_;rintro D j8 ⟨rfl,O⟩;refine⟨_,rfl,O,?_⟩;have U:=Cg.bu (B:=w.heap.size) (T:=[]) (g:=d9) O;refine qR [] 4 [14,16,18,20] λi8 g9 j9 V=>CH 11 12 (by kernel_rfl) ?_ ?_
      .refine qR [] 6 [1,0,25,1,0,27,3,0,29,4,0,30] λb0 h0 k0 c0=>qB [true,true,true,true,true] λz I K=>hJ _ _ _ z _ ⟨(b0 0),(b0 1),rfl,rfl,(((((((((((c1.trans m).trans o).trans q).trans t).trans a).trans b).trans d).trans j).trans U).trans V).trans c0)⟩ K
      .refine qR [] 6 [1,0,23,1,0,27,4,0,29,3,0,30] λb1 h4 k1 c7=>Mq ?_;exact qB [true,true,true,true,true] λz I K=>hJ _ _ _ z _ ⟨(b1 1),(b1 0),rfl,rfl,(((((((((((c1.trans m).trans o).trans q).trans t).trans a).trans b).trans d).trans j).trans U).trans V).trans c7)⟩ K
     .refine qR [] 1 [1,0] λb2 e1 f3 y=>CH 6 12 (by kernel_rfl) ?_ ?_
      .have hB25:=F.ch (((((((((c1.trans m).trans o).trans q).trans t).trans a).trans b).trans d).trans j).trans y) (by simp);refine qC 6 (Dh p.mh c.k c.c c.s c.n c.v f3 (hB25.tn C)) ?_;rintro D k2 ⟨rfl,P⟩;refine⟨_,rfl,P,?_⟩;have c9:=Cg.bu (B:=w.heap.size) (T:=[]) (g:=e1) P;refine qR [] 9 [14,16,18,20,25,1,0,27,3,0,29,4,0,30] λe8 h5 k3 d0=>qB [true,true,true,true,true] λz I K=>hJ _ _ _ z _ ⟨(b2 0),(e8 0),rfl,rfl,(((((((((((c1.trans m).trans o).trans q).trans t).trans a).trans b).trans d).trans j).trans y).trans c9).trans d0)⟩ K
      .refine qR [] 1 [1,0] λe9 e2 f4 W=>?_;have a2:=F.ch ((((((((((c1.trans m).trans o).trans q).trans t).trans a).trans b).trans d).trans j).trans y).trans W) (by simp);refine qC 6 (Dh p.mh c.k c.c c.s c.n c.v f4 (a2.tn C)) ?_;rintro D k4 ⟨rfl,Q⟩;refine⟨_,rfl,Q,?_⟩;have d1:=Cg.bu (B:=w.heap.size) (T:=[]) (g:=e2) Q;refine qR [] 8 [14,16,18,20,27,3,0,29,4,0,30] λi9 h6 k5 d2=>qB [true,true,true,true,true] λz I K=>hJ _ _ _ z _ ⟨(b2 0),(e9 0),rfl,rfl,((((((((((((c1.trans m).trans o).trans q).trans t).trans a).trans b).trans d).trans j).trans y).trans W).trans d1).trans d2)⟩ K
     .refine qR [] 1 [1,0] λb4 e3 f5 A=>CH 6 11 (by kernel_rfl) ?_ ?_
      .have hB34:=F.ch (((((((((c1.trans m).trans o).trans q).trans t).trans a).trans b).trans d).trans j).trans A) (by simp);refine qC 6 (Dh p.mh c.k c.c c.s c.n c.v f5 (hB34.tn C)) ?_;rintro D k6 ⟨rfl,R⟩;refine⟨_,rfl,R,?_⟩;have d3:=Cg.bu (B:=w.heap.size) (T:=[]) (g:=e3) R;refine qR [] 9 [14,16,18,20,23,1,0,27,4,0,29,3,0,30] λf0 h7 k7 d4=>Mq ?_;exact qB [true,true,true,true,true] λz I K=>hJ _ _ _ z _ ⟨(f0 0),(b4 0),rfl,rfl,(((((((((((c1.trans m).trans o).trans q).trans t).trans a).trans b).trans d).trans j).trans A).trans d3).trans d4)⟩ K
      .refine qR [] 1 [1,0] λf1 e4 f6 X=>?_;have a3:=F.ch ((((((((((c1.trans m).trans o).trans q).trans t).trans a).trans b).trans d).trans j).trans A).trans X) (by simp);refine qC 6 (Dh p.mh c.k c.c c.s c.n c.v f6 (a3.tn C)) ?_;rintro D k8 ⟨rfl,S⟩;refine⟨_,rfl,S,?_⟩;have d5:=Cg.bu (B:=w.heap.size) (T:=[]) (g:=e4) S;refine qR [] 8 [14,16,18,20,27,4,0,29,3,0,30] λj0 h8 k9 d6=>Mq ?_;exact qB [true,true,true,true,true] λz I K=>hJ _ _ _ z _ ⟨(f1 0),(b4 0),rfl,rfl,((((((((((((c1.trans m).trans o).trans q).trans t).trans a).trans b).trans d).trans j).trans A).trans X).trans d5).trans d6)⟩ K
    .rintro g16 w16 _ z16 _ ⟨b6,b7,rfl,rfl,hcc⟩;refine qR [] 5 [2,4] λj1 h9 l0 Y=>?_;rw[show p.mF i e0 c ts=(p,(ts++[⟨i,c.c,c.s,doC p.mh c,doA p.mh c⟩]))from(if_neg r).trans ((if_neg h2).trans (if_pos h3))];refine qS 3 [false,false,true,true,true] G H (hcc.n Y) (λb8=>PK b8 e7 c (doC p.mh c) (doA p.mh c)) λi0 l1 l6 f8 g0 a4 a6 d7=>qR [] 1 [] λj2 i1 l2 Z=>qF a4 a6 Z ((((hcc.nil (TN i)).n Y).trans (d7)).n Z)
   .refine qI ((decide (c∈p.ae.take p.done))) false (by simpa using h3) (qR [] 4 [2] λj3 i2 l3 a0=>?_);rw[show p.mF i e0 c ts=(p.want c,ts)from(if_neg r).trans ((if_neg h2).trans (if_neg h3))];refine qS 2 [false,false,true] G H ((((((((c1.n m).n o).n q).n t).n a).n b).n d).n a0) (λb9=>Yu b9 h1 hw c) λi3 l4 l7 f9 g3 a5 a7 d8=>qR [] 1 [] λj4 i4 l5 a1=>qF a5 a7 a1 (((((((((((c1.nil (TN i)).n m).n o).n q).n t).n a).n b).n d).n a0).trans (d8)).n a1)
 .refine qI ((!p.up)) true (by simpa using h1) (qE (.tuple #[]) λK=>?_);rw[show p.mF i e0 c ts=(p,ts)from if_pos (by simpa using h1)];exact⟨_,rfl,(nsC G H c1 K),(c1.nil (TN i))⟩
def Oz(Q:Nat->Bool):Nat->Nat
 | 0=>0
 | k+1=>Oz Q k+(Q k).toNat
theorem ff(Q:Nat->Bool):Oz Q 5=cX Q:=by simp only[Oz,cX];omega
theorem YF(Q:Nat->Bool)(k:Nat):Oz Q k<=k:=by
 induction k with
 | zero=>exact A' _
 | succ k ih=>simp only[Oz];cases Q k<;>simp<;>omega
theorem ic{P:Program}{x y:Operand}{t:TypeId}(a b:Int)(d:P.underlying t=some (.int .i64))(h:-9223372036854775808<=a*b/\a*b<=9223372036854775807):(do Go.eqGuard .mul t x y (iv a) (iv b);Go.binOp .mul t (iv a) (iv b):Sem Value).run P W=.ok (iv (a*b)) W:=by
 have c:IntKind.i64.wrap (a*b)=a*b:=by rw[IntKind.wrap_i64];omega
 simp[Go.eqGuard,Go.binOp,go_sem,c]
theorem Qz(h:NS i nb ob g w p ls ts) :
  Calls prog 115 #[pt nb 11] w λe w'=>e=.returned (.bool p.bw.mD)/\Bw w w':=by
 obtain⟨x,lt,tl,D,E,F⟩:=h;refine gI (fn:=f115) (TN i) g func115 F (qN D (qO E (qR [] 18 [0] λX O w1 c1=>BD 20 [(3,iv 0),(9,.agg #[.bool (p.bw.mC 0),.bool (p.bw.mC 1),.bool (p.bw.mC 2),.bool (p.bw.mC 3),.bool (p.bw.mC 4)]),(10,iv 0)] [false,false] [] (λk v w' e L=>∃ (k0 c:Nat),c=Oz p.bw.mC k0/\k=5-k0/\k0<=5/\e=[(3,iv (c:Int)),(9,.agg #[.bool (p.bw.mC 0),.bool (p.bw.mC 1),.bool (p.bw.mC 2),.bool (p.bw.mC 3),.bool (p.bw.mC 4)]),(10,iv (k0:Int))]/\L=[]/\Cg w.heap.size [] g w v w') (by kernel_rfl) (by kernel_rfl) (by kernel_rfl) (by kernel_rfl) 5 (λK=>?_) ?_)))
 .exact⟨0,0,rfl,rfl,by omega,rfl,rfl,c1⟩
 .rintro k gr wr _ zr _ ⟨k0,c,hc,rfl,hk0,rfl,rfl,hC⟩ J hJ;have l:=YF p.bw.mC k0;refine qR [] 5 [] λY P w2 j=>?_;by_cases C:k0<5
  .refine qI ((decide ((k0:Int)<5))) true (I' (by omega)) (qR [] 5 [] λs3 Q w3 m=>?_);refine Zf 0 (.bool (p.bw.mC k0)) (λK=>(by rcases mj C with rfl|rfl|rfl|rfl|rfl<;>kernel_rfl)) (by kernel_rfl) ?_;refine qR [] 6 [] λZ R w4 n=>?_;by_cases a:p.bw.mC k0=true
   .refine qI ((p.bw.mC k0)) true a (qR [] 2 [] λs5 S w5 q=>qV 1 (iv ((c:Int)+1)) (AD 14 (c:Int) underlying3 (by omega)) (qR [] 4 [] λs6 T w6 r=>qV 0 (iv ((k0:Int)+1)) (AD 10 (k0:Int) underlying3 (by omega)) (qR [] 2 [] λs7 U w7 s=>qB [] λz o K=>hJ (5-(k0+1)) _ _ _ z _ (by omega) ⟨k0+1,(c+1),by simp only[Oz];rw[a,hc];rfl,rfl,by omega,rfl,rfl,hC.trans (((((j.trans m).trans n).trans q).trans r).trans s)⟩ K)))
   .refine qI ((p.bw.mC k0)) false (by simpa using a) (qR [] 3 [] λs8 V w8 t=>qV 0 (iv ((k0:Int)+1)) (AD 10 (k0:Int) underlying3 (by omega)) (qR [] 2 [] λs9 W w9 u=>qB [] λz o K=>hJ (5-(k0+1)) _ _ _ z _ (by omega) ⟨k0+1,c,by simp only[Oz];rw[(by simpa using a:p.bw.mC k0=false),hc];rfl,rfl,by omega,rfl,rfl,hC.trans ((((j.trans m).trans n).trans t).trans u)⟩ K))
  .refine qI ((decide ((k0:Int)<5))) false (D' (by omega)) ?_;obtain rfl:k0=5:=by omega
   rw[ff]at hc l
   refine qR [] 4 [] λH A M b=>qV 1 (iv (2*(c:Int))) (ic (x:=(.const (iv 2))) (y:=(.tmp 17)) 2 (c:Int) underlying3 (by omega)) (qR [] 3 [] λI B N d=>?_);rw[show p.bw.mD=decide ((5:Int)<2*(c:Int))from by unfold Rnd.mD;rw[<- hc];by_cases G:5<2*c<;>simp[G]<;>omega];exact qE (.bool (decide ((5:Int)<2*(c:Int)))) λK=>⟨rfl,Cg.ab (hC.trans ((j.trans b).trans d)) (λ_ _=>M')⟩
structure Svv(w:World)(x:Value)(ls:List (List Vt)):Prop where
 ex:∃ a cap,x=.slice a ls.length cap/\(ls=[]\/∃ b off,a=some ⟨b,off,none⟩/\b<w.heap.size/\∀ (i:Nat) (l:List Vt),ls[i]?=some l->∃ y,w.cell? ⟨b,off+i,none⟩=some y/\Sv w y l)
 len:ls.length<=5864062014634
theorem Svv.shape{x:Value}{b:List (List Vt)}(h:Svv w x b):∃ a cap,x=.slice a b.length cap:=by
 obtain⟨⟨a,cap,e,_⟩,_⟩:=h;exact⟨a,cap,e⟩
theorem Svv.spot{a:Option Addr}{c:Nat}{g:List (List Vt)}(h:Svv w (.slice a n c) g)(i:Nat)(l:List Vt)(f:g[i]?=some l):∃ b off y,a=some ⟨b,off,none⟩/\b<w.heap.size/\w.cell? ⟨b,off+i,none⟩=some y/\Sv w y l:=by
 obtain⟨⟨k,d,e,j⟩,_⟩:=h;simp only[Value.slice.injEq]at e;obtain⟨rfl,rfl,rfl⟩:=e;rcases j with rfl|⟨b,off,rfl,hb,hc⟩
 .simp at f
 .obtain⟨y,h3,h4⟩:=hc i l f;exact⟨b,off,y,rfl,hb,h3,h4⟩
theorem dS{x:S3}{b c:Nat}(d:x.a=some ⟨b,c,none⟩)(j:Nat)(f:j<x.n):(Instr.indexAt 236 x.v (iv (j:Int))).run prog W=.ok (pt b (c+j)) W:=by
 obtain⟨g,i,h⟩:=x;simp only at d f;subst d;exact KT (P:=prog) (e:=95) (z:=1) underlying236 (by kernel_rfl) (by kernel_rfl) f _ (by rw[ma])
theorem Zt(h:Eu (Cl (Al L s) none) b)(a:u.au≠s):Eu (Cl (Al (L++[u]) s) none) b:=by
 rw[IZ,if_neg a,iZ];exact h
theorem Zs(h:Eu (Cl (Al L s) none) b)(a:u.au=s)(c:Ad u.b):Eu (Cl (Al (L++[u]) s) none) (if b.b.lt u.b then u else b):=by
 rw[IZ,if_pos a,Qd];exact h.next c
theorem Pm{a:List (List Vt)}{d:World}{f:Bool}(h:(Hr a s=b.w/\G0 a s=!decide (b.b.r=0/\b.b.n=0)/\CN a s=0))(g:decide (b.b=Bm)=!f)(e:Bw w d):(Ending.returned (.tuple #[.agg #[iv b.w.k,iv b.w.c,iv b.w.s,iv b.w.n,iv b.w.v],.bool f,iv 0]):Ending)=.returned (.tuple #[.agg (cmC (Hr a s)),.bool (G0 a s),.int .i64 (CN a s)])/\Bw w d:=by
 rw[h.1,h.2.1,h.2.2,show decide (b.b.r=0/\b.b.n=0)=decide (b.b=Bm)from jf.2 (Bal.eq_iff b.b Bm),g,Bool.not_not];exact⟨rfl,e⟩
theorem Xk(x:Value)(ls:List (List Vt))(s:Int)(w:World)(h:Svv w x ls)(ht:NTab w) :
  Calls prog 151 #[x,.int .i64 s] w λe w'=>e=.returned (.tuple #[.agg (cmC (Hr ls s)),.bool (G0 ls s),.int .i64 (CN ls s)])/\Bw w w':=by
 have c5:=h.len;obtain⟨a,P,rfl⟩:=h.shape;obtain⟨y,hy⟩:∃ y:S3,y=⟨a,ls.length,P⟩:=⟨_,rfl⟩;have c7:y.n=ls.length:=by rw[hy]
 rw[show(.slice a ls.length P:Value)=y.v by rw[hy]]at h ⊢
 clear hy;refine tIn [] func151 trivial (tR 10 [1,0] λd _ _=>?_);by_cases G:0<=s/\s<=39
 .refine tC 1 (λF C=>D4 (r:=true) (I' G)) λNz=>?_;rintro _ _ ⟨rfl,W⟩;refine⟨_,_,rfl,W,id,?_⟩;refine tR 16 [1,0] λo _ _=>Dp 52 [(1,iv s),(4,pt (d 0) 0),(7,pt (o 0) 0),(16,S3.v y),(17,iv (y.n:Int)),(18,iv 0)] [true,true] [⟨(d 0),.cells #[iv 0,iv 0,iv 0,iv 0,iv 0] 49,.l,false⟩,⟨(o 0),.cells #[iv 0,iv 0,iv 0,iv 0,iv 0,iv 0,iv 0,iv 0] 156,.l,false⟩] [] (λkk E D f=>∃ (j:Nat) (b:Vt),kk=y.n-j/\E=[(1,iv s),(4,pt (d 0) 0),(7,pt (o 0) 0),(16,S3.v y),(17,iv (y.n:Int)),(18,iv (j:Int))]/\D=[⟨(d 0),.cells #[iv 0,iv 0,iv 0,iv 0,iv 0] 49,.l,false⟩,⟨(o 0),.cells #[iv b.au,iv b.b.r,iv b.b.n,iv b.w.k,iv b.w.c,iv b.w.s,iv b.w.n,iv b.w.v] 156,.l,false⟩]/\f=[]/\j<=ls.length/\Eu (Cl (Al (ls.take j).flatten s) none) b/\∀ l∈ls.take j,∀ v∈l,Ai v) (y.n) ⟨0,vt0,rfl,rfl,rfl,rfl,by omega,.inl ⟨rfl,rfl⟩,λl L=>(by simp at L)⟩ (λF=>trivial) ?_;rintro k _ _ _ ⟨j,b,rfl,rfl,rfl,rfl,hj,q,O⟩ _ _ _ J I;refine tR 5 [] λc9 _ _=>?_;by_cases h2:j<y.n
  .refine tI ((decide ((j:Int)<(y.n:Int)))) true (I' (by omega)) ?_;obtain⟨l,A⟩:∃ l,ls[j]?=some l:=⟨_,E' (by omega)⟩;obtain⟨bb,S,yl,a1,a0,Z,L⟩:=h.spot j l A;obtain⟨z,rfl⟩:=L.s3;have c8:=L.op.1;have hF:(ls.take (j+1)).flatten=_:=UB ls j l A;have c6:=L.len;refine tR 5 [] λd0 _ _=>tV 0 (pt bb (S+j)) (λF C=>(dS a1 j (by omega))) (tV 1 (S3.v z) (λF C=>(Ci underlying95 rfl (((CgQ.ab C).cell (p:=⟨bb,S+j,none⟩) a0).trans Z))) (tR 9 [] λd1 _ _=>Dp 52 [(1,iv s),(4,pt (d 0) 0),(7,pt (o 0) 0),(16,S3.v y),(17,iv (y.n:Int)),(18,iv (j:Int)),(22,S3.v z),(23,iv (z.n:Int)),(24,iv 0)] [true,true] [⟨(d 0),.cells #[iv 0,iv 0,iv 0,iv 0,iv 0] 49,.l,false⟩,⟨(o 0),.cells #[iv b.au,iv b.b.r,iv b.b.n,iv b.w.k,iv b.w.c,iv b.w.s,iv b.w.n,iv b.w.v] 156,.l,false⟩] [] (λkk E D f=>∃ (k:Nat) (b:Vt),kk=z.n-k/\E=[(1,iv s),(4,pt (d 0) 0),(7,pt (o 0) 0),(16,S3.v y),(17,iv (y.n:Int)),(18,iv (j:Int)),(22,S3.v z),(23,iv (z.n:Int)),(24,iv (k:Int))]/\D=[⟨(d 0),.cells #[iv 0,iv 0,iv 0,iv 0,iv 0] 49,.l,false⟩,⟨(o 0),.cells #[iv b.au,iv b.b.r,iv b.b.n,iv b.w.k,iv b.w.c,iv b.w.s,iv b.w.n,iv b.w.v] 156,.l,false⟩]/\f=[]/\k<=l.length/\Eu (Cl (Al ((ls.take j).flatten++l.take k) s) none) b/\∀ v∈l.take k,Ai v) (z.n) ⟨0,b,rfl,rfl,rfl,rfl,by omega,(by rw[jB,iZ];exact q),λv hv=>(by simp at hv)⟩ (λF=>trivial) ?_));rintro k _ _ _ ⟨k,b,rfl,rfl,rfl,rfl,hk,q,N⟩ _ _ _ Jb K;refine tR 5 [] λd2 _ _=>?_;by_cases H:k<z.n
   .refine tI ((decide ((k:Int)<(z.n:Int)))) true (I' (by omega)) ?_;obtain⟨u,V⟩:∃ u,l[k]?=some u:=⟨_,E' (by omega)⟩;obtain⟨W,o2,R⟩:=L.ad (i:=k) (by omega);have Y:=Fe l k u V;refine tR 5 [] λd3 _ _=>tV 0 (pt W (o2+8*k)) (λF C=>(SH R k (by omega))) (tV 1 (.agg #[iv u.au,iv u.b.r,iv u.b.n,iv u.w.k,iv u.w.c,iv u.w.s,iv u.w.n,iv u.w.v]) (λF C=>(ah u ((L.ab (CgQ.ab C)).at_ R V))) (tR 7 [0,0,2,0,2] λa2 _ _=>?_));by_cases Q:Ai u
    .refine tC1 1 (λF C=>Ga (v:=u) (ht.ab (CgQ.ab C)) (r:=true) (I' Q)) λ_=>?_;have M:∀ v∈l.take (k+1),Ai v:=Ye V N Q;refine tR 9 [2] λa3 _ _=>?_;by_cases T:u.au=s
     .refine tV 3 (.bool true) (λF C=>(Dn (t:=3) (m:=u.au) (n:=s) (x:=(.tmp 33)) (y:=(.tmp 34)) (by simpa using T))) (tR 5 [1,2] λa4 _ _=>?_);have B:=Zs q T Q.2.1;by_cases U:b.b.lt u.b
      .rw[if_pos U]at B
       refine tC1 9 (λF C=>DB (a:=b.b) (b:=u.b) (r:=true) (I' U)) λ_=>tR 9 [2,1,0] λa5 _ _=>tV 0 (iv ((k:Int)+1)) (λF C=>(AD 24 (k:Int) underlying3 (by omega))) (tR 2 [] λa6 _ _=>tB K (z.n-(k+1)) (by omega) [true,true,false] ⟨k+1,u,rfl,rfl,rfl,rfl,by omega,by rw[Y,<- iB];exact B,M⟩ (λF=>trivial))
      .rw[if_neg U]at B
       refine tC1 9 (λF C=>DB (a:=b.b) (b:=u.b) (r:=false) (D' U)) λ_=>tR 6 [] λa7 _ _=>tV 0 (iv ((k:Int)+1)) (λF C=>(AD 24 (k:Int) underlying3 (by omega))) (tR 2 [] λa8 _ _=>tB K (z.n-(k+1)) (by omega) [true,true,false] ⟨k+1,b,rfl,rfl,rfl,rfl,by omega,by rw[Y,<- iB];exact B,M⟩ (λF=>trivial))
     .refine tV 3 (.bool false) (λF C=>(Dn (t:=3) (m:=u.au) (n:=s) (x:=(.tmp 33)) (y:=(.tmp 34)) (by simpa using T))) (tR 12 [] λa9 _ _=>tV 0 (iv ((k:Int)+1)) (λF C=>(AD 24 (k:Int) underlying3 (by omega))) (tR 2 [] λb0 _ _=>tB K (z.n-(k+1)) (by omega) [true,true,false] ⟨k+1,b,rfl,rfl,rfl,rfl,by omega,by rw[Y,<- iB];exact Zt q T,M⟩ (λF=>trivial)))
    .refine tC1 1 (λF C=>Ga (v:=u) (ht.ab (CgQ.ab C)) (r:=false) (D' Q)) λ_=>?_;have X:=R0 (ls:=ls) G λg=>Q (g l (iN A) u (iN V));refine tR 10 [0,0] λb1 _ _=>tX λF C=>qE3 4 5 6 49 0 (d 0) #[iv 0,iv 0,iv 0,iv 0,iv 0] (.bool false) (iv 5) λ_=>by rw[X.1,X.2.1,X.2.2];exact⟨rfl,CgQ.ab C⟩
   .refine tI ((decide ((k:Int)<(z.n:Int)))) false (D' (by omega)) ?_;rw[iE (show l.length<=k by omega)]at q N
    rw[<- hF]at q
    refine tR 3 [] λb3 _ _=>tV 0 (iv ((j:Int)+1)) (λF C=>(AD 18 (j:Int) underlying3 (by omega))) (tR 2 [] λb4 _ _=>tB I (y.n-(j+1)) (by omega) [true,true] ⟨j+1,b,rfl,rfl,rfl,rfl,by omega,q,Yd A O N⟩ (λF=>trivial))
  .refine tI ((decide ((j:Int)<(y.n:Int)))) false (D' (by omega)) ?_;rw[iE (show ls.length<=j by omega)]at q O
   have hK:=Eu.pick G O q;refine tR 7 [6,0,2,1,4,8] λb5 _ _=>?_;by_cases H:b.b=Bm
   .refine Ia 52 (λE D f=>∃ (_:Unit),E=[(4,pt (d 0) 0),(5,.bool false),(6,iv 0)]/\D=[⟨(d 0),.cells #[iv b.w.k,iv b.w.c,iv b.w.s,iv b.w.n,iv b.w.v] 49,.l,false⟩,⟨(o 0),.cells #[iv b.au,iv b.b.r,iv b.b.n,iv b.w.k,iv b.w.c,iv b.w.s,iv b.w.n,iv b.w.v] 156,.l,false⟩]/\f=[]) (λJ I=>?_) ?_
    .refine NR 3 6 ?_ ?_
     .refine tR 1 [1] λb6 _ _=>tT 5 (.bool false) (λ_=>(Hu (x:=(.tmp 49)) (y:=(.tmp 50)) b.b Bm H)) (tR 4 [13,0,0,14,16] λb7 _ _=>tD I [true,true] ⟨(),rfl,rfl,rfl⟩ (λF=>trivial))
     .refine tR 2 [0,0,7,1] λb8 _ _=>tT 5 (.bool false) (λ_=>(Hu (x:=(.tmp 49)) (y:=(.tmp 50)) b.b Bm H)) (tR 3 [14,16] λb9 _ _=>tD I [true,true] ⟨(),rfl,rfl,rfl⟩ (λF=>trivial))
    rintro _ _ _ ⟨_,rfl,rfl,rfl⟩ _ _ _;exact tX λF C=>qE3 4 5 6 49 0 (d 0) #[iv b.w.k,iv b.w.c,iv b.w.s,iv b.w.n,iv b.w.v] (.bool false) (iv 0) λ_=>Pm hK (I' H) (CgQ.ab C)
   .refine Ia 52 (λE D f=>∃ (_:Unit),E=[(4,pt (d 0) 0),(5,.bool true),(6,iv 0)]/\D=[⟨(d 0),.cells #[iv b.w.k,iv b.w.c,iv b.w.s,iv b.w.n,iv b.w.v] 49,.l,false⟩,⟨(o 0),.cells #[iv b.au,iv b.b.r,iv b.b.n,iv b.w.k,iv b.w.c,iv b.w.s,iv b.w.n,iv b.w.v] 156,.l,false⟩]/\f=[]) (λJ I=>?_) ?_
    .refine NR 3 6 ?_ ?_
     .refine tR 1 [1] λc0 _ _=>tT 5 (.bool true) (λ_=>(Hv (x:=(.tmp 49)) (y:=(.tmp 50)) b.b Bm H)) (tR 4 [13,0,0,14,16] λc1 _ _=>tD I [true,true] ⟨(),rfl,rfl,rfl⟩ (λF=>trivial))
     .refine tR 2 [0,0,7,1] λc2 _ _=>tT 5 (.bool true) (λ_=>(Hv (x:=(.tmp 49)) (y:=(.tmp 50)) b.b Bm H)) (tR 3 [14,16] λc3 _ _=>tD I [true,true] ⟨(),rfl,rfl,rfl⟩ (λF=>trivial))
    rintro _ _ _ ⟨_,rfl,rfl,rfl⟩ _ _ _;exact tX λF C=>qE3 4 5 6 49 0 (d 0) #[iv b.w.k,iv b.w.c,iv b.w.s,iv b.w.n,iv b.w.v] (.bool true) (iv 0) λ_=>Pm hK (D' H) (CgQ.ab C)
 .refine tC1 1 (λF C=>D4 (r:=false) (D' G)) λ_=>tR 10 [0,0] λc4 _ _=>tX λF C=>qE3 4 5 6 49 0 (d 0) #[iv 0,iv 0,iv 0,iv 0,iv 0] (.bool false) (iv 2) λ_=>by rw[(KN G).1,(KN G).2.1,(KN G).2.2];exact⟨rfl,CgQ.ab C⟩
def gz:Gh:=⟨λ_=>.z,λ_=>0⟩
theorem DE{b:Nat}:gz.t b∉([.n 60 0]:List Tg):=by simp[gz]
def OS(x:NX)(k:Nat):List Value:=(List.range k).map λj=>S3.v (x.hv j)
theorem TL(x:NX)(k:Nat):OS x (k+1)=OS x k++[S3.v (x.hv k)]:=by unfold OS;rw[jN,iL];rfl
theorem ZS{τ:Tg}{e:TypeId}{y:S3}{x:NX}{r:Rnd}(h:OwnS g w τ false e 1 y (OS x 5))(A:∀ j,j<5->Sv w (x.hv j).v (r.br j).vs):Svv w y.v (r.me.map (·.vs)):=by
 have s:=h.len;have t:y.n=5:=by simp[OS]at s;omega
 obtain⟨b,o,i,_⟩:=h.cell (j:=0) (u:=S3.v (x.hv 0)) rfl;refine⟨⟨y.a,y.c,by unfold S3.v;rw[t];rfl,.inr ⟨b,0,o,i,λj l k=>?_⟩⟩,by show 5<=5864062014634;decide⟩;have f:j<5:=by have:=(O'.1 k).1;exact this
 have m:(OS x 5)[j]?=some (S3.v (x.hv j)):=by rcases mj f with rfl|rfl|rfl|rfl|rfl<;>rfl
 obtain⟨B,d,_,q⟩:=h.cell m;rw[o]at d
 simp only[V',Addr.mk.injEq,and_true]at d;subst d;refine⟨S3.v (x.hv j),by rw[i5];exact q,?_⟩;have p:=A j f;rcases mj f with rfl|rfl|rfl|rfl|rfl<;>(simp[Rnd.me]at k;subst k;exact p)
theorem Ty{l:List Cmd}{f:Cmd->Bool}{j:Nat}(h:l[j]?=some c):(l.drop j).find? f=if f c then some c else(l.drop (j+1)).find? f:=by
 rw[Dk h,ke];split<;>simp_all
theorem J1(h:NS i nb ob g w p ls ts)(hB:Base w0 g w)(hT:Tabs w0)(s:Nat)(hq:p.bw.dW.length<100000000)(a4:p.ae.length<100000000) :
  Calls prog 116 #[pt nb 0,iv (s:Int)] w λe w'=>e=.returned (.tuple #[.agg (cmC ((p.mB s).getD Qo)),.bool (p.mB s).isSome])/\Bw w w':=by
 obtain⟨x,lt,tl,P,hO,hg⟩:=h;have hQ:=P.dW.rd;have hA:=P.ae.rd;have b8:=hQ.len;have hH:∀ j,j<5->Sv w (x.hv j).v (p.bw.br j).vs:=λj Q=>(P.br j Q).s;have a2:Base w0 gz w:=⟨hB.b,λ_ _=>rfl⟩;refine gI (fn:=f116) [.n 60 0] gz func116 (λ_ _=>⟨rfl,rfl⟩) (BJ ⟨nb,.cells (Az i ob p x) 109,.z,false⟩ (λ_=>⟨P.row,rfl,λh=>(by cases h),λh=>absurd rfl h⟩) (by kernel_rfl) ?_);refine qR [] 21 [1,0,0] λa g1 w1 c1=>BD 63 [(0,pt nb 0),(1,iv (s:Int)),(4,pt (a 0) 0),(6,sn),(19,.agg #[iv ((p.bw.br 0).p.r),iv ((p.bw.br 0).p.n),S3.v (x.hv 0),iv ((p.bw.br 1).p.r),iv ((p.bw.br 1).p.n),S3.v (x.hv 1),iv ((p.bw.br 2).p.r),iv ((p.bw.br 2).p.n),S3.v (x.hv 2),iv ((p.bw.br 3).p.r),iv ((p.bw.br 3).p.n),S3.v (x.hv 3),iv ((p.bw.br 4).p.r),iv ((p.bw.br 4).p.n),S3.v (x.hv 4)]),(20,iv 0)] [true,true] [⟨nb,.cells (Az i ob p x) 109,.z,false⟩,⟨(a 0),.cells #[iv 0,iv 0,iv 0,iv 0,iv 0] 49,.l,false⟩] (λk M w' e L=>∃ (k0:Nat) (y:S3),k=5-k0/\k0<=5/\e=[(0,pt nb 0),(1,iv (s:Int)),(4,pt (a 0) 0),(6,S3.v y),(19,.agg #[iv (p.bw.br 0).p.r,iv (p.bw.br 0).p.n,S3.v (x.hv 0),iv (p.bw.br 1).p.r,iv (p.bw.br 1).p.n,S3.v (x.hv 1),iv (p.bw.br 2).p.r,iv (p.bw.br 2).p.n,S3.v (x.hv 2),iv (p.bw.br 3).p.r,iv (p.bw.br 3).p.n,S3.v (x.hv 3),iv (p.bw.br 4).p.r,iv (p.bw.br 4).p.n,S3.v (x.hv 4)]),(20,iv (k0:Int))]/\L=[⟨nb,.cells (Az i ob p x) 109,.z,false⟩,⟨(a 0),.cells #[iv 0,iv 0,iv 0,iv 0,iv 0] 49,.l,false⟩]/\OwnS M w' (.n 60 0) false 95 1 y (OS x k0)/\Cg w.heap.size [.n 60 0] gz w M w') (by kernel_rfl) (by kernel_rfl) (by kernel_rfl) (by kernel_rfl) 5 (λK=>?_) ?_
 .exact⟨0,s30,rfl,by omega,rfl,rfl,OwnS.nil _ _ _ _ _ _,(c1.nil [.n 60 0])⟩
 .rintro k gr wr _ zr _ ⟨k0,y,rfl,hk0,rfl,rfl,hy,hC⟩ J hJ;refine qR [] 5 [] λs2 g2 w2 t=>?_;by_cases h1:k0<5
  .refine qI ((decide ((k0:Int)<5))) true (I' (by omega)) (qR [] 5 [] λs3 g3 w3 c3=>?_);refine Zf 0 (.agg #[iv (p.bw.br k0).p.r,iv (p.bw.br k0).p.n,S3.v (x.hv k0)]) (λK=>(by rcases mj h1 with rfl|rfl|rfl|rfl|rfl<;>kernel_rfl)) (by kernel_rfl) ?_;refine qR [] 8 [0,0,2,0,2,0,0] λs4 g4 w4 c4=>?_;have c0:y.n=k0:=by have:=hy.len;simp[OS]at this;omega
   refine Jx 4 (x:=y) 236 236 95 1 24 (.slice none 0 0) ⟨(s4 1),0,none⟩ 1 1 [S3.v (x.hv k0)] (((hy.ch t).ch c3).ch c4) (by kernel_rfl) (by kernel_rfl) (by kernel_rfl) underlying236 (by kernel_rfl) (by kernel_rfl) (by decide) (by decide) rfl (by simp[Value.oneCell']) (λK=>BL K 3 (s4 1) [S3.v (x.hv k0)] 95 .z true (by kernel_rfl)) (by unfold maxLen;omega) (by omega) ?_;intro y5 g5 w5 a5 n5 a0 G5;have c5:=a0 w.heap.size [.n 60 0] (N'.2 rfl);refine qR [] 4 [] λs6 g6 w6 c6=>qV 0 (iv ((k0:Int)+1)) (AD 20 (k0:Int) underlying3 (by omega)) (qR [] 2 [] λs7 g7 w7 c7=>qB [true,true,false,false] λz K0 K=>hJ (5-(k0+1)) _ _ _ z _ (by omega) ⟨k0+1,y5,rfl,by omega,rfl,rfl,(by rw[TL];exact((a5.ch c6).ch c7)),((((((hC.n t).n c3).n c4).trans c5).n c6).n c7)⟩ K)
  .refine qI ((decide ((k0:Int)<5))) false (D' (by omega)) ?_;obtain rfl:k0=5:=by omega
   refine qR [] 5 [] λs8 g8 w8 F=>?_;have hD:=((hC.n t).n F);have hS:=ZS (r:=p.bw) ((hy.ch t).ch F) (λj Q=>(hH j Q).ab (hD.ab (λ_ _=>DE)));refine qC 2 (Xk _ _ (s:Int) w8 hS ((a2.ch hD).tn hT)) ?_;rintro e' w9 ⟨rfl,b9⟩;refine⟨_,rfl,b9,?_⟩;have Z:=Cg.bu (B:=w.heap.size) (T:=[]) (g:=g8) b9;refine qR [] 15 [0,0,2,0] λd0 a6 e3 o=>?_;by_cases G:(CN (p.bw.me.map (·.vs)) (s:Int))≠0
   .refine qI (((CN (p.bw.me.map (·.vs)) (s:Int)) != 0)) true (by simpa using G) (qR [] 6 [1,0] λd1 a7 e4 R=>?_);rw[show p.mB s=none from if_pos G];exact qE2 4 5 49 1 (a 0) (cmC Qo) (.bool false) λK=>⟨rfl,Cg.ab (((((hC.n t).n F).n Z).n o).n R) (λ_ _=>DE)⟩
   .refine qI (((CN (p.bw.me.map (·.vs)) (s:Int)) != 0)) false (by simpa using G) (qR [] 6 [] λd2 a8 e5 C=>?_);by_cases N:(G0 (p.bw.me.map (·.vs)) (s:Int))=true
    .refine qI ((G0 (p.bw.me.map (·.vs)) (s:Int))) true N (qR [] 6 [2,1,0] λd3 a9 e6 S=>?_);rw[show p.mB s=some (Hr (p.bw.me.map (·.vs)) (s:Int))from(if_neg G).trans (if_pos N)];exact qE2 4 5 49 1 (a 0) (cmC (Hr (p.bw.me.map (·.vs)) (s:Int))) (.bool true) λK=>⟨rfl,Cg.ab ((((((hC.n t).n F).n Z).n o).n C).n S) (λ_ _=>DE)⟩
    .refine qI ((G0 (p.bw.me.map (·.vs)) (s:Int))) false (by simpa using N) (qR [] 14 [0] λd4 b0 e7 U=>?_);have hX:p.mB s=p.bw.dW.find? (λc=>decide (c∉p.ae)):=(if_neg G).trans (if_neg N);refine BD 63 [(0,pt nb 0),(4,pt (a 0) 0),(46,S3.v x.dW),(47,iv (x.dW.n:Int)),(48,iv 0)] [true,true,false] [⟨nb,.cells (Az i ob p x) 109,.z,false⟩,⟨(a 0),.cells #[iv 0,iv 0,iv 0,iv 0,iv 0] 49,.l,false⟩] (λk M w' e L=>∃ j:Nat,k=p.bw.dW.length-j/\j<=p.bw.dW.length/\e=[(0,pt nb 0),(4,pt (a 0) 0),(46,S3.v x.dW),(47,iv (x.dW.n:Int)),(48,iv (j:Int))]/\L=[⟨nb,.cells (Az i ob p x) 109,.z,false⟩,⟨(a 0),.cells #[iv 0,iv 0,iv 0,iv 0,iv 0] 49,.l,false⟩]/\(p.bw.dW.drop j).find? (λc=>decide (c∉p.ae))=p.mB s/\Cg w.heap.size [.n 60 0] gz w M w') (by kernel_rfl) (by kernel_rfl) (by kernel_rfl) (by kernel_rfl) p.bw.dW.length (λK=>?_) ?_
     .exact⟨0,rfl,by omega,rfl,rfl,by rw[hX];rfl,((((((hC.n t).n F).n Z).n o).n C).n U)⟩
     .rintro k gr wr _ zr _ ⟨j,rfl,Q,rfl,rfl,hI,hC2⟩ J hJ;refine qR [] 5 [] λd5 b1 e8 d=>?_;by_cases h4:j<p.bw.dW.length
      .refine qI ((decide ((j:Int)<(x.dW.n:Int)))) true (I' (by omega)) ?_;obtain⟨c,H⟩:∃ c,p.bw.dW[j]?=some c:=⟨_,E' h4⟩;obtain⟨bx,ox,I⟩:=hQ.addr h4;rw[Ty H]at hI
       refine qR [] 5 [] λd6 b2 e9 m=>qV 0 (pt bx (ox+5*j)) (MD I j (by omega)) ?_;have a3:=hQ.ab (((hC2.n d).n m).ab (λ_ _=>DE));refine qV 1 (.agg #[iv c.k,iv c.c,iv c.s,iv c.n,iv c.v]) (Um c λq_ u hu=>a3.cellAt I H hu) (qR [] 11 [0,0,2,0,8,0,2,4,6,8,0,10,2] λd7 a1 f0 q=>qC 6 (EI (l:=p.ae) (hA.ab ((((hC2.n d).n m).n q).ab (λ_ _=>DE))) a4 c) ?_);rintro e' f1 ⟨rfl,A⟩;refine⟨_,rfl,A,?_⟩;have D:=Cg.bu (B:=w.heap.size) (T:=[]) (g:=a1) A;refine qR [] 2 [14] λd8 b3 f2 E=>?_;by_cases O:c∈p.ae
       .refine qI ((!(decide (c∈p.ae)))) false (by simpa using O) (qR [] 3 [] λd9 b4 f3 V=>qV 0 (iv ((j:Int)+1)) (AD 48 (j:Int) underlying3 (by omega)) (qR [] 2 [] λe0 b5 f4 W=>qB [true,true,false] λz K0 K=>hJ (p.bw.dW.length-(j+1)) _ _ _ z _ (by omega) ⟨j+1,rfl,by omega,rfl,rfl,(by rw[<- hI,if_neg (by simpa using O)]),(((((((hC2.n d).n m).n q).n D).n E).n V).n W)⟩ K))
       .refine qI ((!(decide (c∈p.ae)))) true (by simpa using O) (qR [] 6 [2,1,0] λe1 b6 f5 X=>?_);rw[if_pos (by simpa using O)]at hI
        rw[<- hI];exact qE2 4 5 49 1 (a 0) (cmC c) (.bool true) λK=>⟨rfl,Cg.ab ((((((hC2.n d).n m).n q).n D).n E).n X) (λ_ _=>DE)⟩
      .refine qI ((decide ((j:Int)<(x.dW.n:Int)))) false (D' (by omega)) (qR [] 7 [1,0] λe2 b7 f6 Y=>?_);obtain rfl:j=p.bw.dW.length:=by omega
       rw[jM]at hI
       rw[<- hI];exact qE2 4 5 49 1 (a 0) (cmC Qo) (.bool false) λK=>⟨rfl,Cg.ab ((hC2.n d).n Y) (λ_ _=>DE)⟩
theorem Mn(h:NS i nb ob g w p ls ts){b:Bool}(a:p.bw.mD=b) :
  Calls prog 115 #[pt nb 11] w λe w'=>e=.returned (.bool b)/\Bw w w':=by subst a;exact Qz h
theorem OY(h:NS i nb ob g w p ls ts)(b:Base w0 g w)(c:Tabs w0)(s:Nat)(f:p.bw.dW.length<100000000)(a:p.ae.length<100000000){o:Option Cmd}(d:p.mB s=o) :
  Calls prog 116 #[pt nb 0,iv (s:Int)] w λe w'=>e=.returned (.tuple #[.agg (cmC (o.getD Qo)),.bool o.isSome])/\Bw w w':=by subst d;exact J1 h b c s f a
theorem Yp(p:Nod)(v:Vt):(p.cn v).1.bw=p.bw:=by
 unfold Nod.cn;repeat' split
 all_goals rfl
theorem Pq(h:NS i nb ob g w p ls ts)(hB:Base w0 g w)(hT:Tabs w0)(hq:p.bw.dW.length<100000000)(U:p.ae.length<100000000)(hb:p.bt.length<100000000)(a8:p.vo.vs.length<100000000) :
  Calls prog 71 #[pt nb 0] w (NP i nb ob g w (.tuple #[]) p.fv ls ts):=by
 obtain⟨x,lt,tl,k,m,hg⟩:=h;have hn:x.ae.n=p.ae.length:=k.ae.num;refine gI (fn:=f71) (TN i) g func71 hg (qN k (qO m (qR [] 18 [0,0,2,0,2] λs1 g1 w1 c1=>?_)));by_cases h1:p.leads=false
 .refine Ae λK=>?_;have N3:NS i nb ob g1 w1 p ls ts:=(nsC k m c1 K);refine qC 1 (E4 N3 h1) ?_;rintro P w4 ⟨rfl,b4⟩;refine⟨_,rfl,b4,?_⟩;have c4:=Cg.bu (B:=w.heap.size) (T:=[]) (g:=g1) b4;refine qR [] 21 [] λs5 g5 w5 c5=>qE (.tuple #[]) λK=>?_;rw[show p.fv=p from by unfold Nod.fv;rw[if_pos (.inl h1)]];exact⟨_,rfl,(nsC k m ((c1.n c4).n c5) K),(((c1.nil (TN i)).n c4).n c5)⟩
 .have h10:p.leads=true:=by simpa using h1
  refine Ae λK=>?_;have N8:NS i nb ob g1 w1 p ls ts:=(nsC k m c1 K);refine qC 1 (E4 N8 h10) ?_;rintro P w9 ⟨rfl,b9⟩;refine⟨_,rfl,b9,?_⟩;have j:=Cg.bu (B:=w.heap.size) (T:=[]) (g:=g1) b9;refine qR [] 6 [2] λc7 s Y a=>?_;by_cases h2:p.bw.mD=false
  .refine Ae λK=>?_;have a0:NS i nb ob s Y p ls ts:=(nsC k m ((c1.n j).n a) K);refine qC 8 (Mn a0 h2) ?_;rintro P d7 ⟨rfl,C⟩;refine⟨_,rfl,C,?_⟩;have G:=Cg.bu (B:=w.heap.size) (T:=[]) (g:=s) C;refine qR [] 14 [] λc8 b3 d8 H=>qE (.tuple #[]) λK=>?_;rw[show p.fv=p from by unfold Nod.fv;rw[if_pos (.inr (.inl h2))]];exact⟨_,rfl,(nsC k m ((((c1.n j).n a).n G).n H) K),(((((c1.nil (TN i)).n j).n a).n G).n H)⟩
  .have h20:p.bw.mD=true:=by simpa using h2
   refine Ae λK=>?_;have a1:NS i nb ob s Y p ls ts:=(nsC k m ((c1.n j).n a) K);refine qC 8 (Mn a1 h20) ?_;rintro P d9 ⟨rfl,D⟩;refine⟨_,rfl,D,?_⟩;have b:=Cg.bu (B:=w.heap.size) (T:=[]) (g:=s) D;refine qR [] 13 [2,0] λd0 b5 e0 d=>?_;by_cases h3:(x.ae.n:Int)<(p.bw.next:Int)
   .have h30:p.ae.length<p.bw.next:=by omega
    refine qI ((decide ((x.ae.n:Int)<(p.bw.next:Int)))) true (I' (by omega)) (qE (.tuple #[]) λK=>?_);rw[show p.fv=p from by unfold Nod.fv;rw[if_pos (.inr (.inr h30))]];exact⟨_,rfl,(nsC k m ((((c1.n j).n a).n b).n d) K),(((((c1.nil (TN i)).n j).n a).n b).n d)⟩
   .refine qI ((decide ((x.ae.n:Int)<(p.bw.next:Int)))) false (D' (by omega)) ?_;have y:¬ (p.leads=false\/p.bw.mD=false\/p.ae.length<p.bw.next):=by rintro(h|h|h);exact h1 h;exact h2 h;omega
    refine qR [] 5 [2] λd1 t Z e=>?_;cases ho:p.mB x.ae.n with
    | none =>
     refine Ae λK=>?_;have a2:NS i nb ob t Z p ls ts:=(nsC k m (((((c1.n j).n a).n b).n d).n e) K);refine qC 2 (OY a2 (hB.ch ((((((c1.nil (TN i)).n j).n a).n b).n d).n e) (AZ i)) hT x.ae.n hq U ho) ?_;rintro P e1 ⟨rfl,E⟩;refine⟨_,rfl,E,?_⟩;have I:=Cg.bu (B:=w.heap.size) (T:=[]) (g:=t) E;refine qR [] 14 [0,0,3,0] λd2 b6 e2 J=>qE (.tuple #[]) λK=>?_;rw[show p.fv=p from by unfold Nod.fv;rw[if_neg y,<- hn,ho]];exact⟨_,rfl,(nsC k m (((((((c1.n j).n a).n b).n d).n e).n I).n J) K),((((((((c1.nil (TN i)).n j).n a).n b).n d).n e).n I).n J)⟩
    | some c =>
     refine Ae λK=>?_;have a3:NS i nb ob t Z p ls ts:=(nsC k m (((((c1.n j).n a).n b).n d).n e) K);refine qC 2 (OY a3 (hB.ch ((((((c1.nil (TN i)).n j).n a).n b).n d).n e) (AZ i)) hT x.ae.n hq U ho) ?_;rintro P e3 ⟨rfl,F⟩;refine⟨_,rfl,F,?_⟩;have o:=Cg.bu (B:=w.heap.size) (T:=[]) (g:=t) F;refine qR [] 34 [0,0,3,0,11,0,2,2,4,6,8,10,12,0,14,3,16,19,0,0,21,4,0,2,4] λW b7 e4 q=>qS 2 [false,false,true,true,true] k m (((((((c1.n j).n a).n b).n d).n e).n o).n q) (λa4=>M1 a4 (hB.ch ((((((((c1.nil (TN i)).n j).n a).n b).n d).n e).n o).n q) (AZ i)) hT (⟨(x.ae.n:Int),p.bw.lr,c⟩:Vt) a8) λb8 e5 b0 V X u v L=>qR [] 2 [] λd3 c0 e6 r=>?_;by_cases Q:(p.cn (⟨(x.ae.n:Int),p.bw.lr,c⟩:Vt)).2≠0
     .refine qI (((p.cn (⟨(x.ae.n:Int),p.bw.lr,c⟩:Vt)).2 != 0)) true (by simpa using Q) (qE (.tuple #[]) λK=>?_);rw[show p.fv=(p.cn (⟨(x.ae.n:Int),p.bw.lr,c⟩:Vt)).1 from by rw[SX Q];unfold Nod.fv;rw[if_neg y,<- hn,ho];exact if_pos Q];exact⟨_,rfl,(nsC u v r K),((((((((((c1.nil (TN i)).n j).n a).n b).n d).n e).n o).n q).trans (L)).n r)⟩
     .refine qI (((p.cn (⟨(x.ae.n:Int),p.bw.lr,c⟩:Vt)).2 != 0)) false (by simpa using Q) (qR [] 5 [0] λd4 c2 e7 M=>qV 2 (iv ((x.ae.n:Int)+1)) (AD 55 (x.ae.n:Int) underlying3 (by omega)) (qR [.n 0 i] 9 [3,1,0] λd5 a7 a9 N=>?_));rw[show p.fv=Nod.wait { (p.cn (⟨(x.ae.n:Int),p.bw.lr,c⟩:Vt)).1 with bw:={ (p.cn (⟨(x.ae.n:Int),p.bw.lr,c⟩:Vt)).1.bw with next:=x.ae.n+1 } } (.prop (⟨(x.ae.n:Int),p.bw.lr,c⟩:Vt))from by unfold Nod.fv;rw[if_neg y,<- hn,ho,Yp];exact if_neg Q];refine Ae λK=>?_;obtain⟨z1,z2⟩:=K.mM 0 (s1 0) (.cells #[pt nb 0] 89) false (by kernel_rfl);obtain⟨z3,z4⟩:=K.mM 2 (W 1) (.cells (vtA (⟨(x.ae.n:Int),p.bw.lr,c⟩:Vt)) 156) false (by kernel_rfl);have A:=((r.nil ([.n 0 i]:List Tg)).n M).trans (N);have a5:NS i nb ob a7 a9 ({ (p.cn (⟨(x.ae.n:Int),p.bw.lr,c⟩:Vt)).1 with bw:={ (p.cn (⟨(x.ae.n:Int),p.bw.lr,c⟩:Vt)).1.bw with next:=x.ae.n+1 } }) ls ts:=⟨b0,V,X,K.ny 3 u A,v.ch A (hn:=by simp<;>omega),K.new⟩;refine qS0 2 [true,true,true,false,false] (AI a5 (by show(p.cn (⟨(x.ae.n:Int),p.bw.lr,c⟩:Vt)).1.bt.length<_;rw[MR];exact hb) _ _ (.prop (⟨(x.ae.n:Int),p.bw.lr,c⟩:Vt)) ⟨(s1 0),(W 1),rfl,⟨z1,z2⟩,⟨z3,z4⟩⟩) λc3 e8 f0 b1 b2 R S a6=>qR [] 1 [] λd6 c6 e9 O=>qF R S O ((((((((((((((c1.nil (TN i)).n j).n a).n b).n d).n e).n o).n q).trans (L)).n r).n M).trans (N.mono (by simp[TN]))).trans (a6)).n O)
end
end Go.Proofs.YtdjfdfpkkenjbaaGreatDoor
