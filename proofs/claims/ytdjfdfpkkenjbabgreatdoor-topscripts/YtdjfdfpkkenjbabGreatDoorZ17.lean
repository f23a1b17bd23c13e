/- Part 17 of the walk. -/
import Derived.Test.YtdjfdfpkkenjbabGreatDoorZ16
set_option maxRecDepth 100000
set_option maxHeartbeats 4000000
open Go.Proofs.Tryz
set_option linter.unusedVariables false
namespace Go.Proofs.YtdjfdfpkkenjbabGreatDoor
open Go.RowKit
section
theorem On(n g:Int)(w:World) :
  Calls prog 175 #[.int .i64 n,.int .i64 g] w λe w'=>e=.returned (.bool (decide (0<=n/\n<=g)))/\w'=w:=by
 by_cases a:0<=n
 .by_cases h1:n<=g
  .rw[N' (show 0<=n/\n<=g from⟨a,h1⟩)];go_enter func175,ntmps175
   go_wp2
   go_ret;exact⟨rfl,rfl⟩
  .rw[G' (show ¬ (0<=n/\n<=g)from λh=>h1 h.2)];go_enter func175,ntmps175
   go_wp2
   go_ret;exact⟨rfl,rfl⟩
 .rw[G' (show ¬ (0<=n/\n<=g)from λh=>a h.1)];go_enter func175,ntmps175
  go_wp2
  go_ret;exact⟨rfl,rfl⟩
theorem TZ(s:Sto)(w:World) :
  Calls prog 135 #[.agg (stA s)] w λe w'=>e=.returned (.int .i64 (Nc s))/\Bw w w':=by
 have n:Bw w (w.alloc (.cells (stA s) 137)):=(Below.refl _ _).alloc (A' _) _;have p:Bs (w.alloc (.cells (stA s) 137)) w.heap.size s:=heap_alloc_new _ _;generalize u:w.alloc (.cells (stA s) 137)=W at n p;go_enter func135,ntmps135
 go_wp2_with ((with_reducible (refine Bo ?_));(refine Gl rfl _ rfl w.heap.size 0 rfl s.V p.sD ?_))
 clear u
 go_loopw [9] (λiv wr=>∃ i:Nat,i<=8/\iv=.int .i64 (i:Int)/\Hid (∀ j,j<i->VaB (s.V j))/\W=wr) (λiv _=>(8-intOf iv).toNat)
 case atStart=>exact⟨0,by omega,rfl,λj r=>by omega,rfl⟩
 case round =>
  obtain⟨i,t,rfl,l,rfl⟩:=hrel;by_cases a:i<8
  .have hlt':(i:Int)<8:=by omega
   have d:=Vc s.V i a;go_wp2_with fail
   refine(On (s.V i) 1073741824 _).mono ?_;rintro e v ⟨rfl,rfl⟩;by_cases b:0<=s.V i/\s.V i<=1073741824
   .rw[N' b];have o:Hid (∀ j,j<i+1->VaB (s.V j)):=λj r=>by
     by_cases h:j=i
     .subst h;exact b
     .exact l.out j (by omega)
    clear b d l;go_wp2
    go_roundw
    case rel=>exact⟨i+1,by omega,by go_num,o,by simp⟩
    case measure=>simp[intOf];omega
   .rw[G' b];have k:Hid (Nc s=5):=KR (λh=>b (h.1 i a));clear b d l;go_wp2
    go_ret;rw[k.out];exact⟨rfl,n⟩
  .obtain rfl:i=8:=by omega
   clear a t;go_wp2_with ((with_reducible (refine Bo ?_));(refine Gl rfl _ rfl w.heap.size 8 rfl s.L p.sC ?_))
   go_loopw [18] (λiv wr=>∃ i:Nat,i<=8/\iv=.int .i64 (i:Int)/\Hid (∀ j,j<i->ClB (s.L j) (s.C j) (s.A j))/\W=wr) (λiv _=>(8-intOf iv).toNat)
   case atStart=>exact⟨0,by omega,rfl,λj r=>by omega,rfl⟩
   case round =>
    obtain⟨i,t,rfl,f,rfl⟩:=hrel;by_cases a:i<8
    .have hlt':(i:Int)<8:=by omega
     have d:=Vc s.L i a;go_wp2_with fail
     refine(On (s.L i) 1048577 _).mono ?_;rintro e v ⟨rfl,rfl⟩;by_cases b:0<=s.L i/\s.L i<=1048577
     .rw[N' b];have c0:=p.sG i a;have c1:=p.sF i a;have x:(0:Int)<=(i:Int):=by omega
      by_cases m:s.L i=0
      .rw[m];by_cases c:s.C i=0/\s.A i=0
       .rw[c.1]at c0
        rw[c.2]at c1
        have o:Hid (∀ j,j<i+1->ClB (s.L j) (s.C j) (s.A j)):=λj r=>by
         by_cases h:j=i
         .subst h;exact⟨b,λ_=>c⟩
         .exact f.out j (by omega)
        clear b d c m f;go_wp2
        go_roundw
        case rel=>exact⟨i+1,by omega,by go_num,o,by simp⟩
        case measure=>simp[intOf];omega
       .have k:Hid (Nc s=5):=KR (λh=>c ((h.2 i a).2 m));have q:=dM (s.C i) (s.A i);rw[G' c]at q
        clear b d c m f l;go_wp2
        go_ret;rw[k.out];exact⟨rfl,n⟩
      .have o:Hid (∀ j,j<i+1->ClB (s.L j) (s.C j) (s.A j)):=λj r=>by
        by_cases h:j=i
        .subst h;exact⟨b,λg=>absurd g m⟩
        .exact f.out j (by omega)
       have q:(s.L i==0)=false:=by simpa using m
       clear b d f;go_wp2
       go_roundw
       case rel=>exact⟨i+1,by omega,by go_num,o,by simp⟩
       case measure=>simp[intOf];omega
     .rw[G' b];have k:Hid (Nc s=5):=KR (λh=>b (h.2 i a).1);clear b d l f;go_wp2
      go_ret;rw[k.out];exact⟨rfl,n⟩
    .obtain rfl:i=8:=by omega
     have k:Hid (Nc s=0):=eQ ⟨l.out,f.out⟩;clear a t f l;go_wp2
     go_ret;rw[k.out];exact⟨rfl,n⟩
variable{E e0:Int}{P:Program}{W w:World}{b:Bal}{c m:Cmd}{f:Cmd->Option Bal}{g:Gh}{i nb ob:Nat}{l:List Cmd}{ls:List Let}{p:Nod}{s:Sto}{ts:List Tol}
theorem lt8(h:i<8):i=0\/i=1\/i=2\/i=3\/i=4\/i=5\/i=6\/i=7:=by omega
theorem gH(s:Sto)(c d:Nat)(q v:Int)(w:World)(x:c<8)(X:d<8)(q0:0<=q)(q1:q<=1048576) :
  Calls prog 176 #[.agg (stA s),.agg #[iv 1,iv (c:Int),iv q,iv (d:Int),iv v]] w λe w'=>e=.returned (.tuple #[.agg (stA (OP s ⟨1,c,q,d,v⟩)),.agg #[iv 0,iv (MT s ⟨1,c,q,d,v⟩)]])/\Bw w w':=by
 have r:∀ b,w.heap.size<=b->gS.t b=.z/\gS.k b=0:=λ_ _=>⟨rfl,rfl⟩;refine gI (fn:=f176) [] gS func176 r (qR [] 26 [1,0,0,0,1,0,1,0,1,0,1] λa P Y c1=>BT 48 (λg w' e L=>e=[(2,pt (a 0) 0),(3,pt (a 1) 0),(4,pt (a 2) 0),(5,pt (a 3) 0),(6,pt (a 4) 0)]/\L=[⟨(a 0),.cells (stA ({ s with V:=Bn s.V d v })) 137,.l,false⟩,⟨(a 1),.cells #[iv 1,iv (c:Int),iv q,iv (d:Int),iv v] 64,.z,false⟩,⟨(a 2),.cells (stA Ge) 137,.l,false⟩,⟨(a 3),.cells #[iv 0,iv 0] 133,.l,false⟩,⟨(a 4),.cells #[iv 0,iv 0] 133,.l,false⟩]/\True/\Cg w.heap.size ([]:List Tg) P Y g w') (by kernel_rfl) ?_ ?_)
 .intro J hJ;rcases lt8 X with rfl|rfl|rfl|rfl|rfl|rfl|rfl|rfl <;>
  (refine qR [] 8 [1,1,0,0] λa3 g3 w3 F=>?_;exact qB [true,true,true,true,true] λz h K=>hJ _ _ _ z _ ⟨rfl,rfl,trivial,(F.nil ([]:List Tg))⟩ K)
 rintro g2 w2 _ z2 _ ⟨rfl,rfl,_,E⟩;refine qR [] 13 [1,4,0,1,1] λa4 U w4 G=>qV 4 (iv (q+1)) (AZ 37 q underlying3 (by omega)) (BT 48 (λg w' e L=>e=[(2,pt (a 0) 0),(3,pt (a 1) 0),(4,pt (a 2) 0),(5,pt (a 3) 0),(6,pt (a 4) 0)]/\L=[⟨(a 0),.cells (stA (Sto.mk (Bn s.V d v) (Bn s.L c (q+1)) s.C s.A s.R)) 137,.l,false⟩,⟨(a 1),.cells #[iv 1,iv (c:Int),iv q,iv (d:Int),iv v] 64,.z,false⟩,⟨(a 2),.cells (stA Ge) 137,.l,false⟩,⟨(a 3),.cells #[iv 0,iv 0] 133,.l,false⟩,⟨(a 4),.cells #[iv 0,iv v] 133,.l,false⟩]/\True/\Cg w.heap.size ([]:List Tg) U w4 g w') (by kernel_rfl) ?_ ?_)
 .intro J hJ;rcases lt8 x with rfl|rfl|rfl|rfl|rfl|rfl|rfl|rfl <;>
  (refine qR [] 4 [0,0] λa5 g6 w6 I=>?_;exact qB [true,true,true,true,true] λz h K=>hJ _ _ _ z _ ⟨rfl,rfl,trivial,(I.nil ([]:List Tg))⟩ K)
 rintro g5 w5 _ z5 _ ⟨rfl,rfl,_,H⟩;refine qR [] 2 [] λa6 W w7 M=>BT 48 (λg w' e L=>e=[(2,pt (a 0) 0),(3,pt (a 1) 0),(4,pt (a 2) 0),(5,pt (a 3) 0),(6,pt (a 4) 0)]/\L=[⟨(a 0),.cells (stA (Sto.mk (Bn s.V d v) (Bn s.L c (q+1)) (Bn s.C c 0) (Bn s.A c v) s.R)) 137,.l,false⟩,⟨(a 1),.cells #[iv 1,iv (c:Int),iv q,iv (d:Int),iv v] 64,.z,false⟩,⟨(a 2),.cells (stA Ge) 137,.l,false⟩,⟨(a 3),.cells #[iv 0,iv 0] 133,.l,false⟩,⟨(a 4),.cells #[iv 0,iv v] 133,.l,false⟩]/\True/\Cg w.heap.size ([]:List Tg) W w7 g w') (by kernel_rfl) ?_ ?_
 .intro J hJ;rcases lt8 x with rfl|rfl|rfl|rfl|rfl|rfl|rfl|rfl <;>
  (refine qR [] 7 [1,4,0,0] λa7 g9 w9 O=>?_;exact qB [true,true,true,true,true] λz h K=>hJ _ _ _ z _ ⟨rfl,rfl,trivial,(O.nil ([]:List Tg))⟩ K)
 rintro g8 w8 _ z8 _ ⟨rfl,rfl,_,N⟩;refine qR [] 3 [2,0,0] λy p u i=>BT 48 (λg w' e L=>e=[(2,pt (a 0) 0),(3,pt (a 1) 0),(4,pt (a 2) 0),(5,pt (a 3) 0),(6,pt (a 4) 0)]/\L=[⟨(a 0),.cells (stA (Sto.mk (Bn s.V d v) (Bn s.L c (q+1)) (Bn s.C c 0) (Bn s.A c v) s.R)) 137,.l,false⟩,⟨(a 1),.cells #[iv 1,iv (c:Int),iv q,iv (d:Int),iv v] 64,.z,false⟩,⟨(a 2),.cells (stA (Sto.mk (Bn s.V d v) (Bn s.L c (q+1)) (Bn s.C c 0) (Bn s.A c v) s.R)) 137,.l,false⟩,⟨(a 3),.cells #[iv 0,iv v] 133,.l,false⟩,⟨(a 4),.cells #[iv 0,iv v] 133,.l,false⟩]/\True/\Cg w.heap.size ([]:List Tg) p u g w') (by kernel_rfl) ?_ ?_
 .intro J hJ
  (exact CR 1 2 (by kernel_rfl) (by(refine qR [] 4 [4,5,2,0,7,3,0] λB S a0 m=>?_;exact qB [true,true,true,true,true] λz h K=>hJ _ _ _ z _ ⟨rfl,rfl,trivial,(m.nil ([]:List Tg))⟩ K)) (by(refine qR [] 4 [2,0,3,4,7,3,0] λD T a1 o=>?_;exact qB [true,true,true,true,true] λz h K=>hJ _ _ _ z _ ⟨rfl,rfl,trivial,(o.nil ([]:List Tg))⟩ K)))
 rintro Q Z _ a2 _ ⟨rfl,rfl,_,j⟩;exact qE4 4 5 137 133 2 (a 2) 3 (a 3) (stA (OP s ⟨1,c,q,d,v⟩)) #[iv 0,iv (MT s ⟨1,c,q,d,v⟩)] λK=>⟨rfl,Cg.ab (((((((c1.trans E).trans G).trans H).trans M).trans N).trans i).trans j) (λ_ _=>O')⟩
theorem gJ(s:Sto)(c d:Nat)(q v:Int)(w:World)(x:c<8)(X:d<8)(q0:0<=q)(q1:q<=1048576) :
  Calls prog 176 #[.agg (stA s),.agg #[iv 2,iv (c:Int),iv q,iv (d:Int),iv v]] w λe w'=>e=.returned (.tuple #[.agg (stA (OP s ⟨2,c,q,d,v⟩)),.agg #[iv 0,iv (MT s ⟨2,c,q,d,v⟩)]])/\Bw w w':=by
 have r:∀ b,w.heap.size<=b->gS.t b=.z/\gS.k b=0:=λ_ _=>⟨rfl,rfl⟩;refine gI (fn:=f176) [] gS func176 r (qR [] 31 [1,0,0,0,1,0,1,0,1,0,1] λa P Y c1=>BT 48 (λg w' e L=>e=[(2,pt (a 0) 0),(3,pt (a 1) 0),(4,pt (a 2) 0),(5,pt (a 3) 0),(6,pt (a 4) 0)]/\L=[⟨(a 0),.cells (stA s) 137,.l,false⟩,⟨(a 1),.cells #[iv 2,iv (c:Int),iv q,iv (d:Int),iv v] 64,.z,false⟩,⟨(a 2),.cells (stA Ge) 137,.l,false⟩,⟨(a 3),.cells #[iv 0,iv 0] 133,.l,false⟩,⟨(a 4),.cells #[iv 0,iv (s.V d)] 133,.l,false⟩]/\True/\Cg w.heap.size ([]:List Tg) P Y g w') (by kernel_rfl) ?_ ?_)
 .intro J hJ;rcases lt8 X with rfl|rfl|rfl|rfl|rfl|rfl|rfl|rfl <;>
  (refine qR [] 8 [1,0,4,0] λa3 g3 w3 F=>?_;exact qB [true,true,true,true,true] λz h K=>hJ _ _ _ z _ ⟨rfl,rfl,trivial,(F.nil ([]:List Tg))⟩ K)
 rintro g2 w2 _ z2 _ ⟨rfl,rfl,_,E⟩;refine qR [] 7 [1,1] λa4 U w4 G=>qV 4 (iv (q+1)) (AZ 37 q underlying3 (by omega)) (BT 48 (λg w' e L=>e=[(2,pt (a 0) 0),(3,pt (a 1) 0),(4,pt (a 2) 0),(5,pt (a 3) 0),(6,pt (a 4) 0)]/\L=[⟨(a 0),.cells (stA (Sto.mk s.V (Bn s.L c (q+1)) s.C s.A s.R)) 137,.l,false⟩,⟨(a 1),.cells #[iv 2,iv (c:Int),iv q,iv (d:Int),iv v] 64,.z,false⟩,⟨(a 2),.cells (stA Ge) 137,.l,false⟩,⟨(a 3),.cells #[iv 0,iv 0] 133,.l,false⟩,⟨(a 4),.cells #[iv 0,iv (s.V d)] 133,.l,false⟩]/\True/\Cg w.heap.size ([]:List Tg) U w4 g w') (by kernel_rfl) ?_ ?_)
 .intro J hJ;rcases lt8 x with rfl|rfl|rfl|rfl|rfl|rfl|rfl|rfl <;>
  (refine qR [] 4 [0,0] λa5 g6 w6 I=>?_;exact qB [true,true,true,true,true] λz h K=>hJ _ _ _ z _ ⟨rfl,rfl,trivial,(I.nil ([]:List Tg))⟩ K)
 rintro g5 w5 _ z5 _ ⟨rfl,rfl,_,H⟩;refine qR [] 2 [] λa6 W w7 M=>BT 48 (λg w' e L=>e=[(2,pt (a 0) 0),(3,pt (a 1) 0),(4,pt (a 2) 0),(5,pt (a 3) 0),(6,pt (a 4) 0)]/\L=[⟨(a 0),.cells (stA (Sto.mk s.V (Bn s.L c (q+1)) (Bn s.C c 0) (Bn s.A c (s.V d)) s.R)) 137,.l,false⟩,⟨(a 1),.cells #[iv 2,iv (c:Int),iv q,iv (d:Int),iv v] 64,.z,false⟩,⟨(a 2),.cells (stA Ge) 137,.l,false⟩,⟨(a 3),.cells #[iv 0,iv 0] 133,.l,false⟩,⟨(a 4),.cells #[iv 0,iv (s.V d)] 133,.l,false⟩]/\True/\Cg w.heap.size ([]:List Tg) W w7 g w') (by kernel_rfl) ?_ ?_
 .intro J hJ;rcases lt8 x with rfl|rfl|rfl|rfl|rfl|rfl|rfl|rfl <;>
  (refine qR [] 7 [1,4,0,0] λa7 g9 w9 O=>?_;exact qB [true,true,true,true,true] λz h K=>hJ _ _ _ z _ ⟨rfl,rfl,trivial,(O.nil ([]:List Tg))⟩ K)
 rintro g8 w8 _ z8 _ ⟨rfl,rfl,_,N⟩;refine qR [] 3 [2,0,0] λy p u i=>BT 48 (λg w' e L=>e=[(2,pt (a 0) 0),(3,pt (a 1) 0),(4,pt (a 2) 0),(5,pt (a 3) 0),(6,pt (a 4) 0)]/\L=[⟨(a 0),.cells (stA (Sto.mk s.V (Bn s.L c (q+1)) (Bn s.C c 0) (Bn s.A c (s.V d)) s.R)) 137,.l,false⟩,⟨(a 1),.cells #[iv 2,iv (c:Int),iv q,iv (d:Int),iv v] 64,.z,false⟩,⟨(a 2),.cells (stA (Sto.mk s.V (Bn s.L c (q+1)) (Bn s.C c 0) (Bn s.A c (s.V d)) s.R)) 137,.l,false⟩,⟨(a 3),.cells #[iv 0,iv (s.V d)] 133,.l,false⟩,⟨(a 4),.cells #[iv 0,iv (s.V d)] 133,.l,false⟩]/\True/\Cg w.heap.size ([]:List Tg) p u g w') (by kernel_rfl) ?_ ?_
 .intro J hJ
  (exact CR 1 2 (by kernel_rfl) (by(refine qR [] 4 [4,5,2,0,7,3,0] λB S a0 m=>?_;exact qB [true,true,true,true,true] λz h K=>hJ _ _ _ z _ ⟨rfl,rfl,trivial,(m.nil ([]:List Tg))⟩ K)) (by(refine qR [] 4 [2,0,3,4,7,3,0] λD T a1 o=>?_;exact qB [true,true,true,true,true] λz h K=>hJ _ _ _ z _ ⟨rfl,rfl,trivial,(o.nil ([]:List Tg))⟩ K)))
 rintro Q Z _ a2 _ ⟨rfl,rfl,_,j⟩;exact qE4 4 5 137 133 2 (a 2) 3 (a 3) (stA (OP s ⟨2,c,q,d,v⟩)) #[iv 0,iv (MT s ⟨2,c,q,d,v⟩)] λK=>⟨rfl,Cg.ab (((((((c1.trans E).trans G).trans H).trans M).trans N).trans i).trans j) (λ_ _=>O')⟩
theorem gL(s:Sto)(c d:Nat)(q v:Int)(w:World)(x:c<8)(X:d<8)(q0:0<=q)(q1:q<=1048576) :
  Calls prog 176 #[.agg (stA s),.agg #[iv 3,iv (c:Int),iv q,iv (d:Int),iv v]] w λe w'=>e=.returned (.tuple #[.agg (stA (OP s ⟨3,c,q,d,v⟩)),.agg #[iv 0,iv (MT s ⟨3,c,q,d,v⟩)]])/\Bw w w':=by
 have r:∀ b,w.heap.size<=b->gS.t b=.z/\gS.k b=0:=λ_ _=>⟨rfl,rfl⟩;refine gI (fn:=f176) [] gS func176 r (qR [] 37 [1,0,0,0,1,0,1,0,1,0,1] λa P Y c1=>BT 48 (λg w' e L=>e=[(2,pt (a 0) 0),(3,pt (a 1) 0),(4,pt (a 2) 0),(5,pt (a 3) 0),(6,pt (a 4) 0)]/\L=[⟨(a 0),.cells (stA ({ s with R:=Bn s.R d true })) 137,.l,false⟩,⟨(a 1),.cells #[iv 3,iv (c:Int),iv q,iv (d:Int),iv v] 64,.z,false⟩,⟨(a 2),.cells (stA Ge) 137,.l,false⟩,⟨(a 3),.cells #[iv 0,iv 0] 133,.l,false⟩,⟨(a 4),.cells #[iv 0,iv 0] 133,.l,false⟩]/\True/\Cg w.heap.size ([]:List Tg) P Y g w') (by kernel_rfl) ?_ ?_)
 .intro J hJ;rcases lt8 X with rfl|rfl|rfl|rfl|rfl|rfl|rfl|rfl <;>
  (refine qR [] 6 [1,0,0] λa3 g3 w3 F=>?_;exact qB [true,true,true,true,true] λz h K=>hJ _ _ _ z _ ⟨rfl,rfl,trivial,(F.nil ([]:List Tg))⟩ K)
 rintro g2 w2 _ z2 _ ⟨rfl,rfl,_,E⟩;refine qR [] 7 [1,1] λa4 U w4 G=>qV 4 (iv (q+1)) (AZ 37 q underlying3 (by omega)) (BT 48 (λg w' e L=>e=[(2,pt (a 0) 0),(3,pt (a 1) 0),(4,pt (a 2) 0),(5,pt (a 3) 0),(6,pt (a 4) 0)]/\L=[⟨(a 0),.cells (stA (Sto.mk s.V (Bn s.L c (q+1)) s.C s.A (Bn s.R d true))) 137,.l,false⟩,⟨(a 1),.cells #[iv 3,iv (c:Int),iv q,iv (d:Int),iv v] 64,.z,false⟩,⟨(a 2),.cells (stA Ge) 137,.l,false⟩,⟨(a 3),.cells #[iv 0,iv 0] 133,.l,false⟩,⟨(a 4),.cells #[iv 0,iv 0] 133,.l,false⟩]/\True/\Cg w.heap.size ([]:List Tg) U w4 g w') (by kernel_rfl) ?_ ?_)
 .intro J hJ;rcases lt8 x with rfl|rfl|rfl|rfl|rfl|rfl|rfl|rfl <;>
  (refine qR [] 4 [0,0] λa5 g6 w6 I=>?_;exact qB [true,true,true,true,true] λz h K=>hJ _ _ _ z _ ⟨rfl,rfl,trivial,(I.nil ([]:List Tg))⟩ K)
 rintro g5 w5 _ z5 _ ⟨rfl,rfl,_,H⟩;refine qR [] 2 [] λa6 W w7 M=>BT 48 (λg w' e L=>e=[(2,pt (a 0) 0),(3,pt (a 1) 0),(4,pt (a 2) 0),(5,pt (a 3) 0),(6,pt (a 4) 0)]/\L=[⟨(a 0),.cells (stA (Sto.mk s.V (Bn s.L c (q+1)) (Bn s.C c 0) (Bn s.A c 0) (Bn s.R d true))) 137,.l,false⟩,⟨(a 1),.cells #[iv 3,iv (c:Int),iv q,iv (d:Int),iv v] 64,.z,false⟩,⟨(a 2),.cells (stA Ge) 137,.l,false⟩,⟨(a 3),.cells #[iv 0,iv 0] 133,.l,false⟩,⟨(a 4),.cells #[iv 0,iv 0] 133,.l,false⟩]/\True/\Cg w.heap.size ([]:List Tg) W w7 g w') (by kernel_rfl) ?_ ?_
 .intro J hJ;rcases lt8 x with rfl|rfl|rfl|rfl|rfl|rfl|rfl|rfl <;>
  (refine qR [] 7 [1,4,0,0] λa7 g9 w9 O=>?_;exact qB [true,true,true,true,true] λz h K=>hJ _ _ _ z _ ⟨rfl,rfl,trivial,(O.nil ([]:List Tg))⟩ K)
 rintro g8 w8 _ z8 _ ⟨rfl,rfl,_,N⟩;refine qR [] 3 [2,0,0] λy p u i=>BT 48 (λg w' e L=>e=[(2,pt (a 0) 0),(3,pt (a 1) 0),(4,pt (a 2) 0),(5,pt (a 3) 0),(6,pt (a 4) 0)]/\L=[⟨(a 0),.cells (stA (Sto.mk s.V (Bn s.L c (q+1)) (Bn s.C c 0) (Bn s.A c 0) (Bn s.R d true))) 137,.l,false⟩,⟨(a 1),.cells #[iv 3,iv (c:Int),iv q,iv (d:Int),iv v] 64,.z,false⟩,⟨(a 2),.cells (stA (Sto.mk s.V (Bn s.L c (q+1)) (Bn s.C c 0) (Bn s.A c 0) (Bn s.R d true))) 137,.l,false⟩,⟨(a 3),.cells #[iv 0,iv 0] 133,.l,false⟩,⟨(a 4),.cells #[iv 0,iv 0] 133,.l,false⟩]/\True/\Cg w.heap.size ([]:List Tg) p u g w') (by kernel_rfl) ?_ ?_
 .intro J hJ
  (exact CR 1 2 (by kernel_rfl) (by(refine qR [] 4 [4,5,2,0,7,3,0] λB S a0 m=>?_;exact qB [true,true,true,true,true] λz h K=>hJ _ _ _ z _ ⟨rfl,rfl,trivial,(m.nil ([]:List Tg))⟩ K)) (by(refine qR [] 4 [2,0,3,4,7,3,0] λD T a1 o=>?_;exact qB [true,true,true,true,true] λz h K=>hJ _ _ _ z _ ⟨rfl,rfl,trivial,(o.nil ([]:List Tg))⟩ K)))
 rintro Q Z _ a2 _ ⟨rfl,rfl,_,j⟩;exact qE4 4 5 137 133 2 (a 2) 3 (a 3) (stA (OP s ⟨3,c,q,d,v⟩)) #[iv 0,iv (MT s ⟨3,c,q,d,v⟩)] λK=>⟨rfl,Cg.ab (((((((c1.trans E).trans G).trans H).trans M).trans N).trans i).trans j) (λ_ _=>O')⟩
theorem X1(s:Sto)(k:Int)(a b:Nat)(q v:Int)(w:World)(j:1<=k/\k<=3)(c:a<8)(d:b<8)(f:0<=q)(g:q<=1048576){S:Sto}(i:OP s ⟨k,a,q,b,v⟩=S){A:Int}(h:MT s ⟨k,a,q,b,v⟩=A) :
  Calls prog 176 #[.agg (stA s),.agg #[iv k,iv (a:Int),iv q,iv (b:Int),iv v]] w λe w'=>e=.returned (.tuple #[.agg (stA S),.agg #[iv 0,iv A]])/\Bw w w':=by
 subst i h;rcases(show k=1\/k=2\/k=3 by omega)with rfl|rfl|rfl
 .exact gH s a b q v w c d f g
 .exact gJ s a b q v w c d f g
 .exact gL s a b q v w c d f g
theorem Xk(s:Sto)(k:Int)(c d:Nat)(q v:Int)(w:World)(k0:0<=k)(k3:k<=3)(Q:c<8)(hn:d<8)(q0:0<=q)(q1:q<=1048576) :
  Calls prog 136 #[.agg (stA s),.agg #[iv k,iv (c:Int),iv q,iv (d:Int),iv v]] w λe w'=>e=.returned (.tuple #[.agg (stA (dnS s ⟨k,c,q,d,v⟩)),.agg #[iv (dnC s ⟨k,c,q,d,v⟩),iv (dnA s ⟨k,c,q,d,v⟩)]])/\Bw w w':=by
 have a3:∀ b,w.heap.size<=b->gS.t b=.z/\gS.k b=0:=λ_ _=>⟨rfl,rfl⟩;refine gI (fn:=f136) [] gS func136 a3 (qR [] 14 [0,0,0,0,1,0,1,0,1] λa g1 w1 c1=>?_);by_cases h:k=0
 .refine qI ((k==0)) true (by simpa using h) (qR [] 7 [0,2,0,3,0] λf2 g2 w2 c2=>?_);rw[show dnS s ⟨k,c,q,d,v⟩=s from if_neg (λg=>g.1 h),show dnC s ⟨k,c,q,d,v⟩=0 from if_pos h,show dnA s ⟨k,c,q,d,v⟩=0 from if_pos h];exact qE4 4 5 137 133 2 (a 2) 3 (a 3) (stA s) #[iv 0,iv 0] λK=>⟨rfl,Cg.ab (c1.trans c2) (λ_ _=>O')⟩
 .refine qI ((k==0)) false (by simpa using h) (qR [] 3 [] λf3 g3 w3 F=>BT 49 (λM w' e L=>e=[(2,pt (a 0) 0),(3,pt (a 1) 0),(4,pt (a 2) 0),(5,pt (a 3) 0),(6,iv (s.L c))]/\L=[⟨(a 0),.cells (stA s) 137,.z,false⟩,⟨(a 1),.cells #[iv k,iv (c:Int),iv q,iv (d:Int),iv v] 64,.z,false⟩,⟨(a 2),.cells (stA Ge) 137,.l,false⟩,⟨(a 3),.cells #[iv 0,iv 0] 133,.l,false⟩]/\True/\Cg w.heap.size ([]:List Tg) g3 w3 M w') (by kernel_rfl) ?_ ?_)
  .intro J hJ;rcases lt8 Q with rfl|rfl|rfl|rfl|rfl|rfl|rfl|rfl <;>
   (refine qR [] 7 [1,0] λf4 g5 w5 c5=>?_;exact qB [true,true,true,true] λz P K=>hJ _ _ _ z _ ⟨rfl,rfl,trivial,(c5.nil ([]:List Tg))⟩ K)
  rintro g4 w4 _ z4 _ ⟨rfl,rfl,_,G⟩;refine qR [] 7 [1] λf5 g6 w6 H=>qV 3 (iv (q+1)) (AZ 20 q underlying3 (by omega)) (qR [] 3 [] λf6 g7 w7 I=>?_);by_cases i:s.L c=q+1
  .refine qI (((s.L c)==(q+1))) true (by simpa using i) (qR [] 2 [6] λf7 g8 w8 c8=>BT 49 (λM w' e L=>e=[(2,pt (a 0) 0),(3,pt (a 1) 0),(4,pt (a 2) 0),(5,pt (a 3) 0)]/\L=[⟨(a 0),.cells (stA s) 137,.z,false⟩,⟨(a 1),.cells #[iv k,iv (c:Int),iv q,iv (d:Int),iv v] 64,.z,false⟩,⟨(a 2),.cells (stA s) 137,.l,false⟩,⟨(a 3),.cells #[iv (s.C c),iv (s.A c)] 133,.l,false⟩]/\True/\Cg w.heap.size ([]:List Tg) g8 w8 M w') (by kernel_rfl) ?_ ?_)
   .intro J hJ;rcases lt8 Q with rfl|rfl|rfl|rfl|rfl|rfl|rfl|rfl <;>
    (refine qR [] 3 [0,0,2,6] λa7 b9 d9 p=>?_;exact CR 2 6 (by kernel_rfl) (by(refine qR [] 2 [1,8] λa8 c0 e0 D=>?_;exact CR 5 6 (by kernel_rfl) (by(refine qR [] 4 [0,13,2,0,15,3,0] λa9 d0 e1 U=>?_;exact qB [true,true,true,true] λz P K=>hJ _ _ _ z _ ⟨rfl,rfl,trivial,(((p.nil ([]:List Tg)).n D).n U)⟩ K)) (by(refine qR [] 4 [2,0,11,0,15,3,0] λb0 d1 e2 V=>?_;exact qB [true,true,true,true] λz P K=>hJ _ _ _ z _ ⟨rfl,rfl,trivial,(((p.nil ([]:List Tg)).n D).n V)⟩ K)))) (by(refine qR [] 6 [2,0,5,1,8,11,0,15,3,0] λb1 d2 e3 W=>?_;exact qB [true,true,true,true] λz P K=>hJ _ _ _ z _ ⟨rfl,rfl,trivial,((p.nil ([]:List Tg)).n W)⟩ K)))
   rintro g9 w9 _ z9 _ ⟨rfl,rfl,_,c9⟩;rw[show dnS s ⟨k,c,q,d,v⟩=s from if_neg (λg=>g.2.1 (by show q<s.L c;omega)),show dnC s ⟨k,c,q,d,v⟩=s.C c from(if_neg h).trans (if_pos i),show dnA s ⟨k,c,q,d,v⟩=s.A c from(if_neg h).trans (if_pos i)];exact qE4 4 5 137 133 2 (a 2) 3 (a 3) (stA s) #[iv (s.C c),iv (s.A c)] λK=>⟨rfl,Cg.ab ((((((c1.trans F).trans G).trans H).trans I).trans c8).trans c9) (λ_ _=>O')⟩
  .refine qI (((s.L c)==(q+1))) false (by simpa using i) (qR [] 8 [1] λb2 d3 e4 m=>?_);by_cases j:q<s.L c
   .refine qI ((decide (q<(s.L c)))) true (N' j) (qR [] 7 [0,2,0,3,0] λb3 d4 e5 X=>?_);rw[show dnS s ⟨k,c,q,d,v⟩=s from if_neg (λg=>g.2.1 j),show dnC s ⟨k,c,q,d,v⟩=7 from(if_neg h).trans ((if_neg i).trans (if_pos j)),show dnA s ⟨k,c,q,d,v⟩=0 from(if_neg h).trans ((if_neg i).trans (if_pos j))];exact qE4 4 5 137 133 2 (a 2) 3 (a 3) (stA s) #[iv 7,iv 0] λK=>⟨rfl,Cg.ab ((((((c1.trans F).trans G).trans H).trans I).trans m).trans X) (λ_ _=>O')⟩
   .refine qI ((decide (q<(s.L c)))) false (G' j) (qR [] 2 [] λb4 a2 a4 r=>BT 49 (λM w' e L=>e=[(2,pt (a 0) 0),(3,pt (a 1) 0),(4,pt (a 2) 0),(5,pt (a 3) 0),(36,.bool (s.R c))]/\L=[⟨(a 0),.cells (stA s) 137,.z,false⟩,⟨(a 1),.cells #[iv k,iv (c:Int),iv q,iv (d:Int),iv v] 64,.z,false⟩,⟨(a 2),.cells (stA Ge) 137,.l,false⟩,⟨(a 3),.cells #[iv 0,iv 0] 133,.l,false⟩]/\True/\Cg w.heap.size ([]:List Tg) a2 a4 M w') (by kernel_rfl) ?_ ?_)
    .intro J hJ;rcases lt8 Q with rfl|rfl|rfl|rfl|rfl|rfl|rfl|rfl <;>
     (refine qR [] 7 [1,0] λb5 d6 e7 Y=>?_;exact qB [true,true,true,true] λz P K=>hJ _ _ _ z _ ⟨rfl,rfl,trivial,(Y.nil ([]:List Tg))⟩ K)
    rintro d5 e6 _ f1 _ ⟨rfl,rfl,_,u⟩;by_cases o:s.R c=true
    .refine qI ((s.R c)) true o (qR [] 7 [0,2,0,3,0] λb6 d7 e8 Z=>?_);rw[show dnS s ⟨k,c,q,d,v⟩=s from if_neg (λg=>Bool.noConfusion (o.symm.trans g.2.2)),show dnC s ⟨k,c,q,d,v⟩=11 from(if_neg h).trans ((if_neg i).trans ((if_neg j).trans (if_pos o))),show dnA s ⟨k,c,q,d,v⟩=0 from(if_neg h).trans ((if_neg i).trans ((if_neg j).trans (if_pos o)))];exact qE4 4 5 137 133 2 (a 2) 3 (a 3) (stA s) #[iv 11,iv 0] λK=>⟨rfl,Cg.ab ((((((((c1.trans F).trans G).trans H).trans I).trans m).trans r).trans u).trans Z) (λ_ _=>O')⟩
    .refine qI ((s.R c)) false (by simpa using o) ?_;obtain⟨S,hS⟩:∃ S,OP s ⟨k,c,q,d,v⟩=S:=⟨_,rfl⟩;obtain⟨A,hA⟩:∃ A,MT s ⟨k,c,q,d,v⟩=A:=⟨_,rfl⟩;refine qR [] 6 [0,1] λb7 N O E=>?_;have a5:=(Cg.ab ((((((((c1.trans F).trans G).trans H).trans I).trans m).trans r).trans u).trans E) (λ_ _=>O'));refine Ad λx=>?_;have a6:∀ z,O.heap.size<=z->N.t z=.z:=λz hz=>(x.new z hz).1;refine qC 2 (X1 s k c d q v O (by omega) Q hn q0 q1 hS hA) ?_;rintro e' e9 ⟨rfl,y⟩;refine⟨_,rfl,y,?_⟩;have a0:=Cg.au (B:=w.heap.size) (T:=[]) (g:=N) y;refine qR [] 5 [2,0,3,0] λb8 d8 f0 a1=>?_;rw[show dnS s ⟨k,c,q,d,v⟩=S from(if_pos ⟨h,j,by simpa using o⟩).trans hS,show dnC s ⟨k,c,q,d,v⟩=0 from(if_neg h).trans ((if_neg i).trans ((if_neg j).trans (if_neg o))),show dnA s ⟨k,c,q,d,v⟩=A from(if_neg h).trans ((if_neg i).trans ((if_neg j).trans ((if_neg o).trans hA)))];exact qE4 4 5 137 133 2 (a 2) 3 (a 3) (stA S) #[iv 0,iv A] λK=>⟨rfl,Cg.ab ((((((((((c1.trans F).trans G).trans H).trans I).trans m).trans r).trans u).trans E).trans a0).trans a1) (λ_ _=>O')⟩
theorem bD(j:m.e=0){S:Sto}(i:dnS s m=S){C A:Int}(h:dnC s m=C)(g:dnA s m=A) :
  Calls prog 136 #[.agg (stA s),.agg #[iv m.k,iv m.c,iv m.s,iv m.n,iv m.v]] w λe w'=>e=.returned (.tuple #[.agg (stA S),.agg #[iv C,iv A]])/\Bw w w':=by
 subst i h g;obtain⟨k,c,q,n,v⟩:=m;obtain⟨b,f⟩:=cC j;unfold InC at f;simp only at b f ⊢;obtain⟨a,rfl⟩:∃ a:Nat,c=(a:Int):=⟨c.toNat,by omega⟩;obtain⟨d,rfl⟩:∃ d:Nat,n=(d:Int):=⟨n.toNat,by omega⟩;exact Xk s k a d q v w b.1 b.2 (by omega) (by omega) (by omega) (by omega)
theorem Xj(a:Nc s=E):Calls prog 135 #[.agg (stA s)] w λe w'=>e=.returned (iv E)/\Bw w w':=by subst a;exact TZ s w
theorem Wk(b:NTab w){E:Int}(a:m.e=E):Calls prog 105 #[.agg #[iv m.k,iv m.c,iv m.s,iv m.n,iv m.v]] w λe w'=>e=.returned (iv E)/\Bw w w':=by subst a;exact DP m.k m.c m.s m.n m.v w b
theorem lR(s:Sto)(m:Cmd)(w:World)(hN:NTab w) :
  Calls prog 82 #[.agg (stA s),.agg #[iv m.k,iv m.c,iv m.s,iv m.n,iv m.v]] w λe w'=>e=.returned (.tuple #[.agg (stA (doS s m)),.agg #[iv (doC s m),iv (doA s m)],iv (doE s m)])/\Bw w w':=by
 obtain⟨E,j⟩:∃ E,Nc s=E:=⟨_,rfl⟩;obtain⟨F,X⟩:∃ F,m.e=F:=⟨_,rfl⟩;have Y:∀ b,w.heap.size<=b->gS.t b=.z/\gS.k b=0:=λ_ _=>⟨rfl,rfl⟩;refine gI (fn:=f82) [] gS func82 Y (qR [] 12 [0,0,0,0,1,0,1,0,0] λa g1 w1 c1=>?_);have a4:=(Cg.ab c1 (λ_ _=>O'));refine Ad λH=>?_;have a8:∀ z,w1.heap.size<=z->g1.t z=.z:=λz y=>(H.new z y).1;refine qC 1 (Xj j) ?_;rintro e' w2 ⟨rfl,b2⟩;refine⟨_,rfl,b2,?_⟩;have q:=Cg.au (B:=w.heap.size) (T:=[]) (g:=g1) b2;refine qR [] 7 [] λb7 g3 w3 r=>?_;by_cases u:E≠0
 .refine qI ((E != 0)) true (by simpa using u) (qR [] 9 [2,0,3,0] λb8 g4 w4 c4=>?_);have h:doE s m=E:=by unfold doE;unfold Nc at j;split at j;exact absurd j.symm u;rename_i g;rw[if_neg g];exact j
  have d:doE s m≠0:=by rw[h];exact u
  rw[Yb d,XY d,show doA s m=0 from if_neg d,h];exact qE5 4 5 6 137 133 2 (a 2) 3 (a 3) (stA Ge) #[iv 0,iv 0] (iv E) λK=>⟨rfl,(Cg.ab (((c1.trans q).trans r).trans c4) (λ_ _=>O'))⟩
 .refine qI ((E != 0)) false (by simpa using u) ?_;have hB:Vh s:=Classical.byContradiction λg=>absurd (j.symm.trans (KR g)) (by rw[show E=0 from by simpa using u];decide);refine qR [] 5 [1] λb9 g5 w5 D=>?_;have M:=(Cg.ab (((c1.trans q).trans r).trans D) (λ_ _=>O'));refine Ad λI=>?_;have a9:∀ z,w5.heap.size<=z->g5.t z=.z:=λz y=>(I.new z y).1;refine qC 1 (Wk (hN.ab M) X) ?_;rintro e' w6 ⟨rfl,b6⟩;refine⟨_,rfl,b6,?_⟩;have U:=Cg.au (B:=w.heap.size) (T:=[]) (g:=g5) b6;refine qR [] 7 [] λc0 g7 w7 V=>?_;by_cases G:F≠0
  .refine qI ((F != 0)) true (by simpa using G) (qR [] 9 [2,0,3,0] λd0 g8 w8 c8=>?_);have h:doE s m=F:=(if_pos hB).trans X;have d:doE s m≠0:=by rw[h];exact G
   rw[Yb d,XY d,show doA s m=0 from if_neg d,h];exact qE5 4 5 6 137 133 2 (a 2) 3 (a 3) (stA Ge) #[iv 0,iv 0] (iv F) λK=>⟨rfl,(Cg.ab ((((((c1.trans q).trans r).trans D).trans U).trans V).trans c8) (λ_ _=>O'))⟩
  .refine qI ((F != 0)) false (by simpa using G) ?_;have x:m.e=0:=by rw[X];simpa using G
   have h:doE s m=0:=(if_pos hB).trans x;obtain⟨S,hS⟩:∃ S,dnS s m=S:=⟨_,rfl⟩;obtain⟨C,hC⟩:∃ C,dnC s m=C:=⟨_,rfl⟩;obtain⟨A,hA⟩:∃ A,dnA s m=A:=⟨_,rfl⟩;refine qR [] 5 [0,1] λd1 g9 w9 c9=>?_;have a0:=(Cg.ab ((((((c1.trans q).trans r).trans D).trans U).trans V).trans c9) (λ_ _=>O'));refine Ad λo=>?_;have a1:∀ z,w9.heap.size<=z->g9.t z=.z:=λz y=>(o.new z y).1;refine qC 2 (bD x hS hC hA) ?_;rintro e' b0 ⟨rfl,p⟩;refine⟨_,rfl,p,?_⟩;have N:=Cg.au (B:=w.heap.size) (T:=[]) (g:=g9) p;refine qR [] 11 [0,0,0,0,4,0,5,0,2,0,4] λi W Z O=>BT 33 (λg' w' e L=>e=[(4,pt (a 2) 0),(5,pt (a 3) 0),(6,iv 0)]/\L=[⟨(a 0),.cells (stA s) 137,.z,false⟩,⟨(a 1),.cells #[iv m.k,iv m.c,iv m.s,iv m.n,iv m.v] 64,.z,false⟩,⟨(a 2),.cells (stA S) 137,.l,false⟩,⟨(a 3),.cells #[iv C,iv A] 133,.l,false⟩,⟨(i 0),.cells (stA S) 137,.z,false⟩,⟨(i 1),.cells #[iv C,iv A] 133,.z,false⟩]/\True/\Cg w.heap.size ([]:List Tg) W Z g' w') (by kernel_rfl) ?_ ?_
   .intro J hJ
    (exact CR 1 2 (by kernel_rfl) (by(refine qR [] 5 [5,5,2,0,7,3,0,8] λa2 a6 b3 Q=>?_;exact qB [true,true,true,true,true,true] λz K0 K=>hJ _ _ _ z _ ⟨rfl,rfl,trivial,(Q.nil ([]:List Tg))⟩ K)) (by(refine qR [] 5 [2,0,3,5,7,3,0,8] λa3 a7 b4 R=>?_;exact qB [true,true,true,true,true,true] λz K0 K=>hJ _ _ _ z _ ⟨rfl,rfl,trivial,(R.nil ([]:List Tg))⟩ K)))
   rintro a5 b1 _ b5 _ ⟨rfl,rfl,_,P⟩;rw[ii h,ic h,ib h,h,hS,hC,hA];exact qE5 4 5 6 137 133 2 (a 2) 3 (a 3) (stA S) #[iv C,iv A] (iv 0) λK=>⟨rfl,(Cg.ab (((((((((c1.trans q).trans r).trans D).trans U).trans V).trans c9).trans N).trans O).trans P) (λ_ _=>O'))⟩
theorem Dp(s:Sto)(k c q n v:Int)(w:World)(a:NTab w) :
  Calls prog 82 #[.agg (stA s),.agg (cmA k c q n v)] w λe w'=>e=.returned (.tuple #[.agg (stA (doS s ⟨k,c,q,n,v⟩)),.agg #[.int .i64 (doC s ⟨k,c,q,n,v⟩),.int .i64 (doA s ⟨k,c,q,n,v⟩)],.int .i64 (doE s ⟨k,c,q,n,v⟩)])/\Bw w w':=lR s ⟨k,c,q,n,v⟩ w a
theorem Ze{v:Value}{l:List Int}{a:Int}(h:Sl w v l)(f:AD w)(j:Cm w)(d:NTab w)(i:opE l a=e0)(g:Wm l a=c) :
  Calls prog 80 #[v,iv a] w λe w'=>e=.returned (.tuple #[.agg #[iv c.k,iv c.c,iv c.s,iv c.n,iv c.v],iv e0])/\Bw w w':=by
 have b:=Wg v l a w h f j d;rw[iP,i,g]at b
 exact b
theorem WR(h:NS i nb ob g w p ls ts){w0:World}(G:Base w0 g w)(D:Tabs w0)(dv:S3)(u:List Int)(hd:Sl w dv.v u){n:Nat}(a9:NOk n p)(f8:p.bad<100000000)(hw:p.af.length<100000000)(e8:ts.length<100000000){y:Int}{c:Cmd}(he:opE u (p.done:Int)=y)(hc:Wm u (p.done:Int)=c) :
  Calls prog 50 #[pt nb 0,dv.v] w (NP i nb ob g w (.tuple #[]) (p.rF i y c ts).1 ls (p.rF i y c ts).2):=by
 obtain⟨x,lt,tl,H,I,hg⟩:=h;have e7:=a9.dn;have i6:=a9.ag;refine gI (fn:=f50) (TN i) g func50 hg (qN H (qO I (qR [] 9 [0] λs1 g1 w1 c1=>?_)));by_cases h1:p.up=true
 .refine qI ((!p.up)) false (by simpa using h1) ?_;have r:¬ p.up=false:=by simp[h1]
  refine qR [] 9 [0] λs2 g2 w2 m=>?_;have F:=G.ch (c1.trans m);have e6:=Cg.ab (c1.trans m) (λ_ _=>O');refine qC 6 (Ze (hd.ab e6) (F.tt D) (F.tq D) (F.tn D) he hc) ?_;rintro E w3 ⟨rfl,b3⟩;refine⟨_,rfl,b3,?_⟩;have o:=Cg.au (B:=w.heap.size) (T:=[]) (g:=g2) b3;refine qR [] 13 [0,0,2,0] λs4 g4 w4 q=>?_;by_cases h2:y≠0
  .refine qI ((y != 0)) true (by simpa using h2) (qR [] 6 [0] λs5 g5 w5 c5=>qV 4 (iv ((p.bad+1:Nat):Int)) (AZ 29 (p.bad:Int) underlying3 (by omega)) (qR [.n 0 i] 4 [0,1] λs6 g6 w6 c6=>qE (.tuple #[]) λK=>?_));rw[show p.rF i y c ts=({ p with bad:=p.bad+1 },ts)from(if_neg r).trans (if_pos h2)];have C7:=(((((c1.nil ([.n 0 i]:List Tg)).n m).n o).n q).n c5).trans (c6);exact⟨_,rfl,⟨x,lt,tl,K.sA 0 H C7,I.ch C7 (hn:=by simp<;>omega),K.new⟩,((((((c1.nil (TN i)).n m).n o).n q).n c5).trans (c6.mono (by simp[TN])))⟩
  .refine qI ((y != 0)) false (by simpa using h2) (qR [] 6 [4,0,4,2] λs8 g8 w8 t=>Ad λK=>?_);have b8:NS i nb ob g8 w8 p ls ts:=(nsC H I ((((c1.n m).n o).n q).n t) K);refine qC 1 (UC b8 e7) ?_;rintro E j6 ⟨l9,rfl,b0,N⟩;refine⟨_,rfl,N,?_⟩;have a:=Cg.au (B:=w.heap.size) (T:=[]) (g:=g8) N;refine qC 3 (Fe (l:=p.ae.take p.done) b0 (by rw[mH];omega) c) ?_;rintro E j7 ⟨rfl,O⟩;refine⟨_,rfl,O,?_⟩;have b:=Cg.au (B:=w.heap.size) (T:=[]) (g:=g8) O;refine qR [] 1 [] λi7 g9 j8 d=>?_;by_cases h3:c∈p.ae.take p.done
   .refine qI ((decide (c∈p.ae.take p.done))) true (by simpa using h3) (qR [] 8 [16,0,2,4,6,8,0,10,2] λi8 e1 f3 j=>BT 55 (λg' w' e L=>∃ (b6 b7:Nat),e=[(0,pt nb 0),(4,pt (s4 0) 0),(6,pt b6 0),(7,pt b7 0)]/\L=[⟨nb,.cells (Az i ob p x) 145,.n 0 i,false⟩,⟨ob,.cells #[S3.v lt,S3.v tl] 115,.n 50 0,false⟩,⟨(s4 0),.cells #[iv c.k,iv c.c,iv c.s,iv c.n,iv c.v] 64,.z,false⟩,⟨b6,.cells (stA (doS p.kc c)) 137,.l,false⟩,⟨b7,.cells #[iv (doC p.kc c),iv (doA p.kc c)] 133,.l,false⟩]/\Cg w.heap.size [] g w g' w') (by kernel_rfl) ?_ ?_)
    .intro J hJ;refine Yw 6 11 12 (by kernel_rfl) ?_ ?_ ?_
     .have hB18:=G.ch ((((((((c1.trans m).trans o).trans q).trans t).trans a).trans b).trans d).trans j) (by simp);refine qC 6 (Dp p.kc c.k c.c c.s c.n c.v f3 (hB18.tn D)) ?_;rintro E j9 ⟨rfl,P⟩;refine⟨_,rfl,P,?_⟩;have V:=Cg.au (B:=w.heap.size) (T:=[]) (g:=e1) P;refine qR [] 4 [14,16,18,20] λi9 h0 k0 W=>CR 11 12 (by kernel_rfl) ?_ ?_
      .refine qR [] 6 [1,0,25,1,0,27,3,0,29,4,0,30] λb1 h4 k1 c7=>qB [true,true,true,true,true] λz M K=>hJ _ _ _ z _ ⟨(b1 0),(b1 1),rfl,rfl,(((((((((((c1.trans m).trans o).trans q).trans t).trans a).trans b).trans d).trans j).trans V).trans W).trans c7)⟩ K
      .refine qR [] 6 [1,0,23,1,0,27,4,0,29,3,0,30] λb2 h5 k2 c9=>NA ?_;exact qB [true,true,true,true,true] λz M K=>hJ _ _ _ z _ ⟨(b2 1),(b2 0),rfl,rfl,(((((((((((c1.trans m).trans o).trans q).trans t).trans a).trans b).trans d).trans j).trans V).trans W).trans c9)⟩ K
     .refine qR [] 1 [1,0] λb4 e2 f4 A=>CR 6 12 (by kernel_rfl) ?_ ?_
      .have hB25:=G.ch (((((((((c1.trans m).trans o).trans q).trans t).trans a).trans b).trans d).trans j).trans A) (by simp);refine qC 6 (Dp p.kc c.k c.c c.s c.n c.v f4 (hB25.tn D)) ?_;rintro E k3 ⟨rfl,Q⟩;refine⟨_,rfl,Q,?_⟩;have d0:=Cg.au (B:=w.heap.size) (T:=[]) (g:=e2) Q;refine qR [] 9 [14,16,18,20,25,1,0,27,3,0,29,4,0,30] λe9 h6 k4 d1=>qB [true,true,true,true,true] λz M K=>hJ _ _ _ z _ ⟨(b4 0),(e9 0),rfl,rfl,(((((((((((c1.trans m).trans o).trans q).trans t).trans a).trans b).trans d).trans j).trans A).trans d0).trans d1)⟩ K
      .refine qR [] 1 [1,0] λf0 e3 f5 X=>?_;have a3:=G.ch ((((((((((c1.trans m).trans o).trans q).trans t).trans a).trans b).trans d).trans j).trans A).trans X) (by simp);refine qC 6 (Dp p.kc c.k c.c c.s c.n c.v f5 (a3.tn D)) ?_;rintro E k5 ⟨rfl,R⟩;refine⟨_,rfl,R,?_⟩;have d2:=Cg.au (B:=w.heap.size) (T:=[]) (g:=e3) R;refine qR [] 8 [14,16,18,20,27,3,0,29,4,0,30] λj0 h7 k6 d3=>qB [true,true,true,true,true] λz M K=>hJ _ _ _ z _ ⟨(b4 0),(f0 0),rfl,rfl,((((((((((((c1.trans m).trans o).trans q).trans t).trans a).trans b).trans d).trans j).trans A).trans X).trans d2).trans d3)⟩ K
     .refine qR [] 1 [1,0] λb5 e4 f6 C=>CR 6 11 (by kernel_rfl) ?_ ?_
      .have hB34:=G.ch (((((((((c1.trans m).trans o).trans q).trans t).trans a).trans b).trans d).trans j).trans C) (by simp);refine qC 6 (Dp p.kc c.k c.c c.s c.n c.v f6 (hB34.tn D)) ?_;rintro E k7 ⟨rfl,S⟩;refine⟨_,rfl,S,?_⟩;have d4:=Cg.au (B:=w.heap.size) (T:=[]) (g:=e4) S;refine qR [] 9 [14,16,18,20,23,1,0,27,4,0,29,3,0,30] λf1 h8 k8 d5=>NA ?_;exact qB [true,true,true,true,true] λz M K=>hJ _ _ _ z _ ⟨(f1 0),(b5 0),rfl,rfl,(((((((((((c1.trans m).trans o).trans q).trans t).trans a).trans b).trans d).trans j).trans C).trans d4).trans d5)⟩ K
      .refine qR [] 1 [1,0] λf2 e5 f7 Y=>?_;have a4:=G.ch ((((((((((c1.trans m).trans o).trans q).trans t).trans a).trans b).trans d).trans j).trans C).trans Y) (by simp);refine qC 6 (Dp p.kc c.k c.c c.s c.n c.v f7 (a4.tn D)) ?_;rintro E k9 ⟨rfl,U⟩;refine⟨_,rfl,U,?_⟩;have d6:=Cg.au (B:=w.heap.size) (T:=[]) (g:=e5) U;refine qR [] 8 [14,16,18,20,27,4,0,29,3,0,30] λj1 h9 l0 d7=>NA ?_;exact qB [true,true,true,true,true] λz M K=>hJ _ _ _ z _ ⟨(f2 0),(b5 0),rfl,rfl,((((((((((((c1.trans m).trans o).trans q).trans t).trans a).trans b).trans d).trans j).trans C).trans Y).trans d6).trans d7)⟩ K
    .rintro g16 w16 _ z16 _ ⟨b6,b7,rfl,rfl,hcc⟩;refine qR [] 5 [2,4] λj2 i0 l1 Z=>?_;rw[show p.rF i y c ts=(p,(ts++[⟨i,c.c,c.s,doC p.kc c,doA p.kc c⟩]))from(if_neg r).trans ((if_neg h2).trans (if_pos h3))];refine qS 3 [false,false,true,true,true] H I (hcc.n Z) (λb9=>Rm b9 e8 c (doC p.kc c) (doA p.kc c)) λi1 l2 l7 f9 g3 a5 a7 d8=>qR [] 1 [] λj3 i2 l3 a0=>qF a5 a7 a0 ((((hcc.nil (TN i)).n Z).trans (d8)).n a0)
   .refine qI ((decide (c∈p.ae.take p.done))) false (by simpa using h3) (qR [] 4 [2] λj4 i3 l4 a1=>?_);rw[show p.rF i y c ts=(p.want c,ts)from(if_neg r).trans ((if_neg h2).trans (if_neg h3))];refine qS 2 [false,false,true] H I ((((((((c1.n m).n o).n q).n t).n a).n b).n d).n a1) (λc0=>bI c0 h1 hw c) λi4 l5 l8 g0 g7 a6 a8 d9=>qR [] 1 [] λj5 i5 l6 a2=>qF a6 a8 a2 (((((((((((c1.nil (TN i)).n m).n o).n q).n t).n a).n b).n d).n a1).trans (d9)).n a2)
 .refine qI ((!p.up)) true (by simpa using h1) (qE (.tuple #[]) λK=>?_);rw[show p.rF i y c ts=(p,ts)from if_pos (by simpa using h1)];exact⟨_,rfl,(nsC H I c1 K),(c1.nil (TN i))⟩
def PI(Q:Nat->Bool):Nat->Nat
 | 0=>0
 | k+1=>PI Q k+(Q k).toNat
theorem jW(Q:Nat->Bool):PI Q 5=gZ Q:=by simp only[PI,gZ];omega
theorem cE(Q:Nat->Bool)(k:Nat):PI Q k<=k:=by
 induction k with
 | zero=>exact A' _
 | succ k ih=>simp only[PI];cases Q k<;>simp<;>omega
theorem mw{x y:Operand}{t:TypeId}(a b:Int)(d:P.underlying t=some (.int .i64))(h:-9223372036854775808<=a*b/\a*b<=9223372036854775807):(do Go.eqGuard .mul t x y (iv a) (iv b);Go.binOp .mul t (iv a) (iv b):Sem Value).run P W=.ok (iv (a*b)) W:=by
 have c:IntKind.i64.wrap (a*b)=a*b:=by rw[IntKind.wrap_i64];omega
 simp[Go.eqGuard,Go.binOp,go_sem,c]
theorem RY(h:NS i nb ob g w p ls ts) :
  Calls prog 141 #[pt nb 11] w λe w'=>e=.returned (.bool p.bt.ry)/\Bw w w':=by
 obtain⟨x,lt,tl,D,E,F⟩:=h;refine gI (fn:=f141) (TN i) g func141 F (qN D (qO E (qR [] 18 [0] λX O w1 c1=>BJ 20 [(3,iv 0),(9,.agg #[.bool (p.bt.rk 0),.bool (p.bt.rk 1),.bool (p.bt.rk 2),.bool (p.bt.rk 3),.bool (p.bt.rk 4)]),(10,iv 0)] [false,false] [] (λk v w' e L=>∃ (k0 c:Nat),c=PI p.bt.rk k0/\k=5-k0/\k0<=5/\e=[(3,iv (c:Int)),(9,.agg #[.bool (p.bt.rk 0),.bool (p.bt.rk 1),.bool (p.bt.rk 2),.bool (p.bt.rk 3),.bool (p.bt.rk 4)]),(10,iv (k0:Int))]/\L=[]/\Cg w.heap.size [] g w v w') (by kernel_rfl) (by kernel_rfl) (by kernel_rfl) (by kernel_rfl) 5 (λK=>?_) ?_)))
 .exact⟨0,0,rfl,rfl,by omega,rfl,rfl,c1⟩
 .rintro k gr wr _ zr _ ⟨k0,c,hc,rfl,hk0,rfl,rfl,hC⟩ J hJ;have l:=cE p.bt.rk k0;refine qR [] 5 [] λY P w2 j=>?_;by_cases C:k0<5
  .refine qI ((decide ((k0:Int)<5))) true (N' (by omega)) (qR [] 5 [] λs3 Q w3 m=>?_);refine de 0 (.bool (p.bt.rk k0)) (λK=>(by rcases hZ C with rfl|rfl|rfl|rfl|rfl<;>kernel_rfl)) (by kernel_rfl) ?_;refine qR [] 6 [] λZ R w4 n=>?_;by_cases a:p.bt.rk k0=true
   .refine qI ((p.bt.rk k0)) true a (qR [] 2 [] λs5 S w5 q=>qV 1 (iv ((c:Int)+1)) (AZ 14 (c:Int) underlying3 (by omega)) (qR [] 4 [] λs6 T w6 r=>qV 0 (iv ((k0:Int)+1)) (AZ 10 (k0:Int) underlying3 (by omega)) (qR [] 2 [] λs7 U w7 s=>qB [] λz o K=>hJ (5-(k0+1)) _ _ _ z _ (by omega) ⟨k0+1,(c+1),by simp only[PI];rw[a,hc];rfl,rfl,by omega,rfl,rfl,hC.trans (((((j.trans m).trans n).trans q).trans r).trans s)⟩ K)))
   .refine qI ((p.bt.rk k0)) false (by simpa using a) (qR [] 3 [] λs8 V w8 t=>qV 0 (iv ((k0:Int)+1)) (AZ 10 (k0:Int) underlying3 (by omega)) (qR [] 2 [] λs9 W w9 u=>qB [] λz o K=>hJ (5-(k0+1)) _ _ _ z _ (by omega) ⟨k0+1,c,by simp only[PI];rw[(by simpa using a:p.bt.rk k0=false),hc];rfl,rfl,by omega,rfl,rfl,hC.trans ((((j.trans m).trans n).trans t).trans u)⟩ K))
  .refine qI ((decide ((k0:Int)<5))) false (G' (by omega)) ?_;obtain rfl:k0=5:=by omega
   rw[jW]at hc l
   refine qR [] 4 [] λH A M b=>qV 1 (iv (2*(c:Int))) (mw (x:=(.const (iv 2))) (y:=(.tmp 17)) 2 (c:Int) underlying3 (by omega)) (qR [] 3 [] λI B N d=>?_);rw[show p.bt.ry=decide ((5:Int)<2*(c:Int))from by unfold Rnd.ry;rw[<- hc];by_cases G:5<2*c<;>simp[G]<;>omega];exact qE (.bool (decide ((5:Int)<2*(c:Int)))) λK=>⟨rfl,Cg.ab (hC.trans ((j.trans b).trans d)) (λ_ _=>O')⟩
theorem Nv(h:NS i nb ob g w p ls ts){b:Bool}(a:p.bt.ry=b) :
  Calls prog 141 #[pt nb 11] w λe w'=>e=.returned (.bool b)/\Bw w w':=by subst a;exact RY h
theorem Qw(h:NS i nb ob g w p ls ts){b:World}(c:Base b g w)(d:Tabs b)(s:Nat)(j:p.bt.cn.length<100000000)(a:p.ae.length<100000000){o:Option Cmd}(f:p.rD s=o) :
  Calls prog 142 #[pt nb 0,iv (s:Int)] w λe w'=>e=.returned (.tuple #[.agg (cmC (o.getD Vw)),.bool o.isSome])/\Bw w w':=by subst f;exact Ky h c d s j a
theorem bE(p:Nod)(v:Vt):(p.bW v).1.bt=p.bt:=by
 unfold Nod.bW;repeat' split
 all_goals rfl
theorem QI(h:NS i nb ob g w p ls ts){w0:World}(hB:Base w0 g w)(hT:Tabs w0)(hq:p.bt.cn.length<100000000)(U:p.ae.length<100000000)(hb:p.br.length<100000000)(a8:p.vo.vs.length<100000000) :
  Calls prog 92 #[pt nb 0] w (NP i nb ob g w (.tuple #[]) p.dT ls ts):=by
 obtain⟨x,lt,tl,k,m,hg⟩:=h;have hn:x.ae.n=p.ae.length:=k.ae.num;refine gI (fn:=f92) (TN i) g func92 hg (qN k (qO m (qR [] 18 [0,0,2,0,2] λs1 g1 w1 c1=>?_)));by_cases h1:p.leads=false
 .refine Ad λK=>?_;have N3:NS i nb ob g1 w1 p ls ts:=(nsC k m c1 K);refine qC 1 (EI N3 h1) ?_;rintro P w4 ⟨rfl,b4⟩;refine⟨_,rfl,b4,?_⟩;have c4:=Cg.au (B:=w.heap.size) (T:=[]) (g:=g1) b4;refine qR [] 21 [] λs5 g5 w5 c5=>qE (.tuple #[]) λK=>?_;rw[show p.dT=p from by unfold Nod.dT;rw[if_pos (.inl h1)]];exact⟨_,rfl,(nsC k m ((c1.n c4).n c5) K),(((c1.nil (TN i)).n c4).n c5)⟩
 .have h10:p.leads=true:=by simpa using h1
  refine Ad λK=>?_;have N8:NS i nb ob g1 w1 p ls ts:=(nsC k m c1 K);refine qC 1 (EI N8 h10) ?_;rintro P w9 ⟨rfl,b9⟩;refine⟨_,rfl,b9,?_⟩;have j:=Cg.au (B:=w.heap.size) (T:=[]) (g:=g1) b9;refine qR [] 6 [2] λc7 s Y a=>?_;by_cases h2:p.bt.ry=false
  .refine Ad λK=>?_;have a0:NS i nb ob s Y p ls ts:=(nsC k m ((c1.n j).n a) K);refine qC 8 (Nv a0 h2) ?_;rintro P d7 ⟨rfl,C⟩;refine⟨_,rfl,C,?_⟩;have G:=Cg.au (B:=w.heap.size) (T:=[]) (g:=s) C;refine qR [] 14 [] λc8 b3 d8 H=>qE (.tuple #[]) λK=>?_;rw[show p.dT=p from by unfold Nod.dT;rw[if_pos (.inr (.inl h2))]];exact⟨_,rfl,(nsC k m ((((c1.n j).n a).n G).n H) K),(((((c1.nil (TN i)).n j).n a).n G).n H)⟩
  .have h20:p.bt.ry=true:=by simpa using h2
   refine Ad λK=>?_;have a1:NS i nb ob s Y p ls ts:=(nsC k m ((c1.n j).n a) K);refine qC 8 (Nv a1 h20) ?_;rintro P d9 ⟨rfl,D⟩;refine⟨_,rfl,D,?_⟩;have b:=Cg.au (B:=w.heap.size) (T:=[]) (g:=s) D;refine qR [] 13 [2,0] λd0 b5 e0 d=>?_;by_cases h3:(x.ae.n:Int)<(p.bt.next:Int)
   .have h30:p.ae.length<p.bt.next:=by omega
    refine qI ((decide ((x.ae.n:Int)<(p.bt.next:Int)))) true (N' (by omega)) (qE (.tuple #[]) λK=>?_);rw[show p.dT=p from by unfold Nod.dT;rw[if_pos (.inr (.inr h30))]];exact⟨_,rfl,(nsC k m ((((c1.n j).n a).n b).n d) K),(((((c1.nil (TN i)).n j).n a).n b).n d)⟩
   .refine qI ((decide ((x.ae.n:Int)<(p.bt.next:Int)))) false (G' (by omega)) ?_;have y:¬ (p.leads=false\/p.bt.ry=false\/p.ae.length<p.bt.next):=by rintro(h|h|h);exact h1 h;exact h2 h;omega
    refine qR [] 5 [2] λd1 t Z e=>?_;cases ho:p.rD x.ae.n with
    | none =>
     refine Ad λK=>?_;have a2:NS i nb ob t Z p ls ts:=(nsC k m (((((c1.n j).n a).n b).n d).n e) K);refine qC 2 (Qw a2 (hB.ch ((((((c1.nil (TN i)).n j).n a).n b).n d).n e) (Bg i)) hT x.ae.n hq U ho) ?_;rintro P e1 ⟨rfl,E⟩;refine⟨_,rfl,E,?_⟩;have I:=Cg.au (B:=w.heap.size) (T:=[]) (g:=t) E;refine qR [] 14 [0,0,3,0] λd2 b6 e2 J=>qE (.tuple #[]) λK=>?_;rw[show p.dT=p from by unfold Nod.dT;rw[if_neg y,<- hn,ho]];exact⟨_,rfl,(nsC k m (((((((c1.n j).n a).n b).n d).n e).n I).n J) K),((((((((c1.nil (TN i)).n j).n a).n b).n d).n e).n I).n J)⟩
    | some c =>
     refine Ad λK=>?_;have a3:NS i nb ob t Z p ls ts:=(nsC k m (((((c1.n j).n a).n b).n d).n e) K);refine qC 2 (Qw a3 (hB.ch ((((((c1.nil (TN i)).n j).n a).n b).n d).n e) (Bg i)) hT x.ae.n hq U ho) ?_;rintro P e3 ⟨rfl,F⟩;refine⟨_,rfl,F,?_⟩;have o:=Cg.au (B:=w.heap.size) (T:=[]) (g:=t) F;refine qR [] 34 [0,0,3,0,11,0,2,2,4,6,8,10,12,0,14,3,16,19,0,0,21,4,0,2,4] λW b7 e4 q=>qS 2 [false,false,true,true,true] k m (((((((c1.n j).n a).n b).n d).n e).n o).n q) (λa4=>NR a4 (hB.ch ((((((((c1.nil (TN i)).n j).n a).n b).n d).n e).n o).n q) (Bg i)) hT (⟨(x.ae.n:Int),p.bt.fw,c⟩:Vt) a8) λb8 e5 b0 V X u v L=>qR [] 2 [] λd3 c0 e6 r=>?_;by_cases Q:(p.bW (⟨(x.ae.n:Int),p.bt.fw,c⟩:Vt)).2≠0
     .refine qI (((p.bW (⟨(x.ae.n:Int),p.bt.fw,c⟩:Vt)).2 != 0)) true (by simpa using Q) (qE (.tuple #[]) λK=>?_);rw[show p.dT=(p.bW (⟨(x.ae.n:Int),p.bt.fw,c⟩:Vt)).1 from by rw[Vd Q];unfold Nod.dT;rw[if_neg y,<- hn,ho];exact if_pos Q];exact⟨_,rfl,(nsC u v r K),((((((((((c1.nil (TN i)).n j).n a).n b).n d).n e).n o).n q).trans (L)).n r)⟩
     .refine qI (((p.bW (⟨(x.ae.n:Int),p.bt.fw,c⟩:Vt)).2 != 0)) false (by simpa using Q) (qR [] 5 [0] λd4 c2 e7 M=>qV 2 (iv ((x.ae.n:Int)+1)) (AZ 55 (x.ae.n:Int) underlying3 (by omega)) (qR [.n 0 i] 9 [3,1,0] λd5 a7 a9 N=>?_));rw[show p.dT=Nod.wait { (p.bW (⟨(x.ae.n:Int),p.bt.fw,c⟩:Vt)).1 with bt:={ (p.bW (⟨(x.ae.n:Int),p.bt.fw,c⟩:Vt)).1.bt with next:=x.ae.n+1 } } (.prop (⟨(x.ae.n:Int),p.bt.fw,c⟩:Vt))from by unfold Nod.dT;rw[if_neg y,<- hn,ho,bE];exact if_neg Q];refine Ad λK=>?_;obtain⟨z1,z2⟩:=K.rG 0 (s1 0) (.cells #[pt nb 0] 118) false (by kernel_rfl);obtain⟨z3,z4⟩:=K.rG 2 (W 1) (.cells (vtA (⟨(x.ae.n:Int),p.bt.fw,c⟩:Vt)) 184) false (by kernel_rfl);have A:=((r.nil ([.n 0 i]:List Tg)).n M).trans (N);have a5:NS i nb ob a7 a9 ({ (p.bW (⟨(x.ae.n:Int),p.bt.fw,c⟩:Vt)).1 with bt:={ (p.bW (⟨(x.ae.n:Int),p.bt.fw,c⟩:Vt)).1.bt with next:=x.ae.n+1 } }) ls ts:=⟨b0,V,X,K.sA 3 u A,v.ch A (hn:=by simp<;>omega),K.new⟩;refine qS0 2 [true,true,true,false,false] (AJ a5 (by show(p.bW (⟨(x.ae.n:Int),p.bt.fw,c⟩:Vt)).1.br.length<_;rw[Oq];exact hb) _ _ (.prop (⟨(x.ae.n:Int),p.bt.fw,c⟩:Vt)) ⟨(s1 0),(W 1),rfl,⟨z1,z2⟩,⟨z3,z4⟩⟩) λc3 e8 f0 b1 b2 R S a6=>qR [] 1 [] λd6 c6 e9 O=>qF R S O ((((((((((((((c1.nil (TN i)).n j).n a).n b).n d).n e).n o).n q).trans (L)).n r).n M).trans (N.mono (by simp[TN]))).trans (a6)).n O)
theorem iZ(b:Array TypeId)(t:TypeId)(a m:Nat)(h:m=min a 40):(Builtin.min_ b t #[iv (a:Int),iv 40]).run P W=.ok (iv (m:Int)) W:=by
 rw[iY,show min (a:Int) 40=(m:Int)by omega]
theorem X4(h:(f c).getD Bv≠b):Dy b f (c::l)=(c::(Dy b (E6 f c (some b)) l).1,(Dy b (E6 f c (some b)) l).2):=if_pos h
theorem bX(h:(f c).getD Bv=b):Dy b f (c::l)=Dy b f l:=if_neg (λg=>g h)
theorem RT(x:S3)(m:Nat):(x.cut 0 m).n=m:=by show m-0=m;omega
theorem gM(h:NS i nb ob g w p ls ts)(e5:p.up=true)(hb:ls.length<100000000)(hq:p.bt.cn.length<=40)(e6:0<=p.vo.p.n) :
  Calls prog 91 #[pt nb 0] w (NP i nb ob g w (.tuple #[]) (p.ni i).1 (ls++(p.ni i).2) ts):=by
 obtain⟨x,lt,tl,a,M,hg⟩:=h;obtain⟨E,a1⟩:=a.rP e5;obtain⟨m,rfl⟩:∃ m:NX,x={ m with bu:=some E }:=⟨x,by cases x;simp only at a1;subst a1;rfl⟩;clear a1;have hA:AskAt g w (.n 5 i) E p.bu:=a.rL rfl;refine gI (fn:=f91) (TN i) g func91 hg (qN a (qO M ?_));obtain⟨e4,e1,es,ck,e3,h9⟩:=id hA;refine Ii E _ 5 i e3 e4 e1 (by kernel_rfl) ?_;refine Ij [true,true,false] ?_;have i0:m.af.n=p.af.length:=a.af.num;have e0:m.ae.n=p.ae.length:=a.ae.num;obtain⟨C,e2⟩:∃ C,C=min m.af.n 40:=⟨_,rfl⟩;have b6:C<=p.af.length:=by omega
 obtain⟨D,P⟩:∃ D,D=p.af.take C:=⟨_,rfl⟩;have f0:D.length=C:=by rw[P,mH];omega
 have b8:p.af.take 40=D:=by rw[P];by_cases d9:p.af.length<=40;rw[mV d9,mV (by omega)];rw[show C=40 by omega]
 have h8:m.af.n<=m.af.c:=a.af.rd.cap;refine qR [] 29 [0,0,0,2,0,15,0,2,4,6,8,0,10,12,14,16,18,0,20] λs1 g1 w1 c1=>qT 11 (iv (C:Int)) (λ_=>(iZ #[3,3] 3 m.af.n C e2)) (qT 12 (S3.v (m.af.cut 0 C)) (λ_=>(l9 m.af C (by omega))) (qR [] 4 [26,28] λs3 g3 w3 c3=>BJ 76 [(0,pt nb 0),(2,pt (s1 0) 0),(3,sn),(24,S3.v (m.af.cut 0 C)),(25,iv ((m.af.cut 0 C).n:Int)),(26,iv 0)] [false,false,true] [⟨(s1 0),.cells #[iv p.vo.p.r,iv p.vo.p.n] 123,.z,false⟩] (λk g' w' e L=>∃ (j:Nat) (f:Cmd->Option Bal) (dn:List Cmd) (y:S3),k=D.length-j/\j<=D.length/\e=[(0,pt nb 0),(2,pt (s1 0) 0),(3,S3.v y),(24,S3.v (m.af.cut 0 C)),(25,iv ((m.af.cut 0 C).n:Int)),(26,iv (j:Int))]/\L=[⟨(s1 0),.cells #[iv p.vo.p.r,iv p.vo.p.n] 123,.z,false⟩]/\AskAt g' w' (.n 5 i) E f/\OwnS g' w' (.n 60 0) true 64 5 y (cmL dn)/\dn.length<=j/\Dy p.vo.p p.bu D=(dn++(Dy p.vo.p f (D.drop j)).1,(Dy p.vo.p f (D.drop j)).2)/\Cg w.heap.size ([.n 5 i,.n 60 0]:List Tg) g w g' w') (by kernel_rfl) (by kernel_rfl) (by kernel_rfl) (by kernel_rfl) D.length (λK=>?_) ?_))
 .exact⟨0,p.bu,[],s30,rfl,by omega,rfl,rfl,((hA.ch c1).ch c3),OwnS.nil _ _ _ _ _ _,A' _,rfl,((c1.nil ([.n 5 i,.n 60 0]:List Tg)).n c3)⟩
 .rintro k gr wr _ zr _ ⟨j,f,dn,y,rfl,hj,rfl,rfl,hAr,hy,hdl,hI,hC⟩ J hJ;have b9:=((a.af.ch hC).rd.take b6);rw[<- P]at b9
  have S:=hC.rc a.row a.tag (by simp);refine Ii nb _ 0 i S.1 S.2.1 (S.2.2.trans a.rM) (by kernel_rfl) ?_;have T:=hC.rc M.row M.tag (by simp);refine Ii ob _ 50 0 T.1 T.2.1 (T.2.2.trans M.rM) (by kernel_rfl) ?_;obtain⟨R,Q,a9,a8,b7,b5⟩:=id hAr;refine Ii E _ 5 i b7 R Q (by kernel_rfl) ?_;refine qR [] 5 [] λs4 g4 w4 A=>?_;by_cases h0:j<D.length
  .refine qI ((decide ((j:Int)<((m.af.cut 0 C).n:Int)))) true (N' (by rw[RT];omega)) ?_;obtain⟨c,a0⟩:∃ c,D[j]?=some c:=⟨_,H' h0⟩;obtain⟨bx,ox,c2⟩:=b9.addr h0;have c6:y.n=dn.length:=hy.num;refine qR [] 5 [] λs5 g5 w5 c5=>qV 0 (pt bx (ox+5*j)) (Mb c2 j (by rw[RT];omega)) ?_;have c0:=(((a.af.ch hC).ch A).ch c5).rd.take b6;rw[<- P]at c0
   refine qV 1 (.agg #[iv c.k,iv c.c,iv c.s,iv c.n,iv c.v]) (Pa c λq_ u hu=>c0.cellAt c2 a0 hu) (qR [] 11 [0,0,4,0,9,0,2,4,6,8,1,10,4] λs7 g7 w7 c7=>qU 6 (.agg #[iv ((f c).getD Bv).r,iv ((f c).getD Bv).n]) (λW hW=>(iX (g:=gr) (τ:=.n 5 i) (b:=E) (f:=f) ⟨R,Q,a9,a8,AO.at (hW rfl) 3 E (.map (a9.map mkA).toArray a8) (.n 5 i) (by kernel_rfl),b5⟩ c)) (qR [] 1 [14,0] λs8 g8 w8 c8=>?_));by_cases h1:(f c).getD Bv≠p.vo.p
   .refine qT 8 (.bool true) (λ_=>(I3 (x:=(.tmp 36)) (y:=(.tmp 37)) ((f c).getD Bv) p.vo.p h1)) ?_;rw[Ds a0,X4 h1]at hI
    refine Ij [true,true,true,false,true] ?_;refine qR [] 11 [8,0,2,4,6,8,1,10,3,12,0] λs9 g9 w9 c9=>Uy 7 (τ:=.n 5 i) (b:=E) c p.vo.p (((((hAr.ch A).ch c5).ch c7).ch c8).ch c9) (by kernel_rfl) (by kernel_rfl) (by kernel_rfl) ?_;intro j2 d1 a6;have a2:=a6 w.heap.size [.n 5 i] (U'.2 rfl);refine qR [] 5 [3,0,0] λd0 f6 j3 U=>Kv 3 (x:=y) 38 38 64 5 40 (.agg #[iv 0,iv 0,iv 0,iv 0,iv 0]) ⟨(d0 0),0,none⟩ 1 1 [iv c.k,iv c.c,iv c.s,iv c.n,iv c.v] (((((((hy.ch A).ch c5).ch c7).ch c8).ch c9).ch a2).ch U) (by kernel_rfl) (by kernel_rfl) (by kernel_rfl) underlying38 (by kernel_rfl) (by kernel_rfl) (by decide) (by decide) rfl (by simp[Value.oneCell']) (λK=>D0 K 4 (d0 0) [iv c.k,iv c.c,iv c.s,iv c.n,iv c.v] 64 .z true (by kernel_rfl)) (by unfold maxLen;omega) (by omega) ?_;intro e9 f7 j4 d4 i1 a7 f5;have a3:=a7 w.heap.size [.n 60 0] (U'.2 rfl);refine qR [] 4 [] λi2 f8 j5 V=>qV 0 (iv ((j:Int)+1)) (AZ 26 (j:Int) underlying3 (by omega)) (qR [] 2 [] λi3 f9 j6 X=>qB [true,false,false,false,false] λz K0 K=>hJ (D.length-(j+1)) _ _ _ z _ (by omega) ⟨j+1,E6 f c (some p.vo.p),dn++[c],e9,rfl,by omega,rfl,rfl,((((d1.ch U).ch a3).ch V).ch X),(by rw[BY];exact((d4.ch V).ch X)),by first|omega|(rw[I'];show _+1<=_;omega),(by rw[hI,mN];rfl),(((((((((((hC).n A).n c5).n c7).n c8).n c9).trans (a2.mono (by simp))).n U).trans (a3.mono (by simp))).n V).n X)⟩ K)
   .have h10:(f c).getD Bv=p.vo.p:=by simpa using h1
    refine qT 8 (.bool false) (λ_=>(I2 (x:=(.tmp 36)) (y:=(.tmp 37)) ((f c).getD Bv) p.vo.p h10)) ?_;rw[Ds a0,bX h10]at hI
    refine Ij [true,true,true,false,true] ?_;refine qR [] 5 [] λi4 g0 j7 Y=>qV 0 (iv ((j:Int)+1)) (AZ 26 (j:Int) underlying3 (by omega)) (qR [] 2 [] λi5 g2 j8 Z=>qB [true,false,false,false] λz K0 K=>hJ (D.length-(j+1)) _ _ _ z _ (by omega) ⟨j+1,f,dn,y,rfl,by omega,rfl,rfl,((((((hAr.ch A).ch c5).ch c7).ch c8).ch Y).ch Z),((((((hy.ch A).ch c5).ch c7).ch c8).ch Y).ch Z),by first|omega|(rw[I'];show _+1<=_;omega),hI,(((((((hC).n A).n c5).n c7).n c8).n Y).n Z)⟩ K)
  .refine qI ((decide ((j:Int)<((m.af.cut 0 C).n:Int)))) false (G' (by rw[RT];omega)) (Ij [true,true,true,false] ?_);refine qR [] 8 [] λi6 g6 j9 d=>?_;obtain rfl:j=D.length:=by omega
   rw[oH]at hI
   have hE:Dy p.vo.p p.bu (p.af.take 40)=(dn,f):=by rw[b8,hI];show(dn++[],f)=_;rw[nI]
   have c6:y.n=dn.length:=hy.num;by_cases h1:y.n=0
   .refine qI (((y.n:Int)==0)) true (by simp;omega) ?_;obtain rfl:dn=[]:=mG (by omega);refine qE (.tuple #[]) λK=>?_;rw[show p.ni i=({ p with bu:=f },[])from by unfold Nod.ni;rw[hE];exact if_pos rfl];rw[show({ p with bu:=f },([]:List Let)).2=[]from rfl,nI];have o:=(hC.n A).n d;have F:Tg.z∉([.n 5 i,.n 60 0]:List Tg):=by simp
    exact⟨_,rfl,⟨({ m with bu:=some E }:NX),lt,tl,K.nd 1 (a.tape.ch o F) (a.eA.ch o F) (Bj a.av o F) (BL a.br o F (by simp)) (a.cn.ch o) (a.ae.ch o) (a.af.ch o) ((hAr.ch A).ch d) (λ_=>⟨E,rfl⟩),K.od 2 (D9 M.bN o F (by simp)) (M.cF.ch o),K.new⟩,(((hC.mono (by simp[TN])).n A).n d)⟩
   .refine qI (((y.n:Int)==0)) false (by simp;omega) ?_;have b4:dn≠[]:=λh=>h1 (by rw[c6,h];rfl);refine qR [] 12 [7,0,2,0,4,6,8,10,1,12] λi7 h3 k0 B=>?_;by_cases h2:p.vo.p.n=(i:Int)
    .refine qI ((p.vo.p.n==(i:Int))) true (by simpa using h2) (qR [] 4 [] λi8 d7 e7 N=>?_);rw[show p.ni i=((Nod.eN { p with bu:=f } dn),[])from by unfold Nod.ni;rw[hE];exact(if_neg b4).trans (if_pos h2)];rw[show((Nod.eN { p with bu:=f } dn),([]:List Let)).2=[]from rfl,nI];refine Ad λK=>?_;have q:=(((hC.n A).n d).n B).n N;have G:Tg.z∉([.n 5 i,.n 60 0]:List Tg):=by simp
     have d2:NS i nb ob d7 e7 ({ p with bu:=f }) ls ts:=⟨({ m with bu:=some E }:NX),lt,tl,K.nd 1 (a.tape.ch q G) (a.eA.ch q G) (Bj a.av q G) (BL a.br q G (by simp)) (a.cn.ch q) (a.ae.ch q) (a.af.ch q) ((((hAr.ch A).ch d).ch B).ch N) (λ_=>⟨E,rfl⟩),K.od 2 (D9 M.bN q G (by simp)) (M.cF.ch q),K.new⟩;refine qS0 2 [true,false,false] (JK d2 dn y ((((hy.ch A).ch d).ch B).ch N).rc (by omega) hq) λh4 k1 k5 f1 f3 b0 b2 d5=>qR [] 1 [] λi9 h5 k2 a4=>qF b0 b2 a4 (((((((hC.mono (by simp[TN])).n A).n d).n B).n N).trans (d5)).n a4)
    .refine qI ((p.vo.p.n==(i:Int))) false (by simpa using h2) (qR [] 13 [11,0,2,4,0,6,8,10,12,14,1,16,18,20] λj0 d8 e8 O=>?_);rw[show p.ni i=({ p with bu:=f },[{ Cv 6 with an:=m.ae.n,cx:=dn,src:=i,dst:=p.vo.p.n.toNat }])from by unfold Nod.ni;rw[hE,e0];exact(if_neg b4).trans (if_neg h2)];refine Ad λK=>?_;have t:=(((hC.n A).n d).n B).n O;have H:Tg.z∉([.n 5 i,.n 60 0]:List Tg):=by simp
     have d3:NS i nb ob d8 e8 ({ p with bu:=f }) ls ts:=⟨({ m with bu:=some E }:NX),lt,tl,K.nd 1 (a.tape.ch t H) (a.eA.ch t H) (Bj a.av t H) (BL a.br t H (by simp)) (a.cn.ch t) (a.ae.ch t) (a.af.ch t) ((((hAr.ch A).ch d).ch B).ch O) (λ_=>⟨E,rfl⟩),K.od 2 (D9 M.bN t H (by simp)) (M.cF.ch t),K.new⟩;have I:=Fy d3 hb { Cv 6 with an:=m.ae.n,cx:=dn } s30 y ⟨Sv.nil _,λh=>absurd rfl h⟩ ((((hy.ch A).ch d).ch B).ch O).rc p.vo.p.n.toNat;rw[nT e6]at I
     refine qS0 11 [true,false,false] (I) λh6 k3 k6 f2 f4 b1 b3 d6=>qR [] 1 [] λj1 h7 k4 a5=>qF b1 b3 a5 (((((((hC.mono (by simp[TN])).n A).n d).n B).n O).trans (d6)).n a5)
end
end Go.Proofs.YtdjfdfpkkenjbabGreatDoor
