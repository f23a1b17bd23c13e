/- Part 11 of the walk. -/
import Derived.Laws.IdiomCopy
import Derived.Lib.LazyBuf
import Derived.Test.YtdjfdfpkkenjbacGreatDoorZ8
set_option maxRecDepth 100000
set_option maxHeartbeats 4000000
open Go.Proofs.Tryz
set_option linter.unusedVariables false
namespace Go.Proofs.YtdjfdfpkkenjbacGreatDoor
open Go.RowKit
section
variable{E n:Int}{P:Program}{W w:World}{a:Option Addr}{b cap i:Nat}{cur:Array Value}{g:Gh}{k:S3}{l:List Int}{m:Cmd}{s:Sto}{t:TypeId}{v:Value}
theorem bB{nb T:Nat}{p:Nod}{S:List Let}{X:List Tol}(h:NS i nb T g w p S X)(N:p.up=true)(hw:p.au.length<100000000)(c:Cmd) :
  Calls prog 81 #[pt nb 0,.agg #[iv c.k,iv c.c,iv c.s,iv c.n,iv c.v]] w (NP i nb T g w (.tuple #[]) (p.want c) S X):=by
 obtain⟨x,lt,V,d,J,hg⟩:=h;obtain⟨j,q⟩:=d.rF N;obtain⟨o,rfl⟩:∃ o:NX,x={ o with bw:=some j }:=⟨x,by cases x;simp only at q;subst q;rfl⟩;clear q;have R:AskAt g w (.n 5 i) j p.bw:=d.rD rfl;refine gI (fn:=f81) (TN i) g func81 hg (qN d (qO J ?_));obtain⟨A,y,Q,P,M,L⟩:=id R;refine I2 j _ 5 i M A y (by kernel_rfl) ?_;refine qR [] 13 [0,0,13,0,2,4,6,8,0,10,3] λs1 g1 w1 t=>qU 6 (.tuple #[.agg #[iv ((p.bw c).getD Be).r,iv ((p.bw c).getD Be).n],.bool (p.bw c).isSome]) (λW hW=>(ZE (g:=g) (τ:=.n 5 i) (b:=j) (f:=p.bw) ⟨A,y,Q,P,AZ.at (hW rfl) 2 j (.map (Q.map mkA).toArray P) (.n 5 i) (by kernel_rfl),L⟩ c)) (qR [] 11 [14,16,18,21,0,0,23,4,0,24] λs2 g2 w2 u=>?_);by_cases E:(p.bw c).isSome=true
 .refine qI ((p.bw c).isSome) true E (qE (.tuple #[]) λK=>?_);rw[show p.want c=p from if_pos E];have O:=t.n u;exact⟨_,rfl,⟨({ o with bw:=some j }:NX),lt,V,d.ch O,J.ch O,K.new⟩,((t.nil (TN i)).n u)⟩
 .refine qI ((p.bw c).isSome) false (by simpa using E) (I3 [true,true,false,true,true] ?_);have a0:o.au.n=p.au.length:=d.au.num;refine qR [] 11 [12,0,2,4,6,8,10,0,12,2,15,0,0] λU g5 w5 B=>K3 8 (x:=({ o with bw:=some j }:NX).au) 49 49 24 5 40 (.agg #[iv 0,iv 0,iv 0,iv 0,iv 0]) ⟨(U 0),0,none⟩ 1 1 [iv c.k,iv c.c,iv c.s,iv c.n,iv c.v] (d.au.ch ((t.trans u).trans B) (by simp) (by simp)) (by kernel_rfl) (by kernel_rfl) (by kernel_rfl) underlying49 (by kernel_rfl) (by kernel_rfl) (by decide) (by decide) rfl (by simp[Value.oneCell']) (λK=>Dx K 4 (U 0) [iv c.k,iv c.c,iv c.s,iv c.n,iv c.v] 24 .z true (by kernel_rfl)) (by show o.au.n+1<=_;unfold maxLen;omega) (by show(o.au.n+1)*40<=_;omega) ?_;intro y6 g6 w6 Z n6 H G6;have F:=H w.heap.size [.n 4 i] (D'.2 rfl);refine qR [.n 0 i] 13 [18,20,22,25,0,1,8,0,2,4,6,8,0,10,2,12] λs7 g7 w7 C=>Ut 7 (τ:=.n 5 i) (b:=j) c Be (((((R.ch t).ch u).ch B).ch F).ch C) (by kernel_rfl) (by kernel_rfl) (by kernel_rfl) ?_;intro w8 Y I;have G:=I w.heap.size [.n 5 i] (D'.2 rfl);refine qR [] 1 [] λs9 g9 w9 D=>qE (.tuple #[]) λK=>?_;rw[show p.want c={ p with au:=p.au++[c],bw:=BW p.bw c (some Be) }from if_neg E];have a:=((((((t.nil ([.n 4 i,.n 0 i,.n 5 i]:List Tg)).n u).n B).m F).m C).m G).n D;have e:Tg.z∉([.n 4 i,.n 0 i,.n 5 i]:List Tg):=by simp
  exact⟨_,rfl,⟨({ o with bw:=some j,au:=y6 }:NX),lt,V,K.nd 0 (d.tape.ch a e) (d.ic.ch a e) (BA d.al a e) (Ci d.br a e (by simp)) (d.fa.ch a) (d.ae.ch a) (by rw[Cw];exact(((Z.ch C).ch G).ch D)) (Y.ch D) (λ_=>⟨j,rfl⟩),J.ch a e (by simp<;>omega),K.new⟩,(((((((t.nil (TN i)).n u).n B).trans (F.mono (by simp[TN]))).trans (C.mono (by simp[TN]))).trans (G.mono (by simp[TN]))).n D)⟩
theorem OB(n g:Int)(w:World) :
  Calls prog 153 #[.int .i64 n,.int .i64 g] w λe w'=>e=.returned (.bool (decide (0<=n/\n<=g)))/\w'=w:=by
 by_cases a:0<=n
 .by_cases h1:n<=g
  .rw[P' (show 0<=n/\n<=g from⟨a,h1⟩)];go_enter func153,ntmps153
   go_wp2
   go_ret;exact⟨rfl,rfl⟩
  .rw[G' (show ¬ (0<=n/\n<=g)from λh=>h1 h.2)];go_enter func153,ntmps153
   go_wp2
   go_ret;exact⟨rfl,rfl⟩
 .rw[G' (show ¬ (0<=n/\n<=g)from λh=>a h.1)];go_enter func153,ntmps153
  go_wp2
  go_ret;exact⟨rfl,rfl⟩
theorem TU(s:Sto)(w:World) :
  Calls prog 125 #[.agg (stA s)] w λe w'=>e=.returned (.int .i64 (Nu s))/\Bw w w':=by
 have n:Bw w (w.alloc (.cells (stA s) 115)):=(Below.refl _ _).alloc (A' _) _;have p:Bs (w.alloc (.cells (stA s) 115)) w.heap.size s:=heap_alloc_new _ _;generalize x:w.alloc (.cells (stA s) 115)=W at n p;go_enter func125,ntmps125
 go_wp2_with ((with_reducible (refine Fe ?_));(refine GO rfl _ rfl w.heap.size 0 rfl s.V p.sx ?_))
 clear x
 go_loopw [9] (λiv wr=>∃ i:Nat,i<=8/\iv=.int .i64 (i:Int)/\Hid (∀ j,j<i->VaB (s.V j))/\W=wr) (λiv _=>(8-intOf iv).toNat)
 case atStart=>exact⟨0,by omega,rfl,λj r=>by omega,rfl⟩
 case round =>
  obtain⟨i,t,rfl,l,rfl⟩:=hrel;by_cases a:i<8
  .have hlt':(i:Int)<8:=by omega
   have d:=UX s.V i a;go_wp2_with fail
   refine(OB (s.V i) 1073741824 _).mono ?_;rintro e y ⟨rfl,rfl⟩;by_cases b:0<=s.V i/\s.V i<=1073741824
   .rw[P' b];have o:Hid (∀ j,j<i+1->VaB (s.V j)):=λj r=>by
     by_cases h:j=i
     .subst h;exact b
     .exact l.out j (by omega)
    clear b d l;go_wp2
    go_roundw
    case rel=>exact⟨i+1,by omega,by go_num,o,by simp⟩
    case measure=>simp[intOf];omega
   .rw[G' b];have k:Hid (Nu s=5):=KS (λh=>b (h.1 i a));clear b d l;go_wp2
    go_ret;rw[k.out];exact⟨rfl,n⟩
  .obtain rfl:i=8:=by omega
   clear a t;go_wp2_with ((with_reducible (refine Fe ?_));(refine GO rfl _ rfl w.heap.size 8 rfl s.L p.sw ?_))
   go_loopw [18] (λiv wr=>∃ i:Nat,i<=8/\iv=.int .i64 (i:Int)/\Hid (∀ j,j<i->ClB (s.L j) (s.C j) (s.A j))/\W=wr) (λiv _=>(8-intOf iv).toNat)
   case atStart=>exact⟨0,by omega,rfl,λj r=>by omega,rfl⟩
   case round =>
    obtain⟨i,t,rfl,f,rfl⟩:=hrel;by_cases a:i<8
    .have hlt':(i:Int)<8:=by omega
     have d:=UX s.L i a;go_wp2_with fail
     refine(OB (s.L i) 1048577 _).mono ?_;rintro e y ⟨rfl,rfl⟩;by_cases b:0<=s.L i/\s.L i<=1048577
     .rw[P' b];have u:=p.sE i a;have v:=p.sD i a;have z:(0:Int)<=(i:Int):=by omega
      by_cases m:s.L i=0
      .rw[m];by_cases c:s.C i=0/\s.A i=0
       .rw[c.1]at u
        rw[c.2]at v
        have o:Hid (∀ j,j<i+1->ClB (s.L j) (s.C j) (s.A j)):=λj r=>by
         by_cases h:j=i
         .subst h;exact⟨b,λ_=>c⟩
         .exact f.out j (by omega)
        clear b d c m f;go_wp2
        go_roundw
        case rel=>exact⟨i+1,by omega,by go_num,o,by simp⟩
        case measure=>simp[intOf];omega
       .have k:Hid (Nu s=5):=KS (λh=>c ((h.2 i a).2 m));have q:=dz (s.C i) (s.A i);rw[G' c]at q
        clear b d c m f l;go_wp2
        go_ret;rw[k.out];exact⟨rfl,n⟩
      .have o:Hid (∀ j,j<i+1->ClB (s.L j) (s.C j) (s.A j)):=λj r=>by
        by_cases h:j=i
        .subst h;exact⟨b,λg=>absurd g m⟩
        .exact f.out j (by omega)
       have q:(s.L i==0)=false:=by simpa using m
       clear b d f;go_wp2
       go_roundw
       case rel=>exact⟨i+1,by omega,by go_num,o,by simp⟩
       case measure=>simp[intOf];omega
     .rw[G' b];have k:Hid (Nu s=5):=KS (λh=>b (h.2 i a).1);clear b d l f;go_wp2
      go_ret;rw[k.out];exact⟨rfl,n⟩
    .obtain rfl:i=8:=by omega
     have k:Hid (Nu s=0):=eD ⟨l.out,f.out⟩;clear a t f l;go_wp2
     go_ret;rw[k.out];exact⟨rfl,n⟩
theorem lt8(h:i<8):i=0\/i=1\/i=2\/i=3\/i=4\/i=5\/i=6\/i=7:=by omega
theorem gf(s:Sto)(c d:Nat)(q v:Int)(w:World)(x:c<8)(Y:d<8)(q0:0<=q)(q1:q<=1048576) :
  Calls prog 154 #[.agg (stA s),.agg #[iv 1,iv (c:Int),iv q,iv (d:Int),iv v]] w λe w'=>e=.returned (.tuple #[.agg (stA (J1 s ⟨1,c,q,d,v⟩)),.agg #[iv 0,iv (Nj s ⟨1,c,q,d,v⟩)]])/\Bw w w':=by
 have r:∀ b,w.heap.size<=b->gS.t b=.z/\gS.k b=0:=λ_ _=>⟨rfl,rfl⟩;refine gI (fn:=f154) [] gS func154 r (qR [] 26 [1,0,0,0,1,0,1,0,1,0,1] λa Q Z E=>Ct 48 (λg w' e L=>e=[(2,pt (a 0) 0),(3,pt (a 1) 0),(4,pt (a 2) 0),(5,pt (a 3) 0),(6,pt (a 4) 0)]/\L=[⟨(a 0),.cells (stA ({ s with V:=By s.V d v })) 115,.l,false⟩,⟨(a 1),.cells #[iv 1,iv (c:Int),iv q,iv (d:Int),iv v] 24,.z,false⟩,⟨(a 2),.cells (stA CJ) 115,.l,false⟩,⟨(a 3),.cells #[iv 0,iv 0] 46,.l,false⟩,⟨(a 4),.cells #[iv 0,iv 0] 46,.l,false⟩]/\True/\Cg w.heap.size ([]:List Tg) Q Z g w') (by kernel_rfl) ?_ ?_)
 .intro J hJ;rcases lt8 Y with rfl|rfl|rfl|rfl|rfl|rfl|rfl|rfl <;>
  (refine qR [] 8 [1,1,0,0] λa4 g3 w3 G=>?_;exact qB [true,true,true,true,true] λz h K=>hJ _ _ _ z _ ⟨rfl,rfl,trivial,(G.nil ([]:List Tg))⟩ K)
 rintro g2 w2 _ z2 _ ⟨rfl,rfl,_,F⟩;refine qR [] 13 [1,4,0,1,1] λa5 W w4 H=>qV 4 (iv (q+1)) (Bj 37 q underlying3 (by omega)) (Ct 48 (λg w' e L=>e=[(2,pt (a 0) 0),(3,pt (a 1) 0),(4,pt (a 2) 0),(5,pt (a 3) 0),(6,pt (a 4) 0)]/\L=[⟨(a 0),.cells (stA (Sto.mk (By s.V d v) (By s.L c (q+1)) s.C s.A s.R)) 115,.l,false⟩,⟨(a 1),.cells #[iv 1,iv (c:Int),iv q,iv (d:Int),iv v] 24,.z,false⟩,⟨(a 2),.cells (stA CJ) 115,.l,false⟩,⟨(a 3),.cells #[iv 0,iv 0] 46,.l,false⟩,⟨(a 4),.cells #[iv 0,iv v] 46,.l,false⟩]/\True/\Cg w.heap.size ([]:List Tg) W w4 g w') (by kernel_rfl) ?_ ?_)
 .intro J hJ;rcases lt8 x with rfl|rfl|rfl|rfl|rfl|rfl|rfl|rfl <;>
  (refine qR [] 4 [0,0] λa6 g6 w6 M=>?_;exact qB [true,true,true,true,true] λz h K=>hJ _ _ _ z _ ⟨rfl,rfl,trivial,(M.nil ([]:List Tg))⟩ K)
 rintro g5 w5 _ z5 _ ⟨rfl,rfl,_,I⟩;refine qR [] 2 [] λa7 X w7 N=>Ct 48 (λg w' e L=>e=[(2,pt (a 0) 0),(3,pt (a 1) 0),(4,pt (a 2) 0),(5,pt (a 3) 0),(6,pt (a 4) 0)]/\L=[⟨(a 0),.cells (stA (Sto.mk (By s.V d v) (By s.L c (q+1)) (By s.C c 0) (By s.A c v) s.R)) 115,.l,false⟩,⟨(a 1),.cells #[iv 1,iv (c:Int),iv q,iv (d:Int),iv v] 24,.z,false⟩,⟨(a 2),.cells (stA CJ) 115,.l,false⟩,⟨(a 3),.cells #[iv 0,iv 0] 46,.l,false⟩,⟨(a 4),.cells #[iv 0,iv v] 46,.l,false⟩]/\True/\Cg w.heap.size ([]:List Tg) X w7 g w') (by kernel_rfl) ?_ ?_
 .intro J hJ;rcases lt8 x with rfl|rfl|rfl|rfl|rfl|rfl|rfl|rfl <;>
  (refine qR [] 7 [1,4,0,0] λa8 g9 w9 P=>?_;exact qB [true,true,true,true,true] λz h K=>hJ _ _ _ z _ ⟨rfl,rfl,trivial,(P.nil ([]:List Tg))⟩ K)
 rintro g8 w8 _ z8 _ ⟨rfl,rfl,_,O⟩;refine qR [] 3 [2,0,0] λy p u i=>Ct 48 (λg w' e L=>e=[(2,pt (a 0) 0),(3,pt (a 1) 0),(4,pt (a 2) 0),(5,pt (a 3) 0),(6,pt (a 4) 0)]/\L=[⟨(a 0),.cells (stA (Sto.mk (By s.V d v) (By s.L c (q+1)) (By s.C c 0) (By s.A c v) s.R)) 115,.l,false⟩,⟨(a 1),.cells #[iv 1,iv (c:Int),iv q,iv (d:Int),iv v] 24,.z,false⟩,⟨(a 2),.cells (stA (Sto.mk (By s.V d v) (By s.L c (q+1)) (By s.C c 0) (By s.A c v) s.R)) 115,.l,false⟩,⟨(a 3),.cells #[iv 0,iv v] 46,.l,false⟩,⟨(a 4),.cells #[iv 0,iv v] 46,.l,false⟩]/\True/\Cg w.heap.size ([]:List Tg) p u g w') (by kernel_rfl) ?_ ?_
 .intro J hJ
  (exact Du 1 2 (by kernel_rfl) (by(refine qR [] 4 [4,5,2,0,7,3,0] λB T a1 m=>?_;exact qB [true,true,true,true,true] λz h K=>hJ _ _ _ z _ ⟨rfl,rfl,trivial,(m.nil ([]:List Tg))⟩ K)) (by(refine qR [] 4 [2,0,3,4,7,3,0] λD U a2 o=>?_;exact qB [true,true,true,true,true] λz h K=>hJ _ _ _ z _ ⟨rfl,rfl,trivial,(o.nil ([]:List Tg))⟩ K)))
 rintro S a0 _ a3 _ ⟨rfl,rfl,_,j⟩;exact qE4 4 5 115 46 2 (a 2) 3 (a 3) (stA (J1 s ⟨1,c,q,d,v⟩)) #[iv 0,iv (Nj s ⟨1,c,q,d,v⟩)] λK=>⟨rfl,Cg.af (((((((E.trans F).trans H).trans I).trans N).trans O).trans i).trans j) (λ_ _=>O')⟩
theorem gg(s:Sto)(c d:Nat)(q v:Int)(w:World)(x:c<8)(Y:d<8)(q0:0<=q)(q1:q<=1048576) :
  Calls prog 154 #[.agg (stA s),.agg #[iv 2,iv (c:Int),iv q,iv (d:Int),iv v]] w λe w'=>e=.returned (.tuple #[.agg (stA (J1 s ⟨2,c,q,d,v⟩)),.agg #[iv 0,iv (Nj s ⟨2,c,q,d,v⟩)]])/\Bw w w':=by
 have r:∀ b,w.heap.size<=b->gS.t b=.z/\gS.k b=0:=λ_ _=>⟨rfl,rfl⟩;refine gI (fn:=f154) [] gS func154 r (qR [] 31 [1,0,0,0,1,0,1,0,1,0,1] λa Q Z E=>Ct 48 (λg w' e L=>e=[(2,pt (a 0) 0),(3,pt (a 1) 0),(4,pt (a 2) 0),(5,pt (a 3) 0),(6,pt (a 4) 0)]/\L=[⟨(a 0),.cells (stA s) 115,.l,false⟩,⟨(a 1),.cells #[iv 2,iv (c:Int),iv q,iv (d:Int),iv v] 24,.z,false⟩,⟨(a 2),.cells (stA CJ) 115,.l,false⟩,⟨(a 3),.cells #[iv 0,iv 0] 46,.l,false⟩,⟨(a 4),.cells #[iv 0,iv (s.V d)] 46,.l,false⟩]/\True/\Cg w.heap.size ([]:List Tg) Q Z g w') (by kernel_rfl) ?_ ?_)
 .intro J hJ;rcases lt8 Y with rfl|rfl|rfl|rfl|rfl|rfl|rfl|rfl <;>
  (refine qR [] 8 [1,0,4,0] λa4 g3 w3 G=>?_;exact qB [true,true,true,true,true] λz h K=>hJ _ _ _ z _ ⟨rfl,rfl,trivial,(G.nil ([]:List Tg))⟩ K)
 rintro g2 w2 _ z2 _ ⟨rfl,rfl,_,F⟩;refine qR [] 7 [1,1] λa5 W w4 H=>qV 4 (iv (q+1)) (Bj 37 q underlying3 (by omega)) (Ct 48 (λg w' e L=>e=[(2,pt (a 0) 0),(3,pt (a 1) 0),(4,pt (a 2) 0),(5,pt (a 3) 0),(6,pt (a 4) 0)]/\L=[⟨(a 0),.cells (stA (Sto.mk s.V (By s.L c (q+1)) s.C s.A s.R)) 115,.l,false⟩,⟨(a 1),.cells #[iv 2,iv (c:Int),iv q,iv (d:Int),iv v] 24,.z,false⟩,⟨(a 2),.cells (stA CJ) 115,.l,false⟩,⟨(a 3),.cells #[iv 0,iv 0] 46,.l,false⟩,⟨(a 4),.cells #[iv 0,iv (s.V d)] 46,.l,false⟩]/\True/\Cg w.heap.size ([]:List Tg) W w4 g w') (by kernel_rfl) ?_ ?_)
 .intro J hJ;rcases lt8 x with rfl|rfl|rfl|rfl|rfl|rfl|rfl|rfl <;>
  (refine qR [] 4 [0,0] λa6 g6 w6 M=>?_;exact qB [true,true,true,true,true] λz h K=>hJ _ _ _ z _ ⟨rfl,rfl,trivial,(M.nil ([]:List Tg))⟩ K)
 rintro g5 w5 _ z5 _ ⟨rfl,rfl,_,I⟩;refine qR [] 2 [] λa7 X w7 N=>Ct 48 (λg w' e L=>e=[(2,pt (a 0) 0),(3,pt (a 1) 0),(4,pt (a 2) 0),(5,pt (a 3) 0),(6,pt (a 4) 0)]/\L=[⟨(a 0),.cells (stA (Sto.mk s.V (By s.L c (q+1)) (By s.C c 0) (By s.A c (s.V d)) s.R)) 115,.l,false⟩,⟨(a 1),.cells #[iv 2,iv (c:Int),iv q,iv (d:Int),iv v] 24,.z,false⟩,⟨(a 2),.cells (stA CJ) 115,.l,false⟩,⟨(a 3),.cells #[iv 0,iv 0] 46,.l,false⟩,⟨(a 4),.cells #[iv 0,iv (s.V d)] 46,.l,false⟩]/\True/\Cg w.heap.size ([]:List Tg) X w7 g w') (by kernel_rfl) ?_ ?_
 .intro J hJ;rcases lt8 x with rfl|rfl|rfl|rfl|rfl|rfl|rfl|rfl <;>
  (refine qR [] 7 [1,4,0,0] λa8 g9 w9 P=>?_;exact qB [true,true,true,true,true] λz h K=>hJ _ _ _ z _ ⟨rfl,rfl,trivial,(P.nil ([]:List Tg))⟩ K)
 rintro g8 w8 _ z8 _ ⟨rfl,rfl,_,O⟩;refine qR [] 3 [2,0,0] λy p u i=>Ct 48 (λg w' e L=>e=[(2,pt (a 0) 0),(3,pt (a 1) 0),(4,pt (a 2) 0),(5,pt (a 3) 0),(6,pt (a 4) 0)]/\L=[⟨(a 0),.cells (stA (Sto.mk s.V (By s.L c (q+1)) (By s.C c 0) (By s.A c (s.V d)) s.R)) 115,.l,false⟩,⟨(a 1),.cells #[iv 2,iv (c:Int),iv q,iv (d:Int),iv v] 24,.z,false⟩,⟨(a 2),.cells (stA (Sto.mk s.V (By s.L c (q+1)) (By s.C c 0) (By s.A c (s.V d)) s.R)) 115,.l,false⟩,⟨(a 3),.cells #[iv 0,iv (s.V d)] 46,.l,false⟩,⟨(a 4),.cells #[iv 0,iv (s.V d)] 46,.l,false⟩]/\True/\Cg w.heap.size ([]:List Tg) p u g w') (by kernel_rfl) ?_ ?_
 .intro J hJ
  (exact Du 1 2 (by kernel_rfl) (by(refine qR [] 4 [4,5,2,0,7,3,0] λB T a1 m=>?_;exact qB [true,true,true,true,true] λz h K=>hJ _ _ _ z _ ⟨rfl,rfl,trivial,(m.nil ([]:List Tg))⟩ K)) (by(refine qR [] 4 [2,0,3,4,7,3,0] λD U a2 o=>?_;exact qB [true,true,true,true,true] λz h K=>hJ _ _ _ z _ ⟨rfl,rfl,trivial,(o.nil ([]:List Tg))⟩ K)))
 rintro S a0 _ a3 _ ⟨rfl,rfl,_,j⟩;exact qE4 4 5 115 46 2 (a 2) 3 (a 3) (stA (J1 s ⟨2,c,q,d,v⟩)) #[iv 0,iv (Nj s ⟨2,c,q,d,v⟩)] λK=>⟨rfl,Cg.af (((((((E.trans F).trans H).trans I).trans N).trans O).trans i).trans j) (λ_ _=>O')⟩
theorem gh(s:Sto)(c d:Nat)(q v:Int)(w:World)(x:c<8)(Y:d<8)(q0:0<=q)(q1:q<=1048576) :
  Calls prog 154 #[.agg (stA s),.agg #[iv 3,iv (c:Int),iv q,iv (d:Int),iv v]] w λe w'=>e=.returned (.tuple #[.agg (stA (J1 s ⟨3,c,q,d,v⟩)),.agg #[iv 0,iv (Nj s ⟨3,c,q,d,v⟩)]])/\Bw w w':=by
 have r:∀ b,w.heap.size<=b->gS.t b=.z/\gS.k b=0:=λ_ _=>⟨rfl,rfl⟩;refine gI (fn:=f154) [] gS func154 r (qR [] 37 [1,0,0,0,1,0,1,0,1,0,1] λa Q Z E=>Ct 48 (λg w' e L=>e=[(2,pt (a 0) 0),(3,pt (a 1) 0),(4,pt (a 2) 0),(5,pt (a 3) 0),(6,pt (a 4) 0)]/\L=[⟨(a 0),.cells (stA ({ s with R:=By s.R d true })) 115,.l,false⟩,⟨(a 1),.cells #[iv 3,iv (c:Int),iv q,iv (d:Int),iv v] 24,.z,false⟩,⟨(a 2),.cells (stA CJ) 115,.l,false⟩,⟨(a 3),.cells #[iv 0,iv 0] 46,.l,false⟩,⟨(a 4),.cells #[iv 0,iv 0] 46,.l,false⟩]/\True/\Cg w.heap.size ([]:List Tg) Q Z g w') (by kernel_rfl) ?_ ?_)
 .intro J hJ;rcases lt8 Y with rfl|rfl|rfl|rfl|rfl|rfl|rfl|rfl <;>
  (refine qR [] 6 [1,0,0] λa4 g3 w3 G=>?_;exact qB [true,true,true,true,true] λz h K=>hJ _ _ _ z _ ⟨rfl,rfl,trivial,(G.nil ([]:List Tg))⟩ K)
 rintro g2 w2 _ z2 _ ⟨rfl,rfl,_,F⟩;refine qR [] 7 [1,1] λa5 W w4 H=>qV 4 (iv (q+1)) (Bj 37 q underlying3 (by omega)) (Ct 48 (λg w' e L=>e=[(2,pt (a 0) 0),(3,pt (a 1) 0),(4,pt (a 2) 0),(5,pt (a 3) 0),(6,pt (a 4) 0)]/\L=[⟨(a 0),.cells (stA (Sto.mk s.V (By s.L c (q+1)) s.C s.A (By s.R d true))) 115,.l,false⟩,⟨(a 1),.cells #[iv 3,iv (c:Int),iv q,iv (d:Int),iv v] 24,.z,false⟩,⟨(a 2),.cells (stA CJ) 115,.l,false⟩,⟨(a 3),.cells #[iv 0,iv 0] 46,.l,false⟩,⟨(a 4),.cells #[iv 0,iv 0] 46,.l,false⟩]/\True/\Cg w.heap.size ([]:List Tg) W w4 g w') (by kernel_rfl) ?_ ?_)
 .intro J hJ;rcases lt8 x with rfl|rfl|rfl|rfl|rfl|rfl|rfl|rfl <;>
  (refine qR [] 4 [0,0] λa6 g6 w6 M=>?_;exact qB [true,true,true,true,true] λz h K=>hJ _ _ _ z _ ⟨rfl,rfl,trivial,(M.nil ([]:List Tg))⟩ K)
 rintro g5 w5 _ z5 _ ⟨rfl,rfl,_,I⟩;refine qR [] 2 [] λa7 X w7 N=>Ct 48 (λg w' e L=>e=[(2,pt (a 0) 0),(3,pt (a 1) 0),(4,pt (a 2) 0),(5,pt (a 3) 0),(6,pt (a 4) 0)]/\L=[⟨(a 0),.cells (stA (Sto.mk s.V (By s.L c (q+1)) (By s.C c 0) (By s.A c 0) (By s.R d true))) 115,.l,false⟩,⟨(a 1),.cells #[iv 3,iv (c:Int),iv q,iv (d:Int),iv v] 24,.z,false⟩,⟨(a 2),.cells (stA CJ) 115,.l,false⟩,⟨(a 3),.cells #[iv 0,iv 0] 46,.l,false⟩,⟨(a 4),.cells #[iv 0,iv 0] 46,.l,false⟩]/\True/\Cg w.heap.size ([]:List Tg) X w7 g w') (by kernel_rfl) ?_ ?_
 .intro J hJ;rcases lt8 x with rfl|rfl|rfl|rfl|rfl|rfl|rfl|rfl <;>
  (refine qR [] 7 [1,4,0,0] λa8 g9 w9 P=>?_;exact qB [true,true,true,true,true] λz h K=>hJ _ _ _ z _ ⟨rfl,rfl,trivial,(P.nil ([]:List Tg))⟩ K)
 rintro g8 w8 _ z8 _ ⟨rfl,rfl,_,O⟩;refine qR [] 3 [2,0,0] λy p u i=>Ct 48 (λg w' e L=>e=[(2,pt (a 0) 0),(3,pt (a 1) 0),(4,pt (a 2) 0),(5,pt (a 3) 0),(6,pt (a 4) 0)]/\L=[⟨(a 0),.cells (stA (Sto.mk s.V (By s.L c (q+1)) (By s.C c 0) (By s.A c 0) (By s.R d true))) 115,.l,false⟩,⟨(a 1),.cells #[iv 3,iv (c:Int),iv q,iv (d:Int),iv v] 24,.z,false⟩,⟨(a 2),.cells (stA (Sto.mk s.V (By s.L c (q+1)) (By s.C c 0) (By s.A c 0) (By s.R d true))) 115,.l,false⟩,⟨(a 3),.cells #[iv 0,iv 0] 46,.l,false⟩,⟨(a 4),.cells #[iv 0,iv 0] 46,.l,false⟩]/\True/\Cg w.heap.size ([]:List Tg) p u g w') (by kernel_rfl) ?_ ?_
 .intro J hJ
  (exact Du 1 2 (by kernel_rfl) (by(refine qR [] 4 [4,5,2,0,7,3,0] λB T a1 m=>?_;exact qB [true,true,true,true,true] λz h K=>hJ _ _ _ z _ ⟨rfl,rfl,trivial,(m.nil ([]:List Tg))⟩ K)) (by(refine qR [] 4 [2,0,3,4,7,3,0] λD U a2 o=>?_;exact qB [true,true,true,true,true] λz h K=>hJ _ _ _ z _ ⟨rfl,rfl,trivial,(o.nil ([]:List Tg))⟩ K)))
 rintro S a0 _ a3 _ ⟨rfl,rfl,_,j⟩;exact qE4 4 5 115 46 2 (a 2) 3 (a 3) (stA (J1 s ⟨3,c,q,d,v⟩)) #[iv 0,iv (Nj s ⟨3,c,q,d,v⟩)] λK=>⟨rfl,Cg.af (((((((E.trans F).trans H).trans I).trans N).trans O).trans i).trans j) (λ_ _=>O')⟩
theorem Xq(s:Sto)(k:Int)(a b:Nat)(q v:Int)(w:World)(j:1<=k/\k<=3)(c:a<8)(d:b<8)(f:0<=q)(g:q<=1048576){S:Sto}(i:J1 s ⟨k,a,q,b,v⟩=S){A:Int}(h:Nj s ⟨k,a,q,b,v⟩=A) :
  Calls prog 154 #[.agg (stA s),.agg #[iv k,iv (a:Int),iv q,iv (b:Int),iv v]] w λe w'=>e=.returned (.tuple #[.agg (stA S),.agg #[iv 0,iv A]])/\Bw w w':=by
 subst i h;rcases(show k=1\/k=2\/k=3 by omega)with rfl|rfl|rfl
 .exact gf s a b q v w c d f g
 .exact gg s a b q v w c d f g
 .exact gh s a b q v w c d f g
theorem Xb(s:Sto)(k:Int)(c d:Nat)(q v:Int)(w:World)(k0:0<=k)(k3:k<=3)(U:c<8)(hn:d<8)(q0:0<=q)(q1:q<=1048576) :
  Calls prog 126 #[.agg (stA s),.agg #[iv k,iv (c:Int),iv q,iv (d:Int),iv v]] w λe w'=>e=.returned (.tuple #[.agg (stA (dnS s ⟨k,c,q,d,v⟩)),.agg #[iv (dnC s ⟨k,c,q,d,v⟩),iv (dnA s ⟨k,c,q,d,v⟩)]])/\Bw w w':=by
 have a4:∀ b,w.heap.size<=b->gS.t b=.z/\gS.k b=0:=λ_ _=>⟨rfl,rfl⟩;refine gI (fn:=f126) [] gS func126 a4 (qR [] 14 [0,0,0,0,1,0,1,0,1] λa g1 w1 x=>?_);by_cases h:k=0
 .refine qI ((k==0)) true (by simpa using h) (qR [] 7 [0,2,0,3,0] λf3 g2 w2 c2=>?_);rw[show dnS s ⟨k,c,q,d,v⟩=s from if_neg (λg=>g.1 h),show dnC s ⟨k,c,q,d,v⟩=0 from if_pos h,show dnA s ⟨k,c,q,d,v⟩=0 from if_pos h];exact qE4 4 5 115 46 2 (a 2) 3 (a 3) (stA s) #[iv 0,iv 0] λK=>⟨rfl,Cg.af (x.trans c2) (λ_ _=>O')⟩
 .refine qI ((k==0)) false (by simpa using h) (qR [] 3 [] λf4 g3 w3 G=>Ct 49 (λN w' e L=>e=[(2,pt (a 0) 0),(3,pt (a 1) 0),(4,pt (a 2) 0),(5,pt (a 3) 0),(6,iv (s.L c))]/\L=[⟨(a 0),.cells (stA s) 115,.z,false⟩,⟨(a 1),.cells #[iv k,iv (c:Int),iv q,iv (d:Int),iv v] 24,.z,false⟩,⟨(a 2),.cells (stA CJ) 115,.l,false⟩,⟨(a 3),.cells #[iv 0,iv 0] 46,.l,false⟩]/\True/\Cg w.heap.size ([]:List Tg) g3 w3 N w') (by kernel_rfl) ?_ ?_)
  .intro J hJ;rcases lt8 U with rfl|rfl|rfl|rfl|rfl|rfl|rfl|rfl <;>
   (refine qR [] 7 [1,0] λf5 g5 w5 c5=>?_;exact qB [true,true,true,true] λz Q K=>hJ _ _ _ z _ ⟨rfl,rfl,trivial,(c5.nil ([]:List Tg))⟩ K)
  rintro g4 w4 _ z4 _ ⟨rfl,rfl,_,H⟩;refine qR [] 7 [1] λf6 g6 w6 I=>qV 3 (iv (q+1)) (Bj 20 q underlying3 (by omega)) (qR [] 3 [] λf7 g7 w7 M=>?_);by_cases i:s.L c=q+1
  .refine qI (((s.L c)==(q+1))) true (by simpa using i) (qR [] 2 [6] λf8 g8 w8 c8=>Ct 49 (λN w' e L=>e=[(2,pt (a 0) 0),(3,pt (a 1) 0),(4,pt (a 2) 0),(5,pt (a 3) 0)]/\L=[⟨(a 0),.cells (stA s) 115,.z,false⟩,⟨(a 1),.cells #[iv k,iv (c:Int),iv q,iv (d:Int),iv v] 24,.z,false⟩,⟨(a 2),.cells (stA s) 115,.l,false⟩,⟨(a 3),.cells #[iv (s.C c),iv (s.A c)] 46,.l,false⟩]/\True/\Cg w.heap.size ([]:List Tg) g8 w8 N w') (by kernel_rfl) ?_ ?_)
   .intro J hJ;rcases lt8 U with rfl|rfl|rfl|rfl|rfl|rfl|rfl|rfl <;>
    (refine qR [] 3 [0,0,2,6] λa8 c0 e0 p=>?_;exact Du 2 6 (by kernel_rfl) (by(refine qR [] 2 [1,8] λa9 d0 e1 E=>?_;exact Du 5 6 (by kernel_rfl) (by(refine qR [] 4 [0,13,2,0,15,3,0] λb0 d1 e2 V=>?_;exact qB [true,true,true,true] λz Q K=>hJ _ _ _ z _ ⟨rfl,rfl,trivial,(((p.nil ([]:List Tg)).n E).n V)⟩ K)) (by(refine qR [] 4 [2,0,11,0,15,3,0] λb1 d2 e3 W=>?_;exact qB [true,true,true,true] λz Q K=>hJ _ _ _ z _ ⟨rfl,rfl,trivial,(((p.nil ([]:List Tg)).n E).n W)⟩ K)))) (by(refine qR [] 6 [2,0,5,1,8,11,0,15,3,0] λb2 d3 e4 X=>?_;exact qB [true,true,true,true] λz Q K=>hJ _ _ _ z _ ⟨rfl,rfl,trivial,((p.nil ([]:List Tg)).n X)⟩ K)))
   rintro g9 w9 _ z9 _ ⟨rfl,rfl,_,c9⟩;rw[show dnS s ⟨k,c,q,d,v⟩=s from if_neg (λg=>g.2.1 (by show q<s.L c;omega)),show dnC s ⟨k,c,q,d,v⟩=s.C c from(if_neg h).trans (if_pos i),show dnA s ⟨k,c,q,d,v⟩=s.A c from(if_neg h).trans (if_pos i)];exact qE4 4 5 115 46 2 (a 2) 3 (a 3) (stA s) #[iv (s.C c),iv (s.A c)] λK=>⟨rfl,Cg.af ((((((x.trans G).trans H).trans I).trans M).trans c8).trans c9) (λ_ _=>O')⟩
  .refine qI (((s.L c)==(q+1))) false (by simpa using i) (qR [] 8 [1] λb3 d4 e5 m=>?_);by_cases j:q<s.L c
   .refine qI ((decide (q<(s.L c)))) true (P' j) (qR [] 7 [0,2,0,3,0] λb4 d5 e6 Y=>?_);rw[show dnS s ⟨k,c,q,d,v⟩=s from if_neg (λg=>g.2.1 j),show dnC s ⟨k,c,q,d,v⟩=7 from(if_neg h).trans ((if_neg i).trans (if_pos j)),show dnA s ⟨k,c,q,d,v⟩=0 from(if_neg h).trans ((if_neg i).trans (if_pos j))];exact qE4 4 5 115 46 2 (a 2) 3 (a 3) (stA s) #[iv 7,iv 0] λK=>⟨rfl,Cg.af ((((((x.trans G).trans H).trans I).trans M).trans m).trans Y) (λ_ _=>O')⟩
   .refine qI ((decide (q<(s.L c)))) false (G' j) (qR [] 2 [] λb5 a3 a5 r=>Ct 49 (λN w' e L=>e=[(2,pt (a 0) 0),(3,pt (a 1) 0),(4,pt (a 2) 0),(5,pt (a 3) 0),(36,.bool (s.R c))]/\L=[⟨(a 0),.cells (stA s) 115,.z,false⟩,⟨(a 1),.cells #[iv k,iv (c:Int),iv q,iv (d:Int),iv v] 24,.z,false⟩,⟨(a 2),.cells (stA CJ) 115,.l,false⟩,⟨(a 3),.cells #[iv 0,iv 0] 46,.l,false⟩]/\True/\Cg w.heap.size ([]:List Tg) a3 a5 N w') (by kernel_rfl) ?_ ?_)
    .intro J hJ;rcases lt8 U with rfl|rfl|rfl|rfl|rfl|rfl|rfl|rfl <;>
     (refine qR [] 7 [1,0] λb6 d7 e8 Z=>?_;exact qB [true,true,true,true] λz Q K=>hJ _ _ _ z _ ⟨rfl,rfl,trivial,(Z.nil ([]:List Tg))⟩ K)
    rintro d6 e7 _ f2 _ ⟨rfl,rfl,_,u⟩;by_cases o:s.R c=true
    .refine qI ((s.R c)) true o (qR [] 7 [0,2,0,3,0] λb7 d8 e9 a0=>?_);rw[show dnS s ⟨k,c,q,d,v⟩=s from if_neg (λg=>Bool.noConfusion (o.symm.trans g.2.2)),show dnC s ⟨k,c,q,d,v⟩=11 from(if_neg h).trans ((if_neg i).trans ((if_neg j).trans (if_pos o))),show dnA s ⟨k,c,q,d,v⟩=0 from(if_neg h).trans ((if_neg i).trans ((if_neg j).trans (if_pos o)))];exact qE4 4 5 115 46 2 (a 2) 3 (a 3) (stA s) #[iv 11,iv 0] λK=>⟨rfl,Cg.af ((((((((x.trans G).trans H).trans I).trans M).trans m).trans r).trans u).trans a0) (λ_ _=>O')⟩
    .refine qI ((s.R c)) false (by simpa using o) ?_;obtain⟨S,hS⟩:∃ S,J1 s ⟨k,c,q,d,v⟩=S:=⟨_,rfl⟩;obtain⟨A,hA⟩:∃ A,Nj s ⟨k,c,q,d,v⟩=A:=⟨_,rfl⟩;refine qR [] 6 [0,1] λb8 O P F=>?_;have a6:=(Cg.af ((((((((x.trans G).trans H).trans I).trans M).trans m).trans r).trans u).trans F) (λ_ _=>O'));refine Af λy=>?_;have a7:∀ z,P.heap.size<=z->O.t z=.z:=λz hz=>(y.new z hz).1;refine qC 2 (Xq s k c d q v P (by omega) U hn q0 q1 hS hA) ?_;rintro e' f0 ⟨rfl,D⟩;refine⟨_,rfl,D,?_⟩;have a1:=Cg.ed (B:=w.heap.size) (T:=[]) (g:=O) D;refine qR [] 5 [2,0,3,0] λb9 d9 f1 a2=>?_;rw[show dnS s ⟨k,c,q,d,v⟩=S from(if_pos ⟨h,j,by simpa using o⟩).trans hS,show dnC s ⟨k,c,q,d,v⟩=0 from(if_neg h).trans ((if_neg i).trans ((if_neg j).trans (if_neg o))),show dnA s ⟨k,c,q,d,v⟩=A from(if_neg h).trans ((if_neg i).trans ((if_neg j).trans ((if_neg o).trans hA)))];exact qE4 4 5 115 46 2 (a 2) 3 (a 3) (stA S) #[iv 0,iv A] λK=>⟨rfl,Cg.af ((((((((((x.trans G).trans H).trans I).trans M).trans m).trans r).trans u).trans F).trans a1).trans a2) (λ_ _=>O')⟩
theorem bj(j:m.e=0){S:Sto}(i:dnS s m=S){C A:Int}(h:dnC s m=C)(g:dnA s m=A) :
  Calls prog 126 #[.agg (stA s),.agg #[iv m.k,iv m.c,iv m.s,iv m.n,iv m.v]] w λe w'=>e=.returned (.tuple #[.agg (stA S),.agg #[iv C,iv A]])/\Bw w w':=by
 subst i h g;obtain⟨k,c,q,n,v⟩:=m;obtain⟨b,f⟩:=OU j;unfold InC at f;simp only at b f ⊢;obtain⟨a,rfl⟩:∃ a:Nat,c=(a:Int):=⟨c.toNat,by omega⟩;obtain⟨d,rfl⟩:∃ d:Nat,n=(d:Int):=⟨n.toNat,by omega⟩;exact Xb s k a d q v w b.1 b.2 (by omega) (by omega) (by omega) (by omega)
theorem Xa(a:Nu s=E):Calls prog 125 #[.agg (stA s)] w λe w'=>e=.returned (iv E)/\Bw w w':=by subst a;exact TU s w
theorem Wf(b:NTab w){E:Int}(a:m.e=E):Calls prog 22 #[.agg #[iv m.k,iv m.c,iv m.s,iv m.n,iv m.v]] w λe w'=>e=.returned (iv E)/\Bw w w':=by subst a;exact E8 m.k m.c m.s m.n m.v w b
theorem kU(s:Sto)(m:Cmd)(w:World)(hN:NTab w) :
  Calls prog 79 #[.agg (stA s),.agg #[iv m.k,iv m.c,iv m.s,iv m.n,iv m.v]] w λe w'=>e=.returned (.tuple #[.agg (stA (doS s m)),.agg #[iv (doC s m),iv (doA s m)],iv (doE s m)])/\Bw w w':=by
 obtain⟨E,o⟩:∃ E,Nu s=E:=⟨_,rfl⟩;obtain⟨F,Y⟩:∃ F,m.e=F:=⟨_,rfl⟩;have Z:∀ b,w.heap.size<=b->gS.t b=.z/\gS.k b=0:=λ_ _=>⟨rfl,rfl⟩;refine gI (fn:=f79) [] gS func79 Z (qR [] 12 [0,0,0,0,1,0,1,0,0] λa g1 w1 j=>?_);have a5:=(Cg.af j (λ_ _=>O'));refine Af λI=>?_;have a9:∀ z,w1.heap.size<=z->g1.t z=.z:=λz D=>(I.new z D).1;refine qC 1 (Xa o) ?_;rintro e' w2 ⟨rfl,b2⟩;refine⟨_,rfl,b2,?_⟩;have r:=Cg.ed (B:=w.heap.size) (T:=[]) (g:=g1) b2;refine qR [] 7 [] λb8 g3 w3 u=>?_;by_cases x:E≠0
 .refine qI ((E != 0)) true (by simpa using x) (qR [] 9 [2,0,3,0] λb9 g4 w4 c4=>?_);have h:doE s m=E:=by unfold doE;unfold Nu at o;split at o;exact absurd o.symm x;rename_i g;rw[if_neg g];exact o
  have d:doE s m≠0:=by rw[h];exact x
  rw[XV d,XR d,show doA s m=0 from if_neg d,h];exact qE5 4 5 6 115 46 2 (a 2) 3 (a 3) (stA CJ) #[iv 0,iv 0] (iv E) λK=>⟨rfl,(Cg.af (((j.trans r).trans u).trans c4) (λ_ _=>O'))⟩
 .refine qI ((E != 0)) false (by simpa using x) ?_;have hB:Ip s:=pW λg=>absurd (o.symm.trans (KS g)) (by rw[show E=0 from by simpa using x];decide);refine qR [] 5 [1] λc0 g5 w5 G=>?_;have N:=(Cg.af (((j.trans r).trans u).trans G) (λ_ _=>O'));refine Af λM=>?_;have b0:∀ z,w5.heap.size<=z->g5.t z=.z:=λz D=>(M.new z D).1;refine qC 1 (Wf (hN.af N) Y) ?_;rintro e' w6 ⟨rfl,b6⟩;refine⟨_,rfl,b6,?_⟩;have V:=Cg.ed (B:=w.heap.size) (T:=[]) (g:=g5) b6;refine qR [] 7 [] λd0 g7 w7 W=>?_;by_cases H:F≠0
  .refine qI ((F != 0)) true (by simpa using H) (qR [] 9 [2,0,3,0] λd1 g8 w8 c8=>?_);have h:doE s m=F:=(if_pos hB).trans Y;have d:doE s m≠0:=by rw[h];exact H
   rw[XV d,XR d,show doA s m=0 from if_neg d,h];exact qE5 4 5 6 115 46 2 (a 2) 3 (a 3) (stA CJ) #[iv 0,iv 0] (iv F) λK=>⟨rfl,(Cg.af ((((((j.trans r).trans u).trans G).trans V).trans W).trans c8) (λ_ _=>O'))⟩
  .refine qI ((F != 0)) false (by simpa using H) ?_;have y:m.e=0:=by rw[Y];simpa using H
   have h:doE s m=0:=(if_pos hB).trans y;obtain⟨S,hS⟩:∃ S,dnS s m=S:=⟨_,rfl⟩;obtain⟨C,hC⟩:∃ C,dnC s m=C:=⟨_,rfl⟩;obtain⟨A,hA⟩:∃ A,dnA s m=A:=⟨_,rfl⟩;refine qR [] 5 [0,1] λd2 g9 w9 c9=>?_;have a1:=(Cg.af ((((((j.trans r).trans u).trans G).trans V).trans W).trans c9) (λ_ _=>O'));refine Af λp=>?_;have a2:∀ z,w9.heap.size<=z->g9.t z=.z:=λz D=>(p.new z D).1;refine qC 2 (bj y hS hC hA) ?_;rintro e' b1 ⟨rfl,q⟩;refine⟨_,rfl,q,?_⟩;have O:=Cg.ed (B:=w.heap.size) (T:=[]) (g:=g9) q;refine qR [] 11 [0,0,0,0,4,0,5,0,2,0,4] λi X a0 P=>Ct 33 (λg' w' e L=>e=[(4,pt (a 2) 0),(5,pt (a 3) 0),(6,iv 0)]/\L=[⟨(a 0),.cells (stA s) 115,.z,false⟩,⟨(a 1),.cells #[iv m.k,iv m.c,iv m.s,iv m.n,iv m.v] 24,.z,false⟩,⟨(a 2),.cells (stA S) 115,.l,false⟩,⟨(a 3),.cells #[iv C,iv A] 46,.l,false⟩,⟨(i 0),.cells (stA S) 115,.z,false⟩,⟨(i 1),.cells #[iv C,iv A] 46,.z,false⟩]/\True/\Cg w.heap.size ([]:List Tg) X a0 g' w') (by kernel_rfl) ?_ ?_
   .intro J hJ
    (exact Du 1 2 (by kernel_rfl) (by(refine qR [] 5 [5,5,2,0,7,3,0,8] λa3 a7 b4 R=>?_;exact qB [true,true,true,true,true,true] λz K0 K=>hJ _ _ _ z _ ⟨rfl,rfl,trivial,(R.nil ([]:List Tg))⟩ K)) (by(refine qR [] 5 [2,0,3,5,7,3,0,8] λa4 a8 b5 U=>?_;exact qB [true,true,true,true,true,true] λz K0 K=>hJ _ _ _ z _ ⟨rfl,rfl,trivial,(U.nil ([]:List Tg))⟩ K)))
   rintro a6 b3 _ b7 _ ⟨rfl,rfl,_,Q⟩;rw[Sg h,Sf h,Se h,h,hS,hC,hA];exact qE5 4 5 6 115 46 2 (a 2) 3 (a 3) (stA S) #[iv C,iv A] (iv 0) λK=>⟨rfl,(Cg.af (((((((((j.trans r).trans u).trans G).trans V).trans W).trans c9).trans O).trans P).trans Q) (λ_ _=>O'))⟩
theorem DR(s:Sto)(k c q n v:Int)(w:World)(a:NTab w) :
  Calls prog 79 #[.agg (stA s),.agg (cmA k c q n v)] w λe w'=>e=.returned (.tuple #[.agg (stA (doS s ⟨k,c,q,n,v⟩)),.agg #[.int .i64 (doC s ⟨k,c,q,n,v⟩),.int .i64 (doA s ⟨k,c,q,n,v⟩)],.int .i64 (doE s ⟨k,c,q,n,v⟩)])/\Bw w w':=kU s ⟨k,c,q,n,v⟩ w a
theorem gU(c:Int)(w:World)(f:0<=c)(n:c<=7)(h:AK w) :
  Calls prog 13 #[.int .i64 c] w λe w'=>∃ v',e=.returned (.tuple #[v',.int .i64 0])/\w'.ownsRow w.heap.size 5 1 v' (I6 c).length ((I6 c).map (Value.int .u8))/\Bw w w':=by
 have l:decide (c<0)=false:=by simp;omega
 have m:decide ((7:Int)<c)=false:=by simp;omega
 have o:IntKind.u8.wrap c=c:=by rw[show IntKind.u8.wrap c=c%256 from rfl];omega
 have p:=Go.Joins.run_convert_bytes_const_at (P:=prog) (w.alloc (.cells #[.int .u8 c] 5)) 27 5 #[.int .u8 99,.int .u8 108,.int .u8 105,.int .u8 101,.int .u8 110,.int .u8 116] 6 6 (w.heap.size+1) (by simp) underlying27 underlying5;go_enter func13,ntmps13
 go_wp2_with fail
 have s0:Sl (w.alloc (.cells #[.int .u8 c] 5)) (.slice (some ⟨w.heap.size,0,none⟩) 1 1) [c]:=Sl.one w c 5 rfl ⟨f,by omega⟩;have b0:Bw w (w.alloc (.cells #[.int .u8 c] 5)):=(Below.refl _ _).alloc (A' _) _;have j:=Sl.sO (w.alloc (.cells #[.int .u8 c] 5)) [99,108,105,101,110,116] 5 (6,7) (g:=w.heap.size+1) (by simp) rfl (by simp);have a:Bw w ((w.alloc (.cells #[.int .u8 c] 5)).alloc (.cells #[.int .u8 99,.int .u8 108,.int .u8 105,.int .u8 101,.int .u8 110,.int .u8 116] 5 (6,7))):=b0.alloc (by simp) _;have b:=s0.af ((Below.refl (w.alloc (.cells #[.int .u8 c] 5)).heap.size _).alloc (A' _) (.cells #[.int .u8 99,.int .u8 108,.int .u8 105,.int .u8 101,.int .u8 110,.int .u8 116] 5 (6,7)));refine(TY _ _ _ [c] [99,108,105,101,110,116] [] 32 _ b j (Sl.nil _ _) (by simp) (by simp) (by simp) (by omega) (h.af a)).mono ?_;rintro e q ⟨k,rfl,i,d⟩;go_wp2
 go_ret2
 exact⟨k,rfl,Cf i a.size,a.trans (d.mono a.size)⟩
theorem gT(c:Int)(w:World)(h:c<0\/7<c) :
  Calls prog 13 #[.int .i64 c] w λe w'=>e=.returned (.tuple #[.slice none 0 0,.int .i64 2])/\w'=w:=by
 by_cases b:c<0
 .have d0:decide (c<0)=true:=by simp;omega
  go_enter func13,ntmps13
  go_wp2
  go_ret2
  exact⟨rfl,rfl⟩
 .have d0:decide (c<0)=false:=by simp;omega
  have a:decide ((7:Int)<c)=true:=by simp;omega
  go_enter func13,ntmps13
  go_wp2
  go_ret2
  exact⟨rfl,rfl⟩
theorem SH(w:World)(d:AK w) :
  Calls prog 11 #[] w λe w'=>∃ v',e=.returned v'/\w'.ownsRow w.heap.size 5 1 v' Fk.length (Fk.map (Value.int .u8))/\Bw w w':=by
 have j:=Go.Joins.run_convert_bytes_const_at (P:=prog) (w.alloc (.cells #[.int .u8 255] 5)) 27 5 #[.int .u8 105,.int .u8 115,.int .u8 115,.int .u8 117,.int .u8 101,.int .u8 114] 6 6 (w.heap.size+1) (by simp) underlying27 underlying5;go_enter func11,ntmps11
 go_wp2_with fail
 have s0:Sl (w.alloc (.cells #[.int .u8 255] 5)) (.slice (some ⟨w.heap.size,0,none⟩) 1 1) [255]:=Sl.one w 255 5 rfl ⟨by omega,by omega⟩;have b0:Bw w (w.alloc (.cells #[.int .u8 255] 5)):=(Below.refl _ _).alloc (A' _) _;have h:=Sl.sO (w.alloc (.cells #[.int .u8 255] 5)) [105,115,115,117,101,114] 5 (6,7) (g:=w.heap.size+1) (by simp) rfl (by simp);have a:Bw w ((w.alloc (.cells #[.int .u8 255] 5)).alloc (.cells #[.int .u8 105,.int .u8 115,.int .u8 115,.int .u8 117,.int .u8 101,.int .u8 114] 5 (6,7))):=b0.alloc (by simp) _;have b:=s0.af ((Below.refl (w.alloc (.cells #[.int .u8 255] 5)).heap.size _).alloc (A' _) (.cells #[.int .u8 105,.int .u8 115,.int .u8 115,.int .u8 117,.int .u8 101,.int .u8 114] 5 (6,7)));refine(TY _ _ _ [255] [105,115,115,117,101,114] [] 32 _ b h (Sl.nil _ _) (by simp) (by simp) (by simp) (by omega) (d.af a)).mono ?_;rintro e k ⟨i,rfl,f,c⟩;go_wp2
 go_ret;exact⟨i,rfl,Cf f a.size,a.trans (c.mono a.size)⟩
theorem jI{B:Nat}{L:List Sh}(h:Kn B g w L)(k b:Nat)(a:Array Value)(e:TypeId)(t:Tg)(v:Bool)(c:L[k]?=some ⟨b,.cells a e,t,v⟩):w.heap[b]?=some (.cells a e):=(h.row _ (mD c)).1
theorem kn{ts:Array TypeId}{a b d:Int}(h:(if b<a then b else a)=d):(Builtin.min_ ts t #[iv a,iv b]).run P W=.ok (iv d) W:=by subst h;exact run_min_int2 _ _ _ _ _ _ _
theorem kz{x y:Operand}(h:0<=n/\n<1073741824):(do Go.eqGuard .sub 3 x y (iv n) (iv (n+1-8));Go.binOp .sub 3 (iv n) (iv (n+1-8)):Sem Value).run prog W=.ok (iv 7) W:=by
 rw[ZF n (n+1-8) underlying3 (by omega),show n-(n+1-8)=7 by omega]
theorem l8(h:i<8):i=0\/i=1\/i=2\/i=3\/i=4\/i=5\/i=6\/i=7:=by omega
theorem lM(h:i<8):(Instr.index 55 (.agg #[.bool false,.bool false,.bool false,.bool false,.bool false,.bool false,.bool false,.bool false]) (iv (i:Int))).run prog W=.ok (.bool false) W:=by
 rcases l8 h with rfl|rfl|rfl|rfl|rfl|rfl|rfl|rfl<;>kernel_rfl
theorem Lq(h:0<=n/\n<=1073741824) :
  Calls prog 62 #[iv n] w λe w'=>e=.returned (.bool true)/\Bw w w':=by
 refine tIn [] func62 trivial (tR 7 [] λa _ _=>tV 1 (.bool true) (λF C=>(rGe (t:=3) (m:=n) (n:=0) (x:=(.tmp 3)) (y:=(.const (iv 0))) (P' h.1))) (tR 6 [] λb _ _=>tE (.bool (decide (n<=1073741824))) λ_ B=>⟨by rw[P' h.2],B⟩))
theorem MM :
  Calls prog 63 #[.agg #[S3.v k,iv n,iv 0,.bool false,.bool false,.bool false,.bool false,.bool false,.bool false,.bool false,.bool false]] w λe w'=>e=.returned (.agg #[iv 0,.bool false,.bool false,.bool false,.bool false,.bool false,.bool false,.bool false,.bool false])/\Bw w w':=by
 refine tIn [] func63 trivial (tR 14 [0,0,1,0,0,0,1,0] λa _ _=>tX λF C=>qE1 2 135 1 (a 1) #[iv 0,.bool false,.bool false,.bool false,.bool false,.bool false,.bool false,.bool false,.bool false] λ_=>⟨rfl,CgQ.af C⟩)
theorem VT{t:Int}{b0 b1 b2 b3 b4 b5 b6 b7:Bool}(h:0<=t/\t<=1073741824) :
  Calls prog 102 #[.agg #[iv t,.bool b0,.bool b1,.bool b2,.bool b3,.bool b4,.bool b5,.bool b6,.bool b7]] w λe w'=>e=.returned (iv (t-8))/\Bw w w':=by
 refine tIn [] func102 trivial (tR 9 [0,0,0] λa _ _=>tV 2 (iv (t-8)) (λF C=>(ZF (x:=(.tmp 4)) (y:=(.const (iv 8))) t 8 underlying3 (by omega))) (tR 2 [] λb _ _=>tE (iv (t-8)) λ_ B=>⟨rfl,B⟩))
theorem YT :
  Calls prog 64 #[.agg #[iv 0,.bool false,.bool false,.bool false,.bool false,.bool false,.bool false,.bool false,.bool false]] w λe w'=>e=.returned (.bool true)/\Bw w w':=by
 refine tIn [] func64 trivial (tR 13 [0,0,0] λa _ _=>Fu 28 [(1,pt (a 0) 0),(6,.agg #[.bool false,.bool false,.bool false,.bool false,.bool false,.bool false,.bool false,.bool false]),(7,iv 0)] [true] [⟨(a 0),.cells #[iv 0,.bool false,.bool false,.bool false,.bool false,.bool false,.bool false,.bool false,.bool false] 135,.z,false⟩] [] (λh d c b=>∃ (i:Nat),h=8-i/\d=[(1,pt (a 0) 0),(6,.agg #[.bool false,.bool false,.bool false,.bool false,.bool false,.bool false,.bool false,.bool false]),(7,iv (i:Int))]/\c=[⟨(a 0),.cells #[iv 0,.bool false,.bool false,.bool false,.bool false,.bool false,.bool false,.bool false,.bool false] 135,.z,false⟩]/\b=[]/\i<=8) (8) ⟨0,rfl,rfl,rfl,rfl,by omega⟩ (λF=>F) ?_);rintro k _ _ _ ⟨i,rfl,rfl,rfl,rfl,p⟩ _ _ _ J g;refine tR 5 [] λj _ _=>?_;by_cases f:i<8
 .refine tI ((decide ((i:Int)<8))) true (P' (by omega)) (tR 6 [] λl _ _=>tV 1 (.bool false) (λF C=>(lM f)) (tR 18 [] λm _ _=>tV 0 (iv ((i:Int)+1)) (λF C=>(Bj 7 (i:Int) underlying3 (by omega))) (tR 2 [] λn _ _=>tB g (8-(i+1)) (by omega) [true] ⟨i+1,rfl,rfl,rfl,rfl,by omega⟩ (λF=>F))))
 .refine tI ((decide ((i:Int)<8))) false (G' (by omega)) (tR 13 [0] λo _ _=>tE (.bool true) λ_ B=>⟨rfl,B⟩)
theorem Oc(b:k.n=32)(c:0<=n/\n<=1073741824) :
  Calls prog 39 #[.agg #[S3.v k,iv n,iv 0,.bool false,.bool false,.bool false,.bool false,.bool false,.bool false,.bool false,.bool false]] w λe w'=>e=.returned (iv 0)/\Bw w w':=by
 refine tIn [] func39 trivial (tR 11 [0,0,0] λd _ _=>tV 3 (.bool false) (λF C=>(Hl (t:=3) (m:=(k.n:Int)) (n:=32) (x:=(.tmp 5)) (y:=(.const (iv 32))) (by rw[b];rfl))) (tR 3 [0] λf _ _=>tC1 7 (λF C=>Lq c) λ_=>tR 5 [0] λg _ _=>tC1 13 (λF C=>Lq (n:=0) (by omega)) λ_=>tR 4 [0] λh _ _=>tC1 18 (λF C=>MM (k:=k) (n:=n)) λ_=>tC1 19 (λF C=>YT) λ_=>tR 9 [] λa _ _=>tE (iv 0) λ_ B=>⟨rfl,B⟩))
theorem Y4(h:0<=n) :
  Calls prog 203 #[.agg #[iv 0,.bool false,.bool false,.bool false,.bool false,.bool false,.bool false,.bool false,.bool false],iv n] w λe w'=>e=.returned (.bool false)/\Bw w w':=by
 refine tIn [] func203 trivial (tR 13 [0,0,0] λa _ _=>tI ((decide (0<=n))) true (P' h) (tR 4 [] λb _ _=>tE (.bool false) λ_ B=>⟨rfl,B⟩))
theorem SE:(prog.info? 4).map (·.size)=some 1:=by kernel_rfl
theorem iS(w:World):(Go.sizeOf 4).run prog w=.ok 1 w:=by
 have h:=SE;cases hi:prog.info? 4 with
 | none=>rw[hi]at h;cases h
 | some i =>
  rw[hi]at h
  simp only[m5,X']at h;simp[sizeOf,typeInfo,hi,h]
theorem Xr(B d:Nat)(b:d<=8):∃ ad,(∀ W,(Instr.sliceAt 55 (.pointer (some ⟨B,1,none⟩)) (some (.int .i64 (d:Int))) none none).run prog W=.ok (.slice (some ad) (8-d) (8-d)) W)/\(0<8-d->ad=⟨B,1+d,none⟩):=by
 refine⟨if 8=d then⟨B,1,none⟩else(⟨B,1,none⟩:Addr).add (d*1),λW=>?_,λh=>?_⟩
 .have e1:prog.arrayLen 55=8:=by kernel_rfl
  have a:prog.elem 55=4:=by kernel_rfl
  rw[run_sliceAt_array_l (P:=prog) W 55 _ underlying55 .i64 _ (by omega) (by rw[e1];omega),e1,a,iS];simp[Result.andThen,slicedAt]
 .rw[if_neg (by omega),Nat.mul_one];exact Addr.add_mid B 1 d
theorem P6{j:Nat}(d:w.heap[b]?=some (.cells cur t))(a:cur[j]?=some v):w.setCell ⟨b,j,none⟩ v=w:=by
 have f:cur.setIfInBounds j v=cur:=by
  apply nO;intro i;rw[pL];split
  .rename_i e;subst e;rw[a,if_pos (U'.1 a).1]
  .rfl
 have c:(w.setCell ⟨b,j,none⟩ v).heap=w.heap:=by
  apply nO;intro i;unfold World.setCell;simp only[oP];split
  .rename_i e;subst e;rw[d];simp[f]
  .rfl
 rw[show w.setCell ⟨b,j,none⟩ v={ w with heap:=(w.setCell ⟨b,j,none⟩ v).heap }from rfl,c]
theorem Ns(a:w.heap[b]?=some (.cells cur t)){v:Value}(m o:Nat)(h:∀ j,j<m->cur[o+j]?=some v):w.setCells b o (List.replicate m v)=w:=by
 induction m generalizing o with
 | zero=>rfl
 | succ m ih =>
  rw[List.replicate_succ,World.setCells,P6 a (by simpa using h 0 (by omega))];exact ih (o+1) λj c=>by rw[nc,Nat.add_comm 1 j];exact h (j+1) (by omega)
theorem XJ(i y A a:TypeId)(b o d f m s z k:Nat)(v:Value)(r:P.underlying i=some (.slice a))(E:(P.info? a).map (·.size)=some 1)(q:m<=k){e c:Array Value}{t G:TypeId}(n:w.heap[b]?=some (.cells e t))(p:w.heap[d]?=some (.cells c G))(x:∀ j,j<m->e[o+j]?=some v)(B:∀ j,j<m->c[f+j]?=some v)(F:v.oneCell'=true) :
  (Builtin.copy_ #[i,y] A #[.slice (some ⟨b,o,none⟩) k s,.slice (some ⟨d,f,none⟩) m z]).run P w=.ok (iv (m:Int)) w:=by
 have D:∀ {j u},(List.replicate m v)[j]?=some u->j<m/\u=v:=λh=>by
  have:=V'.1 h;obtain⟨l,C⟩:=this;exact⟨by simpa using l,by simpa using C.symm⟩
 have:=run_copy_cells (P:=P) w i y A a b o k s ⟨d,f,none⟩ m z (List.replicate m v) r E (by rw[nH];exact(nr q).symm) (λj u g=>by
  obtain⟨l,rfl⟩:=D g;have:(⟨d,f,none⟩:Addr).add j=⟨d,f+j,none⟩:=by unfold Addr.add;split<;>simp_all
  rw[this,cell_of_row _ _ _ _ _ _ p];exact B j l) (λj g=>by rw[cell_of_row _ _ _ _ _ _ n,x j (by simpa using g)];rfl) (λj g=>frozen_of_row _ _ _ _ _ n) (λu r=>by rw[List.eq_of_mem_replicate r];exact F)
 rw[Ns n m o x]at this
 rw[this];simp[goInt]
theorem Wv(h:0<n/\n<=1073741824) :
  Calls prog 205 #[.agg #[iv 0,.bool false,.bool false,.bool false,.bool false,.bool false,.bool false,.bool false,.bool false],iv n] w λe w'=>e=.returned (.agg #[iv n,.bool false,.bool false,.bool false,.bool false,.bool false,.bool false,.bool false,.bool false])/\Bw w w':=by
 obtain⟨d,f,c⟩:∃ d:Nat,(if 8<n-0 then 8 else n-0)=(d:Int)/\d<=8:=⟨(if 8<n-0 then 8 else n-0).toNat,by split<;>omega,by split<;>omega⟩;refine tIn [] func205 trivial (tR 20 [0,0,1,0,1,0,2,0,10,0,2,4,6,8,10,0] λa _ _=>tT 6 (iv (n-0)) (λ_=>(ZF (x:=(.tmp 11)) (y:=(.tmp 13)) n 0 underlying3 (by omega))) (tT 7 (iv (d:Int)) (λ_=>(kn (ts:=#[3,3]) (t:=3) f)) ?_));obtain⟨ad,i,b⟩:=Xr (a 0) d c;refine tT 8 (.slice (some ad) (8-d) (8-d)) (λ_=>(i _)) (tW 9 (iv ((8-d:Nat):Int)) (S:=Builtin.copy_ #[281,281] 3 #[.slice (some ⟨(a 2),1,none⟩) 8 8,.slice (some ad) (8-d) (8-d)]) (λF K=>?_) ?_)
 .by_cases e:d=8
  .subst e;exact run_copy_none _ _ _ _ 4 _ _ _ _ _ _ underlying281 SE rfl
  .obtain rfl:=b (by omega);refine XJ _ _ _ 4 _ _ _ _ (8-d) _ _ _ (.bool false) underlying281 SE (by omega) (jI K 2 (a 2) #[iv n,.bool false,.bool false,.bool false,.bool false,.bool false,.bool false,.bool false,.bool false] 135 .l true (by kernel_rfl)) (jI K 0 (a 0) #[iv 0,.bool false,.bool false,.bool false,.bool false,.bool false,.bool false,.bool false,.bool false] 135 .z true (by kernel_rfl)) (λj g=>?_) (λj g=>?_) rfl
   .rcases l8 (show j<8 by omega)with rfl|rfl|rfl|rfl|rfl|rfl|rfl|rfl<;>rfl
   .obtain⟨q,hq⟩:∃ q,q=1+d+j:=⟨_,rfl⟩;rw[<- hq];rcases(by omega:q=1\/q=2\/q=3\/q=4\/q=5\/q=6\/q=7\/q=8)with rfl|rfl|rfl|rfl|rfl|rfl|rfl|rfl<;>rfl
 refine tR 6 [2,1,0] λk _ _=>tX λF C=>qE1 4 135 1 (a 1) #[iv n,.bool false,.bool false,.bool false,.bool false,.bool false,.bool false,.bool false,.bool false] λ_=>⟨rfl,CgQ.af C⟩
theorem ff(h:0<=n/\n<1073741824) :
  Calls prog 196 #[.agg #[iv 0,.bool false,.bool false,.bool false,.bool false,.bool false,.bool false,.bool false,.bool false],iv n] w λe w'=>e=.returned (.agg #[iv (n+1),.bool false,.bool false,.bool false,.bool false,.bool false,.bool false,.bool false,.bool true])/\Bw w w':=by
 refine tIn [] func196 trivial (tR 13 [1,0,1,0,0] λa _ _=>tI ((decide (0<=n))) true (P' h.1) (tR 3 [0] λc _ _=>tV 2 (iv (n+1)) (λF C=>(Bj 10 n underlying3 (by omega))) (tC 3 (λF C=>Wv (n:=n+1) ⟨by omega,by omega⟩) λb=>?_)));rintro _ _ ⟨rfl,b4⟩;refine⟨_,_,rfl,b4,id,?_⟩;refine tR 6 [0,0,0] λd _ _=>tC 2 (λF C=>VT (t:=n+1) (b0:=false) (b1:=false) (b2:=false) (b3:=false) (b4:=false) (b5:=false) (b6:=false) (b7:=false) ⟨by omega,by omega⟩) λb=>?_;rintro _ _ ⟨rfl,b6⟩;refine⟨_,_,rfl,b6,id,?_⟩;refine tV 3 (iv 7) (λF C=>(kz (x:=(.tmp 13)) (y:=(.tmp 15)) h)) (tR 9 [0,0,0,1,0] λf _ _=>tX λF C=>qE1 4 135 1 (a 1) #[iv (n+1),.bool false,.bool false,.bool false,.bool false,.bool false,.bool false,.bool false,.bool true] λ_=>⟨rfl,CgQ.af C⟩)
theorem Sl.rM(w:World)(b a:Int)(e:TypeId){g:Nat}(f:g=w.heap.size)(c:0<=b/\b<256)(d:a=b):Sl (w.alloc (.cells #[.int .u8 a] e)) (.slice (some ⟨g,0,none⟩) 1 1) [b]:=by
 subst d;exact Sl.one w a e f c
theorem Qo(a:Option Addr)(n c:Nat):∀ w,(binOp .eql 27 (.slice a n c) (.slice none 0 0)).run prog w=.ok (.bool a.isNone) w :=
 λw=>run_eql_slice_nil (P:=prog) w 27 5 a n c underlying27
theorem Vs(v:Value)(l:List Int)(w:World)(h:Sl w v l) :
  Calls prog 26 #[v] w λe w'=>∃ v',e=.returned v'/\w'.ownsRow w.heap.size 5 1 v' l.length (l.map (Value.int .u8))/\Bw w w':=by
 have o:=h;have t:=h.len;obtain⟨⟨a,c,rfl,s,j,p⟩,q,r⟩:=h;cases a with
 | none =>
  obtain rfl:=j rfl;obtain rfl:l=[]:=Y' (by omega);have n:=Qo none 0 0;go_enter func26,ntmps26
  go_wp2
  go_ret;exact⟨_,rfl,World.ownsRow_nil _ _ _ _,Below.refl _ _⟩
 | some ad =>
  have b:(w.alloc (.cells #[] 5)).ownsRow w.heap.size 5 1 (.slice (some ⟨w.heap.size,0,none⟩) 0 0) ([]:List Int).length (([]:List Int).map (Value.int .u8)):=by
   refine⟨rfl,.inr ⟨w.heap.size,0,#[],rfl,A' _,heap_alloc_new _ _,A' _,mL _,rfl,rfl⟩⟩
  have n:=Qo (some ad) l.length c;have f:=o.af ((Below.refl w.heap.size w).alloc (A' _) (.cells #[] 5));go_enter func26,ntmps26
  go_wp2_with (at_builtin;refine Aa _ rfl _ _ 27 rfl w.heap.size 5 underlying27 Av _ _ rfl rfl [] l b f (by simp;omega) (by simp) ?_)
  intro v' w' m g;have d:Bw w w':=((Below.refl w.heap.size w).alloc (A' _) (.cells #[] 5)).grown g (by simp) (λk i=>(b.lt k i).1);go_wp2
  go_ret;exact⟨v',rfl,by simpa using m,d⟩
theorem S7(n:Int)(w:World)(s:0<=n)(t:n<1073741824) :
  Calls prog 40 #[.int .i64 n] w λe w'=>∃ v',e=.returned v'/\w'.ownsRow w.heap.size 5 1 v' (Ad n).length ((Ad n).map (Value.int .u8))/\Bw w w':=by
 go_enter func40,ntmps40
 go_wp2_with fail
 go_loopw [3,4] (λv iv wr=>∃ j:Nat,j<=4/\iv=.int .i64 (3-(j:Int))/\wr.ownsRow w.heap.size 5 1 v ((Ad n).take j).length (((Ad n).take j).map (Value.int .u8))/\Bw w wr) (λ_ iv _=>(intOf iv+1).toNat)
 case atStart=>exact⟨0,by omega,rfl,World.ownsRow_nil _ _ _ _,Below.refl _ _⟩
 case round =>
  obtain⟨j,q,rfl,a,b⟩:=hrel;have f:=a.lt;have r:=b.size;by_cases p:j<4
  .have:j=0\/j=1\/j=2\/j=3:=by omega
   rcases this with rfl|rfl|rfl|rfl
   .rw[show(3:Int)-((0:Nat):Int)=3 from rfl];go_wp2_with (at_builtin;refine Aa _ rfl _ _ 27 rfl w.heap.size 5 underlying27 Av _ _ rfl rfl ((Ad n).take 0) [n/16777216%256] (a.alloc _) (Sl.rM _ (n/16777216%256) _ _ rfl (by omega) (by omega)) (by simp[Ad]) (by simp;omega) ?_)
    intro m i d c;have h:Bw w i:=(b.alloc (by omega) _).grown c (by simp;omega) (λk l=>(f k l).1);have g:Hid (i.ownsRow w.heap.size 5 1 m ((Ad n).take 1).length (((Ad n).take 1).map (Value.int .u8))):=d;clear d c a f b;go_wp2
    go_roundw
    case rel=>exact⟨1,by omega,rfl,g.out,h⟩
    case measure=>simp[intOf]
   .rw[show(3:Int)-((1:Nat):Int)=2 from rfl];go_wp2_with (at_builtin;refine Aa _ rfl _ _ 27 rfl w.heap.size 5 underlying27 Av _ _ rfl rfl ((Ad n).take 1) [n/65536%256] (a.alloc _) (Sl.rM _ (n/65536%256) _ _ rfl (by omega) (by omega)) (by simp[Ad]) (by simp;omega) ?_)
    intro m i d c;have h:Bw w i:=(b.alloc (by omega) _).grown c (by simp;omega) (λk l=>(f k l).1);have g:Hid (i.ownsRow w.heap.size 5 1 m ((Ad n).take 2).length (((Ad n).take 2).map (Value.int .u8))):=d;clear d c a f b;go_wp2
    go_roundw
    case rel=>exact⟨2,by omega,rfl,g.out,h⟩
    case measure=>simp[intOf]
   .rw[show(3:Int)-((2:Nat):Int)=1 from rfl];go_wp2_with (at_builtin;refine Aa _ rfl _ _ 27 rfl w.heap.size 5 underlying27 Av _ _ rfl rfl ((Ad n).take 2) [n/256%256] (a.alloc _) (Sl.rM _ (n/256%256) _ _ rfl (by omega) (by omega)) (by simp[Ad]) (by simp;omega) ?_)
    intro m i d c;have h:Bw w i:=(b.alloc (by omega) _).grown c (by simp;omega) (λk l=>(f k l).1);have g:Hid (i.ownsRow w.heap.size 5 1 m ((Ad n).take 3).length (((Ad n).take 3).map (Value.int .u8))):=d;clear d c a f b;go_wp2
    go_roundw
    case rel=>exact⟨3,by omega,rfl,g.out,h⟩
    case measure=>simp[intOf]
   .rw[show(3:Int)-((3:Nat):Int)=0 from rfl];go_wp2_with (at_builtin;refine Aa _ rfl _ _ 27 rfl w.heap.size 5 underlying27 Av _ _ rfl rfl ((Ad n).take 3) [n%256] (a.alloc _) (Sl.rM _ (n%256) _ _ rfl (by omega) (by omega)) (by simp[Ad]) (by simp;omega) ?_)
    intro m i d c;have h:Bw w i:=(b.alloc (by omega) _).grown c (by simp;omega) (λk l=>(f k l).1);have g:Hid (i.ownsRow w.heap.size 5 1 m ((Ad n).take 4).length (((Ad n).take 4).map (Value.int .u8))):=d;clear d c a f b;go_wp2
    go_roundw
    case rel=>exact⟨4,by omega,rfl,g.out,h⟩
    case measure=>simp[intOf]
  .obtain rfl:j=4:=by omega
   rw[show(3:Int)-((4:Nat):Int)=-1 from rfl];have o:Hid _:=a;clear a f;go_wp2
   go_ret;exact⟨_,rfl,o.out,b⟩
theorem dF(x b:Int)(f:0<=x/\x<36028797018963968)(d:0<=b/\b<256):bits .or .i64 (x*256) b=x*256+b:=by
 obtain⟨x,rfl⟩:=mS f.1;obtain⟨y,rfl⟩:=mS d.1;have e:(x:Int)*256=((x*256:Nat):Int):=by omega
 have key:(BitVec.ofInt 64 ((x*256:Nat):Int) ||| BitVec.ofInt 64 (y:Int)).toNat=x*256+y:=by
  rw[ql,pl,pl];have a:((y:Int)%((2^64:Nat):Int)).toNat=y:=by omega
  have c:(((x*256:Nat):Int)%((2^64:Nat):Int)).toNat=2^8*x:=by omega
  rw[a,c,<- oM (by omega:y<2^8)];omega
 rw[e];show IntKind.i64.wrap ((BitVec.ofInt 64 ((x*256:Nat):Int) ||| BitVec.ofInt 64 (y:Int)).toNat:Nat)=_;rw[key,IntKind.wrap_i64];omega
def K8(h:List Int):Nat->Int
 | 0=>0
 | k+1=>K8 h k*256+h.getD k 0
theorem SV{h:List Int}(a:∀ x∈h,0<=x/\x<256)(k:Nat):0<=K8 h k/\K8 h k<256^k:=by
 induction k with
 | zero=>simp[K8]
 | succ k ih =>
  have:=Al a k;rw[K8,pF];omega
theorem Sl.sP{n:Nat}(h:Sl w (.slice a n cap) l)(k:Nat)(d:k<l.length):∃ bd od,a=some ⟨bd,od,none⟩/\bd<w.heap.size/\w.cell? ⟨bd,od+k,none⟩=some (.int .u8 (l.getD k 0)):=by
 obtain⟨⟨j,c,e,m,o,f⟩,i,g⟩:=h;simp only[Value.slice.injEq]at e;obtain⟨rfl,rfl,rfl⟩:=e;rcases f with rfl|⟨b,off,rfl,hb,hcell⟩
 .simp at d
 .exact⟨b,off,rfl,hb,hcell k d⟩
theorem Pi(v:Value)(l:List Int)(w:World)(h:Sl w v l)(s:l.length=4) :
  Calls prog 202 #[v] w λe w'=>e=.returned (.int .i64 (IF l))/\w'=w:=by
 have o:Hid (K8 l 4=IF l):=by
  unfold Hid;show((((0:Int)*256+l.getD 0 0)*256+l.getD 1 0)*256+l.getD 2 0)*256+l.getD 3 0=_;unfold IF;omega
 have m:Hid (∀ x∈l,0<=x/\x<256):=h.byte;have f:=h;obtain⟨a,c,rfl⟩:=h.shape;rw[s]at f ⊢
 go_enter func202,ntmps202
 go_wp2_with fail
 go_loopw [3,8] (λv iv wr=>∃ j:Nat,j<=4/\iv=.int .i64 (j:Int)/\v=.int .i64 (K8 l j)/\wr=w) (λ_ iv _=>(4-intOf iv).toNat)
 case atStart=>exact⟨0,by omega,rfl,rfl,rfl⟩
 case round =>
  obtain⟨j,u,rfl,rfl,rfl⟩:=hrel;by_cases r:j<4
  .have hii:(j:Int)<4:=by omega
   have g:=SV m.out j;have k:K8 l j<16777216:=by
    have:(256:Int)^j<=256^3:=by
     rcases(by omega:j=0\/j=1\/j=2\/j=3)with rfl|rfl|rfl|rfl<;>decide
    omega
   have n:=Al m.out j;obtain⟨t,od,rfl,p,q⟩:=f.sP j (by omega);have b:=dF (K8 l j) (l.getD j 0) ⟨g.1,by omega⟩ n;have d:Hid (K8 l j*256+l.getD j 0=K8 l (j+1)):=rfl;have i:=g.1;clear g h f;generalize K8 l j=X at i k b d;generalize l.getD j 0=B at n q b d;go_wp2
   go_roundw
   case rel=>exact⟨j+1,by omega,by go_num,by rw[<- d.out],trivial⟩
   case measure=>simp[intOf];omega
  .obtain rfl:j=4:=by omega
   rw[show((4:Nat):Int)=4 from rfl,o.out];go_wp2
   go_ret;exact⟨rfl,rfl⟩
def MV:Array Value:=(List.replicate 12 (Value.int .u8 0)).toArray
theorem jQ(w:World):(Instr.makeSlice 27 (.int .i64 8) (.int .i64 12)).run prog w=.ok (.slice (some ⟨w.heap.size,0,none⟩) 8 12) (w.alloc (.cells MV 5)):=by
 obtain⟨i,c,d,a,b⟩:=info_parts Av;rw[run_makeSlice (P:=prog) w 27 5 i (.int .u8 0) underlying27 c d .i64 .i64 8 12 (by omega) (by omega) (by rw[a];decide) (by rw[b];decide) (by omega),a];have e:madeCells (Value.int .u8 0).cells ((12:Int).toNat*1)=MV:=by kernel_rfl
 rw[e];rfl
theorem QJ(v:Value)(l:List Int)(w:World)(h:Sl w v l)(p:l.length=4) :
  Calls prog 42 #[v] w λe w'=>∃ v',e=.returned v'/\Sl w' v' (Ce l)/\Bw w w':=by
 have m:Hid (∀ x∈Ce l,0<=x/\x<256):=QI h.byte;have g:Hid ((Ce l).length=12):=Fc p;have c:=jQ w;have a:(w.alloc (.cells MV 5)).ownsRow w.heap.size 5 1 (.slice (some ⟨w.heap.size,0,none⟩) 8 12) (List.replicate 8 (0:Int)).length ((List.replicate 8 (0:Int)).map (Value.int .u8)) :=
  ⟨rfl,.inr ⟨w.heap.size,12,MV,rfl,A' _,heap_alloc_new _ _,by decide,by simp[maxLen],rfl,rfl⟩⟩
 have b0:Bw w (w.alloc (.cells MV 5)):=(Below.refl w.heap.size w).alloc (A' _) _;have b:=h.af b0;have f:w.heap.size<=(w.alloc (.cells MV 5)).heap.size:=b0.size;generalize w.alloc (.cells MV 5)=W at c a b0 b f;go_enter func42,ntmps42
 go_wp2_with (at_builtin;refine Aa _ rfl _ _ 27 rfl w.heap.size 5 underlying27 Av _ _ rfl rfl (List.replicate 8 0) l a b (by simp;omega) f ?_)
 intro v' w' j i;have d:Bw w w':=b0.grown i f (λk o=>(a.lt k o).1);have n:Hid (w'.ownsRow w.heap.size 5 1 v' (Ce l).length ((Ce l).map (Value.int .u8))):=by
  unfold Hid;rw[g.out];exact j
 clear j i a b c;go_wp2
 go_ret;exact⟨v',rfl,Sl.ni n.out (by rw[g.out];omega) m.out,d⟩
theorem Sl.first{n:Nat}(h:Sl w (.slice a n cap) l)(m:Nat)(o:m<=l.length)(r:0<m):Sl w (.slice (a.map (·.add 0)) m m) (l.take m):=by
 obtain⟨⟨q,d,e,s,t,f⟩,k,c⟩:=h;simp only[Value.slice.injEq]at e;obtain⟨rfl,rfl,rfl⟩:=e;have j:(l.take m).length=m:=by rw[j'];omega
 rcases f with rfl|⟨b,off,rfl,hb,hcell⟩
 .simp at o;omega
 .have hadd:(⟨b,off,none⟩:Addr).add 0=⟨b,off,none⟩:=by unfold Addr.add;simp
  refine⟨⟨some ⟨b,off,none⟩,m,by rw[j,m5,hadd],by omega,by simp,.inr ⟨b,off,rfl,hb,λi g=>?_⟩⟩,by omega,λx p=>c x (mx p)⟩;rw[hcell i (by omega),AO (by omega),AO g];simp
theorem XN(a:Option Addr)(n b:Nat)(c:4<=b):∀ W,(Instr.slice 27 (.slice a n b) none (some (.int .i64 4)) (some (.int .i64 4))).run prog W=.ok (.slice (a.map (·.add 0)) 4 4) W:=by
 intro W;rw[run_slice_hm (P:=prog) W 27 a n b underlying27 .i64 .i64 4 4 (by omega) (by omega) (by omega)];have e:prog.elem 27=5:=by kernel_rfl
 rw[e,GC];simp[Result.andThen,sliced]
end
end Go.Proofs.YtdjfdfpkkenjbacGreatDoor
