/- Part 10 of the walk. -/
import Derived.Laws.IdiomCopy
import Derived.Lib.LazyBuf
import Derived.Test.YthkjeoamjgnpoaaGreatDoorZ9
set_option maxRecDepth 100000
set_option maxHeartbeats 4000000
open Go.Proofs.Tryz
set_option linter.unusedVariables false
namespace Go.Proofs.YthkjeoamjgnpoaaGreatDoor
open Go.RowKit
section
variable{E n:Int}{P:Program}{W w:World}{a:Option Addr}{b cap i:Nat}{cur:Array Value}{g:Gh}{k:S3}{l:List Int}{m:Cmd}{s:Sto}{t:TypeId}{v:Value}
theorem bZ{nb T:Nat}{p:Nod}{S:List Let}{X:List Tol}(h:NS i nb T g w p S X)(N:p.up=true)(hw:p.av.length<100000000)(c:Cmd) :
  Calls prog 91 #[pt nb 0,.agg #[iv c.k,iv c.c,iv c.s,iv c.n,iv c.v]] w (NP i nb T g w (.tuple #[]) (p.want c) S X):=by
 obtain⟨x,lt,V,d,J,hg⟩:=h;obtain⟨j,q⟩:=d.sS N;obtain⟨o,rfl⟩:∃ o:NX,x={ o with bN:=some j }:=⟨x,by cases x;simp only at q;subst q;rfl⟩;clear q;have R:AskAt g w (.n 5 i) j p.bN:=d.sQ rfl;refine gI (fn:=f91) (TN i) g func91 hg (qN d (qO J ?_));obtain⟨A,y,Q,P,M,L⟩:=id R;refine I7 j _ 5 i M A y (by kernel_rfl) ?_;refine qR [] 13 [0,0,13,0,2,4,6,8,0,10,3] λs1 g1 w1 t=>qU 6 (.tuple #[.agg #[iv ((p.bN c).getD Bf).r,iv ((p.bN c).getD Bf).n],.bool (p.bN c).isSome]) (λW hW=>(ao (g:=g) (τ:=.n 5 i) (b:=j) (f:=p.bN) ⟨A,y,Q,P,AR.at (hW rfl) 2 j (.map (Q.map mkA).toArray P) (.n 5 i) (by kernel_rfl),L⟩ c)) (qR [] 11 [14,16,18,21,0,0,23,4,0,24] λs2 g2 w2 u=>?_);by_cases E:(p.bN c).isSome=true
 .refine qI ((p.bN c).isSome) true E (qE (.tuple #[]) λK=>?_);rw[show p.want c=p from if_pos E];have O:=t.n u;exact⟨_,rfl,⟨({ o with bN:=some j }:NX),lt,V,d.ch O,J.ch O,K.new⟩,((t.nil (TN i)).n u)⟩
 .refine qI ((p.bN c).isSome) false (by simpa using E) (I8 [true,true,false,true,true] ?_);have a0:o.av.n=p.av.length:=d.av.num;refine qR [] 11 [12,0,2,4,6,8,10,0,12,2,15,0,0] λU g5 w5 B=>KD 8 (x:=({ o with bN:=some j }:NX).av) 45 45 24 5 40 (.agg #[iv 0,iv 0,iv 0,iv 0,iv 0]) ⟨(U 0),0,none⟩ 1 1 [iv c.k,iv c.c,iv c.s,iv c.n,iv c.v] (d.av.ch ((t.trans u).trans B) (by simp) (by simp)) (by kernel_rfl) (by kernel_rfl) (by kernel_rfl) underlying45 (by kernel_rfl) (by kernel_rfl) (by decide) (by decide) rfl (by simp[Value.oneCell']) (λK=>Dz K 4 (U 0) [iv c.k,iv c.c,iv c.s,iv c.n,iv c.v] 24 .z true (by kernel_rfl)) (by show o.av.n+1<=_;unfold maxLen;omega) (by show(o.av.n+1)*40<=_;omega) ?_;intro y6 g6 w6 Z n6 H G6;have F:=H w.heap.size [.n 4 i] (D'.2 rfl);refine qR [.n 0 i] 13 [18,20,22,25,0,1,8,0,2,4,6,8,0,10,2,12] λs7 g7 w7 C=>UE 7 (τ:=.n 5 i) (b:=j) c Bf (((((R.ch t).ch u).ch B).ch F).ch C) (by kernel_rfl) (by kernel_rfl) (by kernel_rfl) ?_;intro w8 Y I;have G:=I w.heap.size [.n 5 i] (D'.2 rfl);refine qR [] 1 [] λs9 g9 w9 D=>qE (.tuple #[]) λK=>?_;rw[show p.want c={ p with av:=p.av++[c],bN:=BW p.bN c (some Bf) }from if_neg E];have a:=((((((t.nil ([.n 4 i,.n 0 i,.n 5 i]:List Tg)).n u).n B).m F).m C).m G).n D;have e:Tg.z∉([.n 4 i,.n 0 i,.n 5 i]:List Tg):=by simp
  exact⟨_,rfl,⟨({ o with bN:=some j,av:=y6 }:NX),lt,V,K.nd 0 (d.tape.ch a e) (d.mv.ch a e) (B9 d.an a e) (Ci d.bu a e (by simp)) (d.fa.ch a) (d.ae.ch a) (by rw[Cu];exact(((Z.ch C).ch G).ch D)) (Y.ch D) (λ_=>⟨j,rfl⟩),J.ch a e (by simp<;>omega),K.new⟩,(((((((t.nil (TN i)).n u).n B).trans (F.mono (by simp[TN]))).trans (C.mono (by simp[TN]))).trans (G.mono (by simp[TN]))).n D)⟩
theorem OP(n g:Int)(w:World) :
  Calls prog 108 #[.int .i64 n,.int .i64 g] w λe w'=>e=.returned (.bool (decide (0<=n/\n<=g)))/\w'=w:=by
 by_cases a:0<=n
 .by_cases h1:n<=g
  .rw[O' (show 0<=n/\n<=g from⟨a,h1⟩)];go_enter func108,ntmps108
   go_wp2
   go_ret;exact⟨rfl,rfl⟩
  .rw[H' (show ¬ (0<=n/\n<=g)from λh=>h1 h.2)];go_enter func108,ntmps108
   go_wp2
   go_ret;exact⟨rfl,rfl⟩
 .rw[H' (show ¬ (0<=n/\n<=g)from λh=>a h.1)];go_enter func108,ntmps108
  go_wp2
  go_ret;exact⟨rfl,rfl⟩
theorem Ui(s:Sto)(w:World) :
  Calls prog 65 #[.agg (stA s)] w λe w'=>e=.returned (.int .i64 (NK s))/\Bw w w':=by
 have n:Bw w (w.alloc (.cells (stA s) 54)):=(Below.refl _ _).alloc (A' _) _;have p:Bs (w.alloc (.cells (stA s) 54)) w.heap.size s:=heap_alloc_new _ _;generalize x:w.alloc (.cells (stA s) 54)=W at n p;go_enter func65,ntmps65
 go_wp2_with ((with_reducible (refine Ed ?_));(refine GU rfl _ rfl w.heap.size 0 rfl s.V p.ug ?_))
 clear x
 go_loopw [9] (λiv wr=>∃ i:Nat,i<=8/\iv=.int .i64 (i:Int)/\Hid (∀ j,j<i->VaB (s.V j))/\W=wr) (λiv _=>(8-intOf iv).toNat)
 case atStart=>exact⟨0,by omega,rfl,λj r=>by omega,rfl⟩
 case round =>
  obtain⟨i,t,rfl,l,rfl⟩:=hrel;by_cases a:i<8
  .have hlt':(i:Int)<8:=by omega
   have d:=Vu s.V i a;go_wp2_with fail
   refine(OP (s.V i) 1073741824 _).mono ?_;rintro e y ⟨rfl,rfl⟩;by_cases b:0<=s.V i/\s.V i<=1073741824
   .rw[O' b];have o:Hid (∀ j,j<i+1->VaB (s.V j)):=λj r=>by
     by_cases h:j=i
     .subst h;exact b
     .exact l.out j (by omega)
    clear b d l;go_wp2
    go_roundw
    case rel=>exact⟨i+1,by omega,by go_num,o,by simp⟩
    case measure=>simp[intOf];omega
   .rw[H' b];have k:Hid (NK s=5):=Lf (λh=>b (h.1 i a));clear b d l;go_wp2
    go_ret;rw[k.out];exact⟨rfl,n⟩
  .obtain rfl:i=8:=by omega
   clear a t;go_wp2_with ((with_reducible (refine Ed ?_));(refine GU rfl _ rfl w.heap.size 8 rfl s.L p.uf ?_))
   go_loopw [18] (λiv wr=>∃ i:Nat,i<=8/\iv=.int .i64 (i:Int)/\Hid (∀ j,j<i->ClB (s.L j) (s.C j) (s.A j))/\W=wr) (λiv _=>(8-intOf iv).toNat)
   case atStart=>exact⟨0,by omega,rfl,λj r=>by omega,rfl⟩
   case round =>
    obtain⟨i,t,rfl,f,rfl⟩:=hrel;by_cases a:i<8
    .have hlt':(i:Int)<8:=by omega
     have d:=Vu s.L i a;go_wp2_with fail
     refine(OP (s.L i) 1048577 _).mono ?_;rintro e y ⟨rfl,rfl⟩;by_cases b:0<=s.L i/\s.L i<=1048577
     .rw[O' b];have u:=p.um i a;have v:=p.uk i a;have z:(0:Int)<=(i:Int):=by omega
      by_cases m:s.L i=0
      .rw[m];by_cases c:s.C i=0/\s.A i=0
       .rw[c.1]at u
        rw[c.2]at v
        have o:Hid (∀ j,j<i+1->ClB (s.L j) (s.C j) (s.A j)):=λj r=>by
         by_cases h:j=i
         .subst h;exact⟨b,λ_=>c⟩
         .exact f.out j (by omega)
        clear b d c m f;go_wp2
        go_roundw
        case rel=>exact⟨i+1,by omega,by go_num,o,by simp⟩
        case measure=>simp[intOf];omega
       .have k:Hid (NK s=5):=Lf (λh=>c ((h.2 i a).2 m));have q:=ef (s.C i) (s.A i);rw[H' c]at q
        clear b d c m f l;go_wp2
        go_ret;rw[k.out];exact⟨rfl,n⟩
      .have o:Hid (∀ j,j<i+1->ClB (s.L j) (s.C j) (s.A j)):=λj r=>by
        by_cases h:j=i
        .subst h;exact⟨b,λg=>absurd g m⟩
        .exact f.out j (by omega)
       have q:(s.L i==0)=false:=by simpa using m
       clear b d f;go_wp2
       go_roundw
       case rel=>exact⟨i+1,by omega,by go_num,o,by simp⟩
       case measure=>simp[intOf];omega
     .rw[H' b];have k:Hid (NK s=5):=Lf (λh=>b (h.2 i a).1);clear b d l f;go_wp2
      go_ret;rw[k.out];exact⟨rfl,n⟩
    .obtain rfl:i=8:=by omega
     have k:Hid (NK s=0):=fi ⟨l.out,f.out⟩;clear a t f l;go_wp2
     go_ret;rw[k.out];exact⟨rfl,n⟩
theorem lt8(h:i<8):i=0\/i=1\/i=2\/i=3\/i=4\/i=5\/i=6\/i=7:=by omega
theorem XB(s:Sto)(k:Int)(b c:Nat)(q v:Int)(w:World)(B:1<=k/\k<=3)(n:b<8)(g:c<8)(D:0<=q)(E:q<=1048576){S:Sto}(m:Ge s ⟨k,(b:Int),q,(c:Int),v⟩=S){A:Int}(j:Ti s ⟨k,(b:Int),q,(c:Int),v⟩=A) :
  Calls prog 109 #[.agg (stA s),.agg #[iv k,iv (b:Int),iv q,iv (c:Int),iv v]] w λe w'=>e=.returned (.tuple #[.agg (stA S),.agg #[iv 0,iv A]])/\Bw w w':=by
 subst m j;refine tIn [] func109 trivial (tR 17 [1,0,0,0,1,0,1,0,1,0,1] λa _ _=>Je 48 (λi h d=>i=[(2,pt (a 0) 0),(3,pt (a 1) 0),(4,pt (a 2) 0),(5,pt (a 3) 0),(6,pt (a 4) 0)]/\h=[⟨(a 0),.cells (stA (Sto.mk (Ge s ⟨k,(b:Int),q,(c:Int),v⟩).V s.L s.C s.A (Ge s ⟨k,(b:Int),q,(c:Int),v⟩).R)) 54,.l,false⟩,⟨(a 1),.cells #[iv k,iv (b:Int),iv q,iv (c:Int),iv v] 24,.z,false⟩,⟨(a 2),.cells (stA AC) 54,.l,false⟩,⟨(a 3),.cells #[iv 0,iv 0] 50,.l,false⟩,⟨(a 4),.cells #[iv 0,iv (Ti s ⟨k,(b:Int),q,(c:Int),v⟩)] 50,.l,false⟩]/\d=[]) (λJ f=>?_) ?_)
 .rcases(show k=1\/k=2\/k=3 by omega)with rfl|rfl|rfl
  .rcases lt8 g with rfl|rfl|rfl|rfl|rfl|rfl|rfl|rfl <;>
    (refine tR 24 [1,1,0,0,1,4,0] λo _ _=>?_;exact tD f [true,true,true,true,true] ⟨rfl,rfl,rfl⟩ (λF=>F))
  .rcases lt8 g with rfl|rfl|rfl|rfl|rfl|rfl|rfl|rfl <;>
    (refine tR 23 [1,0,4,0] λp _ _=>?_;exact tD f [true,true,true,true,true] ⟨rfl,rfl,rfl⟩ (λF=>F))
  .rcases lt8 g with rfl|rfl|rfl|rfl|rfl|rfl|rfl|rfl <;>
    (refine tR 27 [1,0,0] λr _ _=>?_;exact tD f [true,true,true,true,true] ⟨rfl,rfl,rfl⟩ (λF=>F))
 rintro _ _ _ ⟨rfl,rfl,rfl⟩ _ _ _;rcases lt8 n with rfl|rfl|rfl|rfl|rfl|rfl|rfl|rfl <;>
  (refine tR 6 [1,1] λt _ _=>?_;refine tV 4 (iv (q+1)) (λF C=>(AX 37 q underlying3 (by omega))) ?_;refine tR 16 [0,0,1,4,0,0,2,0,0] λu _ _=>?_;exact Hr 1 2 (by refine tR 4 [4,5,2,0,7,3,0] λx _ _=>?_;exact tX λF C=>qE4 4 5 54 50 2 (a 2) 3 (a 3) (stA _) #[iv 0,iv _] λ_=>⟨rfl,CgQ.af C⟩) (by refine tR 4 [2,0,3,4,7,3,0] λy _ _=>?_;exact tX λF C=>qE4 4 5 54 50 2 (a 2) 3 (a 3) (stA _) #[iv 0,iv _] λ_=>⟨rfl,CgQ.af C⟩))
theorem Xu(s:Sto)(k:Int)(c d:Nat)(q v:Int)(w:World)(k0:0<=k)(k3:k<=3)(U:c<8)(hn:d<8)(q0:0<=q)(q1:q<=1048576) :
  Calls prog 66 #[.agg (stA s),.agg #[iv k,iv (c:Int),iv q,iv (d:Int),iv v]] w λe w'=>e=.returned (.tuple #[.agg (stA (dnS s ⟨k,c,q,d,v⟩)),.agg #[iv (dnC s ⟨k,c,q,d,v⟩),iv (dnA s ⟨k,c,q,d,v⟩)]])/\Bw w w':=by
 have a4:∀ b,w.heap.size<=b->gS.t b=.z/\gS.k b=0:=λ_ _=>⟨rfl,rfl⟩;refine gI (fn:=f66) [] gS func66 a4 (qR [] 14 [0,0,0,0,1,0,1,0,1] λa g1 w1 x=>?_);by_cases h:k=0
 .refine qI ((k==0)) true (by simpa using h) (qR [] 7 [0,2,0,3,0] λf3 g2 w2 c2=>?_);rw[show dnS s ⟨k,c,q,d,v⟩=s from if_neg (λg=>g.1 h),show dnC s ⟨k,c,q,d,v⟩=0 from if_pos h,show dnA s ⟨k,c,q,d,v⟩=0 from if_pos h];exact qE4 4 5 54 50 2 (a 2) 3 (a 3) (stA s) #[iv 0,iv 0] λK=>⟨rfl,Cg.af (x.trans c2) (λ_ _=>Q')⟩
 .refine qI ((k==0)) false (by simpa using h) (qR [] 3 [] λf4 g3 w3 G=>Ea 49 (λN w' e L=>e=[(2,pt (a 0) 0),(3,pt (a 1) 0),(4,pt (a 2) 0),(5,pt (a 3) 0),(6,iv (s.L c))]/\L=[⟨(a 0),.cells (stA s) 54,.z,false⟩,⟨(a 1),.cells #[iv k,iv (c:Int),iv q,iv (d:Int),iv v] 24,.z,false⟩,⟨(a 2),.cells (stA AC) 54,.l,false⟩,⟨(a 3),.cells #[iv 0,iv 0] 50,.l,false⟩]/\True/\Cg w.heap.size ([]:List Tg) g3 w3 N w') (by kernel_rfl) ?_ ?_)
  .intro J hJ;rcases lt8 U with rfl|rfl|rfl|rfl|rfl|rfl|rfl|rfl <;>
   (refine qR [] 7 [1,0] λf5 g5 w5 c5=>?_;exact qB [true,true,true,true] λz Q K=>hJ _ _ _ z _ ⟨rfl,rfl,trivial,(c5.nil ([]:List Tg))⟩ K)
  rintro g4 w4 _ z4 _ ⟨rfl,rfl,_,H⟩;refine qR [] 7 [1] λf6 g6 w6 I=>qV 3 (iv (q+1)) (AX 20 q underlying3 (by omega)) (qR [] 3 [] λf7 g7 w7 M=>?_);by_cases i:s.L c=q+1
  .refine qI (((s.L c)==(q+1))) true (by simpa using i) (qR [] 2 [6] λf8 g8 w8 c8=>Ea 49 (λN w' e L=>e=[(2,pt (a 0) 0),(3,pt (a 1) 0),(4,pt (a 2) 0),(5,pt (a 3) 0)]/\L=[⟨(a 0),.cells (stA s) 54,.z,false⟩,⟨(a 1),.cells #[iv k,iv (c:Int),iv q,iv (d:Int),iv v] 24,.z,false⟩,⟨(a 2),.cells (stA s) 54,.l,false⟩,⟨(a 3),.cells #[iv (s.C c),iv (s.A c)] 50,.l,false⟩]/\True/\Cg w.heap.size ([]:List Tg) g8 w8 N w') (by kernel_rfl) ?_ ?_)
   .intro J hJ;rcases lt8 U with rfl|rfl|rfl|rfl|rfl|rfl|rfl|rfl <;>
    (refine qR [] 3 [0,0,2,6] λa8 c0 e0 p=>?_;exact DT 2 6 (by kernel_rfl) (by(refine qR [] 2 [1,8] λa9 d0 e1 E=>?_;exact DT 5 6 (by kernel_rfl) (by(refine qR [] 4 [0,13,2,0,15,3,0] λb0 d1 e2 V=>?_;exact qB [true,true,true,true] λz Q K=>hJ _ _ _ z _ ⟨rfl,rfl,trivial,(((p.nil ([]:List Tg)).n E).n V)⟩ K)) (by(refine qR [] 4 [2,0,11,0,15,3,0] λb1 d2 e3 W=>?_;exact qB [true,true,true,true] λz Q K=>hJ _ _ _ z _ ⟨rfl,rfl,trivial,(((p.nil ([]:List Tg)).n E).n W)⟩ K)))) (by(refine qR [] 6 [2,0,5,1,8,11,0,15,3,0] λb2 d3 e4 X=>?_;exact qB [true,true,true,true] λz Q K=>hJ _ _ _ z _ ⟨rfl,rfl,trivial,((p.nil ([]:List Tg)).n X)⟩ K)))
   rintro g9 w9 _ z9 _ ⟨rfl,rfl,_,c9⟩;rw[show dnS s ⟨k,c,q,d,v⟩=s from if_neg (λg=>g.2.1 (by show q<s.L c;omega)),show dnC s ⟨k,c,q,d,v⟩=s.C c from(if_neg h).trans (if_pos i),show dnA s ⟨k,c,q,d,v⟩=s.A c from(if_neg h).trans (if_pos i)];exact qE4 4 5 54 50 2 (a 2) 3 (a 3) (stA s) #[iv (s.C c),iv (s.A c)] λK=>⟨rfl,Cg.af ((((((x.trans G).trans H).trans I).trans M).trans c8).trans c9) (λ_ _=>Q')⟩
  .refine qI (((s.L c)==(q+1))) false (by simpa using i) (qR [] 8 [1] λb3 d4 e5 m=>?_);by_cases j:q<s.L c
   .refine qI ((decide (q<(s.L c)))) true (O' j) (qR [] 7 [0,2,0,3,0] λb4 d5 e6 Y=>?_);rw[show dnS s ⟨k,c,q,d,v⟩=s from if_neg (λg=>g.2.1 j),show dnC s ⟨k,c,q,d,v⟩=7 from(if_neg h).trans ((if_neg i).trans (if_pos j)),show dnA s ⟨k,c,q,d,v⟩=0 from(if_neg h).trans ((if_neg i).trans (if_pos j))];exact qE4 4 5 54 50 2 (a 2) 3 (a 3) (stA s) #[iv 7,iv 0] λK=>⟨rfl,Cg.af ((((((x.trans G).trans H).trans I).trans M).trans m).trans Y) (λ_ _=>Q')⟩
   .refine qI ((decide (q<(s.L c)))) false (H' j) (qR [] 2 [] λb5 a3 a5 r=>Ea 49 (λN w' e L=>e=[(2,pt (a 0) 0),(3,pt (a 1) 0),(4,pt (a 2) 0),(5,pt (a 3) 0),(36,.bool (s.R c))]/\L=[⟨(a 0),.cells (stA s) 54,.z,false⟩,⟨(a 1),.cells #[iv k,iv (c:Int),iv q,iv (d:Int),iv v] 24,.z,false⟩,⟨(a 2),.cells (stA AC) 54,.l,false⟩,⟨(a 3),.cells #[iv 0,iv 0] 50,.l,false⟩]/\True/\Cg w.heap.size ([]:List Tg) a3 a5 N w') (by kernel_rfl) ?_ ?_)
    .intro J hJ;rcases lt8 U with rfl|rfl|rfl|rfl|rfl|rfl|rfl|rfl <;>
     (refine qR [] 7 [1,0] λb6 d7 e8 Z=>?_;exact qB [true,true,true,true] λz Q K=>hJ _ _ _ z _ ⟨rfl,rfl,trivial,(Z.nil ([]:List Tg))⟩ K)
    rintro d6 e7 _ f2 _ ⟨rfl,rfl,_,u⟩;by_cases o:s.R c=true
    .refine qI ((s.R c)) true o (qR [] 7 [0,2,0,3,0] λb7 d8 e9 a0=>?_);rw[show dnS s ⟨k,c,q,d,v⟩=s from if_neg (λg=>Bool.noConfusion (o.symm.trans g.2.2)),show dnC s ⟨k,c,q,d,v⟩=11 from(if_neg h).trans ((if_neg i).trans ((if_neg j).trans (if_pos o))),show dnA s ⟨k,c,q,d,v⟩=0 from(if_neg h).trans ((if_neg i).trans ((if_neg j).trans (if_pos o)))];exact qE4 4 5 54 50 2 (a 2) 3 (a 3) (stA s) #[iv 11,iv 0] λK=>⟨rfl,Cg.af ((((((((x.trans G).trans H).trans I).trans M).trans m).trans r).trans u).trans a0) (λ_ _=>Q')⟩
    .refine qI ((s.R c)) false (by simpa using o) ?_;obtain⟨S,hS⟩:∃ S,Ge s ⟨k,c,q,d,v⟩=S:=⟨_,rfl⟩;obtain⟨A,hA⟩:∃ A,Ti s ⟨k,c,q,d,v⟩=A:=⟨_,rfl⟩;refine qR [] 6 [0,1] λb8 O P F=>?_;have a6:=(Cg.af ((((((((x.trans G).trans H).trans I).trans M).trans m).trans r).trans u).trans F) (λ_ _=>Q'));refine Af λy=>?_;have a7:∀ z,P.heap.size<=z->O.t z=.z:=λz hz=>(y.new z hz).1;refine qC 2 (XB s k c d q v P (by omega) U hn q0 q1 hS hA) ?_;rintro e' f0 ⟨rfl,D⟩;refine⟨_,rfl,D,?_⟩;have a1:=Cg.eb (B:=w.heap.size) (T:=[]) (g:=O) D;refine qR [] 5 [2,0,3,0] λb9 d9 f1 a2=>?_;rw[show dnS s ⟨k,c,q,d,v⟩=S from(if_pos ⟨h,j,by simpa using o⟩).trans hS,show dnC s ⟨k,c,q,d,v⟩=0 from(if_neg h).trans ((if_neg i).trans ((if_neg j).trans (if_neg o))),show dnA s ⟨k,c,q,d,v⟩=A from(if_neg h).trans ((if_neg i).trans ((if_neg j).trans ((if_neg o).trans hA)))];exact qE4 4 5 54 50 2 (a 2) 3 (a 3) (stA S) #[iv 0,iv A] λK=>⟨rfl,Cg.af ((((((((((x.trans G).trans H).trans I).trans M).trans m).trans r).trans u).trans F).trans a1).trans a2) (λ_ _=>Q')⟩
theorem bS(j:m.e=0){S:Sto}(i:dnS s m=S){C A:Int}(h:dnC s m=C)(g:dnA s m=A) :
  Calls prog 66 #[.agg (stA s),.agg #[iv m.k,iv m.c,iv m.s,iv m.n,iv m.v]] w λe w'=>e=.returned (.tuple #[.agg (stA S),.agg #[iv C,iv A]])/\Bw w w':=by
 subst i h g;obtain⟨k,c,q,n,v⟩:=m;obtain⟨b,f⟩:=KX j;unfold InC at f;simp only at b f ⊢;obtain⟨a,rfl⟩:∃ a:Nat,c=(a:Int):=⟨c.toNat,by omega⟩;obtain⟨d,rfl⟩:∃ d:Nat,n=(d:Int):=⟨n.toNat,by omega⟩;exact Xu s k a d q v w b.1 b.2 (by omega) (by omega) (by omega) (by omega)
theorem Xt(a:NK s=E):Calls prog 65 #[.agg (stA s)] w λe w'=>e=.returned (iv E)/\Bw w w':=by subst a;exact Ui s w
theorem WB(b:NTab w){E:Int}(a:m.e=E):Calls prog 27 #[.agg #[iv m.k,iv m.c,iv m.s,iv m.n,iv m.v]] w λe w'=>e=.returned (iv E)/\Bw w w':=by subst a;exact EB m.k m.c m.s m.n m.v w b
theorem gy(s:Sto)(m:Cmd)(w:World)(hN:NTab w) :
  Calls prog 37 #[.agg (stA s),.agg #[iv m.k,iv m.c,iv m.s,iv m.n,iv m.v]] w λe w'=>e=.returned (.tuple #[.agg (stA (doS s m)),.agg #[iv (doC s m),iv (doA s m)],iv (doE s m)])/\Bw w w':=by
 obtain⟨E,o⟩:∃ E,NK s=E:=⟨_,rfl⟩;obtain⟨F,Y⟩:∃ F,m.e=F:=⟨_,rfl⟩;have Z:∀ b,w.heap.size<=b->gS.t b=.z/\gS.k b=0:=λ_ _=>⟨rfl,rfl⟩;refine gI (fn:=f37) [] gS func37 Z (qR [] 12 [0,0,0,0,1,0,1,0,0] λa g1 w1 j=>?_);have a5:=(Cg.af j (λ_ _=>Q'));refine Af λI=>?_;have a9:∀ z,w1.heap.size<=z->g1.t z=.z:=λz D=>(I.new z D).1;refine qC 1 (Xt o) ?_;rintro e' w2 ⟨rfl,b2⟩;refine⟨_,rfl,b2,?_⟩;have r:=Cg.eb (B:=w.heap.size) (T:=[]) (g:=g1) b2;refine qR [] 7 [] λb8 g3 w3 u=>?_;by_cases x:E≠0
 .refine qI ((E != 0)) true (by simpa using x) (qR [] 9 [2,0,3,0] λb9 g4 w4 c4=>?_);have h:doE s m=E:=by unfold doE;unfold NK at o;split at o;exact absurd o.symm x;rename_i g;rw[if_neg g];exact o
  have d:doE s m≠0:=by rw[h];exact x
  rw[Yr d,Ym d,show doA s m=0 from if_neg d,h];exact qE5 4 5 6 54 50 2 (a 2) 3 (a 3) (stA AC) #[iv 0,iv 0] (iv E) λK=>⟨rfl,(Cg.af (((j.trans r).trans u).trans c4) (λ_ _=>Q'))⟩
 .refine qI ((E != 0)) false (by simpa using x) ?_;have hB:Fg s:=pU λg=>absurd (o.symm.trans (Lf g)) (by rw[show E=0 from by simpa using x];decide);refine qR [] 5 [1] λc0 g5 w5 G=>?_;have N:=(Cg.af (((j.trans r).trans u).trans G) (λ_ _=>Q'));refine Af λM=>?_;have b0:∀ z,w5.heap.size<=z->g5.t z=.z:=λz D=>(M.new z D).1;refine qC 1 (WB (hN.af N) Y) ?_;rintro e' w6 ⟨rfl,b6⟩;refine⟨_,rfl,b6,?_⟩;have V:=Cg.eb (B:=w.heap.size) (T:=[]) (g:=g5) b6;refine qR [] 7 [] λd0 g7 w7 W=>?_;by_cases H:F≠0
  .refine qI ((F != 0)) true (by simpa using H) (qR [] 9 [2,0,3,0] λd1 g8 w8 c8=>?_);have h:doE s m=F:=(if_pos hB).trans Y;have d:doE s m≠0:=by rw[h];exact H
   rw[Yr d,Ym d,show doA s m=0 from if_neg d,h];exact qE5 4 5 6 54 50 2 (a 2) 3 (a 3) (stA AC) #[iv 0,iv 0] (iv F) λK=>⟨rfl,(Cg.af ((((((j.trans r).trans u).trans G).trans V).trans W).trans c8) (λ_ _=>Q'))⟩
  .refine qI ((F != 0)) false (by simpa using H) ?_;have y:m.e=0:=by rw[Y];simpa using H
   have h:doE s m=0:=(if_pos hB).trans y;obtain⟨S,hS⟩:∃ S,dnS s m=S:=⟨_,rfl⟩;obtain⟨C,hC⟩:∃ C,dnC s m=C:=⟨_,rfl⟩;obtain⟨A,hA⟩:∃ A,dnA s m=A:=⟨_,rfl⟩;refine qR [] 5 [0,1] λd2 g9 w9 c9=>?_;have a1:=(Cg.af ((((((j.trans r).trans u).trans G).trans V).trans W).trans c9) (λ_ _=>Q'));refine Af λp=>?_;have a2:∀ z,w9.heap.size<=z->g9.t z=.z:=λz D=>(p.new z D).1;refine qC 2 (bS y hS hC hA) ?_;rintro e' b1 ⟨rfl,q⟩;refine⟨_,rfl,q,?_⟩;have O:=Cg.eb (B:=w.heap.size) (T:=[]) (g:=g9) q;refine qR [] 11 [0,0,0,0,4,0,5,0,2,0,4] λi X a0 P=>Ea 33 (λg' w' e L=>e=[(4,pt (a 2) 0),(5,pt (a 3) 0),(6,iv 0)]/\L=[⟨(a 0),.cells (stA s) 54,.z,false⟩,⟨(a 1),.cells #[iv m.k,iv m.c,iv m.s,iv m.n,iv m.v] 24,.z,false⟩,⟨(a 2),.cells (stA S) 54,.l,false⟩,⟨(a 3),.cells #[iv C,iv A] 50,.l,false⟩,⟨(i 0),.cells (stA S) 54,.z,false⟩,⟨(i 1),.cells #[iv C,iv A] 50,.z,false⟩]/\True/\Cg w.heap.size ([]:List Tg) X a0 g' w') (by kernel_rfl) ?_ ?_
   .intro J hJ
    (exact DT 1 2 (by kernel_rfl) (by(refine qR [] 5 [5,5,2,0,7,3,0,8] λa3 a7 b4 R=>?_;exact qB [true,true,true,true,true,true] λz K0 K=>hJ _ _ _ z _ ⟨rfl,rfl,trivial,(R.nil ([]:List Tg))⟩ K)) (by(refine qR [] 5 [2,0,3,5,7,3,0,8] λa4 a8 b5 U=>?_;exact qB [true,true,true,true,true,true] λz K0 K=>hJ _ _ _ z _ ⟨rfl,rfl,trivial,(U.nil ([]:List Tg))⟩ K)))
   rintro a6 b3 _ b7 _ ⟨rfl,rfl,_,Q⟩;rw[Pi h,Yn h,Yl h,h,hS,hC,hA];exact qE5 4 5 6 54 50 2 (a 2) 3 (a 3) (stA S) #[iv C,iv A] (iv 0) λK=>⟨rfl,(Cg.af (((((((((j.trans r).trans u).trans G).trans V).trans W).trans c9).trans O).trans P).trans Q) (λ_ _=>Q'))⟩
theorem DO(s:Sto)(k c q n v:Int)(w:World)(a:NTab w) :
  Calls prog 37 #[.agg (stA s),.agg (cmA k c q n v)] w λe w'=>e=.returned (.tuple #[.agg (stA (doS s ⟨k,c,q,n,v⟩)),.agg #[.int .i64 (doC s ⟨k,c,q,n,v⟩),.int .i64 (doA s ⟨k,c,q,n,v⟩)],.int .i64 (doE s ⟨k,c,q,n,v⟩)])/\Bw w w':=gy s ⟨k,c,q,n,v⟩ w a
theorem iB(c:Int)(w:World)(f:0<=c)(n:c<=7)(h:AD w) :
  Calls prog 16 #[.int .i64 c] w λe w'=>∃ v',e=.returned (.tuple #[v',.int .i64 0])/\w'.ownsRow w.heap.size 5 1 v' (IB c).length ((IB c).map (Value.int .u8))/\Bw w w':=by
 have l:decide (c<0)=false:=by simp;omega
 have m:decide ((7:Int)<c)=false:=by simp;omega
 have o:IntKind.u8.wrap c=c:=by rw[show IntKind.u8.wrap c=c%256 from rfl];omega
 have p:=Go.Joins.run_convert_bytes_const_at (P:=prog) (w.alloc (.cells #[.int .u8 c] 5)) 27 5 #[.int .u8 99,.int .u8 108,.int .u8 105,.int .u8 101,.int .u8 110,.int .u8 116] 6 6 (w.heap.size+1) (by simp) underlying27 underlying5;go_enter func16,ntmps16
 go_wp2_with fail
 have s0:Sl (w.alloc (.cells #[.int .u8 c] 5)) (.slice (some ⟨w.heap.size,0,none⟩) 1 1) [c]:=Sl.one w c 5 rfl ⟨f,by omega⟩;have b0:Bw w (w.alloc (.cells #[.int .u8 c] 5)):=(Below.refl _ _).alloc (A' _) _;have j:=Sl.uA (w.alloc (.cells #[.int .u8 c] 5)) [99,108,105,101,110,116] 5 (6,7) (g:=w.heap.size+1) (by simp) rfl (by simp);have a:Bw w ((w.alloc (.cells #[.int .u8 c] 5)).alloc (.cells #[.int .u8 99,.int .u8 108,.int .u8 105,.int .u8 101,.int .u8 110,.int .u8 116] 5 (6,7))):=b0.alloc (by simp) _;have b:=s0.af ((Below.refl (w.alloc (.cells #[.int .u8 c] 5)).heap.size _).alloc (A' _) (.cells #[.int .u8 99,.int .u8 108,.int .u8 105,.int .u8 101,.int .u8 110,.int .u8 116] 5 (6,7)));refine(Um _ _ _ [c] [99,108,105,101,110,116] [] 32 _ b j (Sl.nil _ _) (by simp) (by simp) (by simp) (by omega) (h.af a)).mono ?_;rintro e q ⟨k,rfl,i,d⟩;go_wp2
 go_ret2
 exact⟨k,rfl,BL i a.size,a.trans (d.mono a.size)⟩
theorem iA(c:Int)(w:World)(h:c<0\/7<c) :
  Calls prog 16 #[.int .i64 c] w λe w'=>e=.returned (.tuple #[.slice none 0 0,.int .i64 2])/\w'=w:=by
 by_cases b:c<0
 .have d0:decide (c<0)=true:=by simp;omega
  go_enter func16,ntmps16
  go_wp2
  go_ret2
  exact⟨rfl,rfl⟩
 .have d0:decide (c<0)=false:=by simp;omega
  have a:decide ((7:Int)<c)=true:=by simp;omega
  go_enter func16,ntmps16
  go_wp2
  go_ret2
  exact⟨rfl,rfl⟩
theorem SV(w:World)(d:AD w) :
  Calls prog 14 #[] w λe w'=>∃ v',e=.returned v'/\w'.ownsRow w.heap.size 5 1 v' Fo.length (Fo.map (Value.int .u8))/\Bw w w':=by
 have j:=Go.Joins.run_convert_bytes_const_at (P:=prog) (w.alloc (.cells #[.int .u8 255] 5)) 27 5 #[.int .u8 105,.int .u8 115,.int .u8 115,.int .u8 117,.int .u8 101,.int .u8 114] 6 6 (w.heap.size+1) (by simp) underlying27 underlying5;go_enter func14,ntmps14
 go_wp2_with fail
 have s0:Sl (w.alloc (.cells #[.int .u8 255] 5)) (.slice (some ⟨w.heap.size,0,none⟩) 1 1) [255]:=Sl.one w 255 5 rfl ⟨by omega,by omega⟩;have b0:Bw w (w.alloc (.cells #[.int .u8 255] 5)):=(Below.refl _ _).alloc (A' _) _;have h:=Sl.uA (w.alloc (.cells #[.int .u8 255] 5)) [105,115,115,117,101,114] 5 (6,7) (g:=w.heap.size+1) (by simp) rfl (by simp);have a:Bw w ((w.alloc (.cells #[.int .u8 255] 5)).alloc (.cells #[.int .u8 105,.int .u8 115,.int .u8 115,.int .u8 117,.int .u8 101,.int .u8 114] 5 (6,7))):=b0.alloc (by simp) _;have b:=s0.af ((Below.refl (w.alloc (.cells #[.int .u8 255] 5)).heap.size _).alloc (A' _) (.cells #[.int .u8 105,.int .u8 115,.int .u8 115,.int .u8 117,.int .u8 101,.int .u8 114] 5 (6,7)));refine(Um _ _ _ [255] [105,115,115,117,101,114] [] 32 _ b h (Sl.nil _ _) (by simp) (by simp) (by simp) (by omega) (d.af a)).mono ?_;rintro e k ⟨i,rfl,f,c⟩;go_wp2
 go_ret;exact⟨i,rfl,BL f a.size,a.trans (c.mono a.size)⟩
theorem kD{B:Nat}{L:List Sh}(h:Kn B g w L)(k b:Nat)(a:Array Value)(e:TypeId)(t:Tg)(v:Bool)(c:L[k]?=some ⟨b,.cells a e,t,v⟩):w.heap[b]?=some (.cells a e):=(h.row _ (np c)).1
theorem lA{ts:Array TypeId}{a b d:Int}(h:(if b<a then b else a)=d):(Builtin.min_ ts t #[iv a,iv b]).run P W=.ok (iv d) W:=by subst h;exact run_min_int2 _ _ _ _ _ _ _
theorem lL{x y:Operand}(h:0<=n/\n<1073741824):(do Go.eqGuard .sub 3 x y (iv n) (iv (n+1-8));Go.binOp .sub 3 (iv n) (iv (n+1-8)):Sem Value).run prog W=.ok (iv 7) W:=by
 rw[aq n (n+1-8) underlying3 (by omega),show n-(n+1-8)=7 by omega]
theorem l8(h:i<8):i=0\/i=1\/i=2\/i=3\/i=4\/i=5\/i=6\/i=7:=by omega
theorem mB(h:i<8):(Instr.index 52 (.agg #[.bool false,.bool false,.bool false,.bool false,.bool false,.bool false,.bool false,.bool false]) (iv (i:Int))).run prog W=.ok (.bool false) W:=by
 rcases l8 h with rfl|rfl|rfl|rfl|rfl|rfl|rfl|rfl<;>kernel_rfl
theorem LA(h:0<=n/\n<=1073741824) :
  Calls prog 73 #[iv n] w λe w'=>e=.returned (.bool true)/\Bw w w':=by
 refine tIn [] func73 trivial (tR 7 [] λa _ _=>tV 1 (.bool true) (λF C=>(rGe (t:=3) (m:=n) (n:=0) (x:=(.tmp 3)) (y:=(.const (iv 0))) (O' h.1))) (tR 6 [] λb _ _=>tE (.bool (decide (n<=1073741824))) λ_ B=>⟨by rw[O' h.2],B⟩))
theorem Ng :
  Calls prog 74 #[.agg #[S3.v k,iv n,iv 0,.bool false,.bool false,.bool false,.bool false,.bool false,.bool false,.bool false,.bool false]] w λe w'=>e=.returned (.agg #[iv 0,.bool false,.bool false,.bool false,.bool false,.bool false,.bool false,.bool false,.bool false])/\Bw w w':=by
 refine tIn [] func74 trivial (tR 14 [0,0,1,0,0,0,1,0] λa _ _=>tX λF C=>qE1 2 155 1 (a 1) #[iv 0,.bool false,.bool false,.bool false,.bool false,.bool false,.bool false,.bool false,.bool false] λ_=>⟨rfl,CgQ.af C⟩)
theorem Wr{t:Int}{b0 b1 b2 b3 b4 b5 b6 b7:Bool}(h:0<=t/\t<=1073741824) :
  Calls prog 114 #[.agg #[iv t,.bool b0,.bool b1,.bool b2,.bool b3,.bool b4,.bool b5,.bool b6,.bool b7]] w λe w'=>e=.returned (iv (t-8))/\Bw w w':=by
 refine tIn [] func114 trivial (tR 9 [0,0,0] λa _ _=>tV 2 (iv (t-8)) (λF C=>(aq (x:=(.tmp 4)) (y:=(.const (iv 8))) t 8 underlying3 (by omega))) (tR 2 [] λb _ _=>tE (iv (t-8)) λ_ B=>⟨rfl,B⟩))
theorem Zu :
  Calls prog 75 #[.agg #[iv 0,.bool false,.bool false,.bool false,.bool false,.bool false,.bool false,.bool false,.bool false]] w λe w'=>e=.returned (.bool true)/\Bw w w':=by
 refine tIn [] func75 trivial (tR 13 [0,0,0] λa _ _=>Ek 28 [(1,pt (a 0) 0),(6,.agg #[.bool false,.bool false,.bool false,.bool false,.bool false,.bool false,.bool false,.bool false]),(7,iv 0)] [true] [⟨(a 0),.cells #[iv 0,.bool false,.bool false,.bool false,.bool false,.bool false,.bool false,.bool false,.bool false] 155,.z,false⟩] [] (λh d c b=>∃ (i:Nat),h=8-i/\d=[(1,pt (a 0) 0),(6,.agg #[.bool false,.bool false,.bool false,.bool false,.bool false,.bool false,.bool false,.bool false]),(7,iv (i:Int))]/\c=[⟨(a 0),.cells #[iv 0,.bool false,.bool false,.bool false,.bool false,.bool false,.bool false,.bool false,.bool false] 155,.z,false⟩]/\b=[]/\i<=8) (8) ⟨0,rfl,rfl,rfl,rfl,by omega⟩ (λF=>F) ?_);rintro k _ _ _ ⟨i,rfl,rfl,rfl,rfl,p⟩ _ _ _ J g;refine tR 5 [] λj _ _=>?_;by_cases f:i<8
 .refine tI ((decide ((i:Int)<8))) true (O' (by omega)) (tR 6 [] λl _ _=>tV 1 (.bool false) (λF C=>(mB f)) (tR 18 [] λm _ _=>tV 0 (iv ((i:Int)+1)) (λF C=>(AX 7 (i:Int) underlying3 (by omega))) (tR 2 [] λn _ _=>tB g (8-(i+1)) (by omega) [true] ⟨i+1,rfl,rfl,rfl,rfl,by omega⟩ (λF=>F))))
 .refine tI ((decide ((i:Int)<8))) false (H' (by omega)) (tR 13 [0] λo _ _=>tE (.bool true) λ_ B=>⟨rfl,B⟩)
theorem Ot(b:k.n=32)(c:0<=n/\n<=1073741824) :
  Calls prog 46 #[.agg #[S3.v k,iv n,iv 0,.bool false,.bool false,.bool false,.bool false,.bool false,.bool false,.bool false,.bool false]] w λe w'=>e=.returned (iv 0)/\Bw w w':=by
 refine tIn [] func46 trivial (tR 11 [0,0,0] λd _ _=>tV 3 (.bool false) (λF C=>(IS (t:=3) (m:=(k.n:Int)) (n:=32) (x:=(.tmp 5)) (y:=(.const (iv 32))) (by rw[b];rfl))) (tR 3 [0] λf _ _=>tC1 7 (λF C=>LA c) λ_=>tR 5 [0] λg _ _=>tC1 13 (λF C=>LA (n:=0) (by omega)) λ_=>tR 4 [0] λh _ _=>tC1 18 (λF C=>Ng (k:=k) (n:=n)) λ_=>tC1 19 (λF C=>Zu) λ_=>tR 9 [] λa _ _=>tE (iv 0) λ_ B=>⟨rfl,B⟩))
theorem YS(h:0<=n) :
  Calls prog 210 #[.agg #[iv 0,.bool false,.bool false,.bool false,.bool false,.bool false,.bool false,.bool false,.bool false],iv n] w λe w'=>e=.returned (.bool false)/\Bw w w':=by
 refine tIn [] func210 trivial (tR 13 [0,0,0] λa _ _=>tI ((decide (0<=n))) true (O' h) (tR 4 [] λb _ _=>tE (.bool false) λ_ B=>⟨rfl,B⟩))
theorem SR:(prog.info? 4).map (·.size)=some 1:=by kernel_rfl
theorem jz(w:World):(Go.sizeOf 4).run prog w=.ok 1 w:=by
 have h:=SR;cases hi:prog.info? 4 with
 | none=>rw[hi]at h;cases h
 | some i =>
  rw[hi]at h
  simp only[nW,Z']at h;simp[sizeOf,typeInfo,hi,h]
theorem XC(B d:Nat)(b:d<=8):∃ ad,(∀ W,(Instr.sliceAt 52 (.pointer (some ⟨B,1,none⟩)) (some (.int .i64 (d:Int))) none none).run prog W=.ok (.slice (some ad) (8-d) (8-d)) W)/\(0<8-d->ad=⟨B,1+d,none⟩):=by
 refine⟨if 8=d then⟨B,1,none⟩else(⟨B,1,none⟩:Addr).add (d*1),λW=>?_,λh=>?_⟩
 .have e1:prog.arrayLen 52=8:=by kernel_rfl
  have a:prog.elem 52=4:=by kernel_rfl
  rw[run_sliceAt_array_l (P:=prog) W 52 _ underlying52 .i64 _ (by omega) (by rw[e1];omega),e1,a,jz];simp[Result.andThen,slicedAt]
 .rw[if_neg (by omega),Nat.mul_one];exact Addr.add_mid B 1 d
theorem PG{j:Nat}(d:w.heap[b]?=some (.cells cur t))(a:cur[j]?=some v):w.setCell ⟨b,j,none⟩ v=w:=by
 have f:cur.setIfInBounds j v=cur:=by
  apply oX;intro i;rw[rh];split
  .rename_i e;subst e;rw[a,if_pos (U'.1 a).1]
  .rfl
 have c:(w.setCell ⟨b,j,none⟩ v).heap=w.heap:=by
  apply oX;intro i;unfold World.setCell;simp only[pS];split
  .rename_i e;subst e;rw[d];simp[f]
  .rfl
 rw[show w.setCell ⟨b,j,none⟩ v={ w with heap:=(w.setCell ⟨b,j,none⟩ v).heap }from rfl,c]
theorem NI(a:w.heap[b]?=some (.cells cur t)){v:Value}(m o:Nat)(h:∀ j,j<m->cur[o+j]?=some v):w.setCells b o (List.replicate m v)=w:=by
 induction m generalizing o with
 | zero=>rfl
 | succ m ih =>
  rw[List.replicate_succ,World.setCells,PG a (by simpa using h 0 (by omega))];exact ih (o+1) λj c=>by rw[oh,Nat.add_comm 1 j];exact h (j+1) (by omega)
theorem Yd(i y A a:TypeId)(b o d f m s z k:Nat)(v:Value)(r:P.underlying i=some (.slice a))(E:(P.info? a).map (·.size)=some 1)(q:m<=k){e c:Array Value}{t G:TypeId}(n:w.heap[b]?=some (.cells e t))(p:w.heap[d]?=some (.cells c G))(x:∀ j,j<m->e[o+j]?=some v)(B:∀ j,j<m->c[f+j]?=some v)(F:v.oneCell'=true) :
  (Builtin.copy_ #[i,y] A #[.slice (some ⟨b,o,none⟩) k s,.slice (some ⟨d,f,none⟩) m z]).run P w=.ok (iv (m:Int)) w:=by
 have D:∀ {j u},(List.replicate m v)[j]?=some u->j<m/\u=v:=λh=>by
  have:=V'.1 h;obtain⟨l,C⟩:=this;exact⟨by simpa using l,by simpa using C.symm⟩
 have:=run_copy_cells (P:=P) w i y A a b o k s ⟨d,f,none⟩ m z (List.replicate m v) r E (by rw[oO];exact(oC q).symm) (λj u g=>by
  obtain⟨l,rfl⟩:=D g;have:(⟨d,f,none⟩:Addr).add j=⟨d,f+j,none⟩:=by unfold Addr.add;split<;>simp_all
  rw[this,cell_of_row _ _ _ _ _ _ p];exact B j l) (λj g=>by rw[cell_of_row _ _ _ _ _ _ n,x j (by simpa using g)];rfl) (λj g=>frozen_of_row _ _ _ _ _ n) (λu r=>by rw[p8 r];exact F)
 rw[NI n m o x]at this
 rw[this];simp[goInt]
theorem WQ(h:0<n/\n<=1073741824) :
  Calls prog 212 #[.agg #[iv 0,.bool false,.bool false,.bool false,.bool false,.bool false,.bool false,.bool false,.bool false],iv n] w λe w'=>e=.returned (.agg #[iv n,.bool false,.bool false,.bool false,.bool false,.bool false,.bool false,.bool false,.bool false])/\Bw w w':=by
 obtain⟨d,f,c⟩:∃ d:Nat,(if 8<n-0 then 8 else n-0)=(d:Int)/\d<=8:=⟨(if 8<n-0 then 8 else n-0).toNat,by split<;>omega,by split<;>omega⟩;refine tIn [] func212 trivial (tR 20 [0,0,1,0,1,0,2,0,10,0,2,4,6,8,10,0] λa _ _=>tT 6 (iv (n-0)) (λ_=>(aq (x:=(.tmp 11)) (y:=(.tmp 13)) n 0 underlying3 (by omega))) (tT 7 (iv (d:Int)) (λ_=>(lA (ts:=#[3,3]) (t:=3) f)) ?_));obtain⟨ad,i,b⟩:=XC (a 0) d c;refine tT 8 (.slice (some ad) (8-d) (8-d)) (λ_=>(i _)) (tW 9 (iv ((8-d:Nat):Int)) (S:=Builtin.copy_ #[295,295] 3 #[.slice (some ⟨(a 2),1,none⟩) 8 8,.slice (some ad) (8-d) (8-d)]) (λF K=>?_) ?_)
 .by_cases e:d=8
  .subst e;exact run_copy_none _ _ _ _ 4 _ _ _ _ _ _ underlying295 SR rfl
  .obtain rfl:=b (by omega);refine Yd _ _ _ 4 _ _ _ _ (8-d) _ _ _ (.bool false) underlying295 SR (by omega) (kD K 2 (a 2) #[iv n,.bool false,.bool false,.bool false,.bool false,.bool false,.bool false,.bool false,.bool false] 155 .l true (by kernel_rfl)) (kD K 0 (a 0) #[iv 0,.bool false,.bool false,.bool false,.bool false,.bool false,.bool false,.bool false,.bool false] 155 .z true (by kernel_rfl)) (λj g=>?_) (λj g=>?_) rfl
   .rcases l8 (show j<8 by omega)with rfl|rfl|rfl|rfl|rfl|rfl|rfl|rfl<;>rfl
   .obtain⟨q,hq⟩:∃ q,q=1+d+j:=⟨_,rfl⟩;rw[<- hq];rcases(by omega:q=1\/q=2\/q=3\/q=4\/q=5\/q=6\/q=7\/q=8)with rfl|rfl|rfl|rfl|rfl|rfl|rfl|rfl<;>rfl
 refine tR 6 [2,1,0] λk _ _=>tX λF C=>qE1 4 155 1 (a 1) #[iv n,.bool false,.bool false,.bool false,.bool false,.bool false,.bool false,.bool false,.bool false] λ_=>⟨rfl,CgQ.af C⟩
theorem fU(h:0<=n/\n<1073741824) :
  Calls prog 204 #[.agg #[iv 0,.bool false,.bool false,.bool false,.bool false,.bool false,.bool false,.bool false,.bool false],iv n] w λe w'=>e=.returned (.agg #[iv (n+1),.bool false,.bool false,.bool false,.bool false,.bool false,.bool false,.bool false,.bool true])/\Bw w w':=by
 refine tIn [] func204 trivial (tR 13 [1,0,1,0,0] λa _ _=>tI ((decide (0<=n))) true (O' h.1) (tR 3 [0] λc _ _=>tV 2 (iv (n+1)) (λF C=>(AX 10 n underlying3 (by omega))) (tC 3 (λF C=>WQ (n:=n+1) ⟨by omega,by omega⟩) λb=>?_)));rintro _ _ ⟨rfl,b4⟩;refine⟨_,_,rfl,b4,id,?_⟩;refine tR 6 [0,0,0] λd _ _=>tC 2 (λF C=>Wr (t:=n+1) (b0:=false) (b1:=false) (b2:=false) (b3:=false) (b4:=false) (b5:=false) (b6:=false) (b7:=false) ⟨by omega,by omega⟩) λb=>?_;rintro _ _ ⟨rfl,b6⟩;refine⟨_,_,rfl,b6,id,?_⟩;refine tV 3 (iv 7) (λF C=>(lL (x:=(.tmp 13)) (y:=(.tmp 15)) h)) (tR 9 [0,0,0,1,0] λf _ _=>tX λF C=>qE1 4 155 1 (a 1) #[iv (n+1),.bool false,.bool false,.bool false,.bool false,.bool false,.bool false,.bool false,.bool true] λ_=>⟨rfl,CgQ.af C⟩)
theorem Sl.td(w:World)(b a:Int)(e:TypeId){g:Nat}(f:g=w.heap.size)(c:0<=b/\b<256)(d:a=b):Sl (w.alloc (.cells #[.int .u8 a] e)) (.slice (some ⟨g,0,none⟩) 1 1) [b]:=by
 subst d;exact Sl.one w a e f c
theorem Qv(a:Option Addr)(n c:Nat):∀ w,(binOp .eql 27 (.slice a n c) (.slice none 0 0)).run prog w=.ok (.bool a.isNone) w :=
 λw=>run_eql_slice_nil (P:=prog) w 27 5 a n c underlying27
theorem VG(v:Value)(l:List Int)(w:World)(h:Sl w v l) :
  Calls prog 31 #[v] w λe w'=>∃ v',e=.returned v'/\w'.ownsRow w.heap.size 5 1 v' l.length (l.map (Value.int .u8))/\Bw w w':=by
 have o:=h;have t:=h.len;obtain⟨⟨a,c,rfl,s,j,p⟩,q,r⟩:=h;cases a with
 | none =>
  obtain rfl:=j rfl;obtain rfl:l=[]:=Y' (by omega);have n:=Qv none 0 0;go_enter func31,ntmps31
  go_wp2
  go_ret;exact⟨_,rfl,World.ownsRow_nil _ _ _ _,Below.refl _ _⟩
 | some ad =>
  have b:(w.alloc (.cells #[] 5)).ownsRow w.heap.size 5 1 (.slice (some ⟨w.heap.size,0,none⟩) 0 0) ([]:List Int).length (([]:List Int).map (Value.int .u8)):=by
   refine⟨rfl,.inr ⟨w.heap.size,0,#[],rfl,A' _,heap_alloc_new _ _,A' _,nH _,rfl,rfl⟩⟩
  have n:=Qv (some ad) l.length c;have f:=o.af ((Below.refl w.heap.size w).alloc (A' _) (.cells #[] 5));go_enter func31,ntmps31
  go_wp2_with (at_builtin;refine Aa _ rfl _ _ 27 rfl w.heap.size 5 underlying27 Ax _ _ rfl rfl [] l b f (by simp;omega) (by simp) ?_)
  intro v' w' m g;have d:Bw w w':=((Below.refl w.heap.size w).alloc (A' _) (.cells #[] 5)).grown g (by simp) (λk i=>(b.lt k i).1);go_wp2
  go_ret;exact⟨v',rfl,by simpa using m,d⟩
theorem SM(n:Int)(w:World)(s:0<=n)(t:n<1073741824) :
  Calls prog 47 #[.int .i64 n] w λe w'=>∃ v',e=.returned v'/\w'.ownsRow w.heap.size 5 1 v' (Ab n).length ((Ab n).map (Value.int .u8))/\Bw w w':=by
 go_enter func47,ntmps47
 go_wp2_with fail
 go_loopw [3,4] (λv iv wr=>∃ j:Nat,j<=4/\iv=.int .i64 (3-(j:Int))/\wr.ownsRow w.heap.size 5 1 v ((Ab n).take j).length (((Ab n).take j).map (Value.int .u8))/\Bw w wr) (λ_ iv _=>(intOf iv+1).toNat)
 case atStart=>exact⟨0,by omega,rfl,World.ownsRow_nil _ _ _ _,Below.refl _ _⟩
 case round =>
  obtain⟨j,q,rfl,a,b⟩:=hrel;have f:=a.lt;have r:=b.size;by_cases p:j<4
  .have:j=0\/j=1\/j=2\/j=3:=by omega
   rcases this with rfl|rfl|rfl|rfl
   .rw[show(3:Int)-((0:Nat):Int)=3 from rfl];go_wp2_with (at_builtin;refine Aa _ rfl _ _ 27 rfl w.heap.size 5 underlying27 Ax _ _ rfl rfl ((Ab n).take 0) [n/16777216%256] (a.alloc _) (Sl.td _ (n/16777216%256) _ _ rfl (by omega) (by omega)) (by simp[Ab]) (by simp;omega) ?_)
    intro m i d c;have h:Bw w i:=(b.alloc (by omega) _).grown c (by simp;omega) (λk l=>(f k l).1);have g:Hid (i.ownsRow w.heap.size 5 1 m ((Ab n).take 1).length (((Ab n).take 1).map (Value.int .u8))):=d;clear d c a f b;go_wp2
    go_roundw
    case rel=>exact⟨1,by omega,rfl,g.out,h⟩
    case measure=>simp[intOf]
   .rw[show(3:Int)-((1:Nat):Int)=2 from rfl];go_wp2_with (at_builtin;refine Aa _ rfl _ _ 27 rfl w.heap.size 5 underlying27 Ax _ _ rfl rfl ((Ab n).take 1) [n/65536%256] (a.alloc _) (Sl.td _ (n/65536%256) _ _ rfl (by omega) (by omega)) (by simp[Ab]) (by simp;omega) ?_)
    intro m i d c;have h:Bw w i:=(b.alloc (by omega) _).grown c (by simp;omega) (λk l=>(f k l).1);have g:Hid (i.ownsRow w.heap.size 5 1 m ((Ab n).take 2).length (((Ab n).take 2).map (Value.int .u8))):=d;clear d c a f b;go_wp2
    go_roundw
    case rel=>exact⟨2,by omega,rfl,g.out,h⟩
    case measure=>simp[intOf]
   .rw[show(3:Int)-((2:Nat):Int)=1 from rfl];go_wp2_with (at_builtin;refine Aa _ rfl _ _ 27 rfl w.heap.size 5 underlying27 Ax _ _ rfl rfl ((Ab n).take 2) [n/256%256] (a.alloc _) (Sl.td _ (n/256%256) _ _ rfl (by omega) (by omega)) (by simp[Ab]) (by simp;omega) ?_)
    intro m i d c;have h:Bw w i:=(b.alloc (by omega) _).grown c (by simp;omega) (λk l=>(f k l).1);have g:Hid (i.ownsRow w.heap.size 5 1 m ((Ab n).take 3).length (((Ab n).take 3).map (Value.int .u8))):=d;clear d c a f b;go_wp2
    go_roundw
    case rel=>exact⟨3,by omega,rfl,g.out,h⟩
    case measure=>simp[intOf]
   .rw[show(3:Int)-((3:Nat):Int)=0 from rfl];go_wp2_with (at_builtin;refine Aa _ rfl _ _ 27 rfl w.heap.size 5 underlying27 Ax _ _ rfl rfl ((Ab n).take 3) [n%256] (a.alloc _) (Sl.td _ (n%256) _ _ rfl (by omega) (by omega)) (by simp[Ab]) (by simp;omega) ?_)
    intro m i d c;have h:Bw w i:=(b.alloc (by omega) _).grown c (by simp;omega) (λk l=>(f k l).1);have g:Hid (i.ownsRow w.heap.size 5 1 m ((Ab n).take 4).length (((Ab n).take 4).map (Value.int .u8))):=d;clear d c a f b;go_wp2
    go_roundw
    case rel=>exact⟨4,by omega,rfl,g.out,h⟩
    case measure=>simp[intOf]
  .obtain rfl:j=4:=by omega
   rw[show(3:Int)-((4:Nat):Int)=-1 from rfl];have o:Hid _:=a;clear a f;go_wp2
   go_ret;exact⟨_,rfl,o.out,b⟩
theorem eo(x b:Int)(f:0<=x/\x<36028797018963968)(d:0<=b/\b<256):bits .or .i64 (x*256) b=x*256+b:=by
 obtain⟨x,rfl⟩:=nI f.1;obtain⟨y,rfl⟩:=nI d.1;have e:(x:Int)*256=((x*256:Nat):Int):=by omega
 have key:(BitVec.ofInt 64 ((x*256:Nat):Int) ||| BitVec.ofInt 64 (y:Int)).toNat=x*256+y:=by
  rw[rT,qm,qm];have a:((y:Int)%((2^64:Nat):Int)).toNat=y:=by omega
  have c:(((x*256:Nat):Int)%((2^64:Nat):Int)).toNat=2^8*x:=by omega
  rw[a,c,<- pP (by omega:y<2^8)];omega
 rw[e];show IntKind.i64.wrap ((BitVec.ofInt 64 ((x*256:Nat):Int) ||| BitVec.ofInt 64 (y:Int)).toNat:Nat)=_;rw[key,IntKind.wrap_i64];omega
def KJ(h:List Int):Nat->Int
 | 0=>0
 | k+1=>KJ h k*256+h.getD k 0
theorem Tm{h:List Int}(a:∀ x∈h,0<=x/\x<256)(k:Nat):0<=KJ h k/\KJ h k<256^k:=by
 induction k with
 | zero=>simp[KJ]
 | succ k ih =>
  have:=Ak a k;rw[KJ,qL];omega
theorem Sl.uB{n:Nat}(h:Sl w (.slice a n cap) l)(k:Nat)(d:k<l.length):∃ bd od,a=some ⟨bd,od,none⟩/\bd<w.heap.size/\w.cell? ⟨bd,od+k,none⟩=some (.int .u8 (l.getD k 0)):=by
 obtain⟨⟨j,c,e,m,o,f⟩,i,g⟩:=h;simp only[Value.slice.injEq]at e;obtain⟨rfl,rfl,rfl⟩:=e;rcases f with rfl|⟨b,off,rfl,hb,hcell⟩
 .simp at d
 .exact⟨b,off,rfl,hb,hcell k d⟩
theorem Pu(v:Value)(l:List Int)(w:World)(h:Sl w v l)(s:l.length=4) :
  Calls prog 209 #[v] w λe w'=>e=.returned (.int .i64 (IK l))/\w'=w:=by
 have o:Hid (KJ l 4=IK l):=by
  unfold Hid;show((((0:Int)*256+l.getD 0 0)*256+l.getD 1 0)*256+l.getD 2 0)*256+l.getD 3 0=_;unfold IK;omega
 have m:Hid (∀ x∈l,0<=x/\x<256):=h.byte;have f:=h;obtain⟨a,c,rfl⟩:=h.shape;rw[s]at f ⊢
 go_enter func209,ntmps209
 go_wp2_with fail
 go_loopw [3,8] (λv iv wr=>∃ j:Nat,j<=4/\iv=.int .i64 (j:Int)/\v=.int .i64 (KJ l j)/\wr=w) (λ_ iv _=>(4-intOf iv).toNat)
 case atStart=>exact⟨0,by omega,rfl,rfl,rfl⟩
 case round =>
  obtain⟨j,u,rfl,rfl,rfl⟩:=hrel;by_cases r:j<4
  .have hii:(j:Int)<4:=by omega
   have g:=Tm m.out j;have k:KJ l j<16777216:=by
    have:(256:Int)^j<=256^3:=by
     rcases(by omega:j=0\/j=1\/j=2\/j=3)with rfl|rfl|rfl|rfl<;>decide
    omega
   have n:=Ak m.out j;obtain⟨t,od,rfl,p,q⟩:=f.uB j (by omega);have b:=eo (KJ l j) (l.getD j 0) ⟨g.1,by omega⟩ n;have d:Hid (KJ l j*256+l.getD j 0=KJ l (j+1)):=rfl;have i:=g.1;clear g h f;generalize KJ l j=X at i k b d;generalize l.getD j 0=B at n q b d;go_wp2
   go_roundw
   case rel=>exact⟨j+1,by omega,by go_num,by rw[<- d.out],trivial⟩
   case measure=>simp[intOf];omega
  .obtain rfl:j=4:=by omega
   rw[show((4:Nat):Int)=4 from rfl,o.out];go_wp2
   go_ret;exact⟨rfl,rfl⟩
def Nn:Array Value:=(List.replicate 12 (Value.int .u8 0)).toArray
theorem kN(w:World):(Instr.makeSlice 27 (.int .i64 8) (.int .i64 12)).run prog w=.ok (.slice (some ⟨w.heap.size,0,none⟩) 8 12) (w.alloc (.cells Nn 5)):=by
 obtain⟨i,c,d,a,b⟩:=info_parts Ax;rw[run_makeSlice (P:=prog) w 27 5 i (.int .u8 0) underlying27 c d .i64 .i64 8 12 (by omega) (by omega) (by rw[a];decide) (by rw[b];decide) (by omega),a];have e:madeCells (Value.int .u8 0).cells ((12:Int).toNat*1)=Nn:=by kernel_rfl
 rw[e];rfl
theorem QR(v:Value)(l:List Int)(w:World)(h:Sl w v l)(p:l.length=4) :
  Calls prog 49 #[v] w λe w'=>∃ v',e=.returned v'/\Sl w' v' (Cf l)/\Bw w w':=by
 have m:Hid (∀ x∈Cf l,0<=x/\x<256):=QQ h.byte;have g:Hid ((Cf l).length=12):=Fd p;have c:=kN w;have a:(w.alloc (.cells Nn 5)).ownsRow w.heap.size 5 1 (.slice (some ⟨w.heap.size,0,none⟩) 8 12) (List.replicate 8 (0:Int)).length ((List.replicate 8 (0:Int)).map (Value.int .u8)) :=
  ⟨rfl,.inr ⟨w.heap.size,12,Nn,rfl,A' _,heap_alloc_new _ _,by decide,by simp[maxLen],rfl,rfl⟩⟩
 have b0:Bw w (w.alloc (.cells Nn 5)):=(Below.refl w.heap.size w).alloc (A' _) _;have b:=h.af b0;have f:w.heap.size<=(w.alloc (.cells Nn 5)).heap.size:=b0.size;generalize w.alloc (.cells Nn 5)=W at c a b0 b f;go_enter func49,ntmps49
 go_wp2_with (at_builtin;refine Aa _ rfl _ _ 27 rfl w.heap.size 5 underlying27 Ax _ _ rfl rfl (List.replicate 8 0) l a b (by simp;omega) f ?_)
 intro v' w' j i;have d:Bw w w':=b0.grown i f (λk o=>(a.lt k o).1);have n:Hid (w'.ownsRow w.heap.size 5 1 v' (Cf l).length ((Cf l).map (Value.int .u8))):=by
  unfold Hid;rw[g.out];exact j
 clear j i a b c;go_wp2
 go_ret;exact⟨v',rfl,Sl.ov n.out (by rw[g.out];omega) m.out,d⟩
theorem Sl.first{n:Nat}(h:Sl w (.slice a n cap) l)(m:Nat)(o:m<=l.length)(r:0<m):Sl w (.slice (a.map (·.add 0)) m m) (l.take m):=by
 obtain⟨⟨q,d,e,s,t,f⟩,k,c⟩:=h;simp only[Value.slice.injEq]at e;obtain⟨rfl,rfl,rfl⟩:=e;have j:(l.take m).length=m:=by rw[j'];omega
 rcases f with rfl|⟨b,off,rfl,hb,hcell⟩
 .simp at o;omega
 .have hadd:(⟨b,off,none⟩:Addr).add 0=⟨b,off,none⟩:=by unfold Addr.add;simp
  refine⟨⟨some ⟨b,off,none⟩,m,by rw[j,nW,hadd],by omega,by simp,.inr ⟨b,off,rfl,hb,λi g=>?_⟩⟩,by omega,λx p=>c x (nm p)⟩;rw[hcell i (by omega),AQ (by omega),AQ g];simp
theorem Yh(a:Option Addr)(n b:Nat)(c:4<=b):∀ W,(Instr.slice 27 (.slice a n b) none (some (.int .i64 4)) (some (.int .i64 4))).run prog W=.ok (.slice (a.map (·.add 0)) 4 4) W:=by
 intro W;rw[run_slice_hm (P:=prog) W 27 a n b underlying27 .i64 .i64 4 4 (by omega) (by omega) (by omega)];have e:prog.elem 27=5:=by kernel_rfl
 rw[e,GI];simp[Result.andThen,sliced]
end
section
variable{P:Program}{fn:Func}{R:Ending->World->Prop}{w0:World}{Φ:List Fa}{g:Gh}{w:World}
theorem je{P:Program}{W:World}(t j e:TypeId)(i:TypeInfo)(g:P.underlying t=some (.slice e))(f:P.info? e=some i)(x y:S3)(d:x.n<=x.c)(h:y.n=0):(Builtin.append_ #[t,t] j #[x.v,y.v]).run P W=.ok x.v W:=by
 obtain⟨b,l,k⟩:=x;obtain⟨m,q,o⟩:=y;simp only at h d;subst h;show(Builtin.append_ #[t,t] j #[.slice b l k,.slice m 0 o]).run P W=.ok (.slice b l k) W;cases m with
 | none=>cases b<;>simp[Builtin.append_,run_underlying g,sizeOf,typeInfo,f,Builtin.lenOf,run_firstCells_none,d,storeCells]
 | some a =>
  have p:=run_firstCells_some (P:=P) W i.size 0 a 0 o [] (by simp) (by simp);cases b<;>simp[Builtin.append_,run_underlying g,sizeOf,typeInfo,f,Builtin.lenOf,run_firstCells_none,p,d,storeCells]
theorem lY{s:Xs}(i:Nat)(r:Nat){x:S3}{xs:List Value}(y:S3)(news:List Value)(t O e:TypeId)(q a:Nat)(z:Value)(M:AllF g w Φ->OwnS g w (.n 60 r) true e q x xs)(S:AllF g w Φ->RdV w y q news)(Ψ:List Fa)(E:AllF g w Φ->AllF g w Ψ)(J:Ψ.all (λf=>f.ro != some r)=true)(I:Tg.n 60 r∈TQ)
  (T:∀ u∈news,u.oneCell'=true)(B:x.n+y.n<=maxLen)(k:(x.n+y.n)*a<=140737488355328)
  (H:∀ x' g' w',x'.n=x.n+y.n->GT P fn R w0 (Fa.ow r e q x' (xs++news)::Ψ) (nxt s i (S3.v x') s.L).s g' w')(K:0<q:=by decide)
  (Q:P.underlying t=some (.slice e):=by kernel_rfl)(d:(P.info? e).map (λi=>(i.zero,i.size,i.bytes))=some (some z,q,a):=by kernel_rfl)(N:Nat.beq z.cells.size q=true:=by kernel_rfl)
  (p:Ds s i=some (Builtin.append_ #[t,t] O #[x.v,y.v]>>=λv=>pure (.value v)):=by kernel_rfl)(D:(nxt s i undef s.L).o.map Ob.l'=(nxt s i undef s.L).o.map Ob.r':=by kernel_rfl)(U:s.L.all (λy=>[Tg.n 60 r].all λt=>y.t.ne t)=true:=by kernel_rfl):GT P fn R w0 Φ s g w:=by
 refine tF λF C=>?_;have G:=S F;have V:x.n<=x.c:=by rcases(M F).ex with⟨_,h,h'⟩|⟨_,_,_,_,h,_⟩<;>omega
 by_cases A:y.n=0
 .obtain⟨inf,hi⟩:∃ inf,P.info? e=some inf:=by cases hh:P.info? e with|none=>rw[hh]at d;cases d|some j=>exact⟨j,rfl⟩
  obtain rfl:news=[]:=Y' (by rw[G.len,A,rC]);refine tV i x.v (λ_ _=>je t O e inf Q hi x y V A) ?_ p D;exact tCv (Fa.ow r e q x (xs++[])::Ψ) (λF=>⟨by rw[nB];exact M F,E F⟩) (H x g w (by omega))
 .obtain⟨b,off,ha,_,_⟩:=G.spot (i:=0) (by omega);obtain⟨X,m,c⟩:=y;simp only at ha A B k H p G;subst ha;refine R7 i r (x:=x) (xs:=xs) t O e q a z ⟨b,off,none⟩ m c news M Ψ E J I G.len T (λF _ j u W=>?_) B k H (rD A) K Q d N p D U;rcases(S F).ex with h2|⟨b2,off2,k1,k2,k3⟩
  .exact absurd h2 A
  .cases k1;have:(⟨b,off,none⟩:Addr).add j=⟨b,off+j,none⟩:=by unfold Addr.add;split<;>simp_all
   rw[this];exact k3 j u W
end
section
variable{A D K N P R key l:List Int}{B cap:Nat}{a:Option Addr}{c e0 n now:Int}{k p u x y z:S3}{v:Value}{w:World}
theorem er{e:Nat}(h:w.ownsRow B e 1 v l.length (l.map (Value.int .u8))):∃ y:S3,v=y.v/\OwN B w e 1 y (l.map (Value.int .u8)):=by
 rcases h.2 with⟨rfl,h0⟩|⟨g,cap,cur,rfl,h1,h2,h3⟩
 .exact⟨s30,rfl,by rw[nA,h0];rfl,.inl ⟨rfl,rfl,rfl⟩⟩
 .exact⟨⟨some ⟨g,0,none⟩,l.length,cap⟩,rfl,by simp,.inr ⟨g,cur,h1,rfl,h2,h3⟩⟩
theorem RdV.sl(h:RdV w y 1 (l.map (Value.int .u8)))(g:l.length<=140737488351232)(e:∀ x∈l,0<=x/\x<256):Sl w y.v l:=by
 have d:y.n=l.length:=by have:=h.len;simp at this;omega
 refine⟨⟨y.a,y.c,by rw[<- d],by rw[<- d];exact h.cap,h.th,?_⟩,g,e⟩;rcases h.ex with h0|⟨b,off,h1,h2,h3⟩
 .exact .inl (Y' (by omega))
 .exact .inr ⟨b,off,h1,h2,λi f=>h3 i _ (by simp[f])⟩
theorem Sl.rdv(h:Sl w y.v l):RdV w y 1 (l.map (Value.int .u8)):=by
 have g:=FT h;obtain⟨⟨a,k,i,r,o,n⟩,s,q⟩:=h;simp only[S3.v,Value.slice.injEq]at i;obtain⟨d,p,m⟩:=i;refine⟨by simp[g],by omega,λe=>by rw[m];exact o (d▸e),?_⟩;rcases n with rfl|⟨b,off,h1,h2,h3⟩
 .exact .inl g
 .refine .inr ⟨b,off,d.trans h1,h2,λj u f=>?_⟩;have c:j<l.length:=by simpa using(V'.1 f).1
  rw[h3 j c,<- f];simp[c]
theorem OwN.ui(h:OwN B w 5 1 y (l.map (Value.int .u8)))(e:l.length<=140737488351232)(d:∀ x∈l,0<=x/\x<256):Sl w y.v l/\Nb B y l :=
 ⟨h.rv.sl e d,λ_ a c=>by
  rcases h.ex with⟨h1,_⟩|⟨b,_,h0,h1,_⟩
  .rw[h1]at c;cases c
  .rw[h1]at c;cases c;exact h0⟩
theorem gv(h:Sl w v l)(n:NwV B v):∃ z:S3,v=z.v/\Sl w z.v l/\Nb B z l:=by
 obtain⟨z,rfl,d⟩:=aO h;exact⟨z,rfl,d,λ_ a b=>n a z.n z.c (by unfold S3.v;rw[b])⟩
theorem Ly(h:Sl w x.v l):Calls prog 31 #[x.v] w λe w'=>∃ z:S3,e=.returned z.v/\Sl w' z.v l/\Nb w.heap.size z l/\Bw w w' :=
 (VG _ l w h).mono λe w' ⟨v,a,b,c⟩=>let ⟨z,h4,h5,h6⟩:=JE b h.len h.byte;⟨z,by rw[a,h4],h5,h6,c⟩
theorem dC(h:0<=n/\n<1073741824):Calls prog 47 #[iv n] w λe w'=>∃ y:S3,e=.returned y.v/\OwN w.heap.size w' 5 1 y ((Ab n).map (Value.int .u8))/\Bw w w' :=
 (SM n w h.1 h.2).mono λe w' ⟨v,a,b,c⟩=>let ⟨z,h4,h5⟩:=er b;⟨z,by rw[a,h4],h5,c⟩
theorem fc(h:Sl w x.v K)(i:Sl w u.v N)(f:Sl w y.v A)(j:Sl w z.v P)(g:FE K N A=true)(l:P.length<=2000)(k:Dq w):Calls prog 48 #[x.v,u.v,y.v,z.v] w λe w'=>∃ v:S3,e=.returned (.tuple #[v.v,iv 0])/\Sl w' v.v (D6 K N A P)/\Nb w.heap.size v (D6 K N A P)/\Bw w w' :=
 (aH _ _ _ _ K N A P w h i f j g l k).mono λe w' ⟨v,a,b,c,d⟩=>let ⟨q,h5,h6,h7⟩:=gv b c;⟨q,by rw[a,h5],h6,h7,d⟩
theorem ZM(i:Sl w x.v K)(j:Sl w u.v N)(g:Sl w y.v A)(h:Sl w z.v D)(k:Dq w){E:Int}(f:Eg K N A D=E):Calls prog 211 #[x.v,u.v,y.v,z.v] w λe w'=>∃ v:S3,e=.returned (.tuple #[v.v,iv E])/\Sl w' v.v (Mi K N A D)/\Nb w.heap.size v (Mi K N A D)/\Bw w w' :=
 (WD _ _ _ _ K N A D w i j g h k).mono λe w' ⟨v,a,b,c,d⟩=>let ⟨q,h5,h6,h7⟩:=gv b c;⟨q,by rw[a,h5,f],h6,h7,d⟩
theorem QS(h:Sl w x.v l)(d:l.length=4):Calls prog 49 #[x.v] w λe w'=>∃ z:S3,e=.returned z.v/\Sl w' z.v (Cf l)/\Bw w w' :=
 (QR _ l w h d).mono λe w' ⟨v,a,b,c⟩=>let ⟨q,h4,h5⟩:=aO b;⟨q,by rw[a,h4],h5,c⟩
theorem W8(h:Sl w x.v l)(d:l.length=4){N:Int}(c:IK l=N):Calls prog 209 #[x.v] w λe w'=>e=.returned (iv N)/\Bw w w' :=
 (Pu _ l w h d).mono λe w' ⟨a,b⟩=>by subst b c;exact⟨a,Below.refl _ _⟩
theorem Sl.tQ{n:Nat}(h:Sl w (.slice a n cap) l)(b:Nat)(d:b<=l.length) :
  ∃ a' c',(∀ W,(Instr.slice 27 (.slice a n cap) (some (.int .i64 (b:Int))) none none).run prog W=.ok (.slice a' (n-b) c') W)/\∀ w2,Sl w2 (.slice a n cap) l->Sl w2 (.slice a' (n-b) c') (l.drop b):=by
 have j:=λw2 (c:Sl w2 (.slice a n cap) l)=>c.sE b l.length d (A' _);obtain⟨⟨a',f,e,m,o,k⟩,i,g⟩:=h;simp only[Value.slice.injEq]at e;obtain⟨rfl,rfl,rfl⟩:=e;refine⟨_,_,λW=>?_,λw2 c=>by simpa[sliced]using j w2 c⟩;rw[run_slice_l (P:=prog) W 27 a _ cap underlying27 .i64 _ (by omega) (by omega)];have e:prog.elem 27=5:=by kernel_rfl
 rw[e,GI];simp[Result.andThen,sliced]
theorem il(h:Sl w x.v l)(g:4<=l.length):∃ y z:S3,(∀ w2,Sl w2 x.v l->Sl w2 y.v (l.take 4)/\Sl w2 z.v (l.drop 4))/\Calls prog 208 #[x.v] w λe w'=>e=.returned (.tuple #[y.v,z.v])/\Bw w w':=by
 have t:=FT h;have s:x.n<=x.c:=h.rdv.cap;obtain⟨b,d,j,o⟩:=h.tQ 4 g;have i:=Yh x.a x.n x.c (by omega);have m:∀ W,(Instr.sliceAt 27 x.v none (some (iv 4)) (some (iv 4))).run prog W=.ok (.slice (x.a.map (·.add 0)) 4 4) W:=λW=>by rw[run_sliceAt_slice _ _ _ _ _ _ bL];exact i W
 have k:∀ W,(Instr.sliceAt 27 x.v (some (iv 4)) none none).run prog W=.ok (.slice b (x.n-4) d) W:=λW=>by rw[run_sliceAt_slice _ _ _ _ _ _ bL];exact j W
 refine⟨⟨x.a.map (·.add 0),4,4⟩,⟨b,x.n-4,d⟩,λw2 f=>⟨f.first 4 g (by omega),o w2 f⟩,?_⟩;refine tIn [] func208 trivial (tR 8 [6,0] λp _ _=>tT 1 (.slice (x.a.map (·.add 0)) 4 4) (λ_=>(m _)) (tR 1 [4] λq _ _=>tT 3 (.slice b (x.n-4) d) (λ_=>(k _)) (tR 3 [8,10] λr _ _=>tE (.tuple #[.slice (x.a.map (·.add 0)) 4 4,.slice b (x.n-4) d]) λ_ B=>⟨rfl,B⟩)))
theorem iP(c:Sl w x.v key)(k:key.length=32) :
  Calls prog 188 #[x.v] w λe w'=>∃ y:S3,e=.returned (.tuple #[.agg #[S3.v y,iv 0,iv 0,.bool false,.bool false,.bool false,.bool false,.bool false,.bool false,.bool false,.bool false],iv 0])/\Sl w' y.v key/\Nb w.heap.size y key/\Bw w w':=by
 have m:x.n=32:=(FT c).trans k;refine tIn [] func188 trivial (tR 12 [1,0] λb _ _=>tI (((x.n:Int) != 32)) false (by rw[m];rfl) (tR 4 [] λp _ _=>tF λ_ f=>?_));have l:=f.size;refine tC 1 (λF C=>Ly (c.af (CgQ.af C))) λg=>?_;rintro _ _ ⟨y,rfl,o,d,i⟩;refine⟨_,Fa.sl y key::_,rfl,i,λF=>⟨Dy o d g,F⟩,?_⟩;refine tR 4 [0,0] λq _ _=>tX λF C=>qE2 2 3 64 0 (b 0) #[S3.v y,iv 0,iv 0,.bool false,.bool false,.bool false,.bool false,.bool false,.bool false,.bool false,.bool false] (iv 0) λ_=>⟨y,rfl,F.1.s,λh a j=>mS l (d h a j),CgQ.af C⟩
theorem fe(j:Sl w k.v K)(i:K.length=32)(d:Sl w p.v P)(G:P.length<=2000)(h:0<=n/\n<1073741824)(m:Dq w) :
  Calls prog 30 #[.agg #[S3.v k,iv n,iv 0,.bool false,.bool false,.bool false,.bool false,.bool false,.bool false,.bool false,.bool false],p.v] w λe w'=>∃ z:S3,e=.returned (.tuple #[z.v,iv 0])/\Sl w' z.v (Gf K n P)/\Nb w.heap.size z (Gf K n P)/\Bw w w':=by
 have c:k.n=32:=(FT j).trans i;have I:=FT d;have f:=d.byte;refine tIn [Fa.sl k K,Fa.sl p P] func30 ⟨⟨j,λ_ _ _=>rfl⟩,⟨d,λ_ _ _=>rfl⟩,trivial⟩ (tR 10 [0,0,0] λO _ _=>tC1 1 (λF C=>Ot (n:=n) c ⟨by omega,by omega⟩) λ_=>tR 16 [] λQ _ _=>tI ((decide (2000<(p.n:Int)))) false (H' (by omega)) (tR 8 [0] λR _ _=>tI ((n==1073741824)) false (by simp;omega) (tR 5 [0] λS _ _=>tG 2 [true] 0 (λF C=>dC h) λb=>?_)));rintro _ _ ⟨y,rfl,a,b0⟩;refine⟨_,[Fa.ow 0 5 1 y ((Ab n).map (Value.int .u8)),Fa.sl k K,Fa.sl p P],_,_,_,_,rfl,b0,a,λ_=>⟨λF a _=>⟨a,F⟩,?_⟩⟩;refine tR 9 [12,0,2,0,4,8,10] λT _ _=>tC 3 (λF C=>QS (F.1.rv.sl (by rw[BF];omega) (Aw n)) rfl) λb=>?_;rintro _ _ ⟨u,rfl,L,A⟩;refine⟨_,_,rfl,A,id,?_⟩;refine tC 6 (λF C=>fc F.2.1.s L (F.1.rv.sl (by rw[BF];omega) (Aw n)) F.2.2.1.s (UA i (Fd rfl) (by rw[BF];omega)) G (m.af m.pos (CgQ.af C))) λb=>?_;rintro _ _ ⟨z,rfl,o,g,B⟩;refine⟨_,Fa.sl z (D6 K (Cf (Ab n)) (Ab n) P)::_,rfl,B,λF=>⟨Dy o g b,F⟩,?_⟩;have N:=FT o;have H:(D6 K (Cf (Ab n)) (Ab n) P).length=P.length+16:=by have:=Dn K n P;unfold Gf at this;rw[G',BF]at this;omega
 refine tF λF _=>?_;have M:y.n=4:=by have:=F.2.1.len;simp[BF]at this;omega
 refine tR 18 [14,16,18,20,22] λr _ _=>lY 2 0 (x:=y) z ((D6 K (Cf (Ab n)) (Ab n) P).map (Value.int .u8)) 27 27 5 1 1 (.int .u8 0) (λF=>F.2.1) (λF=>F.1.s.rdv) [] (λ_=>trivial) rfl (by simp[TQ]) (by intro q J;obtain⟨_,_,rfl⟩:=nw.1 J;rfl) (by unfold maxLen;omega) (by omega) λq _ _ _=>tR 3 [] λt _ _=>tX λF C=>qE (.tuple #[S3.v q,iv 0]) λ_=>?_;have a:=F.1.own C;rw[<- nG]at a
 obtain⟨D,E⟩:=OwN.ui (l:=Gf K n P) a (by rw[Dn];omega) (WR _ _ f);exact⟨q,rfl,D,E,CgQ.af C⟩
theorem fd(q:Sl w k.v K)(l:K.length=32)(r:Sl w p.v P)(m:P.length<=2000)(h:0<=n/\n<1073741824)(f:Dq w) :
  Calls prog 17 #[.agg #[S3.v k,iv n,iv 0,.bool false,.bool false,.bool false,.bool false,.bool false,.bool false,.bool false,.bool false],p.v] w λe w'=>∃ u z:S3,e=.returned (.tuple #[.agg #[S3.v u,iv (n+1),iv 0,.bool false,.bool false,.bool false,.bool false,.bool false,.bool false,.bool false,.bool false],z.v,iv 0])/\Sl w' z.v (Gf K n P)/\Nb w.heap.size z (Gf K n P)/\Bw w w':=by
 refine tIn [Fa.sl k K,Fa.sl p P] func17 ⟨⟨q,λ_ _ _=>rfl⟩,⟨r,λ_ _ _=>rfl⟩,trivial⟩ (tR 11 [1,0,1,0,0] λc _ _=>tF λ_ g=>?_);have t:=g.size;refine tC 2 (λF C=>fe F.1.s l F.2.1.s m h (f.af f.pos (CgQ.af C))) λd=>?_;rintro _ _ ⟨z,rfl,x,b,i⟩;refine⟨_,Fa.sl z (Gf K n P)::_,rfl,i,λF=>⟨Dy x b d,F⟩,?_⟩;refine tR 18 [0] λy _ _=>tC 2 (λF C=>Ly F.2.1.s) λd=>?_;rintro _ _ ⟨u,rfl,D,_,j⟩;refine⟨_,_,rfl,j,id,?_⟩;refine tR 7 [0,0,0] λA _ _=>tV 2 (iv (n+1)) (λF C=>(AX 24 n underlying3 (by omega))) (tR 11 [0,0,0,1,0] λB _ _=>tX λF C=>qE3 4 5 6 64 1 (c 1) #[S3.v u,iv (n+1),iv 0,.bool false,.bool false,.bool false,.bool false,.bool false,.bool false,.bool false,.bool false] (S3.v z) (iv 0) λ_=>⟨u,z,rfl,F.1.s,λh a o=>mS t (b h a o),CgQ.af C⟩)
theorem gx(d:K.length=32)(e:∀ x∈R,0<=x/\x<256)(b:20<=R.length):GM K 0 0 noB R=if 2020<R.length then 1 else if 1073741824<=IK (R.take 4)then 2 else Eg K (Cf (R.take 4)) (R.take 4) (R.drop 4):=by
 have c:(R.take 4).length=4:=by rw[j'];omega
 have a:=(Mh c λx f=>e x (nm f)).1;unfold GM;rw[if_neg (λg=>g (OkC.new d 0 (by omega) (by omega)))];split
 .rfl
 .rw[if_neg (by omega)];split
  .rfl
  .rw[if_neg (by rw[UT a];simp)]
theorem lZ(b:K.length=32)(a:R.length<20):GM K 0 0 noB R=13:=by
 unfold GM;rw[if_neg (λg=>g (OkC.new b 0 (by omega) (by omega))),if_neg (by omega),if_pos a]
theorem bE{r:S3}(H:Sl w k.v K)(j:K.length=32)(t:Sl w r.v R)(I:Dq w){E:Int}(b:GM K 0 0 noB R=E) :
  Calls prog 203 #[.agg #[S3.v k,iv 0,iv 0,.bool false,.bool false,.bool false,.bool false,.bool false,.bool false,.bool false,.bool false],r.v] w λe w'=>∃ (v:S3) (n:Int),e=.returned (.tuple #[v.v,iv n,iv E])/\(E=0->(0<=n/\n<1073741824)/\Sl w' v.v (Jh K R)/\Nb w.heap.size v (Jh K R))/\Bw w w':=by
 have q:k.n=32:=(FT H).trans j;have V:=FT t;have d:=t.byte;refine tIn [Fa.sl k K,Fa.sl r R] func203 ⟨⟨H,λ_ _ _=>rfl⟩,⟨t,λ_ _ _=>rfl⟩,trivial⟩ (tR 11 [0,0,0] λa0 _ _=>tC1 1 (λF C=>Ot (n:=0) q ⟨by omega,by omega⟩) λ_=>tR 16 [] λa1 _ _=>?_);by_cases D:2020<R.length
 .refine tI ((decide (2020<(r.n:Int)))) true (O' (by omega)) (tR 6 [] λa2 _ _=>?_);obtain rfl:1=E:=by rw[<- b,gx j d (by omega),if_pos D]
  exact tE (.tuple #[.slice none 0 0,iv 0,iv 1]) λ_ B=>⟨s30,0,rfl,λh=>absurd h (by decide),B⟩
 .refine tI ((decide (2020<(r.n:Int)))) false (H' (by omega)) (tR 8 [] λa3 _ _=>?_);by_cases T:R.length<20
  .refine tI ((decide ((r.n:Int)<20))) true (O' (by omega)) (tR 6 [] λa4 _ _=>?_);obtain rfl:13=E:=by rw[<- b,lZ j T]
   exact tE (.tuple #[.slice none 0 0,iv 0,iv 13]) λ_ B=>⟨s30,0,rfl,λh=>absurd h (by decide),B⟩
  .refine tI ((decide ((r.n:Int)<20))) false (H' (by omega)) (tR 4 [] λa5 _ _=>?_);have p:(R.take 4).length=4:=by rw[j'];omega
   rw[gx j d (by omega),if_neg D]at b
   obtain⟨N,G⟩:∃ N,IK (R.take 4)=N:=⟨_,rfl⟩;have c:=(Mh p λx Z=>d x (nm Z)).1;rw[G]at b c
   refine tF λF _=>?_;obtain⟨y,z,l,f⟩:=il F.2.1.s (by omega);refine tC1 1 (λF C=>f) λ_=>tR 9 [] λa6 _ _=>tC1 1 (λF C=>W8 (l _ F.2.1.s).1 p G) λ_=>tR 8 [] λJ _ _=>?_;by_cases i:1073741824<=N
   .refine tI ((decide (1073741824<=N))) true (O' i) (tR 6 [] λL _ _=>?_);obtain rfl:2=E:=by rw[<- b,if_pos i]
    exact tE (.tuple #[.slice none 0 0,iv 0,iv 2]) λ_ B=>⟨s30,0,rfl,λh=>absurd h (by decide),B⟩
   .refine tI ((decide (1073741824<=N))) false (H' i) ?_;rw[if_neg i]at b
    refine tR 5 [0] λM _ _=>tC1 1 (λF C=>Ng (k:=k) (n:=0)) λ_=>tR 1 [] λO _ _=>tC1 3 (λF C=>YS c) λ_=>tR 10 [12,0,2,0,4,8,10] λP _ _=>tC 3 (λF C=>QS (l _ F.2.1.s).1 p) λA=>?_;rintro _ _ ⟨u,rfl,X,m⟩;refine⟨_,_,rfl,m,id,?_⟩;refine tF λ_ S=>?_;have W:=S.size;refine tC 6 (λF C=>ZM F.1.s X (l _ F.2.1.s).1 (l _ F.2.1.s).2 (I.af I.pos (CgQ.af C)) b) λA=>?_;rintro _ _ ⟨v,rfl,Y,g,o⟩;refine⟨_,Fa.sl v (Jh K R)::_,rfl,o,λF=>⟨Dy Y g A,F⟩,?_⟩;refine tR 15 [14,16,18,20,22] λQ _ _=>tE (.tuple #[S3.v v,iv N,iv E]) λF B=>⟨v,N,rfl,λ_=>⟨⟨c,by omega⟩,F.1.s,λh a U=>mS W (g h a U)⟩,B⟩
theorem Vj{r:List Int}(H:Sl w x.v key)(I:key.length=32)(K:Sl w y.v r)(p:Dq w){E:Int}(G:GM key 0 0 noB r=E) :
  Calls prog 189 #[.agg #[S3.v x,iv 0,iv 0,.bool false,.bool false,.bool false,.bool false,.bool false,.bool false,.bool false,.bool false],y.v] w λe w'=>∃ (c v:S3) (t:Int) (x0 x1 x2 x3 x4 x5 x6 x7:Bool),e=.returned (.tuple #[.agg #[c.v,iv 0,iv t,.bool x0,.bool x1,.bool x2,.bool x3,.bool x4,.bool x5,.bool x6,.bool x7],v.v,iv E])/\Sl w' v.v (if E=0 then Jh key r else[])/\Nb w.heap.size v (if E=0 then Jh key r else[])/\Bw w w':=by
 refine tIn [Fa.sl x key,Fa.sl y r] func189 ⟨⟨H,λ_ _ _=>rfl⟩,⟨K,λ_ _ _=>rfl⟩,trivial⟩ (tR 11 [1,0,1,0,0] λd _ _=>tF λ_ B=>?_);have o:=B.size;refine tC 2 (λF C=>bE F.1.s I F.2.1.s (p.af p.pos (CgQ.af C)) G) λm=>?_;rintro _ _ ⟨v,n,rfl,l,D⟩;refine⟨_,Fa.sl (if E=0 then v else s30) (if E=0 then Jh key r else[])::_,rfl,D,λF=>⟨by split;(rename_i e;exact Dy (l e).2.1 (l e).2.2 m);exact VW _ _,F⟩,?_⟩;refine tR 14 [] λL _ _=>?_;by_cases i:E≠0
 .refine tI ((E != 0)) true (by simpa using i) (tR 8 [1,0] λM _ _=>tX λF C=>qE3 4 5 6 64 1 (d 1) #[S3.v s30,iv 0,iv 0,.bool false,.bool false,.bool false,.bool false,.bool false,.bool false,.bool false,.bool false] (S3.v s30) (iv E) λ_=>⟨s30,s30,0,false,false,false,false,false,false,false,false,rfl,by rw[if_neg i];exact NJ _,λ_ a f=>(by cases f),CgQ.af C⟩)
 .refine tI ((E != 0)) false (by simpa using i) ?_;have b:E=0:=mX.1 i;obtain⟨J,_,g⟩:=l b;refine tR 4 [0] λN _ _=>tC1 1 (λF C=>Ng (k:=x) (n:=0)) λ_=>tR 1 [] λO _ _=>tC1 3 (λF C=>fU J) λ_=>tR 7 [1,0,2,0,0] λP _ _=>tC 2 (λF C=>Ly F.2.1.s) λm=>?_;rintro _ _ ⟨u,rfl,Q,_,j⟩;refine⟨_,_,rfl,j,id,?_⟩;refine tR 9 [0,0,5,0,2,2,4,8] λq _ _=>Hr 3 5 ?_ ?_
  .refine tR 13 [2,11,0,0,12,15,0,0,0,1,0] λz _ _=>tX λF C=>qE3 4 5 6 64 1 (d 1) #[S3.v u,iv 0,iv (n+1),.bool false,.bool false,.bool false,.bool false,.bool false,.bool false,.bool false,.bool true] (S3.v v) (iv 0) λ_=>⟨u,v,n+1,false,false,false,false,false,false,false,true,by rw[b],by have:=F.1.s;rwa [if_pos b]at this,by rw[if_pos b];exact λh a f=>mS o (g h a f),CgQ.af C⟩
  .refine tR 13 [0,0,7,2,12,15,0,0,0,1,0] λA _ _=>tX λF C=>qE3 4 5 6 64 1 (d 1) #[S3.v u,iv 0,iv (n+1),.bool false,.bool false,.bool false,.bool false,.bool false,.bool false,.bool false,.bool true] (S3.v v) (iv 0) λ_=>⟨u,v,n+1,false,false,false,false,false,false,false,true,by rw[b],by have:=F.1.s;rwa [if_pos b]at this,by rw[if_pos b];exact λh a f=>mS o (g h a f),CgQ.af C⟩
def O2(k:Nat):Int:=if k=1 then 2 else if k=2 then 1 else if k=3 then 4 else 0
theorem NTab.right(h:NTab w)(k:Nat)(a:k<=3):w.cell? ⟨0,k*3,none⟩=some (.int .i64 (O2 k)):=by
 rcases(by omega:k=0\/k=1\/k=2\/k=3)with rfl|rfl|rfl|rfl
 .exact h.cell 0 (by omega)
 .exact h.cell 3 (by omega)
 .exact h.cell 6 (by omega)
 .exact h.cell 9 (by omega)
theorem Wc(k:Nat)(r:Int)(c:k<=3)(a:0<=r)(b:r<=7):(bits .and .i64 r (O2 k)=0)↔¬ Np (k:Int) r:=by
 have all:∀ (i:Fin 4) (j:Fin 8),(bits .and .i64 ((j.val:Nat):Int) (O2 i.val)=0)↔¬ Np ((i.val:Nat):Int) ((j.val:Nat):Int):=by decide +kernel
 obtain⟨m,rfl⟩:=nI a;exact all ⟨k,by omega⟩ ⟨m,by omega⟩
theorem RS(b d f k c s n v a:Int)(w:World)(K:NTab w) :
  Calls prog 135 #[.agg (tkA b d f),.agg (cmA k c s n v),.int .i64 a] w λe w'=>e=.returned (.int .i64 (EM b d f k c s n v a))/\Bw w w':=by
 have j:Bw w (w.alloc (.cells (tkA b d f) 32)):=(Below.refl _ _).alloc (A' _) _;have i:=Bt.made w b d f;have M:(w.alloc (.cells (tkA b d f) 32)).heap.size=w.heap.size+1:=by simp
 have l:Below (w.alloc (.cells (tkA b d f) 32)).heap.size (w.alloc (.cells (tkA b d f) 32)) ((w.alloc (.cells (tkA b d f) 32)).alloc (.cells (cmA k c s n v) 24)):=(Below.refl _ _).alloc (A' _) _;have o:=Bc.made (w.alloc (.cells (tkA b d f) 32)) k c s n v;replace i:=i.af l;have z:=j.trans (l.mono j.size);have r:=K.af z;rw[M]at o
 clear j l K M;have H:=GZ k c s n v;have I:=Jm b d f;generalize T:(w.alloc (.cells (tkA b d f) 32)).alloc (.cells (cmA k c s n v) 24)=W at z i o r;go_enter func135,ntmps135
 go_wp2_with (refine wpList_load_row rfl 32 _ rfl w.heap.size rfl 32 _ (0,0) _ i.row underlying32 rfl I ?_)
 clear T;refine(J8 b d f _).mono ?_;rintro e X ⟨rfl,j⟩;have C:Bw w X:=z.trans (j.mono z.size);replace i:=i.af j;replace o:=o.af j;replace r:=r.af j;clear j z;by_cases q:Du b d f
 .rw[O' q];go_wp2_with (refine wpList_load_row rfl 24 _ rfl (w.heap.size+1) rfl 24 _ (0,0) _ o.row underlying24 rfl H ?_)
  refine(EB k c s n v _ r).mono ?_;rintro e t ⟨rfl,l⟩;have D:Bw w t:=C.trans (l.mono C.size);replace i:=i.af l;replace o:=o.af l;replace r:=r.af l;clear l C;by_cases A:Bi k c s n v=0
  .have hz:=Dg A;obtain⟨m,rfl⟩:=nI hz.1.1;have Z:(0:Int)<=(m:Int):=by omega
   have k1:(m:Int)<4:=by omega
   have k2:m<4:=by omega
   have G:=r.right m (by omega);have B:=Wc m d (by omega) q.2.1.1 q.2.1.2;obtain⟨N,O,P,Q,S⟩:=Fi o.row;obtain⟨U,V,L⟩:=JV i.row;have x:Hid (Du b d f):=q;have y:Hid (Bi (m:Int) c s n v=0):=A;rw[A];clear q A hz i o r;by_cases u:c=b
   .have h3':decide (c=b)=true:=O' u;by_cases E:bits .and .i64 d (O2 m)=0
    .have h:Hid (11=EM b d f (m:Int) c s n v a):=(Ln x.out y.out (λg=>B.1 E g.1)).symm;have Y:Hid (c=b):=u;clear B x y;subst u;clear h3';generalize O2 m=R at G E;go_wp2_with fail
     go_quiet (fail)
     have p:Bw w (t.drewN nq):=Ar D nq;generalize t.drewN nq=w3 at p ⊢;go_wp2
     go_ret;exact⟨CW h.out,p⟩
    .have HR:Hid (Np (m:Int) d/\c=b):=⟨Classical.not_not.1 λg=>E (B.2 g),u⟩;clear B;subst u;clear h3';generalize O2 m=R at G E;go_wp2_with fail
     go_quiet (fail)
     have p:Bw w (t.drewN nq):=Ar D nq;have J:(t.drewN nq).cell? ⟨w.heap.size,2,none⟩=some (.int .i64 f):=by simpa using L
     generalize t.drewN nq=w3 at p J ⊢;clear N O P Q S U V L G;go_wp2_with fail
     refine(Fx a f _).mono ?_;rintro e w4 ⟨rfl,rfl⟩;by_cases F:0<=a/\a<=f
     .rw[O' F];have h:Hid (0=EM c d f (m:Int) c s n v a):=(Uq x.out y.out ⟨HR.out.1,rfl⟩ F).symm;go_wp2
      go_ret;exact⟨CW h.out,p⟩
     .rw[H' F];have h:Hid (10=EM c d f (m:Int) c s n v a):=(V9 x.out y.out ⟨HR.out.1,rfl⟩ F).symm;go_wp2
      go_ret;exact⟨CW h.out,p⟩
   .have h3':decide (c=b)=false:=H' u;have h:Hid (11=EM b d f (m:Int) c s n v a):=(Ln x.out y.out (λg=>u g.2)).symm;clear B x y;go_wp2_with fail
    go_quiet (fail)
    have p:Bw w (t.drewN nq):=Ar D nq;generalize t.drewN nq=w3 at p ⊢;go_wp2
    go_ret;exact⟨CW h.out,p⟩
  .have h:Hid (Bi k c s n v=EM b d f k c s n v a):=(X9 q A).symm;go_wp2
   go_ret;exact⟨CW h.out,D⟩
 .rw[H' q];have h:Hid (2=EM b d f k c s n v a):=(XA q).symm;go_wp2
  go_ret;exact⟨CW h.out,C⟩
theorem YW(a:0<=c)(h:c<=7)(g:AD w) :
  Calls prog 16 #[iv c] w λe w'=>∃ y:S3,e=.returned (.tuple #[y.v,iv 0])/\Sl w' y.v (IB c)/\Nb w.heap.size y (IB c)/\Bw w w':=by
 refine(iB c w a h g).mono ?_;rintro e w' ⟨v,rfl,f,b⟩;obtain⟨y,rfl,i,d⟩:=JE f (by rw[Cw];decide) (Wm c);exact⟨y,rfl,i,d,b⟩
theorem kH(h:7<c):Calls prog 16 #[iv c] w λe w'=>e=.returned (.tuple #[S3.v s30,iv 2])/\Bw w w':=by
 refine(iA c w (by omega)).mono ?_;rintro e w' ⟨rfl,rfl⟩;exact⟨rfl,Below.refl _ _⟩
theorem J7(d:AD w):Calls prog 14 #[] w λe w'=>∃ y:S3,e=.returned y.v/\Sl w' y.v Fo/\Nb w.heap.size y Fo/\Bw w w':=by
 refine(SV w d).mono ?_;rintro e w' ⟨v,rfl,c,a⟩;obtain⟨y,rfl,f,b⟩:=JE c (by rw[G0];decide) Wj;exact⟨y,rfl,f,b,a⟩
theorem Sl.uC{n:Nat}(h:Sl w (.slice a n cap) l)(b:Nat)(d:b<=l.length) :
  ∃ a' c',(∀ W,(Instr.slice 27 (.slice a n cap) none (some (.int .i64 (b:Int))) none).run prog W=.ok (.slice a' b c') W)/\∀ w2,Sl w2 (.slice a n cap) l->Sl w2 (.slice a' b c') (l.take b):=by
 have j:=λw2 (c:Sl w2 (.slice a n cap) l)=>c.sE 0 b (by omega) d;obtain⟨⟨a',f,e,m,o,k⟩,i,g⟩:=h;simp only[Value.slice.injEq]at e;obtain⟨rfl,rfl,rfl⟩:=e;refine⟨_,_,λW=>?_,λw2 c=>by simpa[sliced]using j w2 c⟩;rw[run_slice_h (P:=prog) W 27 a _ cap underlying27 .i64 _ (by omega) (by omega)];have e:prog.elem 27=5:=by kernel_rfl
 rw[e,GI];simp[Result.andThen,sliced]
theorem slF(h:Sl w x.v l)(a:Nat)(b:a<=l.length):∃ y:S3,(∀ W,(Instr.sliceAt 27 x.v (some (iv (a:Int))) none none).run prog W=.ok y.v W)/\∀ w2,Sl w2 x.v l->Sl w2 y.v (l.drop a):=by
 obtain⟨c,d,e,f⟩:=h.tQ a b;exact⟨⟨c,x.n-a,d⟩,λW=>by rw[run_sliceAt_slice _ _ _ _ _ _ bL];exact e W,f⟩
theorem slU(h:Sl w x.v l)(a:Nat)(b:a<=l.length):∃ y:S3,(∀ W,(Instr.sliceAt 27 x.v none (some (iv (a:Int))) none).run prog W=.ok y.v W)/\∀ w2,Sl w2 x.v l->Sl w2 y.v (l.take a):=by
 obtain⟨c,d,e,f⟩:=h.uC a b;exact⟨⟨c,a,d⟩,λW=>by rw[run_sliceAt_slice _ _ _ _ _ _ bL];exact e W,f⟩
theorem Mp(j:Sl w x.v key)(i:Sl w y.v l)(k:AD w){E:Int}(f:Er key l=E) :
  Calls prog 161 #[x.v,y.v] w λe w'=>∃ a b c:Int,e=.returned (.tuple #[.agg #[iv a,iv b,iv c],iv E])/\(E=0->a=l.getD 0 0/\b=l.getD 1 0/\c=Ad l 2)/\Bw w w':=by
 subst f;refine(WM x.v y.v key l w j i k).mono ?_;rintro e w' ⟨rfl,h⟩;by_cases d:Er key l=0
 .rw[P5 d];exact⟨_,_,_,rfl,λ_=>⟨rfl,rfl,rfl⟩,h⟩
 .rw[IR d];exact⟨0,0,0,rfl,λg=>absurd g d,h⟩
theorem VN(h:Sl w x.v l)(f:NTab w){E:Int}(d:Cl l=E) :
  Calls prog 162 #[x.v] w λe w'=>∃ m:Cmd,e=.returned (.tuple #[.agg #[iv m.k,iv m.c,iv m.s,iv m.n,iv m.v],iv E])/\(E=0->m=⟨Ad l 0,Ad l 4,Ad l 8,Ad l 12,Ad l 16⟩)/\Bw w w':=by
 subst d;refine(LB x.v l w h f).mono ?_;rintro e w' ⟨rfl,b⟩;by_cases a:Cl l=0
 .rw[show I3 l=_ from if_pos a];exact⟨⟨Ad l 0,Ad l 4,Ad l 8,Ad l 12,Ad l 16⟩,rfl,λ_=>rfl,b⟩
 .rw[show I3 l=_ from if_neg a];exact⟨⟨0,0,0,0,0⟩,rfl,λg=>absurd g a,b⟩
theorem WE(h:Sl w x.v l)(hT:AD w)(H:Dq w){E:Int}(q:KK l=E){D:List Int}(g:Px l=D) :
  Calls prog 160 #[x.v] w λe w'=>∃ y:S3,e=.returned (.tuple #[y.v,iv E])/\Sl w' y.v D/\Nb w.heap.size y D/\Bw w w':=by
 have S:=FT h;have N:=h.byte;unfold Px at g;rw[q]at g
 refine tIn [Fa.sl x l] func160 ⟨⟨h,λ_ _ _=>rfl⟩,trivial⟩ (tR 12 [] λa0 _ _=>?_);by_cases p:l=[]
 .refine tI (((x.n:Int)==0)) true (by rw[S,p];rfl) (tR 5 [] λa1 _ _=>?_);obtain rfl:13=E:=by rw[<- q];unfold KK;rw[if_pos p]
  exact tE (.tuple #[.slice none 0 0,iv 13]) λ_ B=>⟨s30,rfl,by rw[<- g,if_neg (by decide)];exact NJ _,λ_ a m=>(by cases m),B⟩
 .refine tI (((x.n:Int)==0)) false (by rw[S];simpa using p) ?_;obtain⟨c,i⟩:∃ c,l.getD 0 0=c:=⟨_,rfl⟩;have b:0<l.length:=List.length_pos_iff.2 p;have r:0<=c/\c<256:=by rw[<- i];exact N _ (by rw[nF,E' b];exact nJ b)
  have d:KK l=if 7<c then 2 else GM (IB c) 0 0 noB (l.drop 1):=by unfold KK;rw[if_neg p,i]
  rw[q]at d
  refine tR 4 [] λa2 _ _=>tF λF _=>?_;obtain⟨Z,od,O,_,A⟩:=Rx F.1.s b;rw[i]at A
  refine tV 1 (pt Z od) (λF C=>(O _)) (tV 2 (.int .u8 c) (λF C=>(Da underlying5 rfl A)) (tV 3 (iv c) (λF C=>(rUi r)) ?_));by_cases M:7<c
  .refine tC1 4 (λF C=>kH M) λ_=>tR 19 [] λa3 _ _=>?_;obtain rfl:2=E:=by rw[<- q];rw[q,d,if_pos M]
   exact tE (.tuple #[.slice none 0 0,iv 2]) λ_ B=>⟨s30,rfl,by rw[<- g,if_neg (by decide)];exact NJ _,λ_ a m=>(by cases m),B⟩
  .refine tC 4 (λF C=>YW r.1 (by omega) (hT.af (CgQ.af C))) λj=>?_;rintro _ _ ⟨y,rfl,hy,R,Y⟩;refine⟨_,Fa.sl y (IB c)::_,rfl,Y,λF=>⟨Dy hy R j,F⟩,?_⟩;refine tR 17 [] λT _ _=>tC 1 (λF C=>iP F.1.s (Cw c)) λj=>?_;rintro _ _ ⟨u,rfl,hu,P,J⟩;refine⟨_,Fa.sl u (IB c)::_,rfl,J,λF=>⟨Dy hu P j,F⟩,?_⟩;refine tR 19 [1,0,0,0,12,0,0,2] λU _ _=>?_;rw[if_neg M]at d
   refine tF λF o=>?_;have I:=o.size;obtain⟨z,hz,G⟩:=slF F.2.2.1.s 1 b;refine tT 2 (S3.v z) (λ_=>(hz _)) (Hr 3 8 ?_ ?_)
   .refine tF λF o=>?_;have I:=o.size;refine tC 3 (λF C=>Vj F.1.s (Cw c) (G _ F.2.2.1.s) (H.af H.pos (CgQ.af C)) d.symm) λj=>?_;rintro _ _ ⟨k,v,t,x0,x1,x2,x3,x4,x5,x6,x7,rfl,Q,f,K⟩;refine⟨_,Fa.sl v D::_,rfl,K,λF=>⟨Dy (by rw[<- g,i];exact Q) (by rw[<- g,i];exact f) j,F⟩,?_⟩;refine tR 16 [8,10,12,14,17,1,0,19,1,0,20,22] λV _ _=>tE (.tuple #[S3.v v,iv E]) λF B=>⟨v,rfl,F.1.s,by rw[<- g,i];exact λh a m=>mS I (f h a m),B⟩
   .refine tR 1 [1,0] λW _ _=>tF λF o=>?_;have I:=o.size;refine tC 3 (λF C=>Vj F.1.s (Cw c) (G _ F.2.2.1.s) (H.af H.pos (CgQ.af C)) d.symm) λj=>?_;rintro _ _ ⟨k,v,t,x0,x1,x2,x3,x4,x5,x6,x7,rfl,Q,f,L⟩;refine⟨_,Fa.sl v D::_,rfl,L,λF=>⟨Dy (by rw[<- g,i];exact Q) (by rw[<- g,i];exact f) j,F⟩,?_⟩;refine tR 15 [8,10,12,14,19,1,0,20,22] λX _ _=>tE (.tuple #[S3.v v,iv E]) λF B=>⟨v,rfl,F.1.s,by rw[<- g,i];exact λh a m=>mS I (f h a m),B⟩
theorem RI(h:Sl w x.v l)(G:AD w)(hq:Dq w)(hN:NTab w){E:Int}(j:unE l=E) :
  Calls prog 134 #[x.v] w λe w'=>∃ (a b c:Int) (m:Cmd),e=.returned (.tuple #[.agg #[iv a,iv b,iv c],.agg #[iv m.k,iv m.c,iv m.s,iv m.n,iv m.v],iv E])/\(E=0->a=(unT l).getD 0 0/\b=(unT l).getD 1 0/\c=Ad (unT l) 2/\m=⟨Ad (unQ l) 0,Ad (unQ l) 4,Ad (unQ l) 8,Ad (unQ l) 12,Ad (unQ l) 16⟩)/\Bw w w':=by
 obtain⟨r,I⟩:∃ r,KK l=r:=⟨_,rfl⟩;obtain⟨D,P⟩:∃ D,Px l=D:=⟨_,rfl⟩;have f:unT l=D.take 22:=by unfold unT;rw[P]
 have t:unQ l=D.drop 22:=by unfold unQ;rw[P]
 unfold unE at j;rw[I,P]at j
 refine tIn [Fa.sl x l] func134 ⟨⟨h,λ_ _ _=>rfl⟩,trivial⟩ (tR 9 [1,0,1,0] λd _ _=>tC 1 (λF C=>WE F.1.s (G.af (CgQ.af C)) (hq.af hq.pos (CgQ.af C)) I P) λp=>?_);rintro _ _ ⟨y,rfl,hy,a0,b2⟩;refine⟨_,Fa.sl y D::_,rfl,b2,λF=>⟨Dy hy a0 p,F⟩,?_⟩;have K:=FT hy;refine tR 12 [] λa9 _ _=>?_;by_cases H:r≠0
 .refine tI ((r != 0)) true (by simpa using H) ?_;obtain rfl:r=E:=by rw[<- j,if_pos H]
  refine tR 9 [0,0,1,0] λb0 _ _=>tX λF C=>qE5 2 3 4 32 24 0 (d 0) 1 (d 1) #[iv 0,iv 0,iv 0] #[iv 0,iv 0,iv 0,iv 0,iv 0] (iv r) λ_=>⟨0,0,0,⟨0,0,0,0,0⟩,rfl,λg=>absurd g H,CgQ.af C⟩
 .refine tI ((r != 0)) false (by simpa using H) ?_;rw[if_neg H]at j
  refine tR 8 [] λb1 _ _=>?_;by_cases h2:D.length≠42
  .refine tI (((y.n:Int) != 42)) true (by rw[K];simp;omega) ?_;obtain rfl:3=E:=by rw[<- j,if_pos h2]
   refine tR 8 [0,0,1,0] λb3 _ _=>tX λF C=>qE5 2 3 4 32 24 0 (d 0) 1 (d 1) #[iv 0,iv 0,iv 0] #[iv 0,iv 0,iv 0,iv 0,iv 0] (iv 3) λ_=>⟨0,0,0,⟨0,0,0,0,0⟩,rfl,λg=>absurd g (by decide),CgQ.af C⟩
  .refine tI (((y.n:Int) != 42)) false (by rw[K];simp;omega) ?_;rw[if_neg h2,f,t]at j
   obtain⟨o,q⟩:∃ o,Er Fo (D.take 22)=o:=⟨_,rfl⟩;rw[q]at j
   refine tF λF _=>?_;obtain⟨u,hu,A⟩:=slU F.1.s 22 (by omega);refine tR 2 [] λb4 _ _=>Je 45 (λee LL L=>∃ (a b c:Int) (W:Nat),ee=[(2,pt (d 0) 0),(3,pt (d 1) 0),(4,iv 0),(5,S3.v y),(6,iv o),(7,pt W 0)]/\LL=[⟨(d 0),.cells #[iv 0,iv 0,iv 0] 32,.l,false⟩,⟨(d 1),.cells #[iv 0,iv 0,iv 0,iv 0,iv 0] 24,.l,false⟩,⟨W,.cells #[iv a,iv b,iv c] 32,.l,false⟩]/\L=[Fa.sl y D]/\(o=0->a=(D.take 22).getD 0 0/\b=(D.take 22).getD 1 0/\c=Ad (D.take 22) 2)) (λJ X=>?_) ?_
   .refine tR 2 [10,2] λb5 _ _=>tT 2 (S3.v u) (λ_=>(hu _)) (Hr 0 7 ?_ ?_)
    .refine tC 0 (λF C=>J7 (G.af (CgQ.af C))) λp=>?_;rintro _ _ ⟨i,rfl,Y,hin,Q⟩;refine⟨_,Fa.sl i Fo::_,rfl,Q,λF=>⟨Dy Y hin p,F⟩,?_⟩;refine Hr 3 7 ?_ ?_
     .refine tC 3 (λF C=>Mp F.1.s (A _ F.2.1.s) (G.af (CgQ.af C)) q) λp=>?_;rintro _ _ ⟨a,b,c,rfl,z,R⟩;refine⟨_,_,rfl,R,id,?_⟩;refine tR 7 [8,10,12,15,1,0,17,2,0,18] λM _ _=>tD X [true,true,true] ⟨a,b,c,(M 0),rfl,rfl,rfl,z⟩ (λF=>⟨F.2.1,trivial⟩)
     .refine tR 1 [1,0] λN _ _=>tC 3 (λF C=>Mp F.1.s (A _ F.2.1.s) (G.af (CgQ.af C)) q) λp=>?_;rintro _ _ ⟨a,b,c,rfl,z,S⟩;refine⟨_,_,rfl,S,id,?_⟩;refine tR 6 [8,10,12,17,2,0,18] λa1 _ _=>tD X [true,true,true] ⟨a,b,c,(N 0),rfl,rfl,rfl,z⟩ (λF=>⟨F.2.1,trivial⟩)
    .refine tR 1 [1,0] λO _ _=>tC 0 (λF C=>J7 (G.af (CgQ.af C))) λp=>?_;rintro _ _ ⟨i,rfl,Y,hin,T⟩;refine⟨_,Fa.sl i Fo::_,rfl,T,λF=>⟨Dy Y hin p,F⟩,?_⟩;refine tC 3 (λF C=>Mp F.1.s (A _ F.2.1.s) (G.af (CgQ.af C)) q) λp=>?_;rintro _ _ ⟨a,b,c,rfl,z,U⟩;refine⟨_,_,rfl,U,id,?_⟩;refine tR 6 [8,10,12,17,2,0,18] λa2 _ _=>tD X [true,true,true] ⟨a,b,c,(O 0),rfl,rfl,rfl,z⟩ (λF=>⟨F.2.1,trivial⟩)
   rintro _ _ _ ⟨a,b,c,W,rfl,rfl,rfl,z⟩ _ _ _;refine tR 6 [] λa3 _ _=>?_;by_cases B:o≠0
   .refine tI ((o != 0)) true (by simpa using B) ?_;obtain rfl:o=E:=by rw[<- j,if_pos B]
    refine tR 9 [0,0,1,0] λa4 _ _=>tX λF C=>qE5 2 3 4 32 24 0 (d 0) 1 (d 1) #[iv 0,iv 0,iv 0] #[iv 0,iv 0,iv 0,iv 0,iv 0] (iv o) λ_=>⟨0,0,0,⟨0,0,0,0,0⟩,rfl,λg=>absurd g B,CgQ.af C⟩
   .refine tI ((o != 0)) false (by simpa using B) ?_;rw[if_neg B]at j
    obtain⟨ha,hb,hc⟩:=z (mX.1 B);refine tR 4 [] λa5 _ _=>tF λF _=>?_;obtain⟨v,hv,Z⟩:=slF F.1.s 22 (by omega);refine tV 1 (S3.v v) (λF C=>(hv _)) (tC 2 (λF C=>VN (Z _ F.1.s) (hN.af (CgQ.af C)) j) λp=>?_);rintro _ _ ⟨m,rfl,hm,V⟩;refine⟨_,_,rfl,V,id,?_⟩;refine tR 11 [1,0,3,0,3,0,2,4] λa6 _ _=>Hr 1 3 ?_ ?_
    .refine tR 5 [3,7,0,0,9,1,0,10] λa7 _ _=>tX λF C=>qE5 2 3 4 32 24 0 (d 0) 1 (d 1) #[iv a,iv b,iv c] #[iv m.k,iv m.c,iv m.s,iv m.n,iv m.v] (iv E) λ_=>⟨a,b,c,m,rfl,λg=>⟨by rw[f];exact ha,by rw[f];exact hb,by rw[f];exact hc,by rw[t];exact hm g⟩,CgQ.af C⟩
    .refine tR 5 [0,0,3,3,9,1,0,10] λa8 _ _=>tX λF C=>qE5 2 3 4 32 24 0 (d 0) 1 (d 1) #[iv a,iv b,iv c] #[iv m.k,iv m.c,iv m.s,iv m.n,iv m.v] (iv E) λ_=>⟨a,b,c,m,rfl,λg=>⟨by rw[f];exact ha,by rw[f];exact hb,by rw[f];exact hc,by rw[t];exact hm g⟩,CgQ.af C⟩
theorem VA{a b:Int}{m:Cmd}(f:NTab w){F:Int}(d:EM a b c m.k m.c m.s m.n m.v now=F):Calls prog 135 #[.agg #[iv a,iv b,iv c],.agg #[iv m.k,iv m.c,iv m.s,iv m.n,iv m.v],iv now] w λe w'=>e=.returned (iv F)/\Bw w w':=by subst d;exact RS a b c m.k m.c m.s m.n m.v now w f
theorem Wx(v:Value)(l:List Int)(now:Int)(w:World)(h:Sl w v l)(hT:AD w)(R:Dq w)(P:NTab w) :
  Calls prog 88 #[v,iv now] w λe w'=>e=.returned (.tuple #[.agg (opA l now),iv (opE l now)])/\Bw w w':=by
 obtain⟨x,rfl,h⟩:=aO h;obtain⟨E,I⟩:∃ E,unE l=E:=⟨_,rfl⟩;obtain⟨i,f⟩:∃ i,opE l now=i:=⟨_,rfl⟩;have K:=h.byte;have G:=iS (l:=l) (now:=now);have H:=iT (l:=l) (now:=now);rw[f]at G H ⊢
 unfold opE at f;rw[I]at f
 refine tIn [Fa.sl x l] func88 ⟨⟨h,λ_ _ _=>rfl⟩,trivial⟩ (tR 8 [1,0] λa _ _=>tC 1 (λF C=>RI F.1.s (hT.af (CgQ.af C)) (R.af R.pos (CgQ.af C)) (P.af (CgQ.af C)) I) λNz=>?_);rintro _ _ ⟨ta,tb,tc,m,rfl,hu,Z⟩;refine⟨_,_,rfl,Z,id,?_⟩;refine tR 16 [0,0,0,0,1,0,2,0] λj _ _=>?_;by_cases o:E≠0
 .refine tI ((E != 0)) true (by simpa using o) (tR 7 [0,0] λa0 _ _=>?_);obtain rfl:E=i:=by rw[<- f,if_pos o]
  rw[G o];exact tX λ_ C=>qE2 4 5 24 0 (a 0) (cmA 0 0 0 0 0) (iv E) λ_=>⟨rfl,CgQ.af C⟩
 .refine tI ((E != 0)) false (by simpa using o) ?_;have q:E=0:=mX.1 o;obtain⟨e1,e2,e3,p⟩:=hu q;have d:=mf (I.trans q);rw[if_neg o,<- e1,<- e2,<- e3]at f
  rw[show Ad (unQ l) 0=m.k by rw[p],show Ad (unQ l) 4=m.c by rw[p],show Ad (unQ l) 8=m.s by rw[p],show Ad (unQ l) 12=m.n by rw[p],show Ad (unQ l) 16=m.v by rw[p]]at f H
  obtain⟨c,L⟩:∃ c,l.getD 0 0=c:=⟨_,rfl⟩;have M:0<=c/\c<256:=by rw[<- L];exact K _ (by rw[nF,E' d];exact nJ d)
  rw[L]at f
  refine tR 3 [] λa1 _ _=>Je 42 (λee Y u=>∃ (b:Bool),ee=[(0,S3.v x),(1,iv now),(4,pt (a 0) 0),(6,pt (j 0) 0),(7,pt (j 1) 0),(31,.bool b)]/\Y=[⟨(a 0),.cells #[iv 0,iv 0,iv 0,iv 0,iv 0] 24,.l,false⟩,⟨(j 0),.cells #[iv ta,iv tb,iv tc] 32,.z,false⟩,⟨(j 1),.cells #[iv m.k,iv m.c,iv m.s,iv m.n,iv m.v] 24,.z,false⟩]/\u=[Fa.sl x l]/\b=decide (m.k≠0/\m.c≠c)) (λJ O=>?_) ?_
  .refine tR 3 [12,0,2,2] λa2 _ _=>?_;by_cases A:m.k=0
   .refine tT 2 (.bool false) (λ_=>(IS (t:=3) (m:=m.k) (n:=0) (x:=(.tmp 21)) (y:=(.const (iv 0))) (by simpa using A))) (tR 10 [6,8,10,12,14,16,18,20,22] λa3 _ _=>tD O [true,true,true] ⟨false,rfl,rfl,rfl,(H' λg=>g.1 A).symm⟩ (λF=>F))
   .refine tT 2 (.bool true) (λ_=>(IS (t:=3) (m:=m.k) (n:=0) (x:=(.tmp 21)) (y:=(.const (iv 0))) (by simpa using A))) (tR 4 [6,8,10,2,12] λa4 _ _=>tF λF _=>?_);obtain⟨bd,od,N,_,r⟩:=Rx F.1.s d;rw[L]at r
    refine tT 7 (pt bd od) (λ_=>(N _)) (tV 8 (.int .u8 c) (λF C=>(Da underlying5 rfl r)) (tT 9 (iv c) (λ_=>(rUi M)) (tR 3 [20,22] λS _ _=>?_)));exact tD O [true,true,true] ⟨m.c != c,rfl,rfl,rfl,(by by_cases g:m.c=c<;>simp[g,A])⟩ (λF=>F)
  rintro _ _ _ ⟨b,rfl,rfl,rfl,Q⟩ _ _ _;by_cases B:m.k≠0/\m.c≠c
  .refine tI (b) true (by rw[Q];exact O' B) (tR 6 [0,0] λT _ _=>?_);obtain rfl:11=i:=by rw[<- f,if_pos B]
   rw[G (by decide)];exact tX λ_ C=>qE2 4 5 24 0 (a 0) (cmA 0 0 0 0 0) (iv 11) λ_=>⟨rfl,CgQ.af C⟩
  .refine tI (b) false (by rw[Q];exact H' B) ?_;rw[if_neg B]at f
   refine tR 7 [1,2] λU _ _=>tC1 3 (λF C=>VA (m:=m) (P.af (CgQ.af C)) f) λ_=>tR 7 [] λV _ _=>?_;by_cases D:i≠0
   .refine tI ((i != 0)) true (by simpa using D) (tR 7 [0,0] λW _ _=>?_);rw[G D];exact tX λ_ C=>qE2 4 5 24 0 (a 0) (cmA 0 0 0 0 0) (iv i) λ_=>⟨rfl,CgQ.af C⟩
   .refine tI ((i != 0)) false (by simpa using D) ?_;obtain rfl:i=0:=mX.1 D;refine tR 7 [2,0,0] λX _ _=>?_;rw[H rfl];exact tX λ_ C=>qE2 4 5 24 0 (a 0) (cmA m.k m.c m.s m.n m.v) (iv 0) λ_=>⟨rfl,CgQ.af C⟩
theorem Zx{c:Cmd}(h:Sl w v l)(d:AD w)(i:Dq w)(b:NTab w)(g:opE l now=e0)(f:Eb l now=c) :
  Calls prog 88 #[v,iv now] w λe w'=>e=.returned (.tuple #[.agg #[iv c.k,iv c.c,iv c.s,iv c.n,iv c.v],iv e0])/\Bw w w':=by
 have a:=Wx v l now w h d i b;rw[ZJ,g,f]at a
 exact a
theorem Xe{g:Gh}{i nb ob:Nat}{p:Nod}{ls:List Let}{y:List Tol}(h:NS i nb ob g w p ls y){w0:World}(I:Base w0 g w)(F:Tabs w0)(dv:S3)(A:List Int)(hd:Sl w dv.v A){n:Nat}(b1:NOk n p)(g0:p.bad<100000000)(hw:p.av.length<100000000)(f0:y.length<100000000){C:Int}{c:Cmd}(he:opE A (p.done:Int)=C)(hc:Eb A (p.done:Int)=c) :
  Calls prog 55 #[pt nb 0,dv.v] w (NP i nb ob g w (.tuple #[]) (p.ss i C c y).1 ls (p.ss i C c y).2):=by
 obtain⟨x,lt,tl,M,N,hg⟩:=h;have e9:=b1.dn;have i8:=b1.ag;refine gI (fn:=f55) (TN i) g func55 hg (qN M (qO N (qR [] 9 [0] λs1 g1 w1 m=>?_)));by_cases h1:p.up=true
 .refine qI ((!p.up)) false (by simpa using h1) ?_;have t:¬ p.up=false:=by simp[h1]
  refine qR [] 9 [0] λs2 g2 w2 o=>?_;have H:=I.ch (m.trans o);have e8:=Cg.af (m.trans o) (λ_ _=>Q');refine qC 6 (Zx (hd.af e8) (H.tt F) (H.tq F) (H.tn F) he hc) ?_;rintro G w3 ⟨rfl,b3⟩;refine⟨_,rfl,b3,?_⟩;have q:=Cg.eb (B:=w.heap.size) (T:=[]) (g:=g2) b3;refine qR [] 13 [0,0,2,0] λs4 g4 w4 r=>?_;by_cases h2:C≠0
  .refine qI ((C != 0)) true (by simpa using h2) (qR [] 6 [0] λs5 g5 w5 c5=>qV 4 (iv ((p.bad+1:Nat):Int)) (AX 29 (p.bad:Int) underlying3 (by omega)) (qR [.n 0 i] 4 [0,1] λs6 g6 w6 c6=>qE (.tuple #[]) λK=>?_));rw[show p.ss i C c y=({ p with bad:=p.bad+1 },y)from(if_neg t).trans (if_pos h2)];have C7:=(((((m.nil ([.n 0 i]:List Tg)).n o).n q).n r).n c5).trans (c6);exact⟨_,rfl,⟨x,lt,tl,K.ud 0 M C7,N.ch C7 (hn:=by simp<;>omega),K.new⟩,((((((m.nil (TN i)).n o).n q).n r).n c5).trans (c6.mono (by simp[TN])))⟩
  .refine qI ((C != 0)) false (by simpa using h2) (qR [] 6 [4,0,4,2] λs8 g8 w8 u=>Af λK=>?_);have c0:NS i nb ob g8 w8 p ls y:=(nsC M N ((((m.n o).n q).n r).n u) K);refine qC 1 (UL c0 e9) ?_;rintro G j8 ⟨m1,rfl,b2,P⟩;refine⟨_,rfl,P,?_⟩;have a:=Cg.eb (B:=w.heap.size) (T:=[]) (g:=g8) P;refine qC 3 (F8 (l:=p.ae.take p.done) b2 (by rw[j'];omega) c) ?_;rintro G j9 ⟨rfl,Q⟩;refine⟨_,rfl,Q,?_⟩;have b:=Cg.eb (B:=w.heap.size) (T:=[]) (g:=g8) Q;refine qR [] 1 [] λi9 h4 k0 d=>?_;by_cases h3:c∈p.ae.take p.done
   .refine qI ((decide (c∈p.ae.take p.done))) true (by simpa using h3) (qR [] 8 [16,0,2,4,6,8,0,10,2] λj0 e3 f5 j=>Ea 55 (λg' w' e L=>∃ (b6 b7:Nat),e=[(0,pt nb 0),(4,pt (s4 0) 0),(6,pt b6 0),(7,pt b7 0)]/\L=[⟨nb,.cells (AJ i ob p x) 136,.n 0 i,false⟩,⟨ob,.cells #[S3.v lt,S3.v tl] 113,.n 50 0,false⟩,⟨(s4 0),.cells #[iv c.k,iv c.c,iv c.s,iv c.n,iv c.v] 24,.z,false⟩,⟨b6,.cells (stA (doS p.ni c)) 54,.l,false⟩,⟨b7,.cells #[iv (doC p.ni c),iv (doA p.ni c)] 50,.l,false⟩]/\Cg w.heap.size [] g w g' w') (by kernel_rfl) ?_ ?_)
    .intro J hJ;refine YE 6 11 12 (by kernel_rfl) ?_ ?_ ?_
     .have hB18:=I.ch ((((((((m.trans o).trans q).trans r).trans u).trans a).trans b).trans d).trans j) (by simp);refine qC 6 (DO p.ni c.k c.c c.s c.n c.v f5 (hB18.tn F)) ?_;rintro G k1 ⟨rfl,R⟩;refine⟨_,rfl,R,?_⟩;have X:=Cg.eb (B:=w.heap.size) (T:=[]) (g:=e3) R;refine qR [] 4 [14,16,18,20] λj1 h5 k2 Y=>DT 11 12 (by kernel_rfl) ?_ ?_
      .refine qR [] 6 [1,0,25,1,0,27,3,0,29,4,0,30] λb4 h6 k3 d0=>qB [true,true,true,true,true] λz O K=>hJ _ _ _ z _ ⟨(b4 0),(b4 1),rfl,rfl,(((((((((((m.trans o).trans q).trans r).trans u).trans a).trans b).trans d).trans j).trans X).trans Y).trans d0)⟩ K
      .refine qR [] 6 [1,0,23,1,0,27,4,0,29,3,0,30] λb5 h7 k4 d1=>Oi ?_;exact qB [true,true,true,true,true] λz O K=>hJ _ _ _ z _ ⟨(b5 1),(b5 0),rfl,rfl,(((((((((((m.trans o).trans q).trans r).trans u).trans a).trans b).trans d).trans j).trans X).trans Y).trans d1)⟩ K
     .refine qR [] 1 [1,0] λb8 e4 f6 D=>DT 6 12 (by kernel_rfl) ?_ ?_
      .have hB25:=I.ch (((((((((m.trans o).trans q).trans r).trans u).trans a).trans b).trans d).trans j).trans D) (by simp);refine qC 6 (DO p.ni c.k c.c c.s c.n c.v f6 (hB25.tn F)) ?_;rintro G k5 ⟨rfl,S⟩;refine⟨_,rfl,S,?_⟩;have d2:=Cg.eb (B:=w.heap.size) (T:=[]) (g:=e4) S;refine qR [] 9 [14,16,18,20,25,1,0,27,3,0,29,4,0,30] λf1 h8 k6 d3=>qB [true,true,true,true,true] λz O K=>hJ _ _ _ z _ ⟨(b8 0),(f1 0),rfl,rfl,(((((((((((m.trans o).trans q).trans r).trans u).trans a).trans b).trans d).trans j).trans D).trans d2).trans d3)⟩ K
      .refine qR [] 1 [1,0] λf2 e5 f7 Z=>?_;have a5:=I.ch ((((((((((m.trans o).trans q).trans r).trans u).trans a).trans b).trans d).trans j).trans D).trans Z) (by simp);refine qC 6 (DO p.ni c.k c.c c.s c.n c.v f7 (a5.tn F)) ?_;rintro G k7 ⟨rfl,U⟩;refine⟨_,rfl,U,?_⟩;have d4:=Cg.eb (B:=w.heap.size) (T:=[]) (g:=e5) U;refine qR [] 8 [14,16,18,20,27,3,0,29,4,0,30] λj2 h9 k8 d5=>qB [true,true,true,true,true] λz O K=>hJ _ _ _ z _ ⟨(b8 0),(f2 0),rfl,rfl,((((((((((((m.trans o).trans q).trans r).trans u).trans a).trans b).trans d).trans j).trans D).trans Z).trans d4).trans d5)⟩ K
     .refine qR [] 1 [1,0] λb9 e6 f8 E=>DT 6 11 (by kernel_rfl) ?_ ?_
      .have hB34:=I.ch (((((((((m.trans o).trans q).trans r).trans u).trans a).trans b).trans d).trans j).trans E) (by simp);refine qC 6 (DO p.ni c.k c.c c.s c.n c.v f8 (hB34.tn F)) ?_;rintro G k9 ⟨rfl,V⟩;refine⟨_,rfl,V,?_⟩;have d6:=Cg.eb (B:=w.heap.size) (T:=[]) (g:=e6) V;refine qR [] 9 [14,16,18,20,23,1,0,27,4,0,29,3,0,30] λf3 i0 l0 d7=>Oi ?_;exact qB [true,true,true,true,true] λz O K=>hJ _ _ _ z _ ⟨(f3 0),(b9 0),rfl,rfl,(((((((((((m.trans o).trans q).trans r).trans u).trans a).trans b).trans d).trans j).trans E).trans d6).trans d7)⟩ K
      .refine qR [] 1 [1,0] λf4 e7 f9 a0=>?_;have a6:=I.ch ((((((((((m.trans o).trans q).trans r).trans u).trans a).trans b).trans d).trans j).trans E).trans a0) (by simp);refine qC 6 (DO p.ni c.k c.c c.s c.n c.v f9 (a6.tn F)) ?_;rintro G l1 ⟨rfl,W⟩;refine⟨_,rfl,W,?_⟩;have d8:=Cg.eb (B:=w.heap.size) (T:=[]) (g:=e7) W;refine qR [] 8 [14,16,18,20,27,4,0,29,3,0,30] λj3 i1 l2 d9=>Oi ?_;exact qB [true,true,true,true,true] λz O K=>hJ _ _ _ z _ ⟨(f4 0),(b9 0),rfl,rfl,((((((((((((m.trans o).trans q).trans r).trans u).trans a).trans b).trans d).trans j).trans E).trans a0).trans d8).trans d9)⟩ K
    .rintro g16 w16 _ z16 _ ⟨b6,b7,rfl,rfl,hcc⟩;refine qR [] 5 [2,4] λj4 i2 l3 a1=>?_;rw[show p.ss i C c y=(p,(y++[⟨i,c.c,c.s,doC p.ni c,doA p.ni c⟩]))from(if_neg t).trans ((if_neg h2).trans (if_pos h3))];refine qS 3 [false,false,true,true,true] M N (hcc.n a1) (λc7=>RE c7 f0 c (doC p.ni c) (doA p.ni c)) λi3 l4 l9 g3 g9 a7 a9 e1=>qR [] 1 [] λj5 i4 l5 a2=>qF a7 a9 a2 ((((hcc.nil (TN i)).n a1).trans (e1)).n a2)
   .refine qI ((decide (c∈p.ae.take p.done))) false (by simpa using h3) (qR [] 4 [2] λj6 i5 l6 a3=>?_);rw[show p.ss i C c y=(p.want c,y)from(if_neg t).trans ((if_neg h2).trans (if_neg h3))];refine qS 2 [false,false,true] M N ((((((((m.n o).n q).n r).n u).n a).n b).n d).n a3) (λc9=>bZ c9 h1 hw c) λi6 l7 m0 g7 h0 a8 b0 e2=>qR [] 1 [] λj7 i7 l8 a4=>qF a8 b0 a4 (((((((((((m.nil (TN i)).n o).n q).n r).n u).n a).n b).n d).n a3).trans (e2)).n a4)
 .refine qI ((!p.up)) true (by simpa using h1) (qE (.tuple #[]) λK=>?_);rw[show p.ss i C c y=(p,y)from if_pos (by simpa using h1)];exact⟨_,rfl,(nsC M N m K),(m.nil (TN i))⟩
end
end Go.Proofs.YthkjeoamjgnpoaaGreatDoor
