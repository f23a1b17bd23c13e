/- Part 6 of the walk. -/
import Derived.StillTailTactics
import Derived.Lib.SlBytesRow
import Derived.Test.YtcjcngceghfoeaaGreatDoorZ5
set_option maxRecDepth 100000
set_option maxHeartbeats 4000000
open Go.Proofs.Tryz
set_option linter.unusedVariables false
namespace Go.Proofs.YtcjcngceghfoeaaGreatDoor
open Go.RowKit
section
variable{B base cap g n:Nat}{a:Option Addr}{l la lb:List Int}{v y:Value}{w:World}{x:S3}
theorem Cw{a:World}(h:Below B a w){g:Nat}(c:B<=g)(b:Array Value):Below B a (w.setRow g b) :=
 h.trans ⟨rfl,rfl,rfl,by simp,λk d=>setRow_other w g k b (by omega)⟩
def ptA(g:Nat):Array Value:=#[.pointer (some ⟨g,0,none⟩),.pointer (some ⟨g,1,none⟩),.pointer (some ⟨g,2,none⟩),.pointer (some ⟨g,3,none⟩),.pointer (some ⟨g,4,none⟩)]
theorem dV(g:Nat):(ptA g).all (·.oneCell')=true:=by simp[ptA,Value.oneCell']
def SL:Array Value:=#[.pointer none,.pointer none,.pointer none,.pointer none,.pointer none]
theorem iL(g:Nat):(prog.info? 171).map (·.size)=some (ptA g).size:=by show _=some 5;kernel_rfl
theorem QH(g:Nat)(j:Nat)(a:j<5):∀ W,(Instr.index 171 (.agg (ptA g)) (.int .i64 (j:Int))).run prog W=.ok (.pointer (some ⟨g,j,none⟩)) W:=by
 intro W;rcases(by omega:j=0\/j=1\/j=2\/j=3\/j=4)with rfl|rfl|rfl|rfl|rfl
 all_goals kernel_rfl
theorem Hl(g:Nat)(w:World) :
  Calls prog 85 #[.pointer (some ⟨g,0,none⟩)] w λe w'=>e=.returned (.agg (ptA g))/\Bw w w':=by
 have d:Bw w (w.alloc (.cells SL 171)):=(Below.refl _ _).alloc (A' _) _;have i:=heap_alloc_new w (.cells SL 171);have c:=iL g;go_enter func85,ntmps85
 go_wp2_with fail
 refine Au 16 (by kernel_rfl) (by kernel_rfl) ?_;simp only[nG,nM,nO,oC]
 repeat (go_big_quiet_step (fail))
 refine wpQuiet_nil ?_;have a:(w.alloc (.cells SL 171)).drew.heap[w.heap.size]?=some (.cells SL 171):=i;have b:Bw w (w.alloc (.cells SL 171)).drew:=d.drew;have f:SL=#[.pointer none,.pointer none,.pointer none,.pointer none,.pointer none]:=rfl;rw[<- f];generalize (w.alloc (.cells SL 171)).drew=W at a b;go_wp2_with (refine wpList_store_row rfl 171 (.tmp 2) (.tmp 18) rfl w.heap.size (ptA g) rfl rfl 171 _ a c rfl (dV g) ?_)
 have h:=setRow_heap W w.heap.size _ (ptA g) 171 _ a;exact bodyPost_ret (v:=.agg (ptA g)) (results_cell_row rfl _ _ w.heap.size 171 _ (0,0) _ rfl h underlying171 rfl c) rfl ⟨rfl,Cw b (A' _) _⟩
theorem Sl.sg(w:World)(b a:Int)(e:TypeId){g:Nat}(f:g=w.heap.size)(c:0<=b/\b<256)(d:a=b):Sl (w.alloc (.cells #[.int .u8 a] e)) (.slice (some ⟨g,0,none⟩) 1 1) [b]:=by
 subst d;exact Sl.one w a e f c
theorem dX(l:List Int)(n:Int)(j:Nat)(a:l.length<=100000):(l++(Ab n).take j).length+1<=140737488355328:=by
 have:((Ab n).take j).length<=4:=by rw[X'];exact Nat.min_le_right _ _
 rw[H'];omega
theorem Ho(v:Value)(l:List Int)(n:Int)(B:Nat)(w:World)(x:w.ownsRow B 5 1 v l.length (l.map (Value.int .u8)))(z:B<=w.heap.size)(t:l.length<=100000)(D:0<=n)(E:n<2147483648) :
  Calls prog 86 #[v,.int .i64 n] w λe w'=>∃ v',e=.returned v'/\w'.ownsRow B 5 1 v' (l++Ab n).length ((l++Ab n).map (Value.int .u8))/\Below B w w':=by
 have s:Hid (w.ownsRow B 5 1 v (l++(Ab n).take 0).length ((l++(Ab n).take 0).map (Value.int .u8))):=by unfold Hid;simpa using x
 clear x;go_enter func86,ntmps86
 go_wp2_with fail
 go_loopw [0,5] (λv iv wr=>∃ j:Nat,j<=4/\iv=.int .i64 (3-(j:Int))/\wr.ownsRow B 5 1 v (l++(Ab n).take j).length ((l++(Ab n).take j).map (Value.int .u8))/\Below B w wr) (λ_ iv _=>(intOf iv+1).toNat)
 case atStart=>exact⟨0,by omega,rfl,s.out,Below.refl _ _⟩
 case round =>
  obtain⟨j,C,rfl,a,b⟩:=hrel;clear s;have g:=a.lt;have u:B<=wr.heap.size:=my z b.size;have p:=dX l n;by_cases A:j<4
  .rcases(by omega:j=0\/j=1\/j=2\/j=3)with rfl|rfl|rfl|rfl
   .rw[show(3:Int)-((0:Nat):Int)=3 from rfl];have m:Hid (l++(Ab n).take 1=l++(Ab n).take 0++[n/16777216%256]):=by unfold Hid;rw[mA];rfl
    have c:=p 0 t;clear p;generalize l++(Ab n).take 0=L at a m c;go_wp2_with (at_builtin;refine Aa _ rfl _ _ 52 rfl B 5 underlying52 Aw _ _ rfl rfl L [n/16777216%256] (a.alloc _) (Sl.sg _ (n/16777216%256) _ _ rfl (by omega) (by omega)) c (by simp;omega) ?_)
    intro r o f d;have i:Below B w o:=(b.alloc u _).grown d (by simp;omega) (λk q=>(g k q).1);have h:Hid (o.ownsRow B 5 1 r (l++(Ab n).take 1).length ((l++(Ab n).take 1).map (Value.int .u8))):=by
     unfold Hid;rw[m.out];simpa using f
    clear f d a g b c m;go_wp2
    go_roundw
    case rel=>exact⟨1,by omega,rfl,h.out,i⟩
    case measure=>simp[intOf]
   .rw[show(3:Int)-((1:Nat):Int)=2 from rfl];have m:Hid (l++(Ab n).take 2=l++(Ab n).take 1++[n/65536%256]):=by unfold Hid;rw[mA];rfl
    have c:=p 1 t;clear p;generalize l++(Ab n).take 1=L at a m c;go_wp2_with (at_builtin;refine Aa _ rfl _ _ 52 rfl B 5 underlying52 Aw _ _ rfl rfl L [n/65536%256] (a.alloc _) (Sl.sg _ (n/65536%256) _ _ rfl (by omega) (by omega)) c (by simp;omega) ?_)
    intro r o f d;have i:Below B w o:=(b.alloc u _).grown d (by simp;omega) (λk q=>(g k q).1);have h:Hid (o.ownsRow B 5 1 r (l++(Ab n).take 2).length ((l++(Ab n).take 2).map (Value.int .u8))):=by
     unfold Hid;rw[m.out];simpa using f
    clear f d a g b c m;go_wp2
    go_roundw
    case rel=>exact⟨2,by omega,rfl,h.out,i⟩
    case measure=>simp[intOf]
   .rw[show(3:Int)-((2:Nat):Int)=1 from rfl];have m:Hid (l++(Ab n).take 3=l++(Ab n).take 2++[n/256%256]):=by unfold Hid;rw[mA];rfl
    have c:=p 2 t;clear p;generalize l++(Ab n).take 2=L at a m c;go_wp2_with (at_builtin;refine Aa _ rfl _ _ 52 rfl B 5 underlying52 Aw _ _ rfl rfl L [n/256%256] (a.alloc _) (Sl.sg _ (n/256%256) _ _ rfl (by omega) (by omega)) c (by simp;omega) ?_)
    intro r o f d;have i:Below B w o:=(b.alloc u _).grown d (by simp;omega) (λk q=>(g k q).1);have h:Hid (o.ownsRow B 5 1 r (l++(Ab n).take 3).length ((l++(Ab n).take 3).map (Value.int .u8))):=by
     unfold Hid;rw[m.out];simpa using f
    clear f d a g b c m;go_wp2
    go_roundw
    case rel=>exact⟨3,by omega,rfl,h.out,i⟩
    case measure=>simp[intOf]
   .rw[show(3:Int)-((3:Nat):Int)=0 from rfl];have m:Hid (l++(Ab n).take 4=l++(Ab n).take 3++[n%256]):=by unfold Hid;rw[mA];rfl
    have c:=p 3 t;clear p;generalize l++(Ab n).take 3=L at a m c;go_wp2_with (at_builtin;refine Aa _ rfl _ _ 52 rfl B 5 underlying52 Aw _ _ rfl rfl L [n%256] (a.alloc _) (Sl.sg _ (n%256) _ _ rfl (by omega) (by omega)) c (by simp;omega) ?_)
    intro r o f d;have i:Below B w o:=(b.alloc u _).grown d (by simp;omega) (λk q=>(g k q).1);have h:Hid (o.ownsRow B 5 1 r (l++(Ab n).take 4).length ((l++(Ab n).take 4).map (Value.int .u8))):=by
     unfold Hid;rw[m.out];simpa using f
    clear f d a g b c m;go_wp2
    go_roundw
    case rel=>exact⟨4,by omega,rfl,h.out,i⟩
    case measure=>simp[intOf]
  .obtain rfl:j=4:=by omega
   rw[show(3:Int)-((4:Nat):Int)=-1 from rfl];have y:Hid _:=a;clear a g p;go_wp2
   go_ret;exact⟨_,rfl,y.out,b⟩
theorem Sl.rQ(h:Sl w (.slice a n cap) l)(k:Nat)(d:k<l.length):∃ bd od,a=some ⟨bd,od,none⟩/\bd<w.heap.size/\w.cell? ⟨bd,od+k,none⟩=some (.int .u8 (l.getD k 0)):=by
 obtain⟨⟨j,c,e,m,o,f⟩,i,g⟩:=h;simp only[Value.slice.injEq]at e;obtain⟨rfl,rfl,rfl⟩:=e;rcases f with rfl|⟨b,off,rfl,hb,hcell⟩
 .simp at d
 .exact⟨b,off,rfl,hb,hcell k d⟩
theorem EW(h:Sl w x.v l):x.n=l.length:=by obtain⟨a,c,b⟩:=h.rD;simp only[S3.v,Value.slice.injEq]at b;exact b.2.1
theorem TD:prog.underlying 52=some (.slice (prog.elem 52)):=by kernel_rfl
theorem sV(h:Sl w x.v l)(a:Nat)(b:a<=l.length):∃ y:S3,(∀ W,(Instr.sliceAt 52 x.v (some (iv (a:Int))) none none).run prog W=.ok y.v W)/\Sl w y.v (l.drop a)/\y.n=l.length-a:=by
 obtain⟨c,d,e,f⟩:=h.from a b;refine⟨⟨c,x.n-a,d⟩,λW=>?_,f,by rw[EW h]⟩;rw[run_sliceAt_slice _ _ _ _ _ _ TD];exact e W
theorem QU(h:Sl w x.v l)(a:0<l.length):∃ bd od,(∀ W,(Instr.indexAt 52 x.v (iv 0)).run prog W=.ok (pt bd od) W)/\bd<w.heap.size/\w.cell? ⟨bd,od,none⟩=some (.int .u8 (l.getD 0 0)):=by
 obtain⟨j,g,k⟩:=x;have f:g=l.length:=EW h;obtain⟨bd,od,b,c,d⟩:=h.rQ 0 a;subst b;exact⟨bd,od,λW=>Kv (P:=prog) (e:=5) (z:=1) (i:=0) underlying52 (by kernel_rfl) (by kernel_rfl) (by rw[f];exact a) od (by rw[Nat.mul_zero,oM]),c,d⟩
theorem Wk{P:Program}{t:TypeId}{x y:Operand}{m n:Int}{b:Bool}(h:(m==n)=b):(do Go.eqGuard .eql t x y (.int .u8 m) (.int .u8 n);Go.binOp .eql t (.int .u8 m) (.int .u8 n):Sem Value).run P w=.ok (.bool b) w:=by
 subst h;rfl
theorem rUi{n:Int}(h:0<=n/\n<256):(convert 5 3 (.int .u8 n)).run prog w=.ok (iv n) w:=fO (by kernel_rfl) underlying3 (by kernel_rfl) (by rw[IntKind.wrap_i64];omega)
theorem Pa(h:w.ownsRow B 5 1 y l.length (l.map (Value.int .u8)))(e:l.length<=140737488351232)(d:∀ x∈l,0<=x/\x<256):∃ z:S3,y=z.v/\Sl w z.v l:=by
 have c:=Sl.nn h e d;obtain⟨a,b,rfl⟩:=c.rD;exact⟨⟨a,l.length,b⟩,rfl,c⟩
theorem ah(c:Sl w y l):∃ z:S3,y=z.v/\Sl w z.v l:=by
 obtain⟨a,b,rfl⟩:=c.rD;exact⟨⟨a,l.length,b⟩,rfl,c⟩
theorem EB(w:World):Sl w s30.v []:=⟨⟨none,0,rfl,A' _,λ_=>rfl,.inl rfl⟩,by simp,by simp⟩
theorem LA(x:Value)(d:List Int)(s:Int)(w:World)(h:Sl w x d) :
  Calls prog 119 #[.agg (tpA x s)] w λe w'=>e=.returned (.bool (decide (AR d s)))/\Bw w w':=by
 have b:=h.len;obtain⟨f,i,rfl⟩:=h.rD;obtain⟨M,k⟩:∃ M,d.length=M:=⟨_,rfl⟩;have l:Hid (d.length=M):=k;rw[k]at b ⊢
 clear k h;simp only[tpA];have a:Bw w (w.alloc (.cells #[.slice f M i,.int .i64 s] 109)):=(Below.refl _ _).alloc (A' _) _;have j:=heap_alloc_new w (.cells #[.slice f M i,.int .i64 s] 109);generalize q:w.alloc (.cells #[.slice f M i,.int .i64 s] 109)=W0 at a j;have o:W0.cell? ⟨w.heap.size,0,none⟩=some (.slice f M i):=cell_of_row _ _ 0 _ _ _ j;have p:W0.cell? ⟨w.heap.size,1,none⟩=some (.int .i64 s):=cell_of_row _ _ 1 _ _ _ j;clear j;have c:Hid (AR d s↔(M<=100000/\0<=s/\s<=(M:Int))):=by
  unfold Hid AR;rw[l.out]
 by_cases m:M<=100000
 .have h1i:(M:Int)<=100000:=by omega
  by_cases n:0<=s
  .by_cases h3:s<=(M:Int)
   .go_enter func119,ntmps119
    go_wp2
    go_ret;exact⟨Ax (by rw[M' (c.out.2 ⟨m,n,h3⟩)]),a⟩
   .go_enter func119,ntmps119
    go_wp2
    go_ret;exact⟨Ax (by rw[E' (λg=>absurd (c.out.1 g).2.2 (by omega))]),a⟩
  .go_enter func119,ntmps119
   go_wp2
   go_ret;exact⟨Ax (by rw[E' (λg=>absurd (c.out.1 g).2.1 (by omega))]),a⟩
 .have h1i:¬ (M:Int)<=100000:=by omega
  go_enter func119,ntmps119
  go_wp2
  go_ret;exact⟨Ax (by rw[E' (λg=>absurd (c.out.1 g).1 (by omega))]),a⟩
theorem JF(x:Value)(d:List Int)(s:Int)(n:Nat)(w:World)(h:Sl w x d)(G:n<=d.length) :
  Calls prog 120 #[.agg (tpA x s),.int .i64 (n:Int)] w λe w'=>∃ y,e=.returned (.agg (tpA y (n:Int)))/\w'.ownsRow w.heap.size 5 1 y n ((d.take n).map (Value.int .u8))/\Bw w w':=by
 have i:=h.len;obtain⟨b,c,rfl⟩:=h.rD;obtain⟨M,q⟩:∃ M,d.length=M:=⟨_,rfl⟩;have HM:Hid (d.length=M):=q;have N:Hid (n<=d.length):=G;obtain⟨t,u⟩:∃ t,t=d.take n:=⟨_,rfl⟩;have O:Hid (t=d.take n):=u;rw[<- u];clear u;rw[q]at h i G ⊢
 clear q;simp only[tpA];have v:=heap_alloc2_old w (.cells #[.slice b M c,.int .i64 s] 109) (.cells #[.slice none 0 0,.int .i64 0] 109);have z:=heap_alloc2_new w (.cells #[.slice b M c,.int .i64 s] 109) (.cells #[.slice none 0 0,.int .i64 0] 109);have l:Bw w ((w.alloc (.cells #[.slice b M c,.int .i64 s] 109)).alloc (.cells #[.slice none 0 0,.int .i64 0] 109)):=((Below.refl _ _).alloc (A' _) _).alloc (by simp) _;have f:((w.alloc (.cells #[.slice b M c,.int .i64 s] 109)).alloc (.cells #[.slice none 0 0,.int .i64 0] 109)).heap.size=w.heap.size+2:=by simp
 generalize U:(w.alloc (.cells #[.slice b M c,.int .i64 s] 109)).alloc (.cells #[.slice none 0 0,.int .i64 0] 109)=W0 at v z l f;have s0:=h.af l;have p:Hid (W0.heap.size=w.heap.size+2):=f;have K:w.heap.size+1<W0.heap.size:=by omega
 have L:w.heap.size<W0.heap.size:=by omega
 clear f;go_enter func120,ntmps120
 go_wp2_with ((with_reducible (refine DU ?_));at_make;refine MF _ rfl _ _ 52 rfl W0.heap.size 5 underlying52 Aw n rfl rfl (by omega) (A' _) ?_)
 clear U;intro A o F;have j:Bw W0 A:=(Below.refl _ _).grown F (A' _) (λk r=>by cases r);have I:=(j.block w.heap.size L).trans v;have J:=(j.block (w.heap.size+1) K).trans z;have Y:=s0.af j;obtain⟨Z,o⟩:=o.out;have C:Hid (A.ownsRow W0.heap.size 5 1 (.slice (some ⟨W0.heap.size,0,none⟩) n n) n Z):=o;have R:=l.trans (j.mono l.size);clear o v z F;have Q:A.cell? ⟨w.heap.size,0,none⟩=some (.slice b M c):=cell_of_row _ _ 0 _ _ _ I;go_wp2_with ((with_reducible (refine DU ?_));refine MD _ rfl _ _ 52 52 rfl W0.heap.size 5 underlying52 jD W0.heap.size n _ rfl C.out _ rfl d N.out Y t O.out ?_)
 intro B H P;have a:Hid (B.ownsRow W0.heap.size 5 1 (.slice (some ⟨W0.heap.size,0,none⟩) n n) n (t.map (Value.int .u8))):=H;have E:=P.mono (show w.heap.size+2<=W0.heap.size by have:=p.out;omega);have p1:=(E.block (w.heap.size+1) (by omega)).trans J;have S:=R.trans (E.mono (by omega));obtain⟨g,m⟩:∃ g,W0.heap.size=g:=⟨_,rfl⟩;have HG:Hid (W0.heap.size=g):=m;have f:g=w.heap.size+2:=m.symm.trans p.out;have D:Hid (g=w.heap.size+2):=f;rw[m]at a ⊢
 clear H C I J Q m f K L p;have W:=aV (some ⟨g,0,none⟩) n n (n:Int);go_wp2_with ((with_reducible (refine DU ?_));refine wpList_store_row rfl 109 (.tmp 4) (.tmp 14) rfl (w.heap.size+1) #[.slice (some ⟨g,0,none⟩) n n,.int .i64 (n:Int)] rfl rfl 109 _ p1 Mt rfl W ?_)
 have X:=setRow_heap B (w.heap.size+1) _ (#[.slice (some ⟨g,0,none⟩) n n,.int .i64 (n:Int)]) 109 _ p1;have T:=CY S (show w.heap.size<=w.heap.size+1 by omega) (#[.slice (some ⟨g,0,none⟩) n n,.int .i64 (n:Int)]);have V:(B.setRow (w.heap.size+1) #[.slice (some ⟨g,0,none⟩) n n,.int .i64 (n:Int)]).ownsRow g 5 1 (.slice (some ⟨g,0,none⟩) n n) n (t.map (Value.int .u8)):=DB a.out (λk r=>setRow_other _ _ _ _ (by have:=(a.out.lt k r).1;have:=D.out;omega));refine bodyPost_ret (aH rfl _ _ (w.heap.size+1) 109 _ (0,0) _ rfl X underlying109 rfl Mt) rfl ?_;exact⟨_,rfl,FS V (by have:=D.out;omega),T⟩
theorem TX:(prog.info? 51).map (·.size)=some 5:=by kernel_rfl
theorem UT:(prog.info? 156).map (·.size)=some 8:=by kernel_rfl
theorem jl{r:Value}{b a:Option Value}(h:∀ W,(Instr.slice 52 v b a none).run prog W=.ok r W)(w:World) :
  (do let x <- Instr.slice 52 v b a none;pure (Next.value x):Sem Next).run prog w=.ok (.value r) w:=by
 simp only[Sem.run_bind,h w,Result.andThen_ok,Sem.run_pure]
theorem Sl.ti(w:World)(b0 a b c d f h i:Int)(e:TypeId){g:Nat}(n:g=w.heap.size)(p:0<=b0/\b0<256)(q:0<=a/\a<256)(r:0<=b/\b<256)(s:0<=c/\c<256)(j:d=b0)(k:f=a)(l:h=b)(m:i=c) :
  Sl (w.alloc (.cells #[.int .u8 d,.int .u8 f,.int .u8 h,.int .u8 i] e)) (.slice (some ⟨g,0,none⟩) 4 4) [b0,a,b,c]:=by
 subst j k l m;exact Sl.built w [d,f,h,i] e n (by simp) (by intro x o;simp at o;omega)
theorem Re(w:World)(l:List Int)(e:TypeId){g:Nat}(c:g=w.heap.size){a:Nat}(b:a<=w.heap.size)(d:l.length<=1000):(w.alloc (.cells (l.map (Value.int .u8)).toArray e)).ownsRow a e 1 (.slice (some ⟨g,0,none⟩) l.length l.length) l.length (l.map (Value.int .u8)):=by
 subst c;refine⟨by simp,.inr ⟨w.heap.size,l.length,_,rfl,b,heap_alloc_new _ _,A' _,by unfold maxLen;omega,by simp,by rw[mJ (by simp)]⟩⟩
theorem Jz(w:World)(b c:Int)(e:TypeId){g:Nat}(h:g=w.heap.size){a:Nat}(d:a<=w.heap.size)(f:c=b):(w.alloc (.cells #[.int .u8 c] e)).ownsRow a e 1 (.slice (some ⟨g,0,none⟩) 1 1) [b].length ([b].map (Value.int .u8)):=by
 subst f;exact Re w [c] e h d (by simp)
def Df(ns:List Int):List Int:=ns.flatMap Ab
theorem VU(ns:List Int):(Df ns).length=4*ns.length:=by
 induction ns with
 | nil=>rfl
 | cons n ns ih =>
  show(Ab n++Df ns).length=_;rw[H',BE,ih,mY];omega
theorem SQ(ns:List Int)(n:Int):Df (ns++[n])=Df ns++Ab n:=by simp[Df]
theorem TA(l:List Int)(k:Nat)(a:k<l.length):l.take (k+1)=l.take k++[l.getD k 0]:=by
 rw[mN a,AZ a]
theorem Gx(v:Value)(l ns:List Int)(B g:Nat)(w:World)(I:w.ownsRow B 5 1 v l.length (l.map (Value.int .u8)))(O:B<=w.heap.size)(T:l.length<=1000)(z:ns.length<=10)(H:∀ x∈ns,0<=x/\x<2147483648)(G:w.heap[g]?=some (.cells (ns.map (Value.int .i64)).toArray 3)) :
  Calls prog 174 #[v,.slice (some ⟨g,0,none⟩) ns.length ns.length] w λe w'=>∃ v',e=.returned v'/\w'.ownsRow B 5 1 v' (l++Df ns).length ((l++Df ns).map (Value.int .u8))/\Below B w w':=by
 obtain⟨N,t⟩:∃ N,ns.length=N:=⟨_,rfl⟩;have D:Hid (ns.length=N):=t;have M:Hid (∀ x∈ns,0<=x/\x<2147483648):=H;rw[t]at z ⊢
 clear t H;have i:Hid (w.ownsRow B 5 1 v (l++Df (ns.take 0)).length ((l++Df (ns.take 0)).map (Value.int .u8))):=by unfold Hid;simpa[Df]using I
 clear I;go_enter func174,ntmps174
 go_wp2_with fail
 go_loopw [0,9] (λv iv wr=>∃ j:Nat,j<=N/\iv=.int .i64 (j:Int)/\Hid (wr.ownsRow B 5 1 v (l++Df (ns.take j)).length ((l++Df (ns.take j)).map (Value.int .u8)))/\wr.heap[g]?=some (.cells (ns.map (Value.int .i64)).toArray 3)/\Below B w wr) (λ_ iv _=>N-(intOf iv).toNat)
 case atStart=>exact⟨0,by omega,rfl,i,G,Below.refl _ _⟩
 case round =>
  obtain⟨j,S,rfl,f,c,a⟩:=hrel;clear i G;by_cases y:j<N
  .have hji:(j:Int)<(N:Int):=by omega
   have b:j<ns.length:=by rw[D.out];exact y
   have o:=f.out.lt;have Q:B<=wr.heap.size:=my O a.size;have P:=M.out (ns.getD j 0) (by rw[AZ b];exact m7 b);have F:wr.cell? ⟨g,j,none⟩=some (.int .i64 (ns.getD j 0)):=by
    rw[cell_of_row _ _ j _ _ _ c,AZ b];simp[List.getElem?_eq_getElem b]
   have s:Hid (ns.take (j+1)=ns.take j++[ns.getD j 0]):=TA ns j b;have d:(l++Df (ns.take j)).length+4<=140737488355328:=by
    rw[H',VU,X'];omega
   have p:=Mj f.out c (by decide);have lg:g<wr.heap.size:=(U'.1 c).1;have K:Hid (∀ n,Ab n=[n/16777216%256,n/65536%256,n/256%256,n%256]):=λn=>rfl;generalize ns.getD j 0=n at P F s;generalize E:l++Df (ns.take j)=L at f d;have C:Hid (l++Df (ns.take j)=L):=E;clear E b;go_wp2_with (at_builtin;refine Aa _ rfl _ _ 52 rfl B 5 underlying52 Aw _ _ rfl rfl L [n/16777216%256,n/65536%256,n/256%256,n%256] (f.out.alloc _) (Sl.ti _ (n/16777216%256) (n/65536%256) (n/256%256) (n%256) _ _ _ _ _ rfl (by omega) (by omega) (by omega) (by omega) (by omega) (by omega) (by omega) (by omega)) d (by simp;omega) ?_)
   intro R A q h;have u:Below B w A:=(a.alloc Q _).grown h (by simp;omega) (λk z=>(o k z).1);have m:A.heap[g]?=some (.cells (ns.map (Value.int .i64)).toArray 3):=by
    rw[h.block g (by simp;omega) (λe=>p g e.symm rfl),heap_alloc_old _ _ lg];exact c
   have r:Hid (A.ownsRow B 5 1 R (l++Df (ns.take (j+1))).length ((l++Df (ns.take (j+1))).map (Value.int .u8))):=by
    unfold Hid;rw[s.out,SQ,<- mA,C.out,K.out];simpa using q
   clear q h a d f p o c F s C;go_wp2
   go_roundw
   case rel=>exact⟨j+1,by omega,by go_num,r,m,u⟩
   case measure=>simp[intOf];omega
  .obtain rfl:j=N:=by omega
   have J:ns.take j=ns:=mJ (by rw[D.out];exact A' _);rw[J]at f
   clear J;go_wp2
   go_ret;exact⟨_,rfl,f.out,a⟩
theorem Sl.th(h:Sl w (.slice a n cap) l)(c b m:Nat)(i:c<=b)(d:b<=l.length)(r:m=b-c)(o k:Int)(g:o=(c:Int))(f:k=(b:Int)) :
  ∃ a' c',(∀ W,(Instr.slice 52 (.slice a n cap) (some (.int .i64 o)) (some (.int .i64 k)) none).run prog W=.ok (.slice a' m c') W)/\Sl w (.slice a' m c') ((l.take b).drop c):=by
 subst g;subst f;subst r;have s:=h.rI c b i d;obtain⟨⟨a',j,e,u,v,t⟩,q,p⟩:=h;simp only[Value.slice.injEq]at e;obtain⟨rfl,rfl,rfl⟩:=e;refine⟨_,_,λW=>?_,by simpa[sliced]using s⟩;rw[run_slice_lh (P:=prog) W 52 a _ cap underlying52 .i64 .i64 _ _ (by omega) (by omega) (by omega)];have e:prog.elem 52=5:=by kernel_rfl
 rw[e,FO,nk,nk];simp[Result.andThen,sliced]
def lenOf:Value->Nat
 | .slice _ n _=>n
 | _=>0
theorem Tc{e:Nat}{a:List Value}(h:w.ownsRow base e 1 v n a):lenOf v=n:=by
 rcases h.2 with⟨rfl,rfl⟩|⟨g,cap,cur,rfl,_⟩<;>rfl
theorem Ti(v:Value)(l:List Int)(w:World)(h:Sl w v l)(hl:l.length<=100000) :
  Calls prog 123 #[v] w λe w'=>∃ v',e=.returned v'/\w'.ownsRow w.heap.size 5 1 v' (pad l).length ((pad l).map (Value.int .u8))/\Bw w w':=by
 have hs:=h;obtain⟨⟨a,a1,rfl,hc,hn,h1⟩,a4,N⟩:=h;clear h1 hn N;obtain⟨i0,hi,S,T,U⟩:=info_parts Aw;go_enter func123,ntmps123
 go_wp2_with (at_make;refine wpList_make_own _ rfl _ _ 52 rfl w.heap.size 5 i0 (.int .u8 0) 1 underlying52 hi S T _ _ _ (l.length+128) rfl rfl (by omega) (by rw[U];omega) (by unfold maxLen;omega) (A' _) ?_)
 intro X F A;have f:Bw w X:=(Below.refl _ _).grown A (A' _) (by simp);have p:X.ownsRow w.heap.size 5 1 (.slice (some ⟨w.heap.size,0,none⟩) 0 (l.length+128)) ([]:List Int).length (([]:List Int).map (Value.int .u8)):=F;clear F A;go_wp2_with (at_builtin;refine Aa _ rfl _ _ 52 rfl w.heap.size 5 underlying52 Aw _ _ rfl rfl [] l p (hs.af f) (by simp;omega) f.size ?_)
 intro v2 Y G B;have n:Y.ownsRow w.heap.size 5 1 v2 l.length (l.map (Value.int .u8)):=by simpa using G
 have i:Bw w Y:=f.grown B f.size (by simp[Value.ownBlock]);have o:=n.lt;clear p B f G;go_wp2_with (at_builtin;refine Aa _ rfl _ _ 52 rfl w.heap.size 5 underlying52 Aw _ _ rfl rfl l [128] (n.alloc _) (Sl.one _ _ _ rfl (by omega)) (by simp;omega) (by have:=i.size;simp;omega) ?_)
 intro v3 Z H C;have q:Z.ownsRow w.heap.size 5 1 v3 (CP l 0).length ((CP l 0).map (Value.int .u8)):=by simpa[CP]using H
 have z:Bw w Z:=(i.alloc i.size _).grown C (by have:=i.size;simp;omega) (λk x=>(o k x).1);clear H C i o n;go_wp2
 go_loopw [3] (λv wr=>∃ j:Nat,j<=Fs l.length/\wr.ownsRow w.heap.size 5 1 v (CP l j).length ((CP l j).map (Value.int .u8))/\Bw w wr) (λv _=>Fs l.length+l.length+1-lenOf v)
 case atStart=>exact⟨0,mV _,q,z⟩
 case round =>
  clear q z;obtain⟨j,hj,b,c⟩:=hrel;obtain⟨g,cp,W,a3,Q,O,t,P⟩:=Ey b (by simp[CP]);rw[Dr]at W
  subst W;clear t P O;have hz:Fs l.length<=63:=by unfold Fs;omega
  have d:=b.lt;by_cases u:j<Fs l.length
  .have hne:¬ ((l.length+1+j)%64=56):=by unfold Fs at u;omega
   go_wp2_with (at_builtin;refine Aa _ rfl _ _ 52 rfl w.heap.size 5 underlying52 Aw _ _ rfl rfl (CP l j) [0] (b.alloc _) (Sl.one _ _ _ rfl (by omega)) (by rw[Dr];simp;omega) (by have:=c.size;simp;omega) ?_)
   intro V w4 I D;have r:w4.ownsRow w.heap.size 5 1 V (CP l (j+1)).length ((CP l (j+1)).map (Value.int .u8)):=by rw[<- Tf];simpa using I
   have L:Bw w w4:=(c.alloc c.size _).grown D (by have:=c.size;simp;omega) (λk x=>(d k x).1);have m:=Tc r;rw[Dr]at m
   have HL:Hid (lenOf V=l.length+1+(j+1)):=m;clear m I D b d c;go_wp2
   go_roundw
   case rel=>exact⟨j+1,u,r,L⟩
   case measure =>
    have m:=HL.out;show Fs l.length+l.length+1-lenOf V<Fs l.length+l.length+1-(l.length+1+j);rw[m];omega
  .have heq:(l.length+1+j)%64=56:=by unfold Fs at u hj;omega
   have a0:Hid ((l.length+1+j)%64=56):=heq;have a2:(((l.length:Int)+1+j)%64 != 56)=false:=by simp;omega
   have y:j=Fs l.length:=by omega
   have EJ:Hid (j=Fs l.length):=y;clear heq y;go_wp2_with fail
   go_loopw [3,5] (λv s wr=>∃ k:Nat,k<=8/\s=.int .i64 (56-8*(k:Int))/\wr.ownsRow w.heap.size 5 1 v (CP l j++(CO l.length).take k).length ((CP l j++(CO l.length).take k).map (Value.int .u8))/\Bw w wr) (λ_ s _=>(intOf s+8).toNat)
   case atStart=>exact⟨0,by omega,rfl,by simpa using b,c⟩
   case round =>
    clear b c d Q;obtain⟨k,x,rfl,b,c⟩:=hrel;have d:=b.lt;by_cases R:k<8
    .go_wp2_with (at_builtin;refine Aa _ rfl _ _ 52 rfl w.heap.size 5 underlying52 Aw _ _ rfl rfl _ _ (b.alloc _) (Sl.one _ _ _ rfl ?_) (by rw[H',Dr,X'];simp;omega) (by have:=c.size;simp;omega) ?_)
     .omega
     intro v5 w5 J E;have K:w5.ownsRow w.heap.size 5 1 v5 (CP l j++(CO l.length).take (k+1)).length ((CP l j++(CO l.length).take (k+1)).map (Value.int .u8)):=by
      rw[MV _ _ R];simpa using J
     have M:Bw w w5:=(c.alloc c.size _).grown E (by have:=c.size;simp;omega) (λk x=>(d k x).1);clear J E b d c;go_wp2
     go_roundw
     case rel=>exact⟨k+1,by omega,by go_num,K,M⟩
     case measure=>simp[intOf];omega
    .obtain rfl:k=8:=by omega
     go_wp2
     go_ret;refine⟨u3,rfl,?_,c⟩;unfold pad;rw[<- EJ.out];exact b
theorem Rv(s:St)(w:World) :
  Calls prog 126 #[.agg s.cells] w λe w'=>∃ v',e=.returned v'/\w'.ownsRow w.heap.size 5 1 v' (O9 s).length ((O9 s).map (Value.int .u8))/\Bw w w':=by
 obtain⟨K,J,C,D,E⟩:=info_parts Aw;unfold St.cells;go_enter func126,ntmps126
 go_wp2_with (at_make;refine wpList_make_own _ rfl _ _ 52 rfl w.heap.size 5 K (.int .u8 0) 1 underlying52 J C D _ _ _ 32 rfl rfl (by omega) (by rw[E];omega) (by unfold maxLen;omega) (by simp) ?_)
 intro F u o;have r:Bw w F:=((Below.refl _ _).alloc (A' _) _).grown o (by simp) (by simp);have n:F.heap[w.heap.size]?=some (.cells #[.int .u32 (uw s.a),.int .u32 (uw s.b),.int .u32 (uw s.c),.int .u32 (uw s.d),.int .u32 (uw s.e),.int .u32 (uw s.f),.int .u32 (uw s.g),.int .u32 (uw s.h)] 209 (0,0)):=by
  rw[o.block w.heap.size (by simp) (by simp)];exact heap_alloc_new _ _
 have m:F.ownsRow w.heap.size 5 1 (.slice (some ⟨w.heap.size+1,0,none⟩) 0 32) (CJ (s.list.take 0)).length ((CJ (s.list.take 0)).map (Value.int .u8)):=u;clear u o;go_wp2_with (refine wpList_load_row rfl 209 _ rfl w.heap.size rfl 209 _ (0,0) _ n underlying209 rfl (by kernel_rfl) ?_)
 go_loopw [3,8] (λv i wr=>∃ k:Nat,k<=8/\i=.int .i64 k/\wr.ownsRow w.heap.size 5 1 v (CJ (s.list.take k)).length ((CJ (s.list.take k)).map (Value.int .u8))/\Bw w wr) (λ_ i _=>8-(intOf i).toNat)
 case atStart=>exact⟨0,by omega,rfl,m,r⟩
 case round =>
  clear m r n;obtain⟨k,H,rfl,j,q⟩:=hrel;have t:=j.lt;by_cases p:k<8
  .have hix:=Yy s k p;have l:=Hi (s.list.take k);have y:Hid (s.list.take (k+1)=s.list.take k++[s.list.getD k 0#32]):=by
    unfold Hid;rw[mN (by simpa[St.list]using p)];simp[List.getD,List.getElem?_eq_getElem (show k<s.list.length by simpa[St.list]using p)]
   have A:(s.list.take k).length<=8:=by rw[X'];omega
   generalize s.list.take k=pre at j l y A;generalize s.list.getD k 0#32=x at hix y;have L:=DZ x;go_wp2_with (at_builtin;refine Aa _ rfl _ _ 52 rfl w.heap.size 5 underlying52 Aw _ _ rfl rfl (CJ pre) (Fx x) (j.alloc _) ?_ (by rw[l];simp[Fx];omega) (by have:=q.size;simp;omega) ?_)
   .exact Sl.built wr (Fx x) 5 rfl (by simp[Fx]) (JB x)
   intro v' w' I G;have B:w'.ownsRow w.heap.size 5 1 v' (CJ (pre++[x])).length ((CJ (pre++[x])).map (Value.int .u8)):=by
    rw[PD];simpa[Hi]using I
   have z:Bw w w':=(q.alloc q.size _).grown G (by have:=q.size;simp;omega) (λk H=>(t k H).1);clear I G j t q;go_wp2
   go_roundw
   case rel=>exact⟨k+1,by omega,by go_num,by rw[y.out];exact B,z⟩
   case measure=>simp[intOf];omega
  .have HK:Hid (k=8):=by unfold Hid;omega
   go_wp2
   go_ret;refine⟨u3,rfl,?_,q⟩;rw[HK.out]at j
   exact j
theorem kW(w:World):(Go.sizeOf 5).run prog w=.ok 1 w:=by
 obtain⟨i,b,_,a,_⟩:=info_parts Aw;simp[sizeOf,typeInfo,b,a]
theorem eF(g n a k:Nat)(c:64*k+64<=64*n)(b:64*n<=a):∀ W,(Instr.slice 52 (.slice (some ⟨g,0,none⟩) (64*n) a) (some (.int .i64 (64*(k:Int)))) (some (.int .i64 (64*(k:Int)+64))) none).run prog W=.ok (.slice (some ⟨g,64*k,none⟩) 64 (a-64*k)) W:=by
 intro W;have:=Lib.run_slice_window (P:=prog) W 52 5 underlying52 kW g 0 (64*n) a (64*k) (64*k+64) (by omega) (by omega);rw[show 64*k+64-64*k=64 by omega,na]at this
 rw[<- this];rfl
theorem jg{a:Array Value}(s:St)(c:w.heap[g]?=some (.cells a 209 (0,0)))(d:a.size=8):(storeCells ⟨g,0,none⟩ s.cells.toList).run prog w=.ok () (w.setRow g s.cells):=by
 have:=run_storeCells_from (P:=prog) g 209 s.cells.toList 0 a w c (by simp[St.cells];omega) (λv b=>by simp[St.cells]at b;rcases b with rfl|rfl|rfl|rfl|rfl|rfl|rfl|rfl<;>rfl);simpa using this
theorem Sl.sC{b c:Nat}(h:Sl w (.slice (some ⟨b,c,none⟩) n cap) l){g:Nat}(r:g<b)(j:Array Value):Sl (w.setRow g j) (.slice (some ⟨b,c,none⟩) n cap) l:=by
 obtain⟨⟨a,d,e,o,q,f⟩,k,m⟩:=h;refine⟨⟨a,d,e,o,q,?_⟩,k,m⟩;simp only[Value.slice.injEq]at e;obtain⟨rfl,_,_⟩:=e;rcases f with f|⟨b',off',e',hbs,hcell⟩
 .exact .inl f
 .simp only[Y',Addr.mk.injEq,and_true]at e';obtain⟨rfl,rfl⟩:=e';refine .inr ⟨b,c,rfl,by simpa using hbs,λi p=>?_⟩;rw[<- hcell i p];exact World.cell?_of_block (w:=w) (setRow_other w g b j (by omega))
theorem gA(l:List Int)(k:Nat)(a:64*k+64<=l.length):((l.drop (64*k)).take 64).length=64:=by
 rw[X',mF];omega
theorem Et(v:Value)(l:List Int)(w:World)(h:Sl w v l)(hl:l.length<=100000)(ht:AB w) :
  Calls prog 87 #[v] w λe w'=>∃ v',e=.returned v'/\w'.ownsRow w.heap.size 5 1 v' (dig l).length ((dig l).map (Value.int .u8))/\Bw w w':=by
 go_enter func87,ntmps87
 go_wp2_with fail
 generalize d:w.alloc _=W0;have f:Bw w W0:=by rw[<- d];exact(Below.refl _ _).alloc (A' _) _
 have z:W0.heap[w.heap.size]?=some (.cells (AA start.list) 209 (0,0)):=by rw[<- d];exact heap_alloc_new _ _
 have W:W0.heap.size=w.heap.size+1:=by rw[<- d];simp
 clear d;refine(Ti v l W0 (h.af f) hl).mono ?_;rintro e w1 ⟨vp,rfl,r,m⟩;have F:=Th l;have y:=Zn h.byte;have s:Sl w1 vp (pad l):=Sl.nn r (by omega) y;obtain⟨g,E,hv,R,T,q,_,_⟩:=Ey r (by intro e;rw[e]at F;simp at F);subst hv;have u:Bw w w1:=f.trans (m.mono f.size);have A:w1.heap[w.heap.size]?=some (.cells (AA start.list) 209 (0,0)):=(m.block _ (by omega)).trans z;have G:Hid (dig l=O9 (OE (pad l) ((pad l).length/64))):=rfl;have x:w.heap.size<g:=by omega
 clear f z r m R T W;generalize pad l=p at G s F y q ⊢;obtain⟨n,U⟩:∃ n,p.length=64*n:=⟨p.length/64,by omega⟩;have HN:Hid (p.length/64=n):=by unfold Hid;omega
 rw[HN.out]at G
 rw[U]at s q ⊢
 have a3:n<=2000:=by omega
 have D:Hid (p.length=64*n):=U;clear U F;go_wp2_with fail
 go_loopw [5] (λi wr=>∃ k:Nat,k<=n/\i=.int .i64 (64*(k:Int))/\wr.heap[w.heap.size]?=some (.cells (AA (OE p k).list) 209 (0,0))/\Sl wr (.slice (some ⟨g,0,none⟩) (64*n) E) p/\Bw w wr) (λi _=>64*n-(intOf i).toNat)
 case atStart=>exact⟨0,by omega,rfl,A,s,u⟩
 case round =>
  clear A s u;obtain⟨k,hk,rfl,a,s,t⟩:=hrel;by_cases a2:k<n
  .have hblk:=gA p k (by rw[D.out];omega);have I:Hid (OE p (k+1)=YT (OE p k) (Ol ((p.drop (64*k)).take 64))):=rfl;have C:Sl wr (.slice (some ⟨g,64*k,none⟩) 64 (E-64*k)) ((p.drop (64*k)).take 64):=by
    have q1:=Sl.drop (n:=64*n) (off:=0) s (64*k) (by rw[D.out];omega) (E-64*k) (by rw[D.out];omega);rw[na]at q1
    exact q1.take 64 (by rw[mF,D.out];omega)
   generalize (p.drop (64*k)).take 64=bl at hblk I C;generalize OE p k=S at I a;have J:=cell_of_row wr _ 0 _ _ _ a;have K:=cell_of_row wr _ 1 _ _ _ a;have L:=cell_of_row wr _ 2 _ _ _ a;have M:=cell_of_row wr _ 3 _ _ _ a;have N:=cell_of_row wr _ 4 _ _ _ a;have O:=cell_of_row wr _ 5 _ _ _ a;have P:=cell_of_row wr _ 6 _ _ _ a;have Q:=cell_of_row wr _ 7 _ _ _ a;simp only[AA,St.list,m9,nQ,nu,nJ,pz]at J K L M N O P Q;have b:w.heap.size<wr.heap.size:=(U'.1 a).1;have Z:AB wr:=ht.af t;have a1:∀ i,wr.frozen? ⟨w.heap.size,i,none⟩=false:=λi=>frozen_of_row wr _ i _ _ a;have H:Hid _:=a;have HB:Hid (Bw w wr):=t;clear a t;have a0:IntKind.i64.wrap (64*(k:Int)+64)=64*(k:Int)+64:=by simp only[IntKind.wrap,IntKind.bits,IntKind.signed];simp;omega
   have a4:=eF g n E k (by omega) q;go_wp2_with fail
   go_region_with (first
    | (go_at_call 125;refine(Pn _ bl _ (C.af ((Below.refl _ _).drew)) hblk).mono ?_;rintro e w2 ⟨rfl,c⟩;have B:w.heap.size<w2.heap.size:=Z' b c.size;have d0:=(c.cell (p:=⟨w.heap.size,0,none⟩) b).trans J;have d1:=(c.cell (p:=⟨w.heap.size,1,none⟩) b).trans K;have d2:=(c.cell (p:=⟨w.heap.size,2,none⟩) b).trans L;have d3:=(c.cell (p:=⟨w.heap.size,3,none⟩) b).trans M;have d4:=(c.cell (p:=⟨w.heap.size,4,none⟩) b).trans N;have d5:=(c.cell (p:=⟨w.heap.size,5,none⟩) b).trans O;have d6:=(c.cell (p:=⟨w.heap.size,6,none⟩) b).trans P;have d7:=(c.cell (p:=⟨w.heap.size,7,none⟩) b).trans Q)
    | (go_at_call 124;refine(VM S (Ol bl) _ (Pm bl) (Z.af ((Below.refl _ _).drew.trans c))).mono ?_;rintro e w3 ⟨rfl,o⟩;have a5:w.heap.size<w3.heap.size:=Z' B o.size;have X:=jg (YT S (Ol bl)) (((o.block _ B).trans (c.block _ b)).trans H.out) (by rfl)))
   all_goals
    clear J K L M N O P Q d0 d1 d2 d3 d4 d5 d6 d7 X;have j:Bw wr w3:=((Below.refl wr.heap.size wr).drew.trans c).trans (o.mono c.size);go_wp2
    go_roundw
    case rel =>
     refine⟨k+1,by omega,by go_num,?_,(s.af j).sC x _,BP (HB.out.trans (j.mono HB.out.size)) (A' _) _⟩;rw[I.out];exact setRow_heap w3 _ _ _ 209 _ ((j.block _ b).trans H.out)
    case measure=>simp[intOf];omega
  .have HK:Hid (k=n):=by unfold Hid;omega
   have H:Hid _:=a;have Y:(prog.info? 209).map (·.size)=some (AA (OE p k).list).size:=by kernel_rfl
   go_wp2_with (refine wpList_load_row rfl 209 _ rfl w.heap.size rfl 209 _ (0,0) _ a underlying209 rfl Y ?_)
   refine(Rv (OE p k) wr).mono ?_;rintro e w2 ⟨v2,rfl,V,c⟩;go_wp2
   go_ret;refine⟨v2,rfl,?_,t.trans (c.mono t.size)⟩;rw[G.out,<- HK.out];exact BK V t.size
structure Fresh(w w':World)(v:Value)(l:List Int):Prop where
 sl:Sl w' v l
 sF:Bw w w'
 shape:∃ g cap,v=.slice (some ⟨g,0,none⟩) l.length cap/\w.heap.size<=g/\l.length<=cap
theorem Fresh.nn{d:World}(h:d.ownsRow w.heap.size 5 1 v l.length (l.map (Value.int .u8)))(c:l≠[])(j:l.length<=140737488351232)(i:∀ x∈l,0<=x/\x<256)(a:Bw w d):Fresh w d v l:=by
 obtain⟨g,b,k,e,_,f,_,_⟩:=Ey h c;exact⟨Sl.nn h j i,a,g,b,k,e,f⟩
theorem FF(h:l.length=n+1):l≠[]:=by
 intro e;rw[e]at h;simp at h
theorem jj(v:Value)(l:List Int)(w:World)(h:Sl w v l)(o:l.length<=2000)(k:AB w) :
  Calls prog 44 #[v] w λe w'=>∃ v',e=.returned (.tuple #[v',.int .i64 0])/\Fresh w w' v' (dig l):=by
 have j:=h;obtain⟨⟨a,c,rfl,n,p,d⟩,g,b⟩:=h;clear d b;go_enter func44,ntmps44
 go_wp2_with fail
 refine(Et _ l w j (by omega) k).mono ?_;rintro e q ⟨m,rfl,i,f⟩;go_wp2
 go_ret2
 exact⟨m,rfl,Fresh.nn i (FF (As l)) (by rw[As];omega) (Dn l) f⟩
theorem eK(v:Value)(l:List Int)(w:World)(h:Sl w v l)(o:l.length<=2000)(k:AB w) :
  Calls prog 44 #[v] w λe w'=>∃ v',e=.returned (.tuple #[v',.int .i64 0])/\w'.ownsRow w.heap.size 5 1 v' 32 ((dig l).map (Value.int .u8))/\Bw w w':=by
 have j:=h;obtain⟨⟨a,d,rfl,n,p,f⟩,i,b⟩:=h;clear f b;go_enter func44,ntmps44
 go_wp2_with fail
 refine(Et _ l w j (by omega) k).mono ?_;rintro e q ⟨m,rfl,c,g⟩;go_wp2
 go_ret2
 rw[As]at c
 exact⟨m,rfl,c,g⟩
def dif(la lb:List Int):Nat->Int
 | 0=>0
 | k+1=>bits .or .u8 (dif la lb k) (bits .xor .u8 (la.getD k 0) (lb.getD k 0))
theorem lJ{a b:Nat}:a ||| b=0↔a=0/\b=0:=by
 constructor
 .intro h;have c:∀ i,(a ||| b).testBit i=false:=by intro i;rw[h];simp
  constructor
  .apply pX;intro i;have:=c i;rw[Nat.testBit_or]at this;simp at this;simp[this.1]
  .apply pX;intro i;have:=c i;rw[Nat.testBit_or]at this;simp at this;simp[this.2]
 .rintro⟨rfl,rfl⟩;rfl
theorem lC{a b:Nat}:a ^^^ b=0↔a=b:=by
 constructor
 .intro h;have c:∀ i,(a ^^^ b).testBit i=false:=by intro i;rw[h];simp
  apply pX;intro i;have:=c i;rw[Nat.testBit_xor]at this;simpa using this
 .rintro rfl;simp
theorem XK(q:∀ x∈la,0<=x/\x<256)(r:∀ x∈lb,0<=x/\x<256)(k:Nat) :
  0<=dif la lb k/\dif la lb k<256/\(dif la lb k=0↔∀ i,i<k->la.getD i 0=lb.getD i 0):=by
 induction k with
 | zero=>simp[dif]
 | succ k ih =>
  obtain⟨l,m,o⟩:=ih;have d:=Al q k;have e:=Al r k;have f:=u8_xor _ _ d.1 d.2 e.1 e.2;have b:(la.getD k 0).toNat ^^^ (lb.getD k 0).toNat<256:=px (n:=8) (by omega) (by omega);have g:=u8_or (dif la lb k) (((la.getD k 0).toNat ^^^ (lb.getD k 0).toNat:Nat):Int) l m (by omega) (by omega);have a:dif la lb (k+1)=(((dif la lb k).toNat ||| ((la.getD k 0).toNat ^^^ (lb.getD k 0).toNat):Nat):Int):=by
   show bits .or .u8 (dif la lb k) (bits .xor .u8 (la.getD k 0) (lb.getD k 0))=_;rw[f,g];simp
  have c:(dif la lb k).toNat ||| ((la.getD k 0).toNat ^^^ (lb.getD k 0).toNat)<256:=Nat.or_lt_two_pow (n:=8) (by omega) b;refine⟨by rw[a];omega,by rw[a];omega,?_⟩;have j:dif la lb (k+1)=0↔dif la lb k=0/\la.getD k 0=lb.getD k 0:=by
   rw[a];have:=@lJ (dif la lb k).toNat ((la.getD k 0).toNat ^^^ (lb.getD k 0).toNat);have p:=@lC (la.getD k 0).toNat (lb.getD k 0).toNat;rw[p]at this
   constructor
   .intro h;have:=this.1 (by omega);omega
   .intro h;have:=this.2 (by omega);omega
  rw[j,o];constructor
  .intro h i s;rcases nt i k with h'|h'
   .exact h.1 i h'
   .obtain rfl:i=k:=by omega
    exact h.2
  .intro h;exact⟨λi s=>h i (by omega),h k (by omega)⟩
theorem cc(c:∀ x∈la,0<=x/\x<256)(d:∀ x∈lb,0<=x/\x<256)(e:la.length=lb.length):(dif la lb lb.length==0)=decide (la=lb):=by
 rw[Bool.eq_iff_iff,decide_eq_true_iff,beq_iff_eq,(XK c d _).2.2];constructor
 .intro h;apply oS e;intro i b a;have:=h i a
  rwa [AZ b,AZ a]at this
 .rintro rfl _ _;rfl
theorem IH(r s:Value)(f c:List Int)(w:World)(v:Sl w r f)(x:Sl w s c) :
  Calls prog 170 #[r,s] w λe w'=>e=.returned (.bool (decide (f=c)))/\∃ n,w'=w.drewN n:=by
 obtain⟨⟨a,t,rfl,C,E,u⟩,z,g⟩:=v;obtain⟨⟨b,q,rfl,y,B,m⟩,A,h⟩:=x;by_cases l:f.length=c.length
 .rcases u with rfl|⟨ba,oa,rfl,_,hca⟩
  .obtain rfl:c=[]:=j' (by simpa using l.symm);go_enter func170,ntmps170
   go_wp2
   refine wp_loop_rounds 1 ?_;rw[rounds_succ];go_wp2
   go_ret;exact⟨rfl,0,rfl⟩
  .rcases m with rfl|⟨bb,ob,rfl,_,hcb⟩
   .obtain rfl:f=[]:=j' (by simpa using l);go_enter func170,ntmps170
    go_wp2
    refine wp_loop_rounds 1 ?_;rw[rounds_succ];go_wp2
    go_ret;exact⟨rfl,0,rfl⟩
   .have HD:Hid ((dif f c c.length==0)=decide (f=c)):=cc g h l;go_enter func170,ntmps170
    go_wp2
    go_loopw [5,14] (λd i wr=>∃ k n:Nat,k<=c.length/\i=.int .i64 k/\d=.int .u8 (dif f c k)/\wr=w.drewN n) (λ_ i _=>c.length-(intOf i).toNat)
    case atStart=>exact⟨0,0,mV _,rfl,rfl,rfl⟩
    case round =>
     obtain⟨k,n,D,rfl,rfl,rfl⟩:=hrel;by_cases j:k<c.length
     .have hx:=hca k (by omega);have F:=hcb k j;clear hca hcb g h;have p:k<f.length:=by omega
      go_wp2
      go_quiet (fail)
      go_wp2
      go_roundw
      case rel=>exact⟨k+1,_,by omega,by go_num,by simp only[dif,AZ p,AZ j],rfl⟩
      case measure=>simp[intOf];omega
     .obtain rfl:k=c.length:=by omega
      clear hca hcb;go_wp2
      go_ret;exact⟨Ax HD.out,n,rfl⟩
 .have hne:((f.length:Int)==(c.length:Int))=false:=by simp;omega
  have o:decide (f=c)=false:=E' (λe=>l (by rw[e]));go_enter func170,ntmps170
  go_wp2
  go_ret;exact⟨Ax o.symm,0,rfl⟩
theorem Ot(v:Value)(l:List Int)(w:World)(h:Sl w v l)(p:l.length<=2000)(q:AB w) :
  Calls prog 177 #[v] w λe w'=>∃ a c,e=.returned (.tuple #[.slice a 4 c,.int .i64 0])/\Sl w' (.slice a 4 c) ((dig l).take 4)/\Bw w w':=by
 go_enter func177,ntmps177
 go_wp2_with fail
 refine(jj v l w h p q).mono ?_;rintro e t ⟨y,rfl,f⟩;obtain⟨g,b,m,s,d⟩:=f.shape;rw[As]at m d
 subst m;obtain⟨j,k,n,r⟩:=f.sl.ra 4 (by rw[As];decide);have o:=f.sF;clear f;have i:(4:Int)<=(b:Int):=by omega
 replace n:∀ W,(Instr.slice 52 (.slice (some ⟨g,0,none⟩) 32 b) none (some (.int .i64 4)) none).run prog W=.ok (.slice j 4 k) W:=n;go_wp2
 go_ret2
 exact⟨j,k,rfl,r,o⟩
theorem MO(v:Value)(r:List Int)(w:World)(h:Sl w v r)(ht:AB w){u:World}(O:Sl u v r) :
  Calls prog 152 #[v] w λe w'=>∃ a n c,e=.returned (.tuple #[.slice a n c,.bool (fbO r).isSome])/\Sl u (.slice a n c) ((fbO r).getD [])/\Bw w w':=by
 have o:=h.len;have P:=Al h.byte 0;obtain⟨ax,cp,rfl⟩:=h.rD;by_cases B:r=[]
 .subst B;have d:Hid (fbO []=none):=if_pos rfl;rw[d.out];go_enter func152,ntmps152
  go_wp2
  go_ret2
  exact⟨none,0,0,rfl,Sl.nil _ _,Below.refl _ _⟩
 .have hp:0<r.length:=by
   rcases Nat.eq_zero_or_pos r.length with g|g
   .exact absurd (j' g) B
   .exact g
  obtain⟨bd,od,rfl,F,G⟩:=h.rQ 0 hp;obtain⟨x,f⟩:∃ x:Nat,r.getD 0 0=(x:Int):=⟨(r.getD 0 0).toNat,by omega⟩;have q:(r.getD 0 0).toNat=x:=by rw[f];exact nk _
  rw[f]at G P
  obtain⟨M,D⟩:∃ M,r.length=M:=⟨_,rfl⟩;have b:Hid (r.length=M):=D;have j:Hid ((r.getD 0 0).toNat=x):=q;have hz:(0:Int)<(M:Int):=by omega
  have a2:((M:Int)==0)=false:=by simp;omega
  rw[D]at h O o hp ⊢
  have a3:x<256:=by omega
  have i:Hid (¬ r=[]):=B;clear D f q P B;rw[oM]at G
  by_cases L:M<x+5
  .have d:Hid (fbO r=none):=by
    unfold Hid fbO;rw[if_neg i.out,j.out,b.out,if_pos L]
   rw[d.out];have l:(M:Int)<1+(x:Int)+4:=by omega
   clear i j;go_enter func152,ntmps152
   go_wp2
   go_ret2
   exact⟨none,0,0,rfl,Sl.nil _ _,Below.refl _ _⟩
  .have l:¬ (M:Int)<1+(x:Int)+4:=by omega
   obtain⟨E,N⟩:∃ E:Nat,E=x+1:=⟨_,rfl⟩;have z:Hid (E=x+1):=N;have C:1+(x:Int)=(E:Int):=by omega
   have a0:E+4<=M:=by omega
   have a1:E<=256:=by omega
   have m:1<=E:=by omega
   rw[C]at l
   obtain⟨X,cu,ru,S⟩:=h.ra E (by rw[b.out];omega);obtain⟨V,Z,rf,H⟩:=h.th E (E+4) 4 (by omega) (by rw[b.out];omega) (by omega) (E:Int) ((E:Int)+4) rfl (by omega);obtain⟨U,Y,rb,Q⟩:=O.th 1 E x m (by rw[b.out];omega) (by omega) 1 (E:Int) rfl rfl;have hl:(r.take E).length=E:=by rw[X',b.out];omega
   have I:Hid ((r.take (E+4)).drop E=(r.drop E).take 4):=by unfold Hid;rw[pM,show E+4-E=4 by omega]
   rw[I.out]at H
   clear N L m I;go_enter func152,ntmps152
   go_wp2_with fail
   refine(Ot (.slice X E cu) (r.take E) w S (by omega) ht).mono ?_;rintro e T ⟨W,cg,rfl,R,A⟩;have y:=H.af A;have s:=Q;clear S H Q ru G F hl;go_wp2_with fail
   refine(IH (.slice W 4 cg) (.slice V 4 Z) ((dig (r.take E)).take 4) ((r.drop E).take 4) T R y).mono ?_;rintro e w2 ⟨rfl,n2,p⟩;have J:Bw T w2:=by rw[p];exact Aq (Below.refl _ _) n2
   clear p;have K:=A.trans (J.mono A.size);have t:=s;clear A J s R y rf;by_cases k:(dig (r.take E)).take 4=(r.drop E).take 4
   .have d:Hid (fbO r=some ((r.take E).drop 1)):=by
     unfold Hid fbO;have:=z.out;rw[if_neg i.out,j.out,b.out,if_neg (by omega),<- this,if_neg (λg=>g k)]
    rw[M' k];clear k i j z;go_wp2
    go_ret2
    rw[d.out];exact⟨U,x,Y,rfl,t,K⟩
   .have d:Hid (fbO r=none):=by
     unfold Hid fbO;have:=z.out;rw[if_neg i.out,j.out,b.out,if_neg (by omega),<- this,if_pos k]
    rw[E' k];clear k i j z t;go_wp2
    go_ret2
    rw[d.out];exact⟨none,0,0,rfl,Sl.nil _ _,K⟩
theorem Pg(v:Value)(b:List Int)(w:World)(h:Sl w v b)(P:b.length<=255)(U:AB w) :
  Calls prog 173 #[v] w λe w'=>∃ y,e=.returned (.tuple #[y,.int .i64 0])/\w'.ownsRow w.heap.size 5 1 y (AM b).length ((AM b).map (Value.int .u8))/\Bw w w':=by
 obtain⟨ax,cp,rfl⟩:=h.rD;obtain⟨N,l⟩:∃ N,b.length=N:=⟨_,rfl⟩;have Y:Hid (b.length=N):=l;have z:Hid (DW b++(dig (DW b)).take 4=AM b):=rfl;have K:Hid ([(N:Int)]++b=DW b):=by unfold Hid DW;rw[l];rfl
 have a:Hid ((DW b).length=N+1/\∀ x∈DW b,0<=x/\x<256):=⟨by rw[CD,l],Lv h.byte P⟩;rw[l]at h P ⊢
 have V:(N:Int)%256=(N:Int):=by omega
 have o:[(N:Int)].length+b.length<=140737488355328:=by rw[l];simp;omega
 clear l;obtain⟨q,g⟩:∃ q,w.alloc (.cells #[.int .u8 (N:Int)] 5)=q:=⟨_,rfl⟩;have r:Bw w q:=by rw[<- g];exact Ck _ _
 have H:q.ownsRow w.heap.size 5 1 (.slice (some ⟨w.heap.size,0,none⟩) 1 1) [(N:Int)].length ([(N:Int)].map (Value.int .u8)):=by rw[<- g];exact Jz w N N 5 rfl (A' _) rfl
 have O:=h.af r;go_enter func173,ntmps173
 go_wp2_with (at_builtin;refine Aa _ rfl _ _ 52 rfl w.heap.size 5 underlying52 Aw _ _ rfl rfl [(N:Int)] b H O o r.size ?_)
 clear g;intro s t j L;have c:=H.lt;have A:Bw w t:=r.grown L r.size (λk n=>(c k n).1);replace j:t.ownsRow w.heap.size 5 1 s ([(N:Int)]++b).length (([(N:Int)]++b).map (Value.int .u8)):=by simpa using j
 rw[K.out]at j
 have I:=Sl.nn j (by rw[a.out.1];omega) a.out.2;have m:(DW b).length<=2000:=by rw[a.out.1];omega
 have i:(DW b).length+((dig (DW b)).take 4).length<=140737488355328:=by rw[a.out.1,X',As];omega
 clear H L c K o O;generalize E:DW b=F at j I m i z;have d:Hid (t.ownsRow w.heap.size 5 1 s F.length (F.map (Value.int .u8))):=j;clear j E a;go_wp2_with fail
 refine(Ot s F t I m (U.af A)).mono ?_;rintro e X ⟨Z,c4,rfl,J,B⟩;have C:=A.trans (B.mono A.size);have f:Hid (X.ownsRow w.heap.size 5 1 s F.length (F.map (Value.int .u8))):=DB d.out (λk n=>B.block k (d.out.lt k n).2);have p:=f.out.lt;generalize T:(dig F).take 4=D at J z i;clear d B T I;have G:=C.size;go_wp2_with (at_builtin;refine Aa _ rfl _ _ 52 rfl w.heap.size 5 underlying52 Aw _ _ rfl rfl F D f.out J i G ?_)
 intro W R Q M;have S:Bw w R:=C.grown M C.size (λk n=>(p k n).1);have u:Hid (R.ownsRow w.heap.size 5 1 W (AM b).length ((AM b).map (Value.int .u8))):=by
  unfold Hid;rw[<- z.out];simpa using Q
 clear Q M f p J;go_wp2
 go_ret2
 exact⟨_,rfl,u.out,S⟩
end
section
variable{P:Program}{md:Region.Mode}{ops:Array Oper}{Q:Exit->Act->World->Prop}{S:World->Prop}
theorem VW{i d:Nat}{o:Oper}{a:Act}{w:World}{K:Act->World->Prop}(r:ops[i]?=some o)(B:Region.wanted o (yielded ops a.tmps)=true)(q:o.dst=some d)(s x:Operand)(t:TypeId)
  (n:o.op=.call { callee:=.builtin .append,args:=#[s,x],argTypes:=#[t,t] })
  (b e:Nat)(z:P.underlying t=some (.slice e))(f:(P.info? e).map (λi=>(i.zero,i.size,i.bytes))=some (some (.int .u8 0),1,1))
  (v u:Value)(y:a.eval s=v)(C:a.eval x=u)(l m:List Int)(j:w.ownsRow b e 1 v l.length (l.map (Value.int .u8)))(A:Sl w u m)
  (g:l.length+m.length<=140737488355328)(c:b<=w.heap.size)
  (h:∀ v' w',w'.ownsRow b e 1 v' (l++m).length ((l++m).map (Value.int .u8))->w.grownBy w' v.ownBlock->K (a.put (some d) v') w'):wpOp P ops Q i K a w :=
 wpOp_step r λF p=>by
  rw[if_pos B];obtain⟨v',w',k,D,E⟩:=Hq (P:=P) w b t o.type e z f v l j u m A g c;unfold Oper.wp execOp;simp only[n,resolve,invoke,builtin,Sem.run_bind,Sem.run_pure,Result.andThen_ok,pf,m9,nQ,y,C,k];exact p _ _ (by rw[q];exact h v' w' D E)
end
section
theorem Hj(x:Value)(d:List Int)(s:Int)(k:Nat)(G:k<=1000)(w:World)(h:Sl w x d) :
  Calls prog 145 #[.agg (tpA x s),.int .i64 (k:Int)] w λe w'=>e=.returned (.int .i64 (G1 d s k))/\Bw w w':=by
 have t:=h.len;obtain⟨q,r,rfl⟩:=h.rD;obtain⟨M,B⟩:∃ M,d.length=M:=⟨_,rfl⟩;have z:Hid (d.length=M):=B;rw[B]at h t ⊢
 clear B;simp only[tpA];obtain⟨o,n⟩:∃ o,w.alloc (.cells #[.slice q M r,.int .i64 s] 109)=o:=⟨_,rfl⟩;have c:o.heap[w.heap.size]?=some (.cells #[.slice q M r,.int .i64 s] 109):=by rw[<- n];exact E6 _ _
 have A:Bw w o:=by rw[<- n];exact Ck _ _
 have i:w.heap.size<o.heap.size:=(U'.1 c).1;have b:=h.af A;go_enter func145,ntmps145
 go_wp2_with ((with_reducible (refine DU ?_));(refine wpList_load_row rfl 109 _ rfl w.heap.size rfl 109 _ (0,0) _ c underlying109 rfl Mt ?_))
 clear n;refine(LA (.slice q M r) d s o b).mono ?_;rintro e y ⟨rfl,f⟩;have E:=A.trans (f.mono A.size);have a:=(f.block _ i).trans c;have C:=Z' i f.size;have D:=b.af f;clear i c b;clear f;by_cases m:AR d s
 .rw[M' m];have F:M<=100000:=by rw[<- z.out];exact m.1
  have u:=E;by_cases v:100000<M+k
  .have h2i:(100000:Int)<(M:Int)+(k:Int):=by omega
   have p:Hid (G1 d s k=8):=by unfold Hid G1;rw[if_neg (λg=>g m),z.out,if_pos v]
   clear m v;have j:y.cell? ⟨w.heap.size,0,none⟩=some (.slice q M r):=cell_of_row _ _ 0 _ _ _ a;have l:y.cell? ⟨w.heap.size,1,none⟩=some (.int .i64 s):=cell_of_row _ _ 1 _ _ _ a;go_wp2
   go_ret;exact⟨by rw[p.out];rfl,u⟩
  .have h2i:¬ (100000:Int)<(M:Int)+(k:Int):=by omega
   have p:Hid (G1 d s k=0):=by unfold Hid G1;rw[if_neg (λg=>g m),z.out,if_neg v]
   clear m v;have j:y.cell? ⟨w.heap.size,0,none⟩=some (.slice q M r):=cell_of_row _ _ 0 _ _ _ a;have l:y.cell? ⟨w.heap.size,1,none⟩=some (.int .i64 s):=cell_of_row _ _ 1 _ _ _ a;go_wp2
   go_ret;exact⟨by rw[p.out];rfl,u⟩
 .rw[E' m];have p:Hid (G1 d s k=5):=if_pos m;clear m;have u:=E;go_wp2
  go_ret;exact⟨by rw[p.out];rfl,u⟩
theorem MC(x:Value)(d:List Int)(s:Int)(v:Value)(b:List Int)(w:World)(h:Sl w x d)(hv:Sl w v b)(hb:b.length<=255)(hd:d.length<=100000)(ht:AB w) :
  Calls prog 146 #[.agg (tpA x s),v] w λe w'=>∃ y,e=.returned (.tuple #[.agg (tpA y s),.int .i64 0])/\w'.ownsRow w.heap.size 5 1 y (d++AM b).length ((d++AM b).map (Value.int .u8))/\Bw w w':=by
 have HD:Hid (∀ x∈d,0<=x/\x<256):=h.byte;have a2:Hid (∀ x∈AM b,0<=x/\x<256):=LS hv.byte hb;have a8:(AM b).length<=260:=by rw[Bg];omega
 have a6:=h.len;obtain⟨ax,cp,rfl⟩:=h.rD;obtain⟨M,hM⟩:∃ M,d.length=M:=⟨_,rfl⟩;have HM:Hid (d.length=M):=hM;rw[hM]at h a6 ⊢
 clear hM;simp only[tpA];rw[HM.out]at hd
 obtain⟨i0,b7,c2,c5,c6⟩:=info_parts Aw;obtain⟨U,Q⟩:∃ U,(w.alloc (.cells #[.slice ax M cp,.int .i64 s] 109)).alloc (.cells #[.slice none 0 0,.int .i64 0] 109)=U:=⟨_,rfl⟩;have A:U.heap[w.heap.size]?=some (.cells #[.slice ax M cp,.int .i64 s] 109):=by rw[<- Q];exact Mk _ _ _
 have B:U.heap[w.heap.size+1]?=some (.cells #[.slice none 0 0,.int .i64 0] 109):=by rw[<- Q];exact Ml _ _ _
 have bb:Bw w U:=by rw[<- Q];exact Ou _ _ _
 have t:w.heap.size<U.heap.size:=(U'.1 A).1;have u:(w.heap.size+1)<U.heap.size:=(U'.1 B).1;have I:=ht.af bb;have E:=h.af bb;have o:=hv.af bb;go_enter func146,ntmps146
 go_wp2_with fail
 clear Q;refine(Pg v b U o hb I).mono ?_;rintro e q ⟨y,rfl,oy,a⟩;obtain⟨R,hR⟩:∃ R,AM b=R:=⟨_,rfl⟩;rw[hR]at oy a8 a2
 have HR:Hid (AM b=R):=hR;clear hR;have sy:=Sl.nn oy (by omega) a2.out;obtain⟨N,hN⟩:∃ N,R.length=N:=⟨_,rfl⟩;have HN:Hid (R.length=N):=hN;rw[hN]at oy a8
 clear hN;obtain⟨ay,cy,rfl⟩:=Cz oy;have d1:=bb.trans (a.mono bb.size);have J:=I.af a;have n:=(a.block _ t).trans A;have m:=Z' t a.size;have C:=(a.block _ u).trans B;have f:=Z' u a.size;have G:=E.af a;have F:=o.af a;clear I t A u B E o;clear a;clear oy;have d0:=sy;have a5:w.heap.size+1<q.heap.size:=f;have L:q.cell? ⟨w.heap.size,0,none⟩=some (.slice ax M cp):=cell_of_row _ _ 0 _ _ _ n;go_wp2_with (at_make;refine wpList_make_own _ rfl _ _ 52 rfl q.heap.size 5 i0 (.int .u8 0) 1 underlying52 b7 c2 c5 _ _ _ (M+N) rfl rfl (by omega) (by rw[c6];omega) (by unfold maxLen;omega) (A' _) ?_)
 intro w2 o2 g2;have r:Bw q w2:=(Below.refl _ _).grown g2 (A' _) (λk Y=>by cases Y);clear g2 L;have d7:=r.size;have b5:=r;have d2:=d1.trans (r.mono d1.size);have d5:=J.af r;have D:=(r.block _ m).trans n;have c7:=Z' m r.size;have a0:=(r.block _ f).trans C;have c8:=Z' f r.size;have H:=G.af r;have c9:=F.af r;clear J m n f C G F;clear r;have a1:Hid (w2.ownsRow q.heap.size 5 1 (.slice (some ⟨q.heap.size,0,none⟩) 0 (M+N)) ([]:List Int).length (([]:List Int).map (Value.int .u8))):=o2;have V:=o2.lt;have b8:([]:List Int).length+d.length<=140737488355328:=by rw[HM.out];simp;omega
 clear o2;have O:w2.cell? ⟨w.heap.size,0,none⟩=some (.slice ax M cp):=cell_of_row _ _ 0 _ _ _ D;go_wp2_with (at_builtin;refine Aa _ rfl _ _ 52 rfl q.heap.size 5 underlying52 Aw _ _ rfl rfl [] d a1.out H b8 (by omega) ?_)
 intro v3 l o3 g3;have b3:Below q.heap.size w2 l:=(Below.refl _ _).grown g3 (by omega) (λk Y=>(V k Y).1);have K:Hid (l.ownsRow q.heap.size 5 1 v3 d.length (d.map (Value.int .u8))):=by unfold Hid;simpa using o3
 have d8:=b3.size;have d4:Sl l (.slice ay N cy) R:=d0.af (show Bw q l from b5.trans b3);have a9:=(b3.block w.heap.size (by omega)).trans D;have b0:=(b3.block (w.heap.size+1) a5).trans a0;have d3:=d2.trans (b3.mono (show w.heap.size<=q.heap.size by omega));have z:w.heap.size+1<l.heap.size:=by omega
 have d6:q.heap.size<=l.heap.size:=by omega
 obtain⟨a3,c3,h3⟩:=Cz K.out;rw[HM.out]at h3
 subst h3;have c1:l.cell? ⟨w.heap.size,1,none⟩=some (.int .i64 s):=cell_of_row _ _ 1 _ _ _ a9;obtain⟨T,hT⟩:∃ T,M+N=T:=⟨_,rfl⟩;have HT:Hid (M+N=T):=hT;clear hT;clear o3 g3 b3 V a1 H O;go_wp2_with fail
 apply aJ (λg c Wz=>Wz.heap[w.heap.size+1]?=some (.cells #[.slice g T c,.int .i64 s] 109)/\Wz.ownsRow q.heap.size 5 1 (.slice g T c) T ((d++R).map (Value.int .u8))/\Below (w.heap.size+1) l Wz)
 .intro K2 HK2;have j:Bw l l.drew:=(Below.refl _ _).drew;refine wp_region_held (S:=λw'=>Below (w.heap.size+1) l w') (by kernel_rfl) ?_;have P:(λw'=>Below (w.heap.size+1) l w') l.drew:=j.mono (oN z);refine Bb (i:=0) 29 (v:=.slice a3 M c3) rfl rfl (by kernel_rfl) (by kernel_rfl) (by kernel_rfl) (λ_ _ _ h=>h) (qy ⟨by rfl,λ_ _=>by kernel_rfl⟩) P ?_;simp only[Act.put,mC,mH,mI];refine Bb (i:=1) 30 (v:=.slice ay N cy) rfl rfl (by kernel_rfl) (by kernel_rfl) (by kernel_rfl) (λ_ _ _ h=>h) (qy ⟨by rfl,λ_ _=>by kernel_rfl⟩) P ?_;simp only[Act.put,mC,mH,mI];refine Bb (i:=3) 32 (v:=.pointer (some ⟨w.heap.size,1,none⟩)) rfl rfl (by kernel_rfl) (by kernel_rfl) (by kernel_rfl) (λ_ _ _ h=>h) (qy ⟨by rfl,λ_ _=>by kernel_rfl⟩) P ?_;simp only[Act.put,mC,mH,mI];refine Bb (i:=4) 33 (v:=.int .i64 s) rfl rfl (by kernel_rfl) (by kernel_rfl) (by kernel_rfl) (λ_ _ _ h=>h) (WY (by rfl) 3 (.tmp 32) rfl _ underlying3 rfl ⟨w.heap.size,1,none⟩ rfl (.int .i64 s) (λw' c0=>(c0.cell (p:=⟨w.heap.size,1,none⟩) (show w.heap.size<w.heap.size+1 by omega)).trans c1)) P ?_;simp only[Act.put,mC,mH,mI];have od:l.drew.ownsRow q.heap.size 5 1 (.slice a3 M c3) d.length (d.map (Value.int .u8)):=DB K.out (λk Y=>j.block k (K.out.lt k Y).2);have rd:=(j.block (w.heap.size+1) z).trans b0;have b9:=od.lt;have Z:d.length+R.length<=140737488355328:=by rw[HM.out,HN.out];omega
  refine Eb (i:=2) (by kernel_rfl) (VW (i:=2) (d:=31) rfl (by kernel_rfl) rfl (.tmp 29) (.tmp 30) 52 rfl q.heap.size 5 underlying52 Aw (.slice a3 M c3) (.slice ay N cy) (by kernel_rfl) (by kernel_rfl) d R od (d4.af j) Z (my d6 j.size) ?_);intro v4 w4 o4 g4;have b4:Below (w.heap.size+1) l w4:=(j.mono (oN z)).grown g4 (my (oN z) j.size) (λk Y=>my (oN a5) (b9 k Y).1);have r4:w4.heap[w.heap.size+1]?=some (.cells #[.slice none 0 0,.int .i64 0] 109):=(g4.block (w.heap.size+1) (Z' z j.size) (λe=>Mj od rd (by decide) _ e.symm rfl)).trans rd;have b6:(d++R).length=T:=by rw[H',HM.out,HN.out];exact HT.out
  rw[b6]at o4
  obtain⟨W,X,h4⟩:=Cz o4;subst h4;refine⟨b4,?_⟩;simp only[Act.put,mC,mH,mI];refine Bb (i:=5) 34 (v:=.agg #[.slice W T X,.int .i64 s]) rfl rfl (by kernel_rfl) (by kernel_rfl) (by kernel_rfl) (λ_ _ _ h=>h) (qy ⟨by rfl,λ_ _=>by kernel_rfl⟩) b4 ?_;simp only[Act.put,mC,mH,mI];have a7:=aV W T X s;have e7:Below (w.heap.size+1) l (w4.setRow (w.heap.size+1) #[.slice W T X,.int .i64 s]):=CY b4 (A' _) _;have q7:=setRow_heap w4 (w.heap.size+1) _ (#[.slice W T X,.int .i64 s]) 109 _ r4;have o7:=WD o4 r4 (by decide) (#[.slice W T X,.int .i64 s]);refine Eb (i:=6) (by kernel_rfl) (Uy (i:=6) rfl (by kernel_rfl) rfl 109 (.tmp 4) (.tmp 34) rfl (w.heap.size+1) #[.slice W T X,.int .i64 s] (by kernel_rfl) (by kernel_rfl) 109 _ r4 Mt rfl a7 ⟨e7,?_⟩);refine Bb (i:=7) 5 (v:=.int .i64 0) rfl rfl (by kernel_rfl) (by kernel_rfl) (by kernel_rfl) (λ_ _ _ h=>h) (qy ⟨by rfl,λ_ _=>by kernel_rfl⟩) e7 ?_;simp only[Act.put,mC,mH,mI];exact wpAnyH_done (by kernel_rfl) (HK2.out W X _ ⟨q7,o7,e7⟩) _
 rintro g c Wz ⟨qR,oR,eR⟩;have dR:=d3.trans (eR.mono (by omega));have b1:Hid ((d++AM b).length=T):=by unfold Hid;rw[HR.out,H',HM.out,HN.out];exact HT.out
 clear a9 b0 c1 K;go_wp2
 refine bodyPost_ret (UF rfl _ _ (w.heap.size+1) 109 _ (0,0) _ rfl qR underlying109 rfl Mt) rfl ?_;rw[b1.out,HR.out];exact⟨_,rfl,FS oR (by omega),dR⟩
theorem Pq(b:Bal)(z:Ac b)(w:World) :
  Calls prog 147 #[.agg (baA b)] w λe w'=>∃ y,e=.returned y/\w'.ownsRow w.heap.size 5 1 y 9 ((Bu b).map (Value.int .u8))/\Bw w w':=by
 obtain⟨n,m⟩:=b;have t:=z;unfold Ac at t;simp only at t;have O:Hid (Ac ⟨n,m⟩):=z;clear z;simp only[baA];obtain⟨d,o⟩:∃ d,w.alloc (.cells #[.int .i64 n,.int .i64 m] 96)=d:=⟨_,rfl⟩;have h:d.heap[w.heap.size]?=some (.cells #[.int .i64 n,.int .i64 m] 96):=by rw[<- o];exact E6 _ _
 have v:Bw w d:=by rw[<- o];exact Ck _ _
 have f:w.heap.size<d.heap.size:=(U'.1 h).1;obtain⟨i,p⟩:∃ i,d.alloc (.cells #[.int .u8 1] 5)=i:=⟨_,rfl⟩;have u:Bw d i:=by rw[<- p];exact Ck _ _
 have B:i.ownsRow d.heap.size 5 1 (.slice (some ⟨d.heap.size,0,none⟩) 1 1) [(1:Int)].length ([(1:Int)].map (Value.int .u8)):=by rw[<- p];exact Jz d 1 1 5 rfl (A' _) rfl
 have E:=v.trans (u.mono v.size);have a:=(u.block _ f).trans h;have c:=Z' f u.size;clear f h;have j:i.cell? ⟨w.heap.size,0,none⟩=some (.int .i64 n):=cell_of_row _ _ 0 _ _ _ a;have l:i.cell? ⟨w.heap.size,1,none⟩=some (.int .i64 m):=cell_of_row _ _ 1 _ _ _ a;obtain⟨r,q⟩:∃ r,i.alloc (.cells #[.int .i64 n,.int .i64 m] 3)=r:=⟨_,rfl⟩;have s:Bw i r:=by rw[<- q];exact Ck _ _
 have rn:r.heap[i.heap.size]?=some (.cells ([n,m].map (Value.int .i64)).toArray 3):=by rw[<- q];exact heap_alloc_new _ _
 have N:d.heap.size<=r.heap.size:=my u.size s.size;have H:=E.trans (s.mono E.size);have C:=(s.block _ c).trans a;have A:=Z' c s.size;have g:=DB B (λk J=>s.block k (B.lt k J).2);clear c a B;go_enter func147,ntmps147
 go_wp2_with fail
 clear o p q j l;refine(Gx (.slice (some ⟨d.heap.size,0,none⟩) 1 1) [1] [n,m] d.heap.size i.heap.size r g N (by simp) (by simp) (by intro x K;simp at K;omega) rn).mono ?_;rintro e M ⟨L,rfl,F,D⟩;have I:=H.trans (D.mono v.size);have G:Hid (M.ownsRow w.heap.size 5 1 L 9 ((Bu ⟨n,m⟩).map (Value.int .u8))):=FS F v.size;clear F D rn g;go_wp2
 go_ret;exact⟨_,rfl,G.out,I⟩
theorem Ps(v:Vt)(hv:Ah v)(x:Value)(w:World)(P:Sl w x (Dm v.w.k v.w.c v.w.s v.w.n v.w.v)) :
  Calls prog 167 #[.agg (vtA v),x] w λe w'=>∃ y,e=.returned y/\w'.ownsRow w.heap.size 5 1 y 33 ((Bj v).map (Value.int .u8))/\Bw w w':=by
 obtain⟨p,⟨o,m⟩,⟨G,F,I,H,J⟩⟩:=v;have E:=hv;unfold Ah Ac at E;simp only at E P;obtain⟨a0,a1,-⟩:=E;clear hv;simp only[vtA,vtC];obtain⟨b,z⟩:∃ b,w.alloc (.cells #[.int .i64 p,.int .i64 o,.int .i64 m,.int .i64 G,.int .i64 F,.int .i64 I,.int .i64 H,.int .i64 J] 156)=b:=⟨_,rfl⟩;have i:b.heap[w.heap.size]?=some (.cells #[.int .i64 p,.int .i64 o,.int .i64 m,.int .i64 G,.int .i64 F,.int .i64 I,.int .i64 H,.int .i64 J] 156):=by rw[<- z];exact E6 _ _
 have u:Bw w b:=by rw[<- z];exact Ck _ _
 have g:w.heap.size<b.heap.size:=(U'.1 i).1;have j:=P.af u;obtain⟨f,A⟩:∃ f,b.alloc (.cells #[.int .u8 2] 5)=f:=⟨_,rfl⟩;have N:Bw b f:=by rw[<- A];exact Ck _ _
 have W:f.ownsRow b.heap.size 5 1 (.slice (some ⟨b.heap.size,0,none⟩) 1 1) [(2:Int)].length ([(2:Int)].map (Value.int .u8)):=by rw[<- A];exact Jz b 2 2 5 rfl (A' _) rfl
 have d1:=u.trans (N.mono u.size);have a:=(N.block _ g).trans i;have d:=Z' g N.size;have l:=j.af N;clear g i j;have q:f.cell? ⟨w.heap.size,0,none⟩=some (.int .i64 p):=cell_of_row _ _ 0 _ _ _ a;have r:f.cell? ⟨w.heap.size,1,none⟩=some (.int .i64 o):=cell_of_row _ _ 1 _ _ _ a;have t:f.cell? ⟨w.heap.size,2,none⟩=some (.int .i64 m):=cell_of_row _ _ 2 _ _ _ a;obtain⟨K,B⟩:∃ K,f.alloc (.cells #[.int .i64 p,.int .i64 o,.int .i64 m] 3)=K:=⟨_,rfl⟩;have M:Bw f K:=by rw[<- B];exact Ck _ _
 have rn:K.heap[f.heap.size]?=some (.cells ([p,o,m].map (Value.int .i64)).toArray 3):=by rw[<- B];exact heap_alloc_new _ _
 have z1:b.heap.size<=K.heap.size:=my N.size M.size;have d2:=d1.trans (M.mono d1.size);have Y:=(M.block _ d).trans a;have V:=Z' d M.size;have Z:=l.af M;have h:=DB W (λk U=>M.block k (W.lt k U).2);clear d a l W;go_enter func167,ntmps167
 go_wp2_with fail
 clear z A B q r t;refine(Gx (.slice (some ⟨b.heap.size,0,none⟩) 1 1) [2] [p,o,m] b.heap.size f.heap.size K h z1 (by simp) (by simp) (by intro x P;simp at P;omega) rn).mono ?_;rintro e w3 ⟨v3,rfl,S,T⟩;have d3:=d2.trans (T.mono u.size);have Q:=P.af d3;have z3:b.heap.size<=w3.heap.size:=my z1 T.size;have O:=S.lt;have R:Hid ([2]++Df [p,o,m]++Dm G F I H J=Bj ⟨p,⟨o,m⟩,⟨G,F,I,H,J⟩⟩):=rfl;have D:([(2:Int)]++Df [p,o,m]).length+(Dm G F I H J).length<=140737488355328:=by show 33<=_;decide
 generalize hL:[(2:Int)]++Df [p,o,m]=L at S R D;generalize hC:Dm G F I H J=C at Q R D;clear hL hC rn T h;go_wp2_with (at_builtin;refine Aa _ rfl _ _ 52 rfl b.heap.size 5 underlying52 Aw _ _ rfl rfl L C S Q D z3 ?_)
 intro v4 w4 o4 g4;have d4:Bw w w4:=d3.grown g4 (my u.size z3) (λk U=>my u.size (O k U).1);have HO:Hid (w4.ownsRow w.heap.size 5 1 v4 33 ((Bj ⟨p,⟨o,m⟩,⟨G,F,I,H,J⟩⟩).map (Value.int .u8))):=by
  have X:w4.ownsRow b.heap.size 5 1 v4 (L++C).length ((L++C).map (Value.int .u8)):=by simpa using o4
  have:=FS X u.size;rw[R.out]at this
  exact this
 clear o4 g4 S O R;go_wp2
 go_ret;exact⟨_,rfl,HO.out,d4⟩
def Jf(l:List Int)(j:Nat):List Int:=(l.take j).flatMap Ab
theorem Vv(l:List Int)(j:Nat)(h:j<l.length):Jf l (j+1)=Jf l j++Ab (l.getD j 0):=by
 unfold Jf;rw[mN h,List.flatMap_append,AZ h];simp
theorem PV(l:List Int)(j:Nat):(Jf l j).length<=4*j:=by
 unfold Jf;induction l generalizing j with
 | nil=>simp
 | cons x l ih =>
  cases j with
  | zero=>simp
  | succ j =>
   have:=ih j;rw[nG,oI,H',BE];omega
theorem Vu(k c s n v:Int):Jf [k,c,s,n,v] 5=Dm k c s n v:=rfl
def Vw(k c s n v:Int):List Int:=if Bi k c s n v=0 then Dm k c s n v else[]
variable{E c k n s:Int}{b:Bal}{base e i nb ob:Nat}{d:List Int}{g:Gh}{l:List Vt}{ls:List Let}{p:Nod}{ts:List Tol}{v:Vt}{w w':World}{x:S3}{xs:List Value}
theorem OJ{v:Int}(h:Bi k c s n v=0):Vw k c s n v=Dm k c s n v:=if_pos h
theorem cB{v:Int}(h:¬ Bi k c s n v=0):Vw k c s n v=[]:=if_neg h
def O3:Array Value:=(List.replicate 20 (Value.int .u8 0)).toArray
theorem iw(w:World):(Instr.makeSlice 52 (.int .i64 0) (.int .i64 20)).run prog w=.ok (.slice (some ⟨w.heap.size,0,none⟩) 0 20) (w.alloc (.cells O3 5)):=by
 obtain⟨i,c,d,a,b⟩:=info_parts Aw;rw[run_makeSlice (P:=prog) w 52 5 i (.int .u8 0) underlying52 c d .i64 .i64 0 20 (by omega) (by omega) (by rw[a];decide) (by rw[b];decide) (by omega),a];have e:madeCells (Value.int .u8 0).cells ((20:Int).toNat*1)=O3:=by kernel_rfl
 rw[e];rfl
theorem Bc.num{g:Nat}{v:Int}(h:Bc w g k c s n v)(j:Nat)(i:j<5):w.cell? ⟨g,j,none⟩=some (.int .i64 ([k,c,s,n,v].getD j 0)):=by
 obtain⟨a,b,d,e,f⟩:=Fc h.row;rcases(by omega:j=0\/j=1\/j=2\/j=3\/j=4)with rfl|rfl|rfl|rfl|rfl
 .exact a
 .exact b
 .exact d
 .exact e
 .exact f
theorem Tb{v:Value}{n:Nat}(h:w.ownsRow base e 1 v n xs)(a:∀ k,v.ownBlock=some k->w'.heap[k]?=w.heap[k]?):w'.ownsRow base e 1 v n xs:=by
 refine⟨h.1,?_⟩;rcases h.2 with h2|⟨g,cap,cur,hv,hb,hg,hr⟩
 .exact .inl h2
 .exact .inr ⟨g,cap,cur,hv,hb,(a g (by rw[hv];rfl)).trans hg,hr⟩
theorem JP{v:Value}{n:Nat}(h:w.ownsRow base e 1 v n xs)(a:Bw w w'):w'.ownsRow base e 1 v n xs :=
 Tb h λk b=>a.block k (h.lt k b).2
theorem Li(k c s n v:Int)(w:World)(S:NTab w) :
  Calls prog 43 #[.agg (cmA k c s n v)] w λe w'=>∃ v',e=.returned (.tuple #[v',.int .i64 (Bi k c s n v)])/\w'.ownsRow w.heap.size 5 1 v' (Vw k c s n v).length ((Vw k c s n v).map (Value.int .u8))/\Bw w w':=by
 have q:Bw w (w.alloc (.cells (cmA k c s n v) 51)):=(Below.refl _ _).alloc (A' _) _;have i:=Bc.made w k c s n v;have J:=S.af q;have hi:=GM k c s n v;generalize hW:w.alloc (.cells (cmA k c s n v) 51)=W at q i J;clear S;go_enter func43,ntmps43
 go_wp2_with (refine wpList_load_row rfl 51 _ rfl w.heap.size rfl 51 _ (0,0) _ i.row underlying51 rfl hi ?_)
 clear hW;refine(Ex k c s n v W J).mono ?_;rintro e a ⟨rfl,F⟩;have H:Bw w a:=q.trans (F.mono q.size);replace i:=i.af F;clear F q J;by_cases p:Bi k c s n v=0
 .have HE:Hid (Vw k c s n v=Jf [k,c,s,n,v] 5):=(OJ p).trans (Vu k c s n v).symm;have A:=Fd p;have P:Hid (∀ j,j<5->0<=[k,c,s,n,v].getD j 0/\[k,c,s,n,v].getD j 0<2147483648):=by
   unfold Hid;obtain⟨hk,hc⟩:=A;unfold InC at hc;intro j M;rcases(by omega:j=0\/j=1\/j=2\/j=3\/j=4)with rfl|rfl|rfl|rfl|rfl
   .show 0<=k/\k<2147483648;omega
   .show 0<=c/\c<2147483648;omega
   .show 0<=s/\s<2147483648;omega
   .show 0<=n/\n<2147483648;omega
   .show 0<=v/\v<2147483648;omega
  have O:Hid ([k,c,s,n,v].length=5):=rfl;have Y:Hid (Bi k c s n v=0):=p;rw[p];clear A p;have u:=iw a;have z:Below a.heap.size a (a.alloc (.cells O3 5)):=(Below.refl _ _).alloc (A' _) _;have x:(a.alloc (.cells O3 5)).ownsRow a.heap.size 5 1 (.slice (some ⟨a.heap.size,0,none⟩) 0 20) ([]:List Int).length (([]:List Int).map (Value.int .u8)) :=
   ⟨rfl,.inr ⟨a.heap.size,20,O3,rfl,A' _,heap_alloc_new _ _,by decide,by simp[maxLen],rfl,rfl⟩⟩
  have h:Hid _:=x;clear x;generalize a.alloc (.cells O3 5)=W2 at u z h;go_wp2_with fail
  refine(Hl w.heap.size W2).mono ?_;rintro e U ⟨rfl,G⟩;have f:Hid (U.ownsRow a.heap.size 5 1 (.slice (some ⟨a.heap.size,0,none⟩) 0 20) ([]:List Int).length (([]:List Int).map (Value.int .u8))):=JP h.out G;have I:Below a.heap.size a U:=z.trans (G.mono z.size);have z3:=I.size;clear h z G u;have N:=i.lt;have R:∀ wr,Below a.heap.size a wr->∀ j,j<5->wr.cell? ⟨w.heap.size,j,none⟩=some (.int .i64 ([k,c,s,n,v].getD j 0)):=λwr hb j M=>(i.af hb).num j M;have D:Hid _:=R;clear i R;generalize [k,c,s,n,v]=L at HE P D O;have r:a.heap.size<=a.heap.size:=A' _;have o:w.heap.size<=a.heap.size:=H.size;generalize hB:a.heap.size=B at I z3 f D N o;replace r:B<=a.heap.size:=by omega
  clear hB;have l:=QH w.heap.size;go_wp2_with fail
  go_loopw [5,15] (λv iv wr=>∃ j:Nat,j<=5/\iv=.int .i64 (j:Int)/\wr.ownsRow B 5 1 v (Jf L j).length ((Jf L j).map (Value.int .u8))/\Below B a wr) (λ_ iv _=>(5-intOf iv).toNat)
  case atStart=>exact⟨0,by omega,rfl,f.out,I⟩
  case round =>
   obtain⟨j,M,rfl,d,b⟩:=hrel;by_cases m:j<5
   .have hji:(j:Int)<5:=by omega
    have K:=l j m;have t:=D.out _ b j m;have g:=P.out j m;have C:Hid (Jf L (j+1)=Jf L j++Ab (L.getD j 0)):=Vv L j (by rw[O.out];omega);have V:=PV L j;have y:Hid _:=d;have A:B<=wr.heap.size:=my r b.size;clear d l f;generalize L.getD j 0=X at t g C;go_wp2_with fail
    refine(Ho _ _ X B wr y.out A (by omega) g.1 g.2).mono ?_;rintro e w5 ⟨v5,rfl,T,Q⟩;have E:Hid (w5.ownsRow B 5 1 v5 (Jf L (j+1)).length ((Jf L (j+1)).map (Value.int .u8))):=by unfold Hid;rw[C.out];exact T
    have Z:=b.trans Q;clear T Q y C V t K g;go_wp2
    go_roundw
    case rel=>exact⟨j+1,by omega,by go_num,E.out,Z⟩
    case measure=>simp[intOf];omega
   .obtain rfl:j=5:=by omega
    rw[show((5:Nat):Int)=5 from rfl];have y:Hid _:=d;clear d l f;go_wp2
    go_ret2
    rw[HE.out,Y.out];exact⟨_,rfl,BK y.out o,H.trans (b.mono o)⟩
 .have HE:Hid (Vw k c s n v=[]):=cB p;go_wp2
  go_ret2
  rw[HE.out];exact⟨_,rfl,World.ownsRow_nil _ _ _ _,H⟩
theorem JN{P:Program}{f:Func}{p u:Tmp}{c:TypeId}(h:f.results=#[.cell p c,.tmp u])(a:Array Value)(w:World)(g:Nat)(t:TypeId)(b:Array Value)(i:Nat × Nat)(d:TypeDesc)(m:a.getD p undef=.pointer (some ⟨g,0,none⟩))(k:w.heap[g]?=some (.cells b t i))(n:P.underlying c=some d)(j:(match d with|.struct _|.array _ _=>true|_=>false)=true)(l:(P.info? c).map (·.size)=some b.size) :
  (results f a).run P w=.ok (.tuple #[.agg b,a.getD u undef]) w:=by
 have e:a[p]?.getD undef=.pointer (some ⟨g,0,none⟩):=by simpa using m
 simp[results,h,e,asAddr,run_loadVar_row w g t c b i d k n j l]
theorem TW(k c s n v:Int):(cmA k c s n v).all (·.oneCell')=true:=by simp[cmA,Value.oneCell']
theorem Nb.mono{B C:Nat}{y:S3}{l:List Int}(h:Nb B y l)(c:C<=B):Nb C y l:=λd a b=>my c (h d a b)
theorem aD{y:Value}(b:Sv w y l):∃ z:S3,y=z.v:=by
 obtain⟨a,c,rfl⟩:=b.shape;exact⟨⟨a,l.length,c⟩,rfl⟩
theorem lu(w:World):Sv w (.slice none 0 0) []:=⟨⟨none,0,rfl,A' _,λ_=>rfl,.inl rfl⟩,by simp⟩
theorem iJ(d:NTab w){E:Int}(c:(if Ac b then 0 else 2)=E) :
  Calls prog 111 #[.agg #[iv 0,iv 0,S3.v s30],.agg #[iv b.r,iv b.n]] w λe w'=>∃ (r n:Int) (y z:S3),e=.returned (.tuple #[.agg #[iv r,iv n,y.v],z.v,iv E])/\Bw w w':=by
 refine(QF ⟨0,0⟩ (.slice none 0 0) [] b w (lu w) d).mono ?_;rintro e w' ⟨y,z,rfl,g,h,f⟩;obtain⟨y,rfl⟩:=aD g;obtain⟨z,rfl⟩:=aD h;have a:Cf ⟨⟨0,0⟩,[]⟩ b=E:=(dQ b).trans c;rw[a];exact⟨_,_,y,z,rfl,f⟩
theorem EQ{may:Prop}[Decidable may]{b:List Int}(h:CF d s may b=E)(a:E≠0):FU d s may b=[]/\GH d s may b=0:=⟨if_neg (by rw[h];exact a),if_neg (by rw[h];exact a)⟩
theorem al(a:Ac b){w:World}:Calls prog 147 #[.agg #[iv b.r,iv b.n]] w λe w'=>∃ y:S3,e=.returned y.v/\Sl w' y.v (Bu b)/\Bw w w':=by
 refine(Pq b a w).mono ?_;rintro e w' ⟨y,rfl,c,h⟩;obtain⟨z,rfl,d⟩:=Pa (l:=Bu b) c (by rw[show(Bu b).length=9 from rfl];decide) (We b);exact⟨z,rfl,d,h⟩
theorem UX{v:S3}{b:List Int}(s:Int){w:World}(h:Sl w x.v d)(c:Sl w v.v b)(a:b.length<=255)(m:d.length+5+b.length<=100000)(i:AB w) :
  Calls prog 146 #[.agg #[x.v,iv s],v.v] w λe w'=>∃ y:S3,e=.returned (.tuple #[.agg #[y.v,iv s],iv 0])/\Sl w' y.v (d++AM b)/\Nb w.heap.size y (d++AM b)/\Bw w w':=by
 refine(MC x.v d s v.v b w h c a (by omega) i).mono ?_;rintro e w' ⟨y,rfl,g,j⟩;obtain⟨z,rfl,l,f⟩:=Jq g (by rw[H',Bg];omega) (λx k=>(P'.1 k).elim (h.byte x) (LS c.byte a x));exact⟨z,rfl,l,f,j⟩
theorem gg(f:NTab w){E:Int}(d:(if Ah v then 0 else 2)=E) :
  Calls prog 113 #[.agg #[iv 0,iv 0,S3.v s30],.agg #[iv v.bu,iv v.b.r,iv v.b.n,iv v.w.k,iv v.w.c,iv v.w.s,iv v.w.n,iv v.w.v]] w λe w'=>∃ (r n:Int) (y:S3),e=.returned (.tuple #[.agg #[iv r,iv n,y.v],iv E])/\Bw w w':=by
 refine(R2 ⟨0,0⟩ (.slice none 0 0) [] v w (lu w) f).mono ?_;rintro e w' ⟨y,rfl,h,g⟩;obtain⟨y,rfl⟩:=aD h;have a:AY ⟨⟨0,0⟩,[]⟩ v=E:=(ff v).trans d;rw[a];exact⟨_,_,y,rfl,g⟩
theorem XY{m:Cmd}(f:NTab w)(d:m.e=0) :
  Calls prog 43 #[.agg #[iv m.k,iv m.c,iv m.s,iv m.n,iv m.v]] w λe w'=>∃ y:S3,e=.returned (.tuple #[y.v,iv 0])/\Sl w' y.v (Dm m.k m.c m.s m.n m.v)/\Bw w w':=by
 refine(Li m.k m.c m.s m.n m.v w f).mono ?_;rintro e w' ⟨y,rfl,b,g⟩;have a:Bi m.k m.c m.s m.n m.v=0:=d;rw[OJ a]at b
 rw[a];obtain⟨y,rfl,h⟩:=Pa b (by rw[BX];decide) (GN _ _ _ _ _);exact⟨y,rfl,h,g⟩
theorem aE(d:Ah v){x:S3}{w:World}(f:Sl w x.v (Dm v.w.k v.w.c v.w.s v.w.n v.w.v)) :
  Calls prog 167 #[.agg #[iv v.bu,iv v.b.r,iv v.b.n,iv v.w.k,iv v.w.c,iv v.w.s,iv v.w.n,iv v.w.v],x.v] w λe w'=>∃ y:S3,e=.returned y.v/\Sl w' y.v (Bj v)/\Bw w w':=by
 refine(Ps v d x.v w f).mono ?_;rintro e w' ⟨y,rfl,a,h⟩;obtain⟨z,rfl,g⟩:=Pa (l:=Bj v) a (by rw[GD];decide) (WU v);exact⟨z,rfl,g,h⟩
theorem ZH{k:Nat}(h:G1 d s k=0):d.length+k<=100000:=by
 unfold G1 at h;split at h
 .cases h
 .split at h
  .cases h
  .omega
theorem Kb(h:Sl w x.v d)(hT:AB w)(hN:NTab w) :
  Calls prog 112 #[.agg #[x.v,iv s],.agg #[iv b.r,iv b.n]] w λe w'=>∃ y:S3,e=.returned (.tuple #[.agg #[y.v,iv (GH d s (Ac b) (Bu b))],iv (CF d s (Ac b) (Bu b))])/\Sl w' y.v (FU d s (Ac b) (Bu b))/\Nb w.heap.size y (FU d s (Ac b) (Bu b))/\Bw w w':=by
 obtain⟨j,q⟩:∃ j,G1 d s 14=j:=⟨_,rfl⟩;obtain⟨m,k⟩:∃ m:Int,(if Ac b then 0 else 2)=m:=⟨_,rfl⟩;have hW:CF d s (Ac b) (Bu b)=if j≠0 then j else m:=by rw[<- q,<- k];rfl
 refine kIn func112 (kR 11 [0,0,0,0,1,0,0] λa w1 U=>kC 1 ((q▸Hj x.v d s 14 (by decide) _ (h.af U))) ?_);rintro _ w2 ⟨rfl,Y⟩;refine⟨_,rfl,Y,?_⟩;refine kR 7 [] λd2 w3 b3=>?_;by_cases o:j≠0
 .refine kI ((j != 0)) true (by simpa using o) (kF 7 [2,0] λd3 w4 b4 q4=>?_);have c:=hW.trans (if_pos o);rw[c,(EQ c o).1,(EQ c o).2];have B5:=((btr (btr U Y) b3).trans b4);exact qE2 4 5 109 2 (a 2) #[S3.v s30,iv 0] (iv j) λK=>⟨s30,rfl,EB _,λh=>absurd rfl h,B5⟩
 .refine kI ((j != 0)) false (by simpa using o) ?_;have a0:j=0:=by simpa using o
  have hd:=ZH (q.trans a0);refine kR 6 [1] λd4 w6 b6=>?_;have P:=(btr (btr (btr U Y) b3) b6);refine kC 2 (iJ (hN.af P) k) ?_;rintro _ w8 ⟨r,n,ya,za,rfl,Q⟩;refine⟨_,rfl,Q,?_⟩;refine kR 14 [1,0,3,0] λa5 w9 b9=>?_;by_cases E:m≠0
  .refine kI ((m != 0)) true (by simpa using E) (kF 7 [2,0] λa8 c2 V c1=>?_);have c:=hW.trans (if_neg o);rw[c,(EQ c E).1,(EQ c E).2];have R:=((btr (btr P Q) b9).trans V);exact qE2 4 5 109 2 (a 2) #[S3.v s30,iv 0] (iv m) λK=>⟨s30,rfl,EB _,λh=>absurd rfl h,R⟩
  .refine kI ((m != 0)) false (by simpa using E) ?_;have F:m=0:=by simpa using E
   have p:Ac b:=by by_cases g:Ac b;exact g;rw[if_neg g,F]at k;cases k
   have c:CF d s (Ac b) (Bu b)=0:=hW.trans ((if_neg o).trans F);rw[c,show FU d s (Ac b) (Bu b)=d++AM (Bu b)from if_pos c,show GH d s (Ac b) (Bu b)=s from if_pos c];refine kR 4 [2,2,1] λa9 c3 t=>jW 33 (λw' e L=>∃ (y:S3),e=[(4,pt (a 2) 0),(5,iv 0)]/\L=[⟨(a 0),.cells #[S3.v x,iv s] 109,.z,false⟩,⟨(a 1),.cells #[iv b.r,iv b.n] 96,.z,false⟩,⟨(a 2),.cells #[S3.v y,iv s] 109,.l,false⟩,⟨(a5 0),.cells #[iv r,iv n,S3.v ya] 99,.l,false⟩]/\Sl w' y.v (d++AM (Bu b))/\Nb w.heap.size y (d++AM (Bu b))/\Bw w w') ?_ ?_
   .intro J hJ;refine jY 0 2 ?_ ?_
    .refine kR 1 [0] λb0 c4 W=>kC 2 (al p) ?_;rintro _ c5 ⟨a6,rfl,G,u⟩;refine⟨_,rfl,u,?_⟩;have f:=(btr (btr (btr (btr (btr P Q) b9) t) W) u);refine kC 3 (UX s (h.af f) G (by rw[show(Bu b).length=9 from rfl];decide) (by rw[show(Bu b).length=9 from rfl];omega) (hT.af f)) ?_;rintro _ c6 ⟨a3,rfl,N,I,A⟩;refine⟨_,rfl,A,?_⟩;refine kF 5 [8,10,13,2,0,14] λb5 c7 X a1=>?_;have S:=((btr f A).trans X);exact kB [true,true,true,true] λz K=>hJ _ _ z _ ⟨a3,rfl,rfl,(N.kept a1),I.mono f.size,S⟩ K
    .refine kC 2 (al p) ?_;rintro _ c8 ⟨a7,rfl,H,B⟩;refine⟨_,rfl,B,?_⟩;refine kR 1 [1,0] λb7 c9 C=>?_;have i:=(btr (btr (btr (btr (btr P Q) b9) t) B) C);refine kC 3 (UX s (h.af i) (H.af C) (by rw[show(Bu b).length=9 from rfl];decide) (by rw[show(Bu b).length=9 from rfl];omega) (hT.af i)) ?_;rintro _ d0 ⟨a4,rfl,O,M,D⟩;refine⟨_,rfl,D,?_⟩;refine kF 5 [8,10,13,2,0,14] λc0 d1 Z a2=>?_;have T:=((btr i D).trans Z);exact kB [true,true,true,true] λz K=>hJ _ _ z _ ⟨a4,rfl,rfl,(O.kept a2),M.mono i.size,T⟩ K
   .rintro w13 _ z13 _ ⟨y,rfl,rfl,hy,hn,hb⟩;exact qE2 4 5 109 2 (a 2) #[S3.v y,iv s] (iv 0) λK=>⟨y,rfl,hy,hn,hb⟩
theorem Rd(h:Sl w x.v d)(hT:AB w)(hN:NTab w) :
  Calls prog 137 #[.agg #[x.v,iv s],.agg #[iv v.bu,iv v.b.r,iv v.b.n,iv v.w.k,iv v.w.c,iv v.w.s,iv v.w.n,iv v.w.v]] w λe w'=>∃ y:S3,e=.returned (.tuple #[.agg #[y.v,iv (GH d s (Ah v) (Bj v))],iv (CF d s (Ah v) (Bj v))])/\Sl w' y.v (FU d s (Ah v) (Bj v))/\Nb w.heap.size y (FU d s (Ah v) (Bj v))/\Bw w w':=by
 obtain⟨p,D⟩:∃ p,G1 d s 38=p:=⟨_,rfl⟩;obtain⟨u,t⟩:∃ u:Int,(if Ah v then 0 else 2)=u:=⟨_,rfl⟩;have hW:CF d s (Ah v) (Bj v)=if p≠0 then p else u:=by rw[<- D,<- t];rfl
 refine kIn func137 (kR 11 [0,0,0,0,1,0,0] λa w1 b1=>kC 1 ((D▸Hj x.v d s 38 (by decide) _ (h.af b1))) ?_);rintro _ w2 ⟨rfl,b2⟩;refine⟨_,rfl,b2,?_⟩;refine kR 7 [] λd9 w3 b3=>?_;by_cases A:p≠0
 .refine kI ((p != 0)) true (by simpa using A) (kF 7 [2,0] λe0 w4 b4 q4=>?_);have i:=hW.trans (if_pos A);rw[i,(EQ i A).1,(EQ i A).2];have B5:=((btr (btr b1 b2) b3).trans b4);exact qE2 4 5 109 2 (a 2) #[S3.v s30,iv 0] (iv p) λK=>⟨s30,rfl,EB _,λh=>absurd rfl h,B5⟩
 .refine kI ((p != 0)) false (by simpa using A) ?_;have a4:p=0:=by simpa using A
  have hd:=ZH (D.trans a4);refine kR 6 [1] λe1 w6 b6=>?_;have Z:=(btr (btr (btr b1 b2) b3) b6);refine kC 2 (gg (hN.af Z) t) ?_;rintro _ w8 ⟨r,n,ya,rfl,b8⟩;refine⟨_,rfl,b8,?_⟩;refine kR 12 [1,0,3,0] λa9 w9 b9=>?_;by_cases N:u≠0
  .refine kI ((u != 0)) true (by simpa using N) (kF 7 [2,0] λb7 c7 a0 c6=>?_);have i:=hW.trans (if_neg A);rw[i,(EQ i N).1,(EQ i N).2];have W:=((btr (btr Z b8) b9).trans a0);exact qE2 4 5 109 2 (a 2) #[S3.v s30,iv 0] (iv u) λK=>⟨s30,rfl,EB _,λh=>absurd rfl h,W⟩
  .refine kI ((u != 0)) false (by simpa using N) ?_;have O:u=0:=by simpa using N
   have f:Ah v:=by by_cases g:Ah v;exact g;rw[if_neg g,O]at t;cases t
   refine kR 5 [1] λc0 c8 a1=>?_;have B:=(btr (btr (btr Z b8) b9) a1);refine kC 2 (XY (m:=v.w) (hN.af B) f.2.2) ?_;rintro _ c9 ⟨yc,rfl,V,C⟩;refine⟨_,rfl,C,?_⟩;refine kR 18 [3,2,1,4] λc1 d0 q=>?_;have i:CF d s (Ah v) (Bj v)=0:=hW.trans ((if_neg A).trans O);rw[i,show FU d s (Ah v) (Bj v)=d++AM (Bj v)from if_pos i,show GH d s (Ah v) (Bj v)=s from if_pos i];refine jW 44 (λw' e L=>∃ (y:S3),e=[(4,pt (a 2) 0),(5,iv 0)]/\L=[⟨(a 0),.cells #[S3.v x,iv s] 109,.z,false⟩,⟨(a 1),.cells #[iv v.bu,iv v.b.r,iv v.b.n,iv v.w.k,iv v.w.c,iv v.w.s,iv v.w.n,iv v.w.v] 156,.z,false⟩,⟨(a 2),.cells #[S3.v y,iv s] 109,.l,false⟩,⟨(a9 0),.cells #[iv r,iv n,S3.v ya] 99,.l,false⟩]/\Sl w' y.v (d++AM (Bj v))/\Nb w.heap.size y (d++AM (Bj v))/\Bw w w') ?_ ?_
   .intro J hJ;refine jY 0 3 ?_ ?_
    .refine kR 1 [0] λc2 d1 E=>kC 3 (aE f ((V.af q).af E)) ?_;rintro _ d2 ⟨b0,rfl,P,F⟩;refine⟨_,rfl,F,?_⟩;have j:=(btr (btr (btr (btr B C) q) E) F);refine kC 4 (UX s (h.af j) P (by rw[show(Bj v).length=33 from rfl];decide) (by rw[show(Bj v).length=33 from rfl];omega) (hT.af j)) ?_;rintro _ d3 ⟨a7,rfl,T,R,G⟩;refine⟨_,rfl,G,?_⟩;refine kF 5 [10,12,15,2,0,16] λc3 d4 a2 a5=>?_;have X:=((btr j G).trans a2);exact kB [true,true,true,true] λz K=>hJ _ _ z _ ⟨a7,rfl,rfl,(T.kept a5),R.mono j.size,X⟩ K
    .refine kC 3 (aE f (V.af q)) ?_;rintro _ d5 ⟨b5,rfl,Q,H⟩;refine⟨_,rfl,H,?_⟩;refine kR 1 [1,0] λc4 d6 I=>?_;have o:=(btr (btr (btr (btr B C) q) H) I);refine kC 4 (UX s (h.af o) (Q.af I) (by rw[show(Bj v).length=33 from rfl];decide) (by rw[show(Bj v).length=33 from rfl];omega) (hT.af o)) ?_;rintro _ d7 ⟨a8,rfl,U,S,M⟩;refine⟨_,rfl,M,?_⟩;refine kF 5 [10,12,15,2,0,16] λc5 d8 a3 a6=>?_;have Y:=((btr o M).trans a3);exact kB [true,true,true,true] λz K=>hJ _ _ z _ ⟨a8,rfl,rfl,(U.kept a6),S.mono o.size,Y⟩ K
   .rintro w17 _ z17 _ ⟨y,rfl,rfl,hy,hn,hb⟩;exact qE2 4 5 109 2 (a 2) #[S3.v y,iv s] (iv 0) λK=>⟨y,rfl,hy,hn,hb⟩
theorem FE(h:NS i nb ob g w p ls ts){w0:World}(hB:Base w0 g w)(hT:Tabs w0)(b:Bal) :
  Calls prog 64 #[pt nb 0,.agg #[iv b.r,iv b.n]] w λe w'=>∃ (y:S3) (g':Gh),e=.returned (.tuple #[y.v,iv (p.au b).2.2])/\FSv g' w' y (p.au b).2.1/\NS i nb ob g' w' (p.au b).1 ls ts/\Cg w.heap.size (TN i) g w g' w':=by
 obtain⟨x,lt,tl,k,U,hg⟩:=h;have hA:p.vo=⟨p.vo.p,p.vo.vs⟩:=rfl;refine gI (fn:=f64) (TN i) g func64 hg (qN k (qO U (qR [] 14 [0,0,15,0,2,4,6,8,0,10,2] λs1 g1 w1 c1=>DS 55 (λg' w' e L=>∃ (ys zs:S3) (bA:Nat),e=[(0,pt nb 0),(3,pt (s1 0) 0),(6,pt bA 0),(7,S3.v zs),(8,iv (Cf p.vo b))]/\L=[⟨nb,.cells (AG i ob p x) 111,.n 0 i,false⟩,⟨ob,.cells #[S3.v lt,S3.v tl] 88,.n 50 0,false⟩,⟨(s1 0),.cells #[iv b.r,iv b.n] 96,.z,false⟩,⟨bA,.cells #[iv (Fk p.vo b).r,iv (Fk p.vo b).n,S3.v ys] 99,.l,false⟩]/\FSv g' w' ys (DP p.vo b)/\FSv g' w' zs (DP p.vo b)/\Cg w.heap.size [] g w g' w') (by kernel_rfl) ?_ ?_)))
 .intro J hJ;refine DM 6 11 (by kernel_rfl) ?_ ?_
  .refine Af λc8=>?_;have V:=(k.mv.ch c1).s;have d1:=hB.ch c1;have b0:∀ z,w1.heap.size<=z->g1.t z=.z:=λz Z=>(c8.new z Z).1;refine qC 6 (Dg p.vo.p _ p.vo.vs b w1 V (d1.tn hT)) ?_;rintro e' w5 ⟨y5,z5,rfl,d3,d5,b5⟩;refine⟨_,rfl,b5,?_⟩;have c5:=Cg.eb (B:=w.heap.size) (T:=[]) (g:=g1) b5;obtain⟨e3,rfl,e7,c0⟩:=Ed d3 b0 (my (CS _ _) V.len);obtain⟨e5,rfl,e9,c3⟩:=Ed d5 b0 (my (CS _ _) V.len);refine qR [] 9 [14,16,18,20,23,1,0,25,3,0,26,28] λs6 g6 w6 c6=>qB [true,true,true,true] λz K0 K=>hJ _ _ _ z _ ⟨e3,e5,(s6 0),rfl,rfl,(c0.ch c6),(c3.ch c6),((c1.trans c5).trans c6)⟩ K
  .refine qR [] 1 [1,0] λs7 g7 w7 c7=>Af λd0=>?_;have W:=(k.mv.ch (c1.trans c7)).s;have d2:=hB.ch (c1.trans c7);have b1:∀ z,w7.heap.size<=z->g7.t z=.z:=λz Z=>(d0.new z Z).1;refine qC 6 (Dg p.vo.p _ p.vo.vs b w7 W (d2.tn hT)) ?_;rintro e' w9 ⟨y9,z9,rfl,d4,d6,b9⟩;refine⟨_,rfl,b9,?_⟩;have c9:=Cg.eb (B:=w.heap.size) (T:=[]) (g:=g7) b9;obtain⟨e4,rfl,e8,c2⟩:=Ed d4 b1 (my (CS _ _) W.len);obtain⟨e6,rfl,f0,c4⟩:=Ed d6 b1 (my (CS _ _) W.len);refine qR [] 8 [14,16,18,20,25,3,0,26,28] λg3 f1 h7 Q=>qB [true,true,true,true] λz K0 K=>hJ _ _ _ z _ ⟨e4,e6,(s7 0),rfl,rfl,(c2.ch Q),(c4.ch Q),(((c1.trans c7).trans c9).trans Q)⟩ K
 .rintro g2 w2 _ z2 _ ⟨ys,zs,bA,rfl,rfl,hys,hzs,hc⟩;refine qR [] 6 [] λg4 f2 h8 c=>?_;by_cases h1:Cf p.vo b≠0
  .refine qI (((Cf p.vo b) != 0)) true (by simpa using h1) (qR [] 6 [] λg5 f3 h9 a4=>qE (.tuple #[S3.v s30,iv (Cf p.vo b)]) λK=>?_);rw[show p.au b=(p,[],(Cf p.vo b))from if_pos h1];exact⟨s30,_,rfl,⟨Sv.nil _,λh=>absurd rfl h⟩,(nsC k U ((hc.n c).n a4) K),(((hc.nil (TN i)).n c).n a4)⟩
  .refine qI (((Cf p.vo b) != 0)) false (by simpa using h1) ?_;have H:Cf p.vo b=0:=by simpa using h1
   obtain⟨e1,e2⟩:=iK H;rw[e2]at hys hzs
   refine qR [] 11 [8,0,2,2,4,6,8,10,12,0] λg8 f4 i0 j=>?_;by_cases h2:b=p.vo.p
   .refine qT 7 (.bool false) (λ_=>(IC (x:=(.tmp 25)) (y:=(.tmp 31)) b p.vo.p h2)) (qR [.n 0 i] 18 [3,0,1] λg9 f5 i1 E=>qE (.tuple #[S3.v zs,iv 0]) λK=>?_);rw[show p.au b=({ p with vo:=⟨b,p.vo.vs⟩ },p.vo.vs,0)from by unfold Nod.au;rw[if_neg (by simpa using H),if_pos h2]];have o:=(((hc.nil ([.n 0 i]:List Tg)).n c).n j).trans (E);have D:Tg.z∉([.n 0 i]:List Tg):=by simp
    obtain⟨q1,q2,q3⟩:=K.rN 0 nb (.cells (AG i ob { p with vo:=⟨Fk p.vo b,p.vo.vs⟩ } { x with mv:=ys }) 111) 0 i (by kernel_rfl);rw[e1]at q1
    obtain⟨q4,q5,q6⟩:=K.rN 1 ob (.cells #[S3.v lt,S3.v tl] 88) 50 0 (by kernel_rfl);exact⟨zs,_,rfl,(((hzs.ch c).ch j).ch E),⟨{ x with mv:=ys },lt,tl,⟨q1,q2,q3,k.tape.ch o D,(((hys.ch c).ch j).ch E),BA k.an o D,Cc k.bw o D (by simp),k.fv.ch o,k.ab.ch o,k.bn.ch o,k.cl.ch o,k.rW⟩,⟨q4,q5,q6,Ec U.br o D (by simp),U.ed.ch o⟩,K.new⟩,((((hc.nil (TN i)).n c).n j).trans (E.mono (by simp[TN])))⟩
   .refine qT 7 (.bool true) (λ_=>(ID (x:=(.tmp 25)) (y:=(.tmp 31)) b p.vo.p h2)) (qR [] 9 [12,0,2,4,6,0,8,2] λh0 a6 d9 m=>DS 55 (λg' w' e L=>∃ (tz:S3) (bT:Nat),e=[(0,pt nb 0),(6,pt bA 0),(7,S3.v zs),(9,pt bT 0),(10,iv (CF p.d p.sy (Ac b) (Bu b)))]/\L=[⟨nb,.cells (AG i ob p x) 111,.n 0 i,false⟩,⟨ob,.cells #[S3.v lt,S3.v tl] 88,.n 50 0,false⟩,⟨(s1 0),.cells #[iv b.r,iv b.n] 96,.z,false⟩,⟨bA,.cells #[iv (Fk p.vo b).r,iv (Fk p.vo b).n,S3.v ys] 99,.l,false⟩,⟨bT,.cells #[S3.v tz,iv (GH p.d p.sy (Ac b) (Bu b))] 109,.l,false⟩]/\FSl g' w' tz (FU p.d p.sy (Ac b) (Bu b))/\FSv g' w' ys p.vo.vs/\FSv g' w' zs p.vo.vs/\Cg w.heap.size [] g w g' w') (by kernel_rfl) ?_ ?_)
    .intro J hJ;refine DM 5 9 (by kernel_rfl) ?_ ?_
     .refine Af λa0=>?_;have b2:=(k.tape.ch (((hc.trans c).trans j).trans m) (by simp)).s;have I:=hB.ch (((hc.trans c).trans j).trans m) (by simp);have a8:∀ z,d9.heap.size<=z->a6.t z=.z:=λz Z=>(a0.new z Z).1;refine qC 5 (Kb (s:=p.sy) (b:=b) b2 (I.tt hT) (I.tn hT)) ?_;rintro e' i2 ⟨N,rfl,b7,b4,a2⟩;refine⟨_,rfl,a2,?_⟩;have R:=Cg.eb (B:=w.heap.size) (T:=[]) (g:=a6) a2;have X:FSl _ _ N _:=⟨b7,λhl a ha=>a8 _ (b4 hl a ha)⟩;refine qR [] 7 [12,14,16,19,1,0,21,4,0,22] λd7 f6 i3 F=>qB [true,true,true,true,true] λz K0 K=>hJ _ _ _ z _ ⟨N,(d7 0),rfl,rfl,(X.ch F),(((((hys.ch c).ch j).ch m).ch R).ch F),(((((hzs.ch c).ch j).ch m).ch R).ch F),(((((hc.trans c).trans j).trans m).trans R).trans F)⟩ K
     .refine qR [] 1 [1,0] λd8 a7 e0 A=>Af λa1=>?_;have b3:=(k.tape.ch ((((hc.trans c).trans j).trans m).trans A) (by simp)).s;have M:=hB.ch ((((hc.trans c).trans j).trans m).trans A) (by simp);have a9:∀ z,e0.heap.size<=z->a7.t z=.z:=λz Z=>(a1.new z Z).1;refine qC 5 (Kb (s:=p.sy) (b:=b) b3 (M.tt hT) (M.tn hT)) ?_;rintro e' i4 ⟨O,rfl,b8,b6,a3⟩;refine⟨_,rfl,a3,?_⟩;have S:=Cg.eb (B:=w.heap.size) (T:=[]) (g:=a7) a3;have Y:FSl _ _ O _:=⟨b8,λhl a ha=>a9 _ (b6 hl a ha)⟩;refine qR [] 6 [12,14,16,21,4,0,22] λh4 f7 i5 G=>qB [true,true,true,true,true] λz K0 K=>hJ _ _ _ z _ ⟨O,(d8 0),rfl,rfl,(Y.ch G),((((((hys.ch c).ch j).ch m).ch A).ch S).ch G),((((((hzs.ch c).ch j).ch m).ch A).ch S).ch G),((((((hc.trans c).trans j).trans m).trans A).trans S).trans G)⟩ K
    .rintro g18 w18 _ z18 _ ⟨tz,bT,rfl,rfl,htz,hys,hzs,hc⟩;refine qR [] 6 [] λh5 f8 i6 u=>?_;by_cases h3:CF p.d p.sy (Ac b) (Bu b)≠0
     .refine qI (((CF p.d p.sy (Ac b) (Bu b)) != 0)) true (by simpa using h3) (qR [] 6 [] λh6 f9 i7 a5=>qE (.tuple #[S3.v s30,iv (CF p.d p.sy (Ac b) (Bu b))]) λK=>?_);rw[show p.au b=(p,[],(CF p.d p.sy (Ac b) (Bu b)))from by unfold Nod.au;rw[if_neg (by simpa using H),if_neg h2,if_pos h3]];exact⟨s30,_,rfl,⟨Sv.nil _,λh=>absurd rfl h⟩,(nsC k U ((hc.n u).n a5) K),(((hc.nil (TN i)).n u).n a5)⟩
     .refine qI (((CF p.d p.sy (Ac b) (Bu b)) != 0)) false (by simpa using h3) (qR [.n 0 i] 23 [4,0,1,3,0,1] λs30 g0 i8 C=>qE (.tuple #[S3.v zs,iv 0]) λK=>?_);rw[show p.au b=({ p with d:=FU p.d p.sy (Ac b) (Bu b),sy:=GH p.d p.sy (Ac b) (Bu b),vo:=⟨b,p.vo.vs⟩ },p.vo.vs,0)from by unfold Nod.au;rw[if_neg (by simpa using H),if_neg h2,if_neg h3]];have q:=((hc.nil ([.n 0 i]:List Tg)).n u).trans (C);have P:Tg.z∉([.n 0 i]:List Tg):=by simp
      obtain⟨q1,q2,q3⟩:=K.rN 0 nb (.cells (AG i ob { p with d:=FU p.d p.sy (Ac b) (Bu b),sy:=GH p.d p.sy (Ac b) (Bu b),vo:=⟨Fk p.vo b,p.vo.vs⟩ } { x with mv:=ys,tape:=tz }) 111) 0 i (by kernel_rfl);rw[e1]at q1
      obtain⟨q4,q5,q6⟩:=K.rN 1 ob (.cells #[S3.v lt,S3.v tl] 88) 50 0 (by kernel_rfl);exact⟨zs,_,rfl,((hzs.ch u).ch C),⟨{ x with mv:=ys,tape:=tz },lt,tl,⟨q1,q2,q3,((htz.ch u).ch C),((hys.ch u).ch C),BA k.an q P,Cc k.bw q P (by simp),k.fv.ch q,k.ab.ch q,k.bn.ch q,k.cl.ch q,k.rW⟩,⟨q4,q5,q6,Ec U.br q P (by simp),U.ed.ch q⟩,K.new⟩,(((hc.nil (TN i)).n u).trans (C.mono (by simp[TN])))⟩
def Sw(l:List Vt)(v:Vt):Int:=if v∈l then((l.findIdx λu=>decide (u=v)):Int)else -1
theorem Yx(l:List Vt)(v:Vt):decide (0<=Sw l v)=decide (v∈l):=by
 unfold Sw;by_cases a:v∈l
 .rw[if_pos a,M' a];exact M' (by omega)
 .rw[if_neg a,E' a];rfl
theorem cY{j:Nat}(h:l[j]?=some v)(a:∀ i,i<j->l[i]?≠some v):Sw l v=(j:Int):=by
 have d:v∈l:=mP h;obtain⟨c,e⟩:=V'.1 h;unfold Sw;rw[if_pos d]
 congr 1
 rw[List.findIdx_eq c];exact⟨by simp[e],λi b=>by have:=a i b;rw[G' (by omega)]at this;simpa using this⟩
theorem Sz(h:Sv w x.v l)(hb:l.length<100000000)(v:Vt) :
  Calls prog 166 #[x.v,.agg #[iv v.bu,iv v.b.r,iv v.b.n,iv v.w.k,iv v.w.c,iv v.w.s,iv v.w.n,iv v.w.v]] w λe w'=>e=.returned (iv (Sw l v))/\Bw w w':=by
 have hn:x.n=l.length:=by obtain⟨a,Q,H⟩:=h.shape;simp only[Value.slice.injEq]at H;exact H.2.1
 refine gI (fn:=f166) [] gh0 func166 (λ_ _=>⟨rfl,rfl⟩) (qR [] 13 [0,0] λA g1 w1 M=>Ca 19 [(0,S3.v x),(3,pt (A 0) 0),(7,iv (x.n:Int)),(8,iv 0)] [true] [⟨(A 0),.cells #[iv v.bu,iv v.b.r,iv v.b.n,iv v.w.k,iv v.w.c,iv v.w.s,iv v.w.n,iv v.w.v] 156,.z,false⟩] (λk R w' e L=>∃ j:Nat,k=l.length-j/\j<=l.length/\e=[(0,S3.v x),(3,pt (A 0) 0),(7,iv (x.n:Int)),(8,iv (j:Int))]/\L=[⟨(A 0),.cells #[iv v.bu,iv v.b.r,iv v.b.n,iv v.w.k,iv v.w.c,iv v.w.s,iv v.w.n,iv v.w.v] 156,.z,false⟩]/\(∀ i,i<j->l[i]?≠some v)/\Cg w.heap.size [] gh0 w R w') (by kernel_rfl) (by kernel_rfl) (by kernel_rfl) (by kernel_rfl) l.length (λK=>?_) ?_)
 .exact⟨0,rfl,by omega,rfl,rfl,λi o=>absurd o (by omega),M⟩
 .rintro k gr wr _ zr _ ⟨j,rfl,hj,rfl,rfl,hI,hC⟩ J hJ;refine qR [] 5 [] λs2 g2 w2 q=>?_;by_cases T:j<l.length
  .refine qI ((decide ((j:Int)<(x.n:Int)))) true (M' (by omega)) ?_;obtain⟨d,m⟩:∃ d,l[j]?=some d:=⟨_,G' T⟩;obtain⟨bx,I,F,D,g⟩:=h.spot j d m;refine qR [] 13 [6,0,0,2,4] λs3 g3 w3 C=>qT 3 (pt bx (I+8*j)) (λ_=>(U8 F j (by omega))) ?_;have V:=Cg.af (hC.trans (q.trans C)) (λ_ _=>Q');refine qV 4 (.agg #[iv d.bu,iv d.b.r,iv d.b.n,iv d.w.k,iv d.w.c,iv d.w.s,iv d.w.n,iv d.w.v]) (dY d λi u X=>(V.cell (p:=⟨bx,I+8*j+i,none⟩) D).trans (g i u X)) (qT 5 (.bool (decide (v=d))) (λ_=>(kv (x:=(.tmp 11)) (y:=(.tmp 15)) v d)) (qR [] 1 [] λs6 g6 w6 G=>?_));by_cases t:v=d
   .refine qI (decide (v=d)) true (M' t) (qR [] 5 [] λs7 g7 w7 N=>qE (iv (j:Int)) λK=>⟨by rw[cY (by rw[t];exact m) hI],Cg.af (hC.trans (((q.trans C).trans G).trans N)) (λ_ _=>Q')⟩)
   .refine qI (decide (v=d)) false (E' t) (qR [] 3 [] λs8 g8 w8 O=>qV 0 (iv ((j:Int)+1)) (AO 8 (j:Int) underlying3 (by omega)) (qR [] 2 [] λs9 g9 w9 P=>qB [true] λz K0 K=>hJ (l.length-(j+1)) _ _ _ z _ (by omega) ⟨j+1,rfl,by omega,rfl,rfl,λi o=>?_,hC.trans ((((q.trans C).trans G).trans O).trans P)⟩ K));rcases nt i j with h4|h4
    .exact hI i h4
    .rw[show i=j by omega,m];intro U;exact t (by simpa using U.symm)
  .refine qI ((decide ((j:Int)<(x.n:Int)))) false (E' (by omega)) (qR [] 5 [] λY S Z B=>?_);have E:v∉l:=λW=>by obtain⟨i,o⟩:=nA.1 W;exact hI i (by have:=(V'.1 o).1;omega) o
   exact qE (iv (-1)) λK=>⟨by unfold Sw;rw[if_neg E],Cg.af (hC.trans (q.trans B)) (λ_ _=>Q')⟩
theorem MM(h:Sv w x.v l)(p:l.length<100000000)(v:Vt) :
  Calls prog 136 #[x.v,.agg #[iv v.bu,iv v.b.r,iv v.b.n,iv v.w.k,iv v.w.c,iv v.w.s,iv v.w.n,iv v.w.v]] w λe w'=>e=.returned (.bool (decide (v∈l)))/\Bw w w':=by
 refine gI (fn:=f136) [] gh0 func136 (λ_ _=>⟨rfl,rfl⟩) (qR [] 9 [0,0,0] λu o y i=>?_);have a:=Cg.af i (λ_ _=>Q');refine qC 2 (Sz (h.af a) p v) ?_;rintro q z ⟨rfl,d⟩;refine⟨_,rfl,d,?_⟩;have j:=Cg.eb (B:=w.heap.size) (T:=[]) (g:=o) d;refine qR [] 3 [] λs3 t A m=>qE (.bool (decide (0<=Sw l v))) λK=>⟨by rw[Yx],Cg.af ((i.trans j).trans m) (λ_ _=>Q')⟩
theorem NT(h:NS i nb ob g w p ls ts){w0:World}(hB:Base w0 g w)(hT:Tabs w0)(v:Vt)(hb:p.vo.vs.length<100000000) :
  Calls prog 101 #[pt nb 0,.agg #[iv v.bu,iv v.b.r,iv v.b.n,iv v.w.k,iv v.w.c,iv v.w.s,iv v.w.n,iv v.w.v]] w (NP i nb ob g w (iv (p.cn v).2) (p.cn v).1 ls ts):=by
 obtain⟨x,lt,tl,u,U,hg⟩:=h;refine gI (fn:=f101) (TN i) g func101 hg (qN u (qO U (qR [] 13 [0,0,13,0,2,4,6,8,0,10,2] λs1 g1 w1 Y=>DS 52 (λZ w' e L=>∃ (ys:S3) (bA:Nat),e=[(0,pt nb 0),(3,pt (s1 0) 0),(5,pt bA 0),(6,iv (AY p.vo v))]/\L=[⟨nb,.cells (AG i ob p x) 111,.n 0 i,false⟩,⟨ob,.cells #[S3.v lt,S3.v tl] 88,.n 50 0,false⟩,⟨(s1 0),.cells #[iv v.bu,iv v.b.r,iv v.b.n,iv v.w.k,iv v.w.c,iv v.w.s,iv v.w.n,iv v.w.v] 156,.z,false⟩,⟨bA,.cells #[iv (BG p.vo v).r,iv (BG p.vo v).n,S3.v ys] 99,.l,false⟩]/\FSv Z w' ys (Br p.vo v)/\Cg w.heap.size [] g w Z w') (by kernel_rfl) ?_ ?_)))
 .intro J hJ;refine DM 6 10 (by kernel_rfl) ?_ ?_
  .refine Af λc8=>?_;have d7:=(u.mv.ch Y).s;have d2:=hB.ch Y;have d4:∀ z,w1.heap.size<=z->g1.t z=.z:=λz X=>(c8.new z X).1;refine qC 6 (Co p.vo.p _ p.vo.vs v w1 d7 (d2.tn hT)) ?_;rintro e' w5 ⟨y5,rfl,d9,g3,b5⟩;refine⟨_,rfl,b5,?_⟩;have c5:=Cg.eb (B:=w.heap.size) (T:=[]) (g:=g1) b5;obtain⟨e7,rfl,e9,c3⟩:=Ed d9 d4 (by omega);refine qR [] 7 [14,16,18,21,1,0,23,3,0,24] λs6 g6 w6 c6=>qB [true,true,true,true] λz K0 K=>hJ _ _ _ z _ ⟨e7,(s6 0),rfl,rfl,(c3.ch c6),((Y.trans c5).trans c6)⟩ K
  .refine qR [] 1 [1,0] λs7 g7 w7 c7=>Af λd0=>?_;have d8:=(u.mv.ch (Y.trans c7)).s;have d3:=hB.ch (Y.trans c7);have d5:∀ z,w7.heap.size<=z->g7.t z=.z:=λz X=>(d0.new z X).1;refine qC 6 (Co p.vo.p _ p.vo.vs v w7 d8 (d3.tn hT)) ?_;rintro e' w9 ⟨y9,rfl,e0,g4,b9⟩;refine⟨_,rfl,b9,?_⟩;have c9:=Cg.eb (B:=w.heap.size) (T:=[]) (g:=g7) b9;obtain⟨e8,rfl,f0,c4⟩:=Ed e0 d5 (by omega);refine qR [] 6 [14,16,18,23,3,0,24] λg5 f1 i0 a5=>qB [true,true,true,true] λz K0 K=>hJ _ _ _ z _ ⟨e8,(s7 0),rfl,rfl,(c4.ch a5),(((Y.trans c7).trans c9).trans a5)⟩ K
 .rintro g2 w2 _ z2 _ ⟨ys,bA,rfl,rfl,hys,hc⟩;refine qR [] 6 [] λg8 f2 i1 j=>?_;by_cases h1:AY p.vo v≠0
  .refine qI (((AY p.vo v) != 0)) true (by simpa using h1) (qR [] 5 [] λg9 f3 i2 a6=>qE (iv (AY p.vo v)) λK=>?_);rw[show p.cn v=(p,(AY p.vo v))from if_pos h1];exact⟨_,rfl,(nsC u U ((hc.n j).n a6) K),(((hc.nil (TN i)).n j).n a6)⟩
  .refine qI (((AY p.vo v) != 0)) false (by simpa using h1) ?_;have H:AY p.vo v=0:=by simpa using h1
   obtain⟨e1,e2⟩:=DD H;rw[e2]at hys
   refine qR [] 11 [9,0,2,4,6,8,10,0,12,2] λh0 d1 i3 m=>?_;have d6:=(u.mv.ch ((hc.trans j).trans m) (by simp)).s;refine qC 7 (MM d6 hb v) ?_;rintro e' i4 ⟨rfl,a2⟩;refine⟨_,rfl,a2,?_⟩;have o:=Cg.eb (B:=w.heap.size) (T:=[]) (g:=d1) a2;refine qR [] 2 [16] λh4 f4 i5 q=>?_;by_cases h2:v∈p.vo.vs
   .refine qI ((!(decide (v∈p.vo.vs)))) false (by simpa using h2) (qR [.n 0 i] 14 [3,0,1] λh5 f5 i6 Q=>qE (iv 0) λK=>?_);rw[show p.cn v=({ p with vo:=⟨v.b,Bn p.vo.vs v⟩ },0)from by unfold Nod.cn;rw[if_neg (by simpa using H),if_pos h2]];have y:=(((((hc.nil ([.n 0 i]:List Tg)).n j).n m).n o).n q).trans (Q);have E:Tg.z∉([.n 0 i]:List Tg):=by simp
    obtain⟨q1,q2,q3⟩:=K.rN 0 nb (.cells (AG i ob { p with vo:=⟨BG p.vo v,Bn p.vo.vs v⟩ } { x with mv:=ys }) 111) 0 i (by kernel_rfl);rw[e1]at q1
    obtain⟨q4,q5,q6⟩:=K.rN 1 ob (.cells #[S3.v lt,S3.v tl] 88) 50 0 (by kernel_rfl);exact⟨_,rfl,⟨{ x with mv:=ys },lt,tl,⟨q1,q2,q3,u.tape.ch y E,(((((hys.ch j).ch m).ch o).ch q).ch Q),BA u.an y E,Cc u.bw y E (by simp),u.fv.ch y,u.ab.ch y,u.bn.ch y,u.cl.ch y,u.rW⟩,⟨q4,q5,q6,Ec U.br y E (by simp),U.ed.ch y⟩,K.new⟩,((((((hc.nil (TN i)).n j).n m).n o).n q).trans (Q.mono (by simp[TN])))⟩
   .refine qI ((!(decide (v∈p.vo.vs)))) true (by simpa using h2) (qR [] 7 [12,0,2,4,6,0,8,2] λh6 b0 e5 C=>DS 52 (λZ w' e L=>∃ (tz:S3) (bT:Nat),e=[(0,pt nb 0),(5,pt bA 0),(7,pt bT 0),(8,iv (CF p.d p.sy (Ah v) (Bj v)))]/\L=[⟨nb,.cells (AG i ob p x) 111,.n 0 i,false⟩,⟨ob,.cells #[S3.v lt,S3.v tl] 88,.n 50 0,false⟩,⟨(s1 0),.cells #[iv v.bu,iv v.b.r,iv v.b.n,iv v.w.k,iv v.w.c,iv v.w.s,iv v.w.n,iv v.w.v] 156,.z,false⟩,⟨bA,.cells #[iv (BG p.vo v).r,iv (BG p.vo v).n,S3.v ys] 99,.l,false⟩,⟨bT,.cells #[S3.v tz,iv (GH p.d p.sy (Ah v) (Bj v))] 109,.l,false⟩]/\FSl Z w' tz (FU p.d p.sy (Ah v) (Bj v))/\FSv Z w' ys (Bn p.vo.vs v)/\Cg w.heap.size [] g w Z w') (by kernel_rfl) ?_ ?_)
    .intro J hJ;refine DM 5 9 (by kernel_rfl) ?_ ?_
     .refine Af λa0=>?_;have b4:=(u.tape.ch (((((hc.trans j).trans m).trans o).trans q).trans C) (by simp)).s;have I:=hB.ch (((((hc.trans j).trans m).trans o).trans q).trans C) (by simp);have b2:∀ z,e5.heap.size<=z->b0.t z=.z:=λz X=>(a0.new z X).1;refine qC 5 (Rd (s:=p.sy) (v:=v) b4 (I.tt hT) (I.tn hT)) ?_;rintro e' i7 ⟨N,rfl,c0,b7,a3⟩;refine⟨_,rfl,a3,?_⟩;have a7:=Cg.eb (B:=w.heap.size) (T:=[]) (g:=b0) a3;have V:FSl _ _ N _:=⟨c0,λhl a ha=>b2 _ (b7 hl a ha)⟩;refine qR [] 7 [12,14,16,19,1,0,21,4,0,22] λe3 f6 i8 R=>qB [true,true,true,true,true] λz K0 K=>hJ _ _ _ z _ ⟨N,(e3 0),rfl,rfl,(V.ch R),(((((((hys.ch j).ch m).ch o).ch q).ch C).ch a7).ch R),(((((((hc.trans j).trans m).trans o).trans q).trans C).trans a7).trans R)⟩ K
     .refine qR [] 1 [1,0] λe4 b1 e6 F=>Af λa1=>?_;have b6:=(u.tape.ch ((((((hc.trans j).trans m).trans o).trans q).trans C).trans F) (by simp)).s;have M:=hB.ch ((((((hc.trans j).trans m).trans o).trans q).trans C).trans F) (by simp);have b3:∀ z,e6.heap.size<=z->b1.t z=.z:=λz X=>(a1.new z X).1;refine qC 5 (Rd (s:=p.sy) (v:=v) b6 (M.tt hT) (M.tn hT)) ?_;rintro e' i9 ⟨O,rfl,c2,b8,a4⟩;refine⟨_,rfl,a4,?_⟩;have a8:=Cg.eb (B:=w.heap.size) (T:=[]) (g:=b1) a4;have W:FSl _ _ O _:=⟨c2,λhl a ha=>b3 _ (b8 hl a ha)⟩;refine qR [] 6 [12,14,16,21,4,0,22] λh7 f7 j0 S=>qB [true,true,true,true,true] λz K0 K=>hJ _ _ _ z _ ⟨O,(e4 0),rfl,rfl,(W.ch S),((((((((hys.ch j).ch m).ch o).ch q).ch C).ch F).ch a8).ch S),((((((((hc.trans j).trans m).trans o).trans q).trans C).trans F).trans a8).trans S)⟩ K
    .rintro g20 w20 _ z20 _ ⟨tz,bT,rfl,rfl,htz,hys,hc⟩;refine qR [] 6 [] λh8 f8 j1 D=>?_;by_cases h3:CF p.d p.sy (Ah v) (Bj v)≠0
     .refine qI (((CF p.d p.sy (Ah v) (Bj v)) != 0)) true (by simpa using h3) (qR [] 5 [] λs30 f9 j2 a9=>qE (iv (CF p.d p.sy (Ah v) (Bj v))) λK=>?_);rw[show p.cn v=(p,(CF p.d p.sy (Ah v) (Bj v)))from by unfold Nod.cn;rw[if_neg (by simpa using H),if_neg h2,if_pos h3]];exact⟨_,rfl,(nsC u U ((hc.n D).n a9) K),(((hc.nil (TN i)).n D).n a9)⟩
     .refine qI (((CF p.d p.sy (Ah v) (Bj v)) != 0)) false (by simpa using h3) (qR [.n 0 i] 21 [4,0,1,3,0,1] λh9 g0 j3 G=>qE (iv 0) λK=>?_);rw[show p.cn v=({ p with d:=FU p.d p.sy (Ah v) (Bj v),sy:=GH p.d p.sy (Ah v) (Bj v),vo:=⟨v.b,Bn p.vo.vs v⟩ },0)from by unfold Nod.cn;rw[if_neg (by simpa using H),if_neg h2,if_neg h3]];have A:=((hc.nil ([.n 0 i]:List Tg)).n D).trans (G);have P:Tg.z∉([.n 0 i]:List Tg):=by simp
      obtain⟨q1,q2,q3⟩:=K.rN 0 nb (.cells (AG i ob { p with d:=FU p.d p.sy (Ah v) (Bj v),sy:=GH p.d p.sy (Ah v) (Bj v),vo:=⟨BG p.vo v,Bn p.vo.vs v⟩ } { x with mv:=ys,tape:=tz }) 111) 0 i (by kernel_rfl);rw[e1]at q1
      obtain⟨q4,q5,q6⟩:=K.rN 1 ob (.cells #[S3.v lt,S3.v tl] 88) 50 0 (by kernel_rfl);exact⟨_,rfl,⟨{ x with mv:=ys,tape:=tz },lt,tl,⟨q1,q2,q3,((htz.ch D).ch G),((hys.ch D).ch G),BA u.an A P,Cc u.bw A P (by simp),u.fv.ch A,u.ab.ch A,u.bn.ch A,u.cl.ch A,u.rW⟩,⟨q4,q5,q6,Ec U.br A P (by simp),U.ed.ch A⟩,K.new⟩,(((hc.nil (TN i)).n D).trans (G.mono (by simp[TN])))⟩
theorem LK(h:(p.au b).2.2≠0):(p.au b).1=p:=by
 unfold Nod.au at h ⊢;split
 .rfl
 .rename_i h1
  rw[if_neg h1]at h
  split
  .rename_i h2;rw[if_pos h2]at h;exact absurd rfl h
  .rename_i h2
   rw[if_neg h2]at h
   split
   .rfl
   .rename_i h3;rw[if_neg h3]at h;exact absurd rfl h
theorem UQ(h:(p.cn v).2≠0):(p.cn v).1=p:=by
 unfold Nod.cn at h ⊢;split
 .rfl
 .rename_i h1
  rw[if_neg h1]at h
  split
  .rename_i h2;rw[if_pos h2]at h;exact absurd rfl h
  .rename_i h2
   rw[if_neg h2]at h
   split
   .rfl
   .rename_i h3;rw[if_neg h3]at h;exact absurd rfl h
theorem FK(p:Nod)(b:Bal):(p.au b).1.bw=p.bw:=by
 unfold Nod.au
 repeat' split
 all_goals rfl
theorem GZ(p:Nod)(v:Vt):(p.cn v).1.bw=p.bw:=by
 unfold Nod.cn
 repeat' split
 all_goals rfl
theorem IM(h:NS i nb ob g w p ls ts){w0:World}(hB:Base w0 g w)(hT:Tabs w0)(o:Nat)(l:Let)(hl:CM g w o l)(hk:l.kind=0)(hb:p.bw.length<100000000) :
  Calls prog 53 #[pt nb 0,pt o 0] w (NP i nb ob g w (.tuple #[]) (p.take l) ls ts):=by
 obtain⟨x,lt,tl,W,X,hg⟩:=h;refine gI (fn:=f53) (TN i) g func53 hg (qN W (qO X ?_));have V:=hl;obtain⟨vs,wh,G,b5,b6⟩:=hl;refine Cl ⟨o,.cells (FA l vs wh) 158,.z,false⟩ (λ_=>⟨G.r,G.z,λh=>(by cases h),λh=>absurd rfl h⟩) (by kernel_rfl) ?_;refine qR [] 12 [0,0,0,0,5,0,3,2,4,4,6,8,2] λd g1 w1 q=>DS 27 (λS w' e L=>∃ (yv:S3) (b4:Nat),e=[(2,pt (d 0) 0),(3,pt (d 1) 0),(4,pt b4 0),(5,iv (p.au l.hU).2.2)]/\L=[⟨o,.cells (FA l vs wh) 158,.z,false⟩,⟨(d 0),.cells #[pt nb 0] 91,.z,false⟩,⟨(d 1),.cells #[pt o 0] 159,.z,false⟩,⟨b4,.cells #[S3.v yv] 97,.l,false⟩]/\FSv S w' yv (p.au l.hU).2.1/\NS i nb ob S w' (p.au l.hU).1 ls ts/\Cg w.heap.size (TN i) g w S w') (by kernel_rfl) ?_ ?_
 .intro J hJ;refine DM 5 9 (by kernel_rfl) ?_ ?_
  .refine Af λK=>?_;have N4:NS i nb ob g1 w1 p ls ts:=(nsC W X q K);refine qG 5 (TN i) [false,false,true,true,true] (FE N4 (hB.ch (q.nil (TN i)) (By i)) hT l.hU) ?_;rintro e' w4 ⟨y4,g4,rfl,Y,M4,H⟩;refine⟨_,g4,rfl,H,M4.new,?_⟩;replace H:=H.ret (B:=w.heap.size);refine qR [] 7 [12,14,16,19,1,0,21,3,0,22] λs6 g6 w6 Q=>qB [true,true,true,true] λz M K=>hJ _ _ _ z _ ⟨y4,(s6 0),rfl,rfl,(Y.ch Q),NS.rA M4 Q M.new,(((q.nil (TN i)).trans (H)).n Q)⟩ K
  .refine qR [] 1 [1,0] λs7 g7 w7 R=>Af λK=>?_;have N8:NS i nb ob g7 w7 p ls ts:=(nsC W X (q.n R) K);refine qG 5 (TN i) [false,false,true,true,true,true] (FE N8 (hB.ch ((q.nil (TN i)).n R) (By i)) hT l.hU) ?_;rintro e' w8 ⟨y8,g8,rfl,Z,M8,I⟩;refine⟨_,g8,rfl,I,M8.new,?_⟩;replace I:=I.ret (B:=w.heap.size);refine qR [] 6 [12,14,16,21,3,0,22] λb8 a6 d0 j=>qB [true,true,true,true] λz M K=>hJ _ _ _ z _ ⟨y8,(s7 0),rfl,rfl,(Z.ch j),NS.rA M8 j M.new,((((q.nil (TN i)).n R).trans (I)).n j)⟩ K
 .rintro g2 w2 _ z2 _ ⟨yv,b4,rfl,rfl,hyv,hM,hc⟩;obtain⟨x1,b7,c9,k,m,b3⟩:=hM;refine qN k (qO m (jR 3 b4 (by kernel_rfl) λa7 a=>qR [] 6 [] λb9 a8 d1 b=>?_));by_cases A:(p.au l.hU).2.2≠0
  .refine qI (((p.au l.hU).2.2 != 0)) true (by simpa using A) (qR [] 8 [6,0,1,2,2,4,6,8,0,10] λc0 T a0 t=>?_);have hp:=LK A;rw[show p.take l=p.ew l.src (p.au l.hU).2.2 from by unfold Nod.take;rw[hk];exact if_pos A];refine Af λK=>?_;have s:NS i nb ob T a0 ((p.au l.hU).1) ls ts:=(nsC k m ((a.n b).n t) K);rw[hp]at s
   refine qS0 6 [true,true,true,true,false,false] (LU s hb l.src (p.au l.hU).2.2) λa9 d2 d6 a2 a4 C E O=>qR [] 1 [] λc2 b0 d3 u=>qF C E u ((((((hc).n a).n b).n t).trans (O)).n u)
  .refine qI (((p.au l.hU).2.2 != 0)) false (by simpa using A) (qR [] 4 [1] λc3 U a1 c=>?_);rw[show p.take l=(p.au l.hU).1.wait (.prom l.src l.hU (p.au l.hU).2.1)from by unfold Nod.take;rw[hk];exact if_neg A];refine Af λK=>?_;obtain⟨z1,z2⟩:=K.rM 1 (d 0) (.cells #[pt nb 0] 91) false (by kernel_rfl);obtain⟨z3,z4⟩:=K.rM 2 (d 1) (.cells #[pt o 0] 159) false (by kernel_rfl);obtain⟨z5,z6⟩:=K.rM 3 b4 (.cells #[S3.v yv] 97) false (by kernel_rfl);have N:NS i nb ob U a1 ((p.au l.hU).1) ls ts:=(nsC k m ((a.n b).n c) K);refine qS0 2 [true,true,true,true,false,false] (AT N (by rw[FK];exact hb) _ _ (.prom l.src l.hU (p.au l.hU).2.1) ⟨(d 0),(d 1),b4,yv,o,l,rfl,⟨z1,z2⟩,⟨z3,z4⟩,⟨z5,z6⟩,(((hyv.ch a).ch b).ch c),V.ch ((((hc).n a).n b).n c) (By i),rfl,rfl⟩) λb1 d4 d7 a3 a5 D F P=>qR [] 1 [] λc5 b2 d5 y=>qF D F y ((((((hc).n a).n b).n c).trans (P)).n y)
theorem J1(h:NS i nb ob g w p ls ts){R:World}(X:Base R g w)(Y:Tabs R)(s:Nat)(l:Let)(O:CM g w s l)(N:l.kind=3)(M:p.bw.length<100000000)(E:p.vo.vs.length<100000000) :
  Calls prog 56 #[pt nb 0,pt s 0] w (NP i nb ob g w (.tuple #[]) (p.take l) ls ts):=by
 obtain⟨x,lt,tl,J,L,Z⟩:=h;refine gI (fn:=f56) (TN i) g func56 Z (qN J (qO L ?_));have B:=O;obtain⟨vs,wh,q,a0,a1⟩:=O;refine Cl ⟨s,.cells (FA l vs wh) 158,.z,false⟩ (λ_=>⟨q.r,q.z,λh=>(by cases h),λh=>absurd rfl h⟩) (by kernel_rfl) ?_;refine qR [] 13 [0,0,0,0,5,0,3,2,4,4,6,8,2] λt g1 w1 b=>qS 5 [false,false,true,true,true] J L b (λS=>NT S (X.ch (b.nil (TN i)) (By i)) Y l.cn E) λg2 w2 x2 a2 a6 k o y=>qR [] 7 [12] λs4 g4 w4 d=>?_;by_cases e:(p.cn l.cn).2≠0
 .refine qI (((p.cn l.cn).2 != 0)) true (by simpa using e) (qR [] 8 [6,0,1,2,2,4,6,8,0,10] λs5 W w5 H=>?_);have hp:=UQ e;rw[show p.take l=p.ew l.src (p.cn l.cn).2 from by unfold Nod.take;rw[N];exact if_pos e];refine Af λK=>?_;have G:NS i nb ob W w5 ((p.cn l.cn).1) ls ts:=(nsC k o (d.n H) K);rw[hp]at G
  refine qS0 6 [true,true,true,false,false] (LU G M l.src (p.cn l.cn).2) λg6 w6 x6 a3 a7 C D T=>qR [] 1 [] λs8 g8 w8 I=>qF C D I ((((((b.nil (TN i)).trans (y)).n d).n H).trans (T)).n I)
 .refine qI (((p.cn l.cn).2 != 0)) false (by simpa using e) (qR [] 4 [1] λa4 A F a=>?_);rw[show p.take l=(p.cn l.cn).1.wait (.voted l.src l.cn)from by unfold Nod.take;rw[N];exact if_neg e];refine Af λK=>?_;obtain⟨z1,z2⟩:=K.rM 1 (t 0) (.cells #[pt nb 0] 91) false (by kernel_rfl);obtain⟨z3,z4⟩:=K.rM 2 (t 1) (.cells #[pt s 0] 159) false (by kernel_rfl);have u:NS i nb ob A F ((p.cn l.cn).1) ls ts:=(nsC k o (d.n a) K);refine qS0 2 [true,true,true,false,false] (AT u (by rw[GZ];exact M) _ _ (.voted l.src l.cn) ⟨(t 0),(t 1),s,l,rfl,⟨z1,z2⟩,⟨z3,z4⟩,B.ch ((((b.nil (TN i)).trans (y)).n d).n a) (By i),rfl,rfl⟩) λU a8 b0 P Q j m v=>qR [] 1 [] λa5 V a9 c=>qF j m c ((((((b.nil (TN i)).trans (y)).n d).n a).trans (v)).n c)
theorem Pt(h:NS i nb ob g w p ls ts)(d:Nat)(l:Let)(F:CM g w d l)(E:l.kind=5)(O:p.bw.length<100000000)(y:p.ab.length<100000000)(A:l.gC.length<100000000) :
  Calls prog 58 #[pt nb 0,pt d 0] w (NP i nb ob g w (.tuple #[]) (p.take l) ls ts):=by
 obtain⟨x,lt,tl,e,t,P⟩:=h;refine gI (fn:=f58) (TN i) g func58 P (qN e (qO t ?_));have o:=F;have hn:=e.ab.num;obtain⟨V,G,c,Q,B⟩:=F;refine Cl ⟨d,.cells (FA l V G) 158,.z,false⟩ (λ_=>⟨c.r,c.z,λh=>(by cases h),λh=>absurd rfl h⟩) (by kernel_rfl) ?_;refine qR [] 20 [0,0,0,0,11,0,4,2,4,6,2,8,3,10,12,14,16,0,18,20] λj g1 w1 a=>?_;by_cases D:p.ab.length<l.bu
 .refine qI ((decide ((x.ab.n:Int)<(l.bu:Int)))) true (M' (by omega)) (qR [] 4 [3] λs2 N X k=>?_);rw[show p.take l=p.wait (.askNews l.src)from by unfold Nod.take;rw[E];exact if_pos D];refine Af λK=>?_;obtain⟨Y,Z⟩:=K.rM 3 (j 0) (.cells #[pt nb 0] 91) false (by kernel_rfl);obtain⟨z3,z4⟩:=K.rM 4 (j 1) (.cells #[pt d 0] 159) false (by kernel_rfl);have H:NS i nb ob N X p ls ts:=(nsC e t (a.n k) K);refine qS0 2 [false,false,true,true,true] (AT H O _ _ (.askNews l.src) ⟨(j 0),(j 1),d,l,rfl,⟨Y,Z⟩,⟨z3,z4⟩,o.ch ((a.nil (TN i)).n k) (By i),rfl⟩) λg3 w3 x3 R T q u J=>qR [] 1 [] λs5 g5 w5 C=>qF q u C ((((a.nil (TN i)).n k).trans (J)).n C)
 .refine qI ((decide ((x.ab.n:Int)<(l.bu:Int)))) false (E' (by omega)) (qR [] 11 [9,0,3,2,4,4,6,8,2,10,4,12,14,16,2] λs7 g7 w7 m=>?_);rw[show p.take l=p.ln l.bu l.gC from by unfold Nod.take;rw[E];exact if_neg D];refine qS 9 [false,false,true,true,true] e t (a.n m) (λI=>NN I l.bu l.gC G (B.ch ((a.nil (TN i)).n m) (By i)) (by omega) y A) λg8 w8 x8 lt8 U s v L=>qR [] 1 [] λS M W b=>qF s v b ((((a.nil (TN i)).n m).trans (L)).n b)
end
end Go.Proofs.YtcjcngceghfoeaaGreatDoor
