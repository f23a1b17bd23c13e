/- Part 8 of the walk. -/
import Derived.Test.YtdjfdfpkkenjbacGreatDoorZ7
set_option maxRecDepth 100000
set_option maxHeartbeats 4000000
open Go.Proofs.Tryz
set_option linter.unusedVariables false
namespace Go.Proofs.YtdjfdfpkkenjbacGreatDoor
open Go.RowKit
theorem LK(x:Value)(d:List Int)(s:Int)(w:World)(h:Sl w x d) :
  Calls prog 135 #[.agg (tpA x s)] w λe w'=>e=.returned (.bool (decide (AR d s)))/\Bw w w':=by
 have b:=h.len;obtain⟨f,i,rfl⟩:=h.qW;obtain⟨M,k⟩:∃ M,d.length=M:=⟨_,rfl⟩;have l:Hid (d.length=M):=k;rw[k]at b ⊢
 clear k h;simp only[tpA];have a:Bw w (w.alloc (.cells #[.slice f M i,.int .i64 s] 121)):=(Below.refl _ _).alloc (A' _) _;have j:=heap_alloc_new w (.cells #[.slice f M i,.int .i64 s] 121);generalize q:w.alloc (.cells #[.slice f M i,.int .i64 s] 121)=W0 at a j;have o:W0.cell? ⟨w.heap.size,0,none⟩=some (.slice f M i):=cell_of_row _ _ 0 _ _ _ j;have p:W0.cell? ⟨w.heap.size,1,none⟩=some (.int .i64 s):=cell_of_row _ _ 1 _ _ _ j;clear j;have c:Hid (AR d s↔(M<=100000/\0<=s/\s<=(M:Int))):=by
  unfold Hid AR;rw[l.out]
 by_cases m:M<=100000
 .have h1i:(M:Int)<=100000:=by omega
  by_cases n:0<=s
  .by_cases h3:s<=(M:Int)
   .go_enter func135,ntmps135
    go_wp2
    go_ret;exact⟨Aw (by rw[P' (c.out.2 ⟨m,n,h3⟩)]),a⟩
   .go_enter func135,ntmps135
    go_wp2
    go_ret;exact⟨Aw (by rw[G' (λg=>absurd (c.out.1 g).2.2 (by omega))]),a⟩
  .go_enter func135,ntmps135
   go_wp2
   go_ret;exact⟨Aw (by rw[G' (λg=>absurd (c.out.1 g).2.1 (by omega))]),a⟩
 .have h1i:¬ (M:Int)<=100000:=by omega
  go_enter func135,ntmps135
  go_wp2
  go_ret;exact⟨Aw (by rw[G' (λg=>absurd (c.out.1 g).1 (by omega))]),a⟩
theorem JU(x:Value)(d:List Int)(s:Int)(n:Nat)(w:World)(h:Sl w x d)(G:n<=d.length) :
  Calls prog 136 #[.agg (tpA x s),.int .i64 (n:Int)] w λe w'=>∃ y,e=.returned (.agg (tpA y (n:Int)))/\w'.ownsRow w.heap.size 5 1 y n ((d.take n).map (Value.int .u8))/\Bw w w':=by
 have i:=h.len;obtain⟨b,c,rfl⟩:=h.qW;obtain⟨M,q⟩:∃ M,d.length=M:=⟨_,rfl⟩;have HM:Hid (d.length=M):=q;have N:Hid (n<=d.length):=G;obtain⟨t,u⟩:∃ t,t=d.take n:=⟨_,rfl⟩;have O:Hid (t=d.take n):=u;rw[<- u];clear u;rw[q]at h i G ⊢
 clear q;simp only[tpA];have v:=heap_alloc2_old w (.cells #[.slice b M c,.int .i64 s] 121) (.cells #[.slice none 0 0,.int .i64 0] 121);have z:=heap_alloc2_new w (.cells #[.slice b M c,.int .i64 s] 121) (.cells #[.slice none 0 0,.int .i64 0] 121);have l:Bw w ((w.alloc (.cells #[.slice b M c,.int .i64 s] 121)).alloc (.cells #[.slice none 0 0,.int .i64 0] 121)):=((Below.refl _ _).alloc (A' _) _).alloc (by simp) _;have f:((w.alloc (.cells #[.slice b M c,.int .i64 s] 121)).alloc (.cells #[.slice none 0 0,.int .i64 0] 121)).heap.size=w.heap.size+2:=by simp
 generalize U:(w.alloc (.cells #[.slice b M c,.int .i64 s] 121)).alloc (.cells #[.slice none 0 0,.int .i64 0] 121)=W0 at v z l f;have s0:=h.af l;have p:Hid (W0.heap.size=w.heap.size+2):=f;have K:w.heap.size+1<W0.heap.size:=by omega
 have L:w.heap.size<W0.heap.size:=by omega
 clear f;go_enter func136,ntmps136
 go_wp2_with ((with_reducible (refine Fe ?_));at_make;refine MR _ rfl _ _ 27 rfl W0.heap.size 5 underlying27 Av n rfl rfl (by omega) (A' _) ?_)
 clear U;intro A o F;have j:Bw W0 A:=(Below.refl _ _).grown F (A' _) (λk r=>by cases r);have I:=(j.block w.heap.size L).trans v;have J:=(j.block (w.heap.size+1) K).trans z;have Y:=s0.af j;obtain⟨Z,o⟩:=o.out;have C:Hid (A.ownsRow W0.heap.size 5 1 (.slice (some ⟨W0.heap.size,0,none⟩) n n) n Z):=o;have R:=l.trans (j.mono l.size);clear o v z F;have Q:A.cell? ⟨w.heap.size,0,none⟩=some (.slice b M c):=cell_of_row _ _ 0 _ _ _ I;go_wp2_with ((with_reducible (refine Fe ?_));refine MO _ rfl _ _ 27 27 rfl W0.heap.size 5 underlying27 j0 W0.heap.size n _ rfl C.out _ rfl d N.out Y t O.out ?_)
 intro B H P;have a:Hid (B.ownsRow W0.heap.size 5 1 (.slice (some ⟨W0.heap.size,0,none⟩) n n) n (t.map (Value.int .u8))):=H;have E:=P.mono (show w.heap.size+2<=W0.heap.size by have:=p.out;omega);have p1:=(E.block (w.heap.size+1) (by omega)).trans J;have S:=R.trans (E.mono (by omega));obtain⟨g,m⟩:∃ g,W0.heap.size=g:=⟨_,rfl⟩;have HG:Hid (W0.heap.size=g):=m;have f:g=w.heap.size+2:=m.symm.trans p.out;have D:Hid (g=w.heap.size+2):=f;rw[m]at a ⊢
 clear H C I J Q m f K L p;have W:=aX (some ⟨g,0,none⟩) n n (n:Int);go_wp2_with ((with_reducible (refine Fe ?_));refine wpList_store_row rfl 121 (.tmp 4) (.tmp 14) rfl (w.heap.size+1) #[.slice (some ⟨g,0,none⟩) n n,.int .i64 (n:Int)] rfl rfl 121 _ p1 ME rfl W ?_)
 have X:=setRow_heap B (w.heap.size+1) _ (#[.slice (some ⟨g,0,none⟩) n n,.int .i64 (n:Int)]) 121 _ p1;have T:=Dc S (show w.heap.size<=w.heap.size+1 by omega) (#[.slice (some ⟨g,0,none⟩) n n,.int .i64 (n:Int)]);have V:(B.setRow (w.heap.size+1) #[.slice (some ⟨g,0,none⟩) n n,.int .i64 (n:Int)]).ownsRow g 5 1 (.slice (some ⟨g,0,none⟩) n n) n (t.map (Value.int .u8)):=DK a.out (λk r=>setRow_other _ _ _ _ (by have:=(a.out.lt k r).1;have:=D.out;omega));refine bodyPost_ret (aI rfl _ _ (w.heap.size+1) 121 _ (0,0) _ rfl X underlying121 rfl ME) rfl ?_;exact⟨_,rfl,FW V (by have:=D.out;omega),T⟩
theorem XF:(prog.info? 24).map (·.size)=some 5:=by kernel_rfl
theorem Vb:(prog.info? 164).map (·.size)=some 8:=by kernel_rfl
theorem iZ{v r:Value}{b a:Option Value}(h:∀ W,(Instr.slice 27 v b a none).run prog W=.ok r W)(w:World) :
  (do let x <- Instr.slice 27 v b a none;pure (Next.value x):Sem Next).run prog w=.ok (.value r) w:=by
 simp only[Sem.run_bind,h w,Result.andThen_ok,Sem.run_pure]
theorem Sl.sJ(w:World)(b0 a b c d f h i:Int)(e:TypeId){g:Nat}(n:g=w.heap.size)(p:0<=b0/\b0<256)(q:0<=a/\a<256)(r:0<=b/\b<256)(s:0<=c/\c<256)(j:d=b0)(k:f=a)(l:h=b)(m:i=c) :
  Sl (w.alloc (.cells #[.int .u8 d,.int .u8 f,.int .u8 h,.int .u8 i] e)) (.slice (some ⟨g,0,none⟩) 4 4) [b0,a,b,c]:=by
 subst j k l m;exact Sl.built w [d,f,h,i] e n (by simp) (by intro x o;simp at o;omega)
theorem Rw(w:World)(l:List Int)(e:TypeId){g:Nat}(c:g=w.heap.size){a:Nat}(b:a<=w.heap.size)(d:l.length<=1000):(w.alloc (.cells (l.map (Value.int .u8)).toArray e)).ownsRow a e 1 (.slice (some ⟨g,0,none⟩) l.length l.length) l.length (l.map (Value.int .u8)):=by
 subst c;refine⟨by simp,.inr ⟨w.heap.size,l.length,_,rfl,b,heap_alloc_new _ _,A' _,by unfold maxLen;omega,by simp,by rw[mr (by simp)]⟩⟩
theorem JI(w:World)(b c:Int)(e:TypeId){g:Nat}(h:g=w.heap.size){a:Nat}(d:a<=w.heap.size)(f:c=b):(w.alloc (.cells #[.int .u8 c] e)).ownsRow a e 1 (.slice (some ⟨g,0,none⟩) 1 1) [b].length ([b].map (Value.int .u8)):=by
 subst f;exact Rw w [c] e h d (by simp)
def Dl(ns:List Int):List Int:=ns.flatMap Ad
theorem We(ns:List Int):(Dl ns).length=4*ns.length:=by
 induction ns with
 | nil=>rfl
 | cons n ns ih =>
  show(Ad n++Dl ns).length=_;rw[E',BF,ih,mJ];omega
theorem SW(ns:List Int)(n:Int):Dl (ns++[n])=Dl ns++Ad n:=by simp[Dl]
theorem TP(l:List Int)(k:Nat)(a:k<l.length):l.take (k+1)=l.take k++[l.getD k 0]:=by
 rw[mz a,AO a]
theorem G3(v:Value)(l ns:List Int)(B g:Nat)(w:World)(I:w.ownsRow B 5 1 v l.length (l.map (Value.int .u8)))(O:B<=w.heap.size)(T:l.length<=1000)(z:ns.length<=10)(H:∀ x∈ns,0<=x/\x<2147483648)
  (G:w.heap[g]?=some (.cells (ns.map (Value.int .i64)).toArray 3)) :
  Calls prog 186 #[v,.slice (some ⟨g,0,none⟩) ns.length ns.length] w λe w'=>∃ v',e=.returned v'/\w'.ownsRow B 5 1 v' (l++Dl ns).length ((l++Dl ns).map (Value.int .u8))/\Below B w w':=by
 obtain⟨N,t⟩:∃ N,ns.length=N:=⟨_,rfl⟩;have D:Hid (ns.length=N):=t;have M:Hid (∀ x∈ns,0<=x/\x<2147483648):=H;rw[t]at z ⊢
 clear t H;have i:Hid (w.ownsRow B 5 1 v (l++Dl (ns.take 0)).length ((l++Dl (ns.take 0)).map (Value.int .u8))):=by unfold Hid;simpa[Dl]using I
 clear I;go_enter func186,ntmps186
 go_wp2_with fail
 go_loopw [0,9] (λv iv wr=>∃ j:Nat,j<=N/\iv=.int .i64 (j:Int)/\Hid (wr.ownsRow B 5 1 v (l++Dl (ns.take j)).length ((l++Dl (ns.take j)).map (Value.int .u8)))/\wr.heap[g]?=some (.cells (ns.map (Value.int .i64)).toArray 3)/\Below B w wr) (λ_ iv _=>N-(intOf iv).toNat)
 case atStart=>exact⟨0,by omega,rfl,i,G,Below.refl _ _⟩
 case round =>
  obtain⟨j,S,rfl,f,c,a⟩:=hrel;clear i G;by_cases y:j<N
  .have hji:(j:Int)<(N:Int):=by omega
   have b:j<ns.length:=by rw[D.out];exact y
   have o:=f.out.lt;have Q:B<=wr.heap.size:=mg O a.size;have P:=M.out (ns.getD j 0) (by rw[AO b];exact mP b);have F:wr.cell? ⟨g,j,none⟩=some (.int .i64 (ns.getD j 0)):=by
    rw[cell_of_row _ _ j _ _ _ c,AO b];simp[List.getElem?_eq_getElem b]
   have s:Hid (ns.take (j+1)=ns.take j++[ns.getD j 0]):=TP ns j b;have d:(l++Dl (ns.take j)).length+4<=140737488355328:=by
    rw[E',We,j'];omega
   have p:=Mv f.out c (by decide);have lg:g<wr.heap.size:=(U'.1 c).1;have K:Hid (∀ n,Ad n=[n/16777216%256,n/65536%256,n/256%256,n%256]):=λn=>rfl;generalize ns.getD j 0=n at P F s;generalize E:l++Dl (ns.take j)=L at f d;have C:Hid (l++Dl (ns.take j)=L):=E;clear E b;go_wp2_with (at_builtin;refine Aa _ rfl _ _ 27 rfl B 5 underlying27 Av _ _ rfl rfl L [n/16777216%256,n/65536%256,n/256%256,n%256] (f.out.alloc _) (Sl.sJ _ (n/16777216%256) (n/65536%256) (n/256%256) (n%256) _ _ _ _ _ rfl (by omega) (by omega) (by omega) (by omega) (by omega) (by omega) (by omega) (by omega)) d (by simp;omega) ?_)
   intro R A q h;have u:Below B w A:=(a.alloc Q _).grown h (by simp;omega) (λk z=>(o k z).1);have m:A.heap[g]?=some (.cells (ns.map (Value.int .i64)).toArray 3):=by
    rw[h.block g (by simp;omega) (λe=>p g e.symm rfl),heap_alloc_old _ _ lg];exact c
   have r:Hid (A.ownsRow B 5 1 R (l++Dl (ns.take (j+1))).length ((l++Dl (ns.take (j+1))).map (Value.int .u8))):=by
    unfold Hid;rw[s.out,SW,<- mm,C.out,K.out];simpa using q
   clear q h a d f p o c F s C;go_wp2
   go_roundw
   case rel=>exact⟨j+1,by omega,by go_num,r,m,u⟩
   case measure=>simp[intOf];omega
  .obtain rfl:j=N:=by omega
   have J:ns.take j=ns:=mr (by rw[D.out];exact A' _);rw[J]at f
   clear J;go_wp2
   go_ret;exact⟨_,rfl,f.out,a⟩
theorem Sl.sI{w:World}{a:Option Addr}{n b:Nat}{l:List Int}(h:Sl w (.slice a n b) l)(d c m:Nat)(j:d<=c)(f:c<=l.length)(s:m=c-d)(p o:Int)(i:p=(d:Int))(g:o=(c:Int)) :
  ∃ a' c',(∀ W,(Instr.slice 27 (.slice a n b) (some (.int .i64 p)) (some (.int .i64 o)) none).run prog W=.ok (.slice a' m c') W)/\Sl w (.slice a' m c') ((l.take c).drop d):=by
 subst i;subst g;subst s;have t:=h.rh d c j f;obtain⟨⟨a',k,e,v,x,u⟩,r,q⟩:=h;simp only[Value.slice.injEq]at e;obtain⟨rfl,rfl,rfl⟩:=e;refine⟨_,_,λW=>?_,by simpa[sliced]using t⟩;rw[run_slice_lh (P:=prog) W 27 a _ b underlying27 .i64 .i64 _ _ (by omega) (by omega) (by omega)];have e:prog.elem 27=5:=by kernel_rfl
 rw[e,GC,mM,mM];simp[Result.andThen,sliced]
theorem iX(v:Value)(l:List Int)(w:World)(h:Sl w v l)(o:l.length<=2000)(k:AK w) :
  Calls prog 199 #[v] w λe w'=>∃ v',e=.returned (.tuple #[v',.int .i64 0])/\Fresh w w' v' (dig l):=by
 have j:=h;obtain⟨⟨a,c,rfl,n,p,d⟩,g,b⟩:=h;clear d b;go_enter func199,ntmps199
 go_wp2_with fail
 refine(FB _ l w j (by omega) k).mono ?_;rintro e q ⟨m,rfl,i,f⟩;go_wp2
 go_ret2
 exact⟨m,rfl,Fresh.ni i (FJ (AA l)) (by rw[AA];omega) (DV l) f⟩
theorem O8(v:Value)(l:List Int)(w:World)(h:Sl w v l)(p:l.length<=2000)(q:AK w) :
  Calls prog 189 #[v] w λe w'=>∃ a c,e=.returned (.tuple #[.slice a 4 c,.int .i64 0])/\Sl w' (.slice a 4 c) ((dig l).take 4)/\Bw w w':=by
 go_enter func189,ntmps189
 go_wp2_with fail
 refine(iX v l w h p q).mono ?_;rintro e t ⟨y,rfl,f⟩;obtain⟨g,b,m,s,d⟩:=f.shape;rw[AA]at m d
 subst m;obtain⟨j,k,n,r⟩:=f.sl.ov 4 (by rw[AA];decide);have o:=f.sc;clear f;have i:(4:Int)<=(b:Int):=by omega
 replace n:∀ W,(Instr.slice 27 (.slice (some ⟨g,0,none⟩) 32 b) none (some (.int .i64 4)) none).run prog W=.ok (.slice j 4 k) W:=n;go_wp2
 go_ret2
 exact⟨j,k,rfl,r,o⟩
theorem Nc(v:Value)(r:List Int)(w:World)(h:Sl w v r)(ht:AK w){u:World}(O:Sl u v r) :
  Calls prog 166 #[v] w λe w'=>∃ a n c,e=.returned (.tuple #[.slice a n c,.bool (fbO r).isSome])/\Sl u (.slice a n c) ((fbO r).getD [])/\Bw w w':=by
 have o:=h.len;have P:=Al h.byte 0;obtain⟨ax,cp,rfl⟩:=h.qW;by_cases B:r=[]
 .subst B;have d:Hid (fbO []=none):=if_pos rfl;rw[d.out];go_enter func166,ntmps166
  go_wp2
  go_ret2
  exact⟨none,0,0,rfl,Sl.nil _ _,Below.refl _ _⟩
 .have hp:0<r.length:=by
   rcases Nat.eq_zero_or_pos r.length with g|g
   .exact absurd (Y' g) B
   .exact g
  obtain⟨bd,od,rfl,F,G⟩:=h.rC 0 hp;obtain⟨x,f⟩:∃ x:Nat,r.getD 0 0=(x:Int):=⟨(r.getD 0 0).toNat,by omega⟩;have q:(r.getD 0 0).toNat=x:=by rw[f];exact mM _
  rw[f]at G P
  obtain⟨M,D⟩:∃ M,r.length=M:=⟨_,rfl⟩;have b:Hid (r.length=M):=D;have j:Hid ((r.getD 0 0).toNat=x):=q;have hz:(0:Int)<(M:Int):=by omega
  have a2:((M:Int)==0)=false:=by simp;omega
  rw[D]at h O o hp ⊢
  have a3:x<256:=by omega
  have i:Hid (¬ r=[]):=B;clear D f q P B;rw[oA]at G
  by_cases L:M<x+5
  .have d:Hid (fbO r=none):=by
    unfold Hid fbO;rw[if_neg i.out,j.out,b.out,if_pos L]
   rw[d.out];have l:(M:Int)<1+(x:Int)+4:=by omega
   clear i j;go_enter func166,ntmps166
   go_wp2
   go_ret2
   exact⟨none,0,0,rfl,Sl.nil _ _,Below.refl _ _⟩
  .have l:¬ (M:Int)<1+(x:Int)+4:=by omega
   obtain⟨E,N⟩:∃ E:Nat,E=x+1:=⟨_,rfl⟩;have z:Hid (E=x+1):=N;have C:1+(x:Int)=(E:Int):=by omega
   have a0:E+4<=M:=by omega
   have a1:E<=256:=by omega
   have m:1<=E:=by omega
   rw[C]at l
   obtain⟨X,cu,ru,S⟩:=h.ov E (by rw[b.out];omega);obtain⟨V,Z,rf,H⟩:=h.sI E (E+4) 4 (by omega) (by rw[b.out];omega) (by omega) (E:Int) ((E:Int)+4) rfl (by omega);obtain⟨U,Y,rb,Q⟩:=O.sI 1 E x m (by rw[b.out];omega) (by omega) 1 (E:Int) rfl rfl;have hl:(r.take E).length=E:=by rw[j',b.out];omega
   have I:Hid ((r.take (E+4)).drop E=(r.drop E).take 4):=by unfold Hid;rw[pA,show E+4-E=4 by omega]
   rw[I.out]at H
   clear N L m I;go_enter func166,ntmps166
   go_wp2_with fail
   refine(O8 (.slice X E cu) (r.take E) w S (by omega) ht).mono ?_;rintro e T ⟨W,cg,rfl,R,A⟩;have y:=H.af A;have s:=Q;clear S H Q ru G F hl;go_wp2_with fail
   refine(IR (.slice W 4 cg) (.slice V 4 Z) ((dig (r.take E)).take 4) ((r.drop E).take 4) T R y).mono ?_;rintro e w2 ⟨rfl,n2,p⟩;have J:Bw T w2:=by rw[p];exact Aq (Below.refl _ _) n2
   clear p;have K:=A.trans (J.mono A.size);have t:=s;clear A J s R y rf;by_cases k:(dig (r.take E)).take 4=(r.drop E).take 4
   .have d:Hid (fbO r=some ((r.take E).drop 1)):=by
     unfold Hid fbO;have:=z.out;rw[if_neg i.out,j.out,b.out,if_neg (by omega),<- this,if_neg (λg=>g k)]
    rw[P' k];clear k i j z;go_wp2
    go_ret2
    rw[d.out];exact⟨U,x,Y,rfl,t,K⟩
   .have d:Hid (fbO r=none):=by
     unfold Hid fbO;have:=z.out;rw[if_neg i.out,j.out,b.out,if_neg (by omega),<- this,if_pos k]
    rw[G' k];clear k i j z t;go_wp2
    go_ret2
    rw[d.out];exact⟨none,0,0,rfl,Sl.nil _ _,K⟩
theorem Px(v:Value)(b:List Int)(w:World)(h:Sl w v b)(P:b.length<=255)(U:AK w) :
  Calls prog 185 #[v] w λe w'=>∃ y,e=.returned (.tuple #[y,.int .i64 0])/\w'.ownsRow w.heap.size 5 1 y (AN b).length ((AN b).map (Value.int .u8))/\Bw w w':=by
 obtain⟨ax,cp,rfl⟩:=h.qW;obtain⟨N,l⟩:∃ N,b.length=N:=⟨_,rfl⟩;have Y:Hid (b.length=N):=l;have z:Hid (Ef b++(dig (Ef b)).take 4=AN b):=rfl;have K:Hid ([(N:Int)]++b=Ef b):=by unfold Hid Ef;rw[l];rfl
 have a:Hid ((Ef b).length=N+1/\∀ x∈Ef b,0<=x/\x<256):=⟨by rw[CG,l],L8 h.byte P⟩;rw[l]at h P ⊢
 have V:(N:Int)%256=(N:Int):=by omega
 have o:[(N:Int)].length+b.length<=140737488355328:=by rw[l];simp;omega
 clear l;obtain⟨q,g⟩:∃ q,w.alloc (.cells #[.int .u8 (N:Int)] 5)=q:=⟨_,rfl⟩;have r:Bw w q:=by rw[<- g];exact Cq _ _
 have H:q.ownsRow w.heap.size 5 1 (.slice (some ⟨w.heap.size,0,none⟩) 1 1) [(N:Int)].length ([(N:Int)].map (Value.int .u8)):=by rw[<- g];exact JI w N N 5 rfl (A' _) rfl
 have O:=h.af r;go_enter func185,ntmps185
 go_wp2_with (at_builtin;refine Aa _ rfl _ _ 27 rfl w.heap.size 5 underlying27 Av _ _ rfl rfl [(N:Int)] b H O o r.size ?_)
 clear g;intro s t j L;have c:=H.lt;have A:Bw w t:=r.grown L r.size (λk n=>(c k n).1);replace j:t.ownsRow w.heap.size 5 1 s ([(N:Int)]++b).length (([(N:Int)]++b).map (Value.int .u8)):=by simpa using j
 rw[K.out]at j
 have I:=Sl.ni j (by rw[a.out.1];omega) a.out.2;have m:(Ef b).length<=2000:=by rw[a.out.1];omega
 have i:(Ef b).length+((dig (Ef b)).take 4).length<=140737488355328:=by rw[a.out.1,j',AA];omega
 clear H L c K o O;generalize E:Ef b=F at j I m i z;have d:Hid (t.ownsRow w.heap.size 5 1 s F.length (F.map (Value.int .u8))):=j;clear j E a;go_wp2_with fail
 refine(O8 s F t I m (U.af A)).mono ?_;rintro e X ⟨Z,c4,rfl,J,B⟩;have C:=A.trans (B.mono A.size);have f:Hid (X.ownsRow w.heap.size 5 1 s F.length (F.map (Value.int .u8))):=DK d.out (λk n=>B.block k (d.out.lt k n).2);have p:=f.out.lt;generalize T:(dig F).take 4=D at J z i;clear d B T I;have G:=C.size;go_wp2_with (at_builtin;refine Aa _ rfl _ _ 27 rfl w.heap.size 5 underlying27 Av _ _ rfl rfl F D f.out J i G ?_)
 intro W R Q M;have S:Bw w R:=C.grown M C.size (λk n=>(p k n).1);have u:Hid (R.ownsRow w.heap.size 5 1 W (AN b).length ((AN b).map (Value.int .u8))):=by
  unfold Hid;rw[<- z.out];simpa using Q
 clear Q M f p J;go_wp2
 go_ret2
 exact⟨_,rfl,u.out,S⟩
section
variable{P:Program}{md:Region.Mode}{ops:Array Oper}{Q:Exit->Act->World->Prop}{S:World->Prop}
theorem Wi{i d:Nat}{o:Oper}{a:Act}{w:World}{K:Act->World->Prop}(r:ops[i]?=some o)(B:Region.wanted o (yielded ops a.tmps)=true)(q:o.dst=some d)(s x:Operand)(t:TypeId)
  (n:o.op=.call { callee:=.builtin .append,args:=#[s,x],argTypes:=#[t,t] })
  (b e:Nat)(z:P.underlying t=some (.slice e))(f:(P.info? e).map (λi=>(i.zero,i.size,i.bytes))=some (some (.int .u8 0),1,1))
  (v u:Value)(y:a.eval s=v)(C:a.eval x=u)(l m:List Int)(j:w.ownsRow b e 1 v l.length (l.map (Value.int .u8)))(A:Sl w u m)
  (g:l.length+m.length<=140737488355328)(c:b<=w.heap.size)
  (h:∀ v' w',w'.ownsRow b e 1 v' (l++m).length ((l++m).map (Value.int .u8))->w.grownBy w' v.ownBlock->K (a.put (some d) v') w'):wpOp P ops Q i K a w :=
 wpOp_step r λF p=>by
  rw[if_pos B];obtain⟨v',w',k,D,E⟩:=Hv (P:=P) w b t o.type e z f v l j u m A g c;unfold Oper.wp execOp;simp only[n,resolve,invoke,builtin,Sem.run_bind,Sem.run_pure,Result.andThen_ok,oT,mR,nG,y,C,k];exact p _ _ (by rw[q];exact h v' w' D E)
end
section
theorem Hr(x:Value)(d:List Int)(s:Int)(k:Nat)(G:k<=1000)(w:World)(h:Sl w x d) :
  Calls prog 159 #[.agg (tpA x s),.int .i64 (k:Int)] w λe w'=>e=.returned (.int .i64 (G9 d s k))/\Bw w w':=by
 have t:=h.len;obtain⟨q,r,rfl⟩:=h.qW;obtain⟨M,B⟩:∃ M,d.length=M:=⟨_,rfl⟩;have z:Hid (d.length=M):=B;rw[B]at h t ⊢
 clear B;simp only[tpA];obtain⟨o,n⟩:∃ o,w.alloc (.cells #[.slice q M r,.int .i64 s] 121)=o:=⟨_,rfl⟩;have c:o.heap[w.heap.size]?=some (.cells #[.slice q M r,.int .i64 s] 121):=by rw[<- n];exact EG _ _
 have A:Bw w o:=by rw[<- n];exact Cq _ _
 have i:w.heap.size<o.heap.size:=(U'.1 c).1;have b:=h.af A;go_enter func159,ntmps159
 go_wp2_with ((with_reducible (refine Fe ?_));(refine wpList_load_row rfl 121 _ rfl w.heap.size rfl 121 _ (0,0) _ c underlying121 rfl ME ?_))
 clear n;refine(LK (.slice q M r) d s o b).mono ?_;rintro e y ⟨rfl,f⟩;have E:=A.trans (f.mono A.size);have a:=(f.block _ i).trans c;have C:=Z' i f.size;have D:=b.af f;clear i c b;clear f;by_cases m:AR d s
 .rw[P' m];have F:M<=100000:=by rw[<- z.out];exact m.1
  have u:=E;by_cases v:100000<M+k
  .have h2i:(100000:Int)<(M:Int)+(k:Int):=by omega
   have p:Hid (G9 d s k=8):=by unfold Hid G9;rw[if_neg (λg=>g m),z.out,if_pos v]
   clear m v;have j:y.cell? ⟨w.heap.size,0,none⟩=some (.slice q M r):=cell_of_row _ _ 0 _ _ _ a;have l:y.cell? ⟨w.heap.size,1,none⟩=some (.int .i64 s):=cell_of_row _ _ 1 _ _ _ a;go_wp2
   go_ret;exact⟨by rw[p.out];rfl,u⟩
  .have h2i:¬ (100000:Int)<(M:Int)+(k:Int):=by omega
   have p:Hid (G9 d s k=0):=by unfold Hid G9;rw[if_neg (λg=>g m),z.out,if_neg v]
   clear m v;have j:y.cell? ⟨w.heap.size,0,none⟩=some (.slice q M r):=cell_of_row _ _ 0 _ _ _ a;have l:y.cell? ⟨w.heap.size,1,none⟩=some (.int .i64 s):=cell_of_row _ _ 1 _ _ _ a;go_wp2
   go_ret;exact⟨by rw[p.out];rfl,u⟩
 .rw[G' m];have p:Hid (G9 d s k=5):=if_pos m;clear m;have u:=E;go_wp2
  go_ret;exact⟨by rw[p.out];rfl,u⟩
theorem MN(x:Value)(d:List Int)(s:Int)(v:Value)(b:List Int)(w:World)(h:Sl w x d)(hv:Sl w v b)(hb:b.length<=255)(hd:d.length<=100000)(ht:AK w) :
  Calls prog 160 #[.agg (tpA x s),v] w λe w'=>∃ y,e=.returned (.tuple #[.agg (tpA y s),.int .i64 0])/\w'.ownsRow w.heap.size 5 1 y (d++AN b).length ((d++AN b).map (Value.int .u8))/\Bw w w':=by
 have HD:Hid (∀ x∈d,0<=x/\x<256):=h.byte;have a2:Hid (∀ x∈AN b,0<=x/\x<256):=Mc hv.byte hb;have a8:(AN b).length<=260:=by rw[Bg];omega
 have a6:=h.len;obtain⟨ax,cp,rfl⟩:=h.qW;obtain⟨M,hM⟩:∃ M,d.length=M:=⟨_,rfl⟩;have HM:Hid (d.length=M):=hM;rw[hM]at h a6 ⊢
 clear hM;simp only[tpA];rw[HM.out]at hd
 obtain⟨i0,b7,c2,c5,c6⟩:=info_parts Av;obtain⟨U,Q⟩:∃ U,(w.alloc (.cells #[.slice ax M cp,.int .i64 s] 121)).alloc (.cells #[.slice none 0 0,.int .i64 0] 121)=U:=⟨_,rfl⟩;have A:U.heap[w.heap.size]?=some (.cells #[.slice ax M cp,.int .i64 s] 121):=by rw[<- Q];exact TI _ _ _
 have B:U.heap[w.heap.size+1]?=some (.cells #[.slice none 0 0,.int .i64 0] 121):=by rw[<- Q];exact TJ _ _ _
 have bb:Bw w U:=by rw[<- Q];exact WM _ _ _
 have t:w.heap.size<U.heap.size:=(U'.1 A).1;have u:(w.heap.size+1)<U.heap.size:=(U'.1 B).1;have I:=ht.af bb;have E:=h.af bb;have o:=hv.af bb;go_enter func160,ntmps160
 go_wp2_with fail
 clear Q;refine(Px v b U o hb I).mono ?_;rintro e q ⟨y,rfl,oy,a⟩;obtain⟨R,hR⟩:∃ R,AN b=R:=⟨_,rfl⟩;rw[hR]at oy a8 a2
 have HR:Hid (AN b=R):=hR;clear hR;have sy:=Sl.ni oy (by omega) a2.out;obtain⟨N,hN⟩:∃ N,R.length=N:=⟨_,rfl⟩;have HN:Hid (R.length=N):=hN;rw[hN]at oy a8
 clear hN;obtain⟨ay,cy,rfl⟩:=EV oy;have d1:=bb.trans (a.mono bb.size);have J:=I.af a;have n:=(a.block _ t).trans A;have m:=Z' t a.size;have C:=(a.block _ u).trans B;have f:=Z' u a.size;have G:=E.af a;have F:=o.af a;clear I t A u B E o;clear a;clear oy;have d0:=sy;have a5:w.heap.size+1<q.heap.size:=f;have L:q.cell? ⟨w.heap.size,0,none⟩=some (.slice ax M cp):=cell_of_row _ _ 0 _ _ _ n;go_wp2_with (at_make;refine wpList_make_own _ rfl _ _ 27 rfl q.heap.size 5 i0 (.int .u8 0) 1 underlying27 b7 c2 c5 _ _ _ (M+N) rfl rfl (by omega) (by rw[c6];omega) (by unfold maxLen;omega) (A' _) ?_)
 intro w2 o2 g2;have r:Bw q w2:=(Below.refl _ _).grown g2 (A' _) (λk Y=>by cases Y);clear g2 L;have d7:=r.size;have b5:=r;have d2:=d1.trans (r.mono d1.size);have d5:=J.af r;have D:=(r.block _ m).trans n;have c7:=Z' m r.size;have a0:=(r.block _ f).trans C;have c8:=Z' f r.size;have H:=G.af r;have c9:=F.af r;clear J m n f C G F;clear r;have a1:Hid (w2.ownsRow q.heap.size 5 1 (.slice (some ⟨q.heap.size,0,none⟩) 0 (M+N)) ([]:List Int).length (([]:List Int).map (Value.int .u8))):=o2;have V:=o2.lt;have b8:([]:List Int).length+d.length<=140737488355328:=by rw[HM.out];simp;omega
 clear o2;have O:w2.cell? ⟨w.heap.size,0,none⟩=some (.slice ax M cp):=cell_of_row _ _ 0 _ _ _ D;go_wp2_with (at_builtin;refine Aa _ rfl _ _ 27 rfl q.heap.size 5 underlying27 Av _ _ rfl rfl [] d a1.out H b8 (by omega) ?_)
 intro v3 l o3 g3;have b3:Below q.heap.size w2 l:=(Below.refl _ _).grown g3 (by omega) (λk Y=>(V k Y).1);have K:Hid (l.ownsRow q.heap.size 5 1 v3 d.length (d.map (Value.int .u8))):=by unfold Hid;simpa using o3
 have d8:=b3.size;have d4:Sl l (.slice ay N cy) R:=d0.af (show Bw q l from b5.trans b3);have a9:=(b3.block w.heap.size (by omega)).trans D;have b0:=(b3.block (w.heap.size+1) a5).trans a0;have d3:=d2.trans (b3.mono (show w.heap.size<=q.heap.size by omega));have z:w.heap.size+1<l.heap.size:=by omega
 have d6:q.heap.size<=l.heap.size:=by omega
 obtain⟨a3,c3,h3⟩:=EV K.out;rw[HM.out]at h3
 subst h3;have c1:l.cell? ⟨w.heap.size,1,none⟩=some (.int .i64 s):=cell_of_row _ _ 1 _ _ _ a9;obtain⟨T,hT⟩:∃ T,M+N=T:=⟨_,rfl⟩;have HT:Hid (M+N=T):=hT;clear hT;clear o3 g3 b3 V a1 H O;go_wp2_with fail
 apply aK (λg c Wz=>Wz.heap[w.heap.size+1]?=some (.cells #[.slice g T c,.int .i64 s] 121)/\Wz.ownsRow q.heap.size 5 1 (.slice g T c) T ((d++R).map (Value.int .u8))/\Below (w.heap.size+1) l Wz)
 .intro K2 HK2;have j:Bw l l.drew:=(Below.refl _ _).drew;refine wp_region_held (S:=λw'=>Below (w.heap.size+1) l w') (by kernel_rfl) ?_;have P:(λw'=>Below (w.heap.size+1) l w') l.drew:=j.mono (oB z);refine Bd (i:=0) 29 (v:=.slice a3 M c3) rfl rfl (by kernel_rfl) (by kernel_rfl) (by kernel_rfl) (λ_ _ _ h=>h) (qh ⟨by rfl,λ_ _=>by kernel_rfl⟩) P ?_;simp only[Act.put,ml,mq,mw];refine Bd (i:=1) 30 (v:=.slice ay N cy) rfl rfl (by kernel_rfl) (by kernel_rfl) (by kernel_rfl) (λ_ _ _ h=>h) (qh ⟨by rfl,λ_ _=>by kernel_rfl⟩) P ?_;simp only[Act.put,ml,mq,mw];refine Bd (i:=3) 32 (v:=.pointer (some ⟨w.heap.size,1,none⟩)) rfl rfl (by kernel_rfl) (by kernel_rfl) (by kernel_rfl) (λ_ _ _ h=>h) (qh ⟨by rfl,λ_ _=>by kernel_rfl⟩) P ?_;simp only[Act.put,ml,mq,mw];refine Bd (i:=4) 33 (v:=.int .i64 s) rfl rfl (by kernel_rfl) (by kernel_rfl) (by kernel_rfl) (λ_ _ _ h=>h) (Xg (by rfl) 3 (.tmp 32) rfl _ underlying3 rfl ⟨w.heap.size,1,none⟩ rfl (.int .i64 s) (λw' c0=>(c0.cell (p:=⟨w.heap.size,1,none⟩) (show w.heap.size<w.heap.size+1 by omega)).trans c1)) P ?_;simp only[Act.put,ml,mq,mw];have od:l.drew.ownsRow q.heap.size 5 1 (.slice a3 M c3) d.length (d.map (Value.int .u8)):=DK K.out (λk Y=>j.block k (K.out.lt k Y).2);have rd:=(j.block (w.heap.size+1) z).trans b0;have b9:=od.lt;have Z:d.length+R.length<=140737488355328:=by rw[HM.out,HN.out];omega
  refine Em (i:=2) (by kernel_rfl) (Wi (i:=2) (d:=31) rfl (by kernel_rfl) rfl (.tmp 29) (.tmp 30) 27 rfl q.heap.size 5 underlying27 Av (.slice a3 M c3) (.slice ay N cy) (by kernel_rfl) (by kernel_rfl) d R od (d4.af j) Z (mg d6 j.size) ?_);intro v4 w4 o4 g4;have b4:Below (w.heap.size+1) l w4:=(j.mono (oB z)).grown g4 (mg (oB z) j.size) (λk Y=>mg (oB a5) (b9 k Y).1);have r4:w4.heap[w.heap.size+1]?=some (.cells #[.slice none 0 0,.int .i64 0] 121):=(g4.block (w.heap.size+1) (Z' z j.size) (λe=>Mv od rd (by decide) _ e.symm rfl)).trans rd;have b6:(d++R).length=T:=by rw[E',HM.out,HN.out];exact HT.out
  rw[b6]at o4
  obtain⟨W,X,h4⟩:=EV o4;subst h4;refine⟨b4,?_⟩;simp only[Act.put,ml,mq,mw];refine Bd (i:=5) 34 (v:=.agg #[.slice W T X,.int .i64 s]) rfl rfl (by kernel_rfl) (by kernel_rfl) (by kernel_rfl) (λ_ _ _ h=>h) (qh ⟨by rfl,λ_ _=>by kernel_rfl⟩) b4 ?_;simp only[Act.put,ml,mq,mw];have a7:=aX W T X s;have e7:Below (w.heap.size+1) l (w4.setRow (w.heap.size+1) #[.slice W T X,.int .i64 s]):=Dc b4 (A' _) _;have q7:=setRow_heap w4 (w.heap.size+1) _ (#[.slice W T X,.int .i64 s]) 121 _ r4;have o7:=WL o4 r4 (by decide) (#[.slice W T X,.int .i64 s]);refine Em (i:=6) (by kernel_rfl) (UF (i:=6) rfl (by kernel_rfl) rfl 121 (.tmp 4) (.tmp 34) rfl (w.heap.size+1) #[.slice W T X,.int .i64 s] (by kernel_rfl) (by kernel_rfl) 121 _ r4 ME rfl a7 ⟨e7,?_⟩);refine Bd (i:=7) 5 (v:=.int .i64 0) rfl rfl (by kernel_rfl) (by kernel_rfl) (by kernel_rfl) (λ_ _ _ h=>h) (qh ⟨by rfl,λ_ _=>by kernel_rfl⟩) e7 ?_;simp only[Act.put,ml,mq,mw];exact wpAnyH_done (by kernel_rfl) (HK2.out W X _ ⟨q7,o7,e7⟩) _
 rintro g c Wz ⟨qR,oR,eR⟩;have dR:=d3.trans (eR.mono (by omega));have b1:Hid ((d++AN b).length=T):=by unfold Hid;rw[HR.out,E',HM.out,HN.out];exact HT.out
 clear a9 b0 c1 K;go_wp2
 refine bodyPost_ret (UN rfl _ _ (w.heap.size+1) 121 _ (0,0) _ rfl qR underlying121 rfl ME) rfl ?_;rw[b1.out,HR.out];exact⟨_,rfl,FW oR (by omega),dR⟩
theorem P7(b:Bal)(z:Ab b)(w:World) :
  Calls prog 161 #[.agg (baA b)] w λe w'=>∃ y,e=.returned y/\w'.ownsRow w.heap.size 5 1 y 9 ((Bu b).map (Value.int .u8))/\Bw w w':=by
 obtain⟨n,m⟩:=b;have t:=z;unfold Ab at t;simp only at t;have O:Hid (Ab ⟨n,m⟩):=z;clear z;simp only[baA];obtain⟨d,o⟩:∃ d,w.alloc (.cells #[.int .i64 n,.int .i64 m] 104)=d:=⟨_,rfl⟩;have h:d.heap[w.heap.size]?=some (.cells #[.int .i64 n,.int .i64 m] 104):=by rw[<- o];exact EG _ _
 have v:Bw w d:=by rw[<- o];exact Cq _ _
 have f:w.heap.size<d.heap.size:=(U'.1 h).1;obtain⟨i,p⟩:∃ i,d.alloc (.cells #[.int .u8 1] 5)=i:=⟨_,rfl⟩;have u:Bw d i:=by rw[<- p];exact Cq _ _
 have B:i.ownsRow d.heap.size 5 1 (.slice (some ⟨d.heap.size,0,none⟩) 1 1) [(1:Int)].length ([(1:Int)].map (Value.int .u8)):=by rw[<- p];exact JI d 1 1 5 rfl (A' _) rfl
 have E:=v.trans (u.mono v.size);have a:=(u.block _ f).trans h;have c:=Z' f u.size;clear f h;have j:i.cell? ⟨w.heap.size,0,none⟩=some (.int .i64 n):=cell_of_row _ _ 0 _ _ _ a;have l:i.cell? ⟨w.heap.size,1,none⟩=some (.int .i64 m):=cell_of_row _ _ 1 _ _ _ a;obtain⟨r,q⟩:∃ r,i.alloc (.cells #[.int .i64 n,.int .i64 m] 3)=r:=⟨_,rfl⟩;have s:Bw i r:=by rw[<- q];exact Cq _ _
 have rn:r.heap[i.heap.size]?=some (.cells ([n,m].map (Value.int .i64)).toArray 3):=by rw[<- q];exact heap_alloc_new _ _
 have N:d.heap.size<=r.heap.size:=mg u.size s.size;have H:=E.trans (s.mono E.size);have C:=(s.block _ c).trans a;have A:=Z' c s.size;have g:=DK B (λk J=>s.block k (B.lt k J).2);clear c a B;go_enter func161,ntmps161
 go_wp2_with fail
 clear o p q j l;refine(G3 (.slice (some ⟨d.heap.size,0,none⟩) 1 1) [1] [n,m] d.heap.size i.heap.size r g N (by simp) (by simp) (by intro x K;simp at K;omega) rn).mono ?_;rintro e M ⟨L,rfl,F,D⟩;have I:=H.trans (D.mono v.size);have G:Hid (M.ownsRow w.heap.size 5 1 L 9 ((Bu ⟨n,m⟩).map (Value.int .u8))):=FW F v.size;clear F D rn g;go_wp2
 go_ret;exact⟨_,rfl,G.out,I⟩
theorem PA(v:Vt)(hv:Ah v)(x:Value)(w:World)(P:Sl w x (D3 v.w.k v.w.c v.w.s v.w.n v.w.v)) :
  Calls prog 179 #[.agg (vtA v),x] w λe w'=>∃ y,e=.returned y/\w'.ownsRow w.heap.size 5 1 y 33 ((Bk v).map (Value.int .u8))/\Bw w w':=by
 obtain⟨p,⟨o,m⟩,⟨G,F,I,H,J⟩⟩:=v;have E:=hv;unfold Ah Ab at E;simp only at E P;obtain⟨a0,a1,-⟩:=E;clear hv;simp only[vtA,vtC];obtain⟨b,z⟩:∃ b,w.alloc (.cells #[.int .i64 p,.int .i64 o,.int .i64 m,.int .i64 G,.int .i64 F,.int .i64 I,.int .i64 H,.int .i64 J] 164)=b:=⟨_,rfl⟩;have i:b.heap[w.heap.size]?=some (.cells #[.int .i64 p,.int .i64 o,.int .i64 m,.int .i64 G,.int .i64 F,.int .i64 I,.int .i64 H,.int .i64 J] 164):=by rw[<- z];exact EG _ _
 have u:Bw w b:=by rw[<- z];exact Cq _ _
 have g:w.heap.size<b.heap.size:=(U'.1 i).1;have j:=P.af u;obtain⟨f,A⟩:∃ f,b.alloc (.cells #[.int .u8 2] 5)=f:=⟨_,rfl⟩;have N:Bw b f:=by rw[<- A];exact Cq _ _
 have W:f.ownsRow b.heap.size 5 1 (.slice (some ⟨b.heap.size,0,none⟩) 1 1) [(2:Int)].length ([(2:Int)].map (Value.int .u8)):=by rw[<- A];exact JI b 2 2 5 rfl (A' _) rfl
 have d1:=u.trans (N.mono u.size);have a:=(N.block _ g).trans i;have d:=Z' g N.size;have l:=j.af N;clear g i j;have q:f.cell? ⟨w.heap.size,0,none⟩=some (.int .i64 p):=cell_of_row _ _ 0 _ _ _ a;have r:f.cell? ⟨w.heap.size,1,none⟩=some (.int .i64 o):=cell_of_row _ _ 1 _ _ _ a;have t:f.cell? ⟨w.heap.size,2,none⟩=some (.int .i64 m):=cell_of_row _ _ 2 _ _ _ a;obtain⟨K,B⟩:∃ K,f.alloc (.cells #[.int .i64 p,.int .i64 o,.int .i64 m] 3)=K:=⟨_,rfl⟩;have M:Bw f K:=by rw[<- B];exact Cq _ _
 have rn:K.heap[f.heap.size]?=some (.cells ([p,o,m].map (Value.int .i64)).toArray 3):=by rw[<- B];exact heap_alloc_new _ _
 have z1:b.heap.size<=K.heap.size:=mg N.size M.size;have d2:=d1.trans (M.mono d1.size);have Y:=(M.block _ d).trans a;have V:=Z' d M.size;have Z:=l.af M;have h:=DK W (λk U=>M.block k (W.lt k U).2);clear d a l W;go_enter func179,ntmps179
 go_wp2_with fail
 clear z A B q r t;refine(G3 (.slice (some ⟨b.heap.size,0,none⟩) 1 1) [2] [p,o,m] b.heap.size f.heap.size K h z1 (by simp) (by simp) (by intro x P;simp at P;omega) rn).mono ?_;rintro e w3 ⟨v3,rfl,S,T⟩;have d3:=d2.trans (T.mono u.size);have Q:=P.af d3;have z3:b.heap.size<=w3.heap.size:=mg z1 T.size;have O:=S.lt;have R:Hid ([2]++Dl [p,o,m]++D3 G F I H J=Bk ⟨p,⟨o,m⟩,⟨G,F,I,H,J⟩⟩):=rfl;have D:([(2:Int)]++Dl [p,o,m]).length+(D3 G F I H J).length<=140737488355328:=by show 33<=_;decide
 generalize hL:[(2:Int)]++Dl [p,o,m]=L at S R D;generalize hC:D3 G F I H J=C at Q R D;clear hL hC rn T h;go_wp2_with (at_builtin;refine Aa _ rfl _ _ 27 rfl b.heap.size 5 underlying27 Av _ _ rfl rfl L C S Q D z3 ?_)
 intro v4 w4 o4 g4;have d4:Bw w w4:=d3.grown g4 (mg u.size z3) (λk U=>mg u.size (O k U).1);have HO:Hid (w4.ownsRow w.heap.size 5 1 v4 33 ((Bk ⟨p,⟨o,m⟩,⟨G,F,I,H,J⟩⟩).map (Value.int .u8))):=by
  have X:w4.ownsRow b.heap.size 5 1 v4 (L++C).length ((L++C).map (Value.int .u8)):=by simpa using o4
  have:=FW X u.size;rw[R.out]at this
  exact this
 clear o4 g4 S O R;go_wp2
 go_ret;exact⟨_,rfl,HO.out,d4⟩
variable{B b k:Nat}{E s:Int}{d:List Int}{f:Cmd->Option Bal}{g:Gh}{v:Vt}{w:World}{x:S3}{τ:Tg}
theorem Nb.mono{C:Nat}{y:S3}{l:List Int}(h:Nb B y l)(c:C<=B):Nb C y l:=λd a b=>mg c (h d a b)
theorem aD{y:Value}{l:List Vt}(b:Sv w y l):∃ z:S3,y=z.v:=by
 obtain⟨a,c,rfl⟩:=b.shape;exact⟨⟨a,l.length,c⟩,rfl⟩
theorem kN(w:World):Sv w (.slice none 0 0) []:=⟨⟨none,0,rfl,A' _,λ_=>rfl,.inl rfl⟩,by simp⟩
theorem i7{b:Bal}(d:NTab w){E:Int}(c:(if Ab b then 0 else 2)=E) :
  Calls prog 127 #[.agg #[iv 0,iv 0,S3.v s30],.agg #[iv b.r,iv b.n]] w λe w'=>∃ (r n:Int) (y z:S3),e=.returned (.tuple #[.agg #[iv r,iv n,y.v],z.v,iv E])/\Bw w w':=by
 refine(QU ⟨0,0⟩ (.slice none 0 0) [] b w (kN w) d).mono ?_;rintro e w' ⟨y,z,rfl,g,h,f⟩;obtain⟨y,rfl⟩:=aD g;obtain⟨z,rfl⟩:=aD h;have a:Cl ⟨⟨0,0⟩,[]⟩ b=E:=(dP b).trans c;rw[a];exact⟨_,_,y,z,rfl,f⟩
theorem EW{may:Prop}[Decidable may]{b:List Int}(h:CK d s may b=E)(a:E≠0):FY d s may b=[]/\GP d s may b=0:=⟨if_neg (by rw[h];exact a),if_neg (by rw[h];exact a)⟩
theorem ZY{b:Bal}(a:Ab b){w:World}:Calls prog 161 #[.agg #[iv b.r,iv b.n]] w λe w'=>∃ y:S3,e=.returned y.v/\Sl w' y.v (Bu b)/\Bw w w':=by
 refine(P7 b a w).mono ?_;rintro e w' ⟨y,rfl,c,h⟩;obtain⟨z,rfl,d⟩:=Po (l:=Bu b) c (by rw[show(Bu b).length=9 from rfl];decide) (Wp b);exact⟨z,rfl,d,h⟩
theorem Vf{v:S3}{b:List Int}(s:Int){w:World}(h:Sl w x.v d)(c:Sl w v.v b)(a:b.length<=255)(m:d.length+5+b.length<=100000)(i:AK w) :
  Calls prog 160 #[.agg #[x.v,iv s],v.v] w λe w'=>∃ y:S3,e=.returned (.tuple #[.agg #[y.v,iv s],iv 0])/\Sl w' y.v (d++AN b)/\Nb w.heap.size y (d++AN b)/\Bw w w':=by
 refine(MN x.v d s v.v b w h c a (by omega) i).mono ?_;rintro e w' ⟨y,rfl,g,j⟩;obtain⟨z,rfl,l,f⟩:=J6 g (by rw[E',Bg];omega) (λx k=>(Q'.1 k).elim (h.byte x) (Mc c.byte a x));exact⟨z,rfl,l,f,j⟩
theorem fW(f:NTab w){E:Int}(d:(if Ah v then 0 else 2)=E) :
  Calls prog 129 #[.agg #[iv 0,iv 0,S3.v s30],.agg #[iv v.bn,iv v.b.r,iv v.b.n,iv v.w.k,iv v.w.c,iv v.w.s,iv v.w.n,iv v.w.v]] w λe w'=>∃ (r n:Int) (y:S3),e=.returned (.tuple #[.agg #[iv r,iv n,y.v],iv E])/\Bw w w':=by
 refine(RF ⟨0,0⟩ (.slice none 0 0) [] v w (kN w) f).mono ?_;rintro e w' ⟨y,rfl,h,g⟩;obtain⟨y,rfl⟩:=aD h;have a:Ba ⟨⟨0,0⟩,[]⟩ v=E:=(eY v).trans d;rw[a];exact⟨_,_,y,rfl,g⟩
theorem Yd{m:Cmd}(f:NTab w)(d:m.e=0) :
  Calls prog 12 #[.agg #[iv m.k,iv m.c,iv m.s,iv m.n,iv m.v]] w λe w'=>∃ y:S3,e=.returned (.tuple #[y.v,iv 0])/\Sl w' y.v (D3 m.k m.c m.s m.n m.v)/\Bw w w':=by
 refine(So m.k m.c m.s m.n m.v w f).mono ?_;rintro e w' ⟨y,rfl,b,g⟩;have a:Bh m.k m.c m.s m.n m.v=0:=d;rw[Un a]at b
 rw[a];obtain⟨y,rfl,h⟩:=Po b (by rw[DU];decide) (Jq _ _ _ _ _);exact⟨y,rfl,h,g⟩
theorem aE(d:Ah v){x:S3}{w:World}(f:Sl w x.v (D3 v.w.k v.w.c v.w.s v.w.n v.w.v)) :
  Calls prog 179 #[.agg #[iv v.bn,iv v.b.r,iv v.b.n,iv v.w.k,iv v.w.c,iv v.w.s,iv v.w.n,iv v.w.v],x.v] w λe w'=>∃ y:S3,e=.returned y.v/\Sl w' y.v (Bk v)/\Bw w w':=by
 refine(PA v d x.v w f).mono ?_;rintro e w' ⟨y,rfl,a,h⟩;obtain⟨z,rfl,g⟩:=Po (l:=Bk v) a (by rw[GM];decide) (Xc v);exact⟨z,rfl,g,h⟩
theorem ZL(h:G9 d s k=0):d.length+k<=100000:=by
 unfold G9 at h;split at h
 .cases h
 .split at h
  .cases h
  .omega
theorem Kr{b:Bal}(h:Sl w x.v d)(hT:AK w)(hN:NTab w) :
  Calls prog 128 #[.agg #[x.v,iv s],.agg #[iv b.r,iv b.n]] w λe w'=>∃ y:S3,e=.returned (.tuple #[.agg #[y.v,iv (GP d s (Ab b) (Bu b))],iv (CK d s (Ab b) (Bu b))])/\Sl w' y.v (FY d s (Ab b) (Bu b))/\Nb w.heap.size y (FY d s (Ab b) (Bu b))/\Bw w w':=by
 obtain⟨j,q⟩:∃ j,G9 d s 14=j:=⟨_,rfl⟩;obtain⟨m,k⟩:∃ m:Int,(if Ab b then 0 else 2)=m:=⟨_,rfl⟩;have hW:CK d s (Ab b) (Bu b)=if j≠0 then j else m:=by rw[<- q,<- k];rfl
 refine kIn func128 (kR 11 [0,0,0,0,1,0,0] λa w1 U=>kC 1 ((q▸Hr x.v d s 14 (by decide) _ (h.af U))) ?_);rintro _ w2 ⟨rfl,Y⟩;refine⟨_,rfl,Y,?_⟩;refine kR 7 [] λd2 w3 b3=>?_;by_cases o:j≠0
 .refine kI ((j != 0)) true (by simpa using o) (kF 7 [2,0] λd3 w4 b4 q4=>?_);have c:=hW.trans (if_pos o);rw[c,(EW c o).1,(EW c o).2];have B5:=((btr (btr U Y) b3).trans b4);exact qE2 4 5 121 2 (a 2) #[S3.v s30,iv 0] (iv j) λK=>⟨s30,rfl,Nt _,λh=>absurd rfl h,B5⟩
 .refine kI ((j != 0)) false (by simpa using o) ?_;have a0:j=0:=by simpa using o
  have hd:=ZL (q.trans a0);refine kR 6 [1] λd4 w6 b6=>?_;have P:=(btr (btr (btr U Y) b3) b6);refine kC 2 (i7 (hN.af P) k) ?_;rintro _ w8 ⟨r,n,ya,za,rfl,Q⟩;refine⟨_,rfl,Q,?_⟩;refine kR 14 [1,0,3,0] λa5 w9 b9=>?_;by_cases E:m≠0
  .refine kI ((m != 0)) true (by simpa using E) (kF 7 [2,0] λa8 c2 V c1=>?_);have c:=hW.trans (if_neg o);rw[c,(EW c E).1,(EW c E).2];have R:=((btr (btr P Q) b9).trans V);exact qE2 4 5 121 2 (a 2) #[S3.v s30,iv 0] (iv m) λK=>⟨s30,rfl,Nt _,λh=>absurd rfl h,R⟩
  .refine kI ((m != 0)) false (by simpa using E) ?_;have F:m=0:=by simpa using E
   have p:Ab b:=by by_cases g:Ab b;exact g;rw[if_neg g,F]at k;cases k
   have c:CK d s (Ab b) (Bu b)=0:=hW.trans ((if_neg o).trans F);rw[c,show FY d s (Ab b) (Bu b)=d++AN (Bu b)from if_pos c,show GP d s (Ab b) (Bu b)=s from if_pos c];refine kR 4 [2,2,1] λa9 c3 t=>jH 33 (λw' e L=>∃ (y:S3),e=[(4,pt (a 2) 0),(5,iv 0)]/\L=[⟨(a 0),.cells #[S3.v x,iv s] 121,.z,false⟩,⟨(a 1),.cells #[iv b.r,iv b.n] 104,.z,false⟩,⟨(a 2),.cells #[S3.v y,iv s] 121,.l,false⟩,⟨(a5 0),.cells #[iv r,iv n,S3.v ya] 107,.l,false⟩]/\Sl w' y.v (d++AN (Bu b))/\Nb w.heap.size y (d++AN (Bu b))/\Bw w w') ?_ ?_
   .intro J hJ;refine jJ 0 2 ?_ ?_
    .refine kR 1 [0] λb0 c4 W=>kC 2 (ZY p) ?_;rintro _ c5 ⟨a6,rfl,G,u⟩;refine⟨_,rfl,u,?_⟩;have f:=(btr (btr (btr (btr (btr P Q) b9) t) W) u);refine kC 3 (Vf s (h.af f) G (by rw[show(Bu b).length=9 from rfl];decide) (by rw[show(Bu b).length=9 from rfl];omega) (hT.af f)) ?_;rintro _ c6 ⟨a3,rfl,N,I,A⟩;refine⟨_,rfl,A,?_⟩;refine kF 5 [8,10,13,2,0,14] λb5 c7 X a1=>?_;have S:=((btr f A).trans X);exact kB [true,true,true,true] λz K=>hJ _ _ z _ ⟨a3,rfl,rfl,(N.kept a1),I.mono f.size,S⟩ K
    .refine kC 2 (ZY p) ?_;rintro _ c8 ⟨a7,rfl,H,B⟩;refine⟨_,rfl,B,?_⟩;refine kR 1 [1,0] λb7 c9 C=>?_;have i:=(btr (btr (btr (btr (btr P Q) b9) t) B) C);refine kC 3 (Vf s (h.af i) (H.af C) (by rw[show(Bu b).length=9 from rfl];decide) (by rw[show(Bu b).length=9 from rfl];omega) (hT.af i)) ?_;rintro _ d0 ⟨a4,rfl,O,M,D⟩;refine⟨_,rfl,D,?_⟩;refine kF 5 [8,10,13,2,0,14] λc0 d1 Z a2=>?_;have T:=((btr i D).trans Z);exact kB [true,true,true,true] λz K=>hJ _ _ z _ ⟨a4,rfl,rfl,(O.kept a2),M.mono i.size,T⟩ K
   .rintro w13 _ z13 _ ⟨y,rfl,rfl,hy,hn,hb⟩;exact qE2 4 5 121 2 (a 2) #[S3.v y,iv s] (iv 0) λK=>⟨y,rfl,hy,hn,hb⟩
theorem Ru(h:Sl w x.v d)(hT:AK w)(hN:NTab w) :
  Calls prog 149 #[.agg #[x.v,iv s],.agg #[iv v.bn,iv v.b.r,iv v.b.n,iv v.w.k,iv v.w.c,iv v.w.s,iv v.w.n,iv v.w.v]] w λe w'=>∃ y:S3,e=.returned (.tuple #[.agg #[y.v,iv (GP d s (Ah v) (Bk v))],iv (CK d s (Ah v) (Bk v))])/\Sl w' y.v (FY d s (Ah v) (Bk v))/\Nb w.heap.size y (FY d s (Ah v) (Bk v))/\Bw w w':=by
 obtain⟨p,D⟩:∃ p,G9 d s 38=p:=⟨_,rfl⟩;obtain⟨u,t⟩:∃ u:Int,(if Ah v then 0 else 2)=u:=⟨_,rfl⟩;have hW:CK d s (Ah v) (Bk v)=if p≠0 then p else u:=by rw[<- D,<- t];rfl
 refine kIn func149 (kR 11 [0,0,0,0,1,0,0] λa w1 b1=>kC 1 ((D▸Hr x.v d s 38 (by decide) _ (h.af b1))) ?_);rintro _ w2 ⟨rfl,b2⟩;refine⟨_,rfl,b2,?_⟩;refine kR 7 [] λd9 w3 b3=>?_;by_cases A:p≠0
 .refine kI ((p != 0)) true (by simpa using A) (kF 7 [2,0] λe0 w4 b4 q4=>?_);have i:=hW.trans (if_pos A);rw[i,(EW i A).1,(EW i A).2];have B5:=((btr (btr b1 b2) b3).trans b4);exact qE2 4 5 121 2 (a 2) #[S3.v s30,iv 0] (iv p) λK=>⟨s30,rfl,Nt _,λh=>absurd rfl h,B5⟩
 .refine kI ((p != 0)) false (by simpa using A) ?_;have a4:p=0:=by simpa using A
  have hd:=ZL (D.trans a4);refine kR 6 [1] λe1 w6 b6=>?_;have Z:=(btr (btr (btr b1 b2) b3) b6);refine kC 2 (fW (hN.af Z) t) ?_;rintro _ w8 ⟨r,n,ya,rfl,b8⟩;refine⟨_,rfl,b8,?_⟩;refine kR 12 [1,0,3,0] λa9 w9 b9=>?_;by_cases N:u≠0
  .refine kI ((u != 0)) true (by simpa using N) (kF 7 [2,0] λb7 c7 a0 c6=>?_);have i:=hW.trans (if_neg A);rw[i,(EW i N).1,(EW i N).2];have W:=((btr (btr Z b8) b9).trans a0);exact qE2 4 5 121 2 (a 2) #[S3.v s30,iv 0] (iv u) λK=>⟨s30,rfl,Nt _,λh=>absurd rfl h,W⟩
  .refine kI ((u != 0)) false (by simpa using N) ?_;have O:u=0:=by simpa using N
   have f:Ah v:=by by_cases g:Ah v;exact g;rw[if_neg g,O]at t;cases t
   refine kR 5 [1] λc0 c8 a1=>?_;have B:=(btr (btr (btr Z b8) b9) a1);refine kC 2 (Yd (m:=v.w) (hN.af B) f.2.2) ?_;rintro _ c9 ⟨yc,rfl,V,C⟩;refine⟨_,rfl,C,?_⟩;refine kR 18 [3,2,1,4] λc1 d0 q=>?_;have i:CK d s (Ah v) (Bk v)=0:=hW.trans ((if_neg A).trans O);rw[i,show FY d s (Ah v) (Bk v)=d++AN (Bk v)from if_pos i,show GP d s (Ah v) (Bk v)=s from if_pos i];refine jH 44 (λw' e L=>∃ (y:S3),e=[(4,pt (a 2) 0),(5,iv 0)]/\L=[⟨(a 0),.cells #[S3.v x,iv s] 121,.z,false⟩,⟨(a 1),.cells #[iv v.bn,iv v.b.r,iv v.b.n,iv v.w.k,iv v.w.c,iv v.w.s,iv v.w.n,iv v.w.v] 164,.z,false⟩,⟨(a 2),.cells #[S3.v y,iv s] 121,.l,false⟩,⟨(a9 0),.cells #[iv r,iv n,S3.v ya] 107,.l,false⟩]/\Sl w' y.v (d++AN (Bk v))/\Nb w.heap.size y (d++AN (Bk v))/\Bw w w') ?_ ?_
   .intro J hJ;refine jJ 0 3 ?_ ?_
    .refine kR 1 [0] λc2 d1 E=>kC 3 (aE f ((V.af q).af E)) ?_;rintro _ d2 ⟨b0,rfl,P,F⟩;refine⟨_,rfl,F,?_⟩;have j:=(btr (btr (btr (btr B C) q) E) F);refine kC 4 (Vf s (h.af j) P (by rw[show(Bk v).length=33 from rfl];decide) (by rw[show(Bk v).length=33 from rfl];omega) (hT.af j)) ?_;rintro _ d3 ⟨a7,rfl,T,R,G⟩;refine⟨_,rfl,G,?_⟩;refine kF 5 [10,12,15,2,0,16] λc3 d4 a2 a5=>?_;have X:=((btr j G).trans a2);exact kB [true,true,true,true] λz K=>hJ _ _ z _ ⟨a7,rfl,rfl,(T.kept a5),R.mono j.size,X⟩ K
    .refine kC 3 (aE f (V.af q)) ?_;rintro _ d5 ⟨b5,rfl,Q,H⟩;refine⟨_,rfl,H,?_⟩;refine kR 1 [1,0] λc4 d6 I=>?_;have o:=(btr (btr (btr (btr B C) q) H) I);refine kC 4 (Vf s (h.af o) (Q.af I) (by rw[show(Bk v).length=33 from rfl];decide) (by rw[show(Bk v).length=33 from rfl];omega) (hT.af o)) ?_;rintro _ d7 ⟨a8,rfl,U,S,M⟩;refine⟨_,rfl,M,?_⟩;refine kF 5 [10,12,15,2,0,16] λc5 d8 a3 a6=>?_;have Y:=((btr o M).trans a3);exact kB [true,true,true,true] λz K=>hJ _ _ z _ ⟨a8,rfl,rfl,(U.kept a6),S.mono o.size,Y⟩ K
   .rintro w17 _ z17 _ ⟨y,rfl,rfl,hy,hn,hb⟩;exact qE2 4 5 121 2 (a 2) #[S3.v y,iv s] (iv 0) λK=>⟨y,rfl,hy,hn,hb⟩
def cmG(c:Cmd):Value:=.agg #[iv c.k,iv c.c,iv c.s,iv c.n,iv c.v]
theorem U9(x:Cmd × Bal × Nat):(mkA x).key=cmG x.1:=rfl
theorem Yg(u v:Cmd)(w:World):(Op.equal 24 (cmG u) (cmG v)).run prog w=.ok (decide (u=v)) w:=by
 have a:=Uo u.k u.c u.s u.n u.v v.k v.c v.s v.n v.v w;rw[Ug]at a
 rw[run_eql_struct]at a
 show(Op.equalIn 10000 _ _ _).run _ _=_;simp only[cmG];cases hr:(Op.equalIn 10000 24 (.agg #[iv u.k,iv u.c,iv u.s,iv u.n,iv u.v]) (.agg #[iv v.k,iv v.c,iv v.s,iv v.n,iv v.v])).run prog w with
 | ok b w'=>simp only[hr]at a;simp[Result.andThen]at a;rw[a.1,a.2]
 | _=>simp only[hr]at a;simp[Result.andThen]at a
abbrev Ask:=Cmd × Bal × Nat
def Lz(v:Cmd):List Ask->Nat->Option (Nat × Value)
 | [],_=>none
 | x::c,i=>if v=x.1 then some (i,(mkA x).val)else Lz v c (i+1)
theorem ND(v:Cmd)(w:World):∀ (c:List Ask) (i:Nat),(Instr.findAsking 24 (cmG v) (c.map mkA) i).run prog w=.ok (Lz v c i) w
 | [],i=>by simp[Instr.findAsking,Lz]
 | x::c,i=>by
  have h:=Yg v x.1 w;rw[mR,Instr.findAsking,Sem.run_bind];rw[U9,h,Result.andThen_ok,Lz];by_cases e:v=x.1
  .rw[P' e,if_pos e];rfl
  .rw[G' e,if_neg e];simpa using ND v w c (i+1)
theorem GW(v:Cmd)(w:World)(c:List Ask):(Instr.findKey 24 (cmG v) (c.map mkA)).run prog w=.ok (Lz v c 0) w:=by
 rw[Instr.findKey,Sem.run_bind,run_underlying underlying24 w,Result.andThen_ok];cases c with
 | nil=>simp[Instr.findNow,Lz]
 | cons x c =>
  show Sem.run _ (match(none:Option (Option (Nat × Value)))with|some r=>pure r|none=>Instr.findAsking 24 (cmG v) ((x::c).map mkA)) w=_;exact ND v w (x::c) 0
theorem Fg(a:Bool)(v:Cmd)(w:World):(Instr.checkKey a 10000 24 (cmG v)).run prog w=.ok () w:=by
 obtain⟨k,c,q,m,x⟩:=v;kernel_rfl
theorem ep(v:Cmd)(n:Nat):Instr.sameBits (n+1) (cmG v) (cmG v)=true:=by simp[Instr.sameBits,cmG]
theorem ai(v:Cmd)(w:World):(Instr.keyThatStays (cmG v) (cmG v)).run prog w=.ok (cmG v) w:=by
 rw[Instr.keyThatStays,if_pos (ep v 9999)];rfl
def Gc(c:List Ask)(v:Cmd):Option Bal:=(c.find? λx=>decide (v=x.1)).map (·.2.1)
theorem KN(v:Cmd):∀ (c:List Ask) (i:Nat),(Lz v c i=none/\Gc c v=none/\∀ x∈c,v≠x.1)\/∃ a x b,c=a++x::b/\x.1=v/\(∀ y∈a,v≠y.1)/\Lz v c i=some (i+a.length,(mkA x).val)/\Gc c v=some x.2.1
 | [],i=>.inl ⟨rfl,rfl,λx hx=>by cases hx⟩
 | x::c,i=>by
  by_cases e:v=x.1
  .refine .inr ⟨[],x,c,rfl,e.symm,λy hy=>(O' hy).elim,?_,?_⟩
   .rw[Lz,if_pos e];rfl
   .simp[Gc,e]
  .rcases KN v c (i+1)with⟨h1,h2,h3⟩|⟨a,y,b,rfl,hy,h3,h4,h5⟩
   .refine .inl ⟨by rw[Lz,if_neg e,h1],?_,λy hy=>?_⟩
    .rw[<- h2];simp[Gc,e]
    .rcases mp.1 hy with rfl|hy
     .exact e
     .exact h3 y hy
   .refine .inr ⟨x::a,y,b,rfl,hy,λz hz=>?_,?_,?_⟩
    .rcases mp.1 hz with rfl|hz
     .exact e
     .exact h3 z hz
    .rw[Lz,if_neg e,h4];simp;omega
    .rw[<- h5];simp[Gc,e]
def Kw(b:Bal):Value:=.agg #[iv b.r,iv b.n]
theorem fN(h:AskAt g w τ b f)(v:Cmd)(ok:Bool):(Instr.lookup 116 (.map (some b)) (cmG v) ok).run prog w=.ok (if ok then .tuple #[Kw ((f v).getD Be),.bool (f v).isSome]else Kw ((f v).getD Be)) w:=by
 obtain⟨_,_,c,k,j,_,_,_,l⟩:=h;have e:f v=Gc c v:=l v;have i:(getObj b).run prog w=.ok (.map (c.map mkA).toArray k) w:=by simp[getObj,Sem.run,j]
 rcases KN v c 0 with⟨h1,h2,_⟩|⟨a,x,d,_,_,_,h1,h2⟩
 .rw[h2]at e
  cases ok<;>simp[Instr.lookup,run_underlying underlying116,i,Fg,GW,h1,e,Kw,Be]
 .rw[h2]at e
  cases ok<;>simp[Instr.lookup,run_underlying underlying116,i,Fg,GW,h1,e,mkA,Kw]
theorem Cg.block{T:List Tg}{m:Array MapEntry}(f:w.heap[b]?=some (.map m k))(r:g.t b=τ)(q:g.k b=0)(d:τ∈T)(o:Obj):Cg B T g w g (ChangeMaps.setBlock w b o) :=
 have c:∀ a,g.t a∉T->a≠b:=λa h e=>h (by rw[e,r];exact d)
 ⟨rfl,rfl,rfl,by simp[ChangeMaps.setBlock],λ_ _=>.inl rfl,λ_ _=>A' _,λ_ _ _ _=>rfl,λa _ h _=>ChangeMaps.heap_setBlock_other f o (c a h),
  λa _ j p=>World.cell?_of_block (w:=w) (ChangeMaps.heap_setBlock_other f o (λe=>by have i:a=b:=e;rw[i,q]at p;omega))⟩
theorem V8(c:List Ask)(v u:Cmd)(x:Bal)(k:Nat)(h:∀ y∈c,v≠y.1):Gc (c++[(v,x,k)]) u=if u=v then some x else Gc c u:=by
 unfold Gc;rw[nL];by_cases e:u=v
 .subst e;have a:c.find? (λy=>decide (u=y.1))=none:=by
   rw[nz];intro y b;simp[h y b]
  simp[a]
 .rw[if_neg e];simp[e]
theorem Yj(a d:List Ask)(v u:Cmd)(x y:Bal)(k:Nat)(h:∀ y∈a,v≠y.1):Gc (a++(v,y,k)::d) u=if u=v then some y else Gc (a++(v,x,k)::d) u:=by
 unfold Gc;rw[nL,nL,oO,oO];by_cases e:u=v
 .subst e;have b:a.find? (λy=>decide (u=y.1))=none:=by
   rw[nz];intro y c;simp[h y c]
  simp[b]
 .rw[if_neg e];simp[e]
theorem Yk(a d:List Ask)(v u:Cmd)(x:Bal)(k:Nat)(h:∀ y∈a,v≠y.1)(f:∀ y∈d,v≠y.1):Gc (a++d) u=if u=v then none else Gc (a++(v,x,k)::d) u:=by
 unfold Gc;rw[nL,nL,oO];by_cases e:u=v
 .subst e;have g:a.find? (λy=>decide (u=y.1))=none:=by
   rw[nz];intro y c;simp[h y c]
  have b:d.find? (λy=>decide (u=y.1))=none:=by
   rw[nz];intro y c;simp[f y c]
  simp[g,b]
 .rw[if_neg e];simp[e]
theorem bM(h:AskAt g w τ b f)(v:Cmd)(x:Bal):∃ w',(Instr.mapUpdate 116 (.map (some b)) (cmG v) (Kw x)).run prog w=.ok () w'/\AskAt g w' τ b (BW f v (some x))/\(∀ B T,τ∈T->Cg B T g w g w')/\w'.heap.size=w.heap.size:=by
 obtain⟨s,j,c,k,l,m,n,o,E⟩:=h;have F:(getObj b).run prog w=.ok (.map (c.map mkA).toArray k) w:=by simp[getObj,Sem.run,l]
 rcases KN v c 0 with⟨h1,h2,h3⟩|⟨a,y,d,rfl,hy,h3,h1,h2⟩
 .have C:=MapKept.run_setObj_map (P:=prog) (w:=w) (.map ((c++[(v,x,k)]).map mkA).toArray (k+1)) l;refine⟨_,?_,⟨s,j,c++[(v,x,k)],k+1,ChangeMaps.heap_setBlock_same l (.map ((c++[(v,x,k)]).map mkA).toArray (k+1)),?_,?_,?_,?_⟩,λB T t=>Cg.block l s j t _,by simp[ChangeMaps.setBlock]⟩
  .have z:((c.map mkA).toArray.push { key:=cmG v,val:=Kw x,born:=k })=((c++[(v,x,k)]).map mkA).toArray:=by simp[mkA,cmG,Kw,cmV]
   rw[Instr.mapUpdate];simp only[Sem.run_bind,run_underlying underlying116,Result.andThen_ok,F,Fg,GW,h1,z,C];rfl
  .intro y hy;rcases Q'.1 hy with hy|hy
   .have:=m y hy;omega
   .obtain rfl:y=(v,x,k):=by simpa using hy
    show k<k+1;omega
  .rw[mK,ou];refine⟨n,by simp,?_⟩;intro p A q r;obtain⟨y,hy,rfl⟩:=mB.1 A;obtain rfl:q=k:=by simpa using r
   have:=m y hy;omega
  .rw[mK,ou];refine⟨o,by simp,?_⟩;intro p A q r;obtain⟨y,hy,rfl⟩:=mB.1 A;obtain rfl:q=v:=by simpa using r
   exact λe=>h3 y hy e.symm
  .intro u;rw[show(List.find? (λx=>decide (u=x.1)) (c++[(v,x,k)])).map (·.2.1)=Gc (c++[(v,x,k)]) u from rfl,V8 c v u x k h3];unfold BW;split
   .rfl
   .exact E u
 .obtain⟨yv,yb,yk⟩:=y;simp only at hy;subst hy;have C:=MapKept.run_setObj_map (P:=prog) (w:=w) (.map ((a++(yv,x,yk)::d).map mkA).toArray k) l;refine⟨_,?_,⟨s,j,a++(yv,x,yk)::d,k,ChangeMaps.heap_setBlock_same l (.map ((a++(yv,x,yk)::d).map mkA).toArray k),?_,?_,?_,?_⟩,λB T t=>Cg.block l s j t _,by simp[ChangeMaps.setBlock]⟩
  .have hx:((a++(yv,yb,yk)::d).map mkA).toArray[a.length]?=some (mkA (yv,yb,yk)):=by simp
   have z:(((a++(yv,yb,yk)::d).map mkA).toArray.modify a.length λe=>{ e with key:=cmG yv,val:=Kw x })=((a++(yv,x,yk)::d).map mkA).toArray:=by
    apply nO;intro i;rw[oP];split
    .rename_i hi
     subst hi;simp[mkA,cmG,Kw,cmV]
    .rename_i hi
     simp only[m7,mK,mR];rcases mZ i a.length with g|g
     .rw[mt (by simpa using g),mt (by simpa using g)]
     .rw[my (by simpa using g),my (by simpa using g)];obtain⟨q,r⟩:∃ q,i-(a.map mkA).length=q+1:=⟨i-a.length-1,by simp;omega⟩;rw[r];rfl
   have D:=ai yv w;rw[Instr.mapUpdate];simp only[Sem.run_bind,run_underlying underlying116,Result.andThen_ok,F,Fg,GW,h1,mU,hx,m5,qf];rw[U9,D,Result.andThen_ok,z,C];rfl
  .intro y hy;rcases Q'.1 hy with hy|hy
   .exact m y (mn _ hy)
   .rcases mp.1 hy with rfl|hy
    .exact m (yv,yb,yk) (by simp)
    .exact m y (mj _ (I' _ hy))
  .simpa using n
  .simpa using o
  .intro u;rw[show(List.find? (λx=>decide (u=x.1)) (a++(yv,x,yk)::d)).map (·.2.1)=Gc (a++(yv,x,yk)::d) u from rfl,Yj a d yv u yb x yk h3];unfold BW;split
   .rfl
   .exact E u
theorem bL(h:AskAt g w τ b f)(v:Cmd)(A:TypeId):∃ w',(Builtin.delete_ #[116,24] A #[.map (some b),cmG v]).run prog w=.ok (.tuple #[]) w'/\AskAt g w' τ b (BW f v none)/\(∀ B T,τ∈T->Cg B T g w g w')/\w'.heap.size=w.heap.size:=by
 obtain⟨n,j,c,k,l,p,m,i,s⟩:=h;have t:(getObj b).run prog w=.ok (.map (c.map mkA).toArray k) w:=by simp[getObj,Sem.run,l]
 rcases KN v c 0 with⟨h1,h2,h3⟩|⟨a,y,d,rfl,hy,h3,h1,h2⟩
 .have q:=MapKept.run_setObj_map (P:=prog) (w:=w) (.map (c.map mkA).toArray k) l;refine⟨_,?_,⟨n,j,c,k,ChangeMaps.heap_setBlock_same l (.map (c.map mkA).toArray k),p,m,i,?_⟩,λB T o=>Cg.block l n j o _,by simp[ChangeMaps.setBlock]⟩
  .simp[Builtin.delete_,run_underlying underlying116,t,Fg,GW,h1,q];rfl
  .intro u;unfold BW;split
   .rename_i e;rw[e];exact h2.symm
   .exact s u
 .obtain⟨yv,yb,yk⟩:=y;simp only at hy;subst hy;have q:=MapKept.run_setObj_map (P:=prog) (w:=w) (.map ((a++d).map mkA).toArray k) l;have z:∀ y∈d,yv≠y.1:=by
   intro y hy e;rw[mK,mR,ou]at i
   exact(oz.1 i.2.1).1 (mB.2 ⟨y,hy,e.symm⟩)
  refine⟨_,?_,⟨n,j,a++d,k,ChangeMaps.heap_setBlock_same l (.map ((a++d).map mkA).toArray k),?_,?_,?_,?_⟩,λB T o=>Cg.block l n j o _,by simp[ChangeMaps.setBlock]⟩
  .have he:(((a++(yv,yb,yk)::d).map mkA).toArray.eraseIdxIfInBounds a.length)=((a++d).map mkA).toArray:=by
    rw[Array.eraseIdxIfInBounds,dif_pos (by simp)];simp[List.eraseIdx_append_of_length_le]
   have r:=GW yv w (a++(yv,yb,yk)::d);rw[h1,mU]at r
   simp only[Builtin.delete_,m7,ny,pf,Sem.run_bind,run_underlying underlying116,Result.andThen_ok,t,Fg,r,he,q];rfl
  .intro y hy;rcases Q'.1 hy with hy|hy
   .exact p y (mn _ hy)
   .exact p y (mj _ (I' _ hy))
  .rw[mK,mR]at m
   rw[mK];exact m.sublist (List.Sublist.append_left (List.sublist_cons_self _ _) _)
  .rw[mK,mR]at i
   rw[mK];exact i.sublist (List.Sublist.append_left (List.sublist_cons_self _ _) _)
  .intro u;rw[show(List.find? (λx=>decide (u=x.1)) (a++d)).map (·.2.1)=Gc (a++d) u from rfl,Yk a d yv u yb yk h3 z];unfold BW;split
   .rfl
   .exact s u
end
section
variable{fn:Func}{R:Ending->World->Prop}{B:Nat}{T:List Tg}{g:Gh}{w:World}
section
variable{b:Nat}{f:Cmd->Option Bal}{g:Gh}{s:Xs}{w:World}{τ:Tg}
theorem ZE(h:AskAt g w τ b f)(v:Cmd):(Instr.lookup 116 (.map (some b)) (cmG v) true).run prog w=.ok (.tuple #[Kw ((f v).getD Be),.bool (f v).isSome]) w:=fN h v true
theorem iE(h:AskAt g w τ b f)(v:Cmd):(Instr.lookup 116 (.map (some b)) (cmG v) false).run prog w=.ok (Kw ((f v).getD Be)) w:=fN h v false
theorem Ut(c:Nat){τ:Tg}{b:Nat}{f:Cmd->Option Bal}(v:Cmd)(x:Bal)(h:AskAt g w τ b f)(a:D5 s c=some (Instr.mapUpdate 116 (.map (some b)) (cmG v) (Kw x)>>=λ_=>pure .skip))(d:(nxt s c undef s.L).o.map Ob.l'=(nxt s c undef s.L).o.map Ob.r')(r:s.L.all (λy=>[τ].all λt=>y.t.ne t)=true)(u:∀ w',AskAt g w' τ b (BW f v (some x))->(∀ B T,τ∈T->Cg B T g w g w')->GG prog fn R B T (nxt s c undef s.L).s g w'):GG prog fn R B T s g w:=by
 refine L9 c s.L d (Cp a) λk C i o e=>?_;obtain⟨w',A,p,j,q⟩:=bM h v x;refine⟨undef,w',g,.inr ⟨?_,rfl⟩,k.ch (j _ [τ] (D'.2 rfl)) (λb m=>k.new b (by rw[q]at m;exact m)) r,u w' p j⟩;rw[DQ a e,Sem.run_bind,A,Result.andThen_ok];rfl
theorem cM(c:Nat){τ:Tg}{b:Nat}{f:Cmd->Option Bal}(v:Cmd)(p:TypeId)(h:AskAt g w τ b f)(a:D5 s c=some (Builtin.delete_ #[116,24] p #[.map (some b),cmG v]>>=λv=>pure (.value v)))(d:(nxt s c undef s.L).o.map Ob.l'=(nxt s c undef s.L).o.map Ob.r')(u:s.L.all (λy=>[τ].all λt=>y.t.ne t)=true)(x:∀ w',AskAt g w' τ b (BW f v none)->(∀ B T,τ∈T->Cg B T g w g w')->GG prog fn R B T (nxt s c (.tuple #[]) s.L).s g w'):GG prog fn R B T s g w:=by
 refine L9 c s.L d (Cp a) λk C i o e=>?_;obtain⟨w',A,q,j,r⟩:=bL h v p;refine⟨.tuple #[],w',g,.inl ?_,k.ch (j _ [τ] (D'.2 rfl)) (λb m=>k.new b (by rw[r]at m;exact m)) u,x w' q j⟩;rw[DQ a e,Sem.run_bind,A,Result.andThen_ok];rfl
end
end
section
def tkG:Nat->FuncId
 | 0=>70
 | 1=>71
 | 2=>72
 | 3=>73
 | 4=>74
 | 5=>75
 | _=>76
def tkV(k:Nat):Value:=.func (.func (tkG k)) #[] #[]
def tkL(j:Nat):List MapEntry:=(List.range j).map λ(k:Nat)=>{ key:=iv (k:Int),val:=tkV k,born:=k }
structure TkAt(g:Gh)(w:World)(b j:Nat):Prop where
 t:g.t b=.n 70 0
 k:g.k b=0
 row:w.heap[b]?=some (.map (tkL j).toArray j)
variable{b j k:Nat}{g:Gh}{w:World}
theorem TkAt.ch{B:Nat}{T:List Tg}{d:Gh}{e:World}(h:TkAt g w b j)(c:Cg B T g w d e)(hn:Tg.n 70 0∉T:=by simp):TkAt d e b j :=
 have a:=c.rc h.row h.t hn
 ⟨a.2.1,a.2.2.trans h.k,a.1⟩
theorem ZV(h:k<7):k=0\/k=1\/k=2\/k=3\/k=4\/k=5\/k=6:=by omega
theorem R3(a:Bool)(k:Nat)(w:World):(Instr.checkKey a 10000 148 (iv (k:Int))).run prog w=.ok () w:=by kernel_rfl
theorem eK(h:j<7)(w:World):(Instr.findKey 148 (iv (j:Int)) (tkL j)).run prog w=.ok none w:=by
 rcases ZV h with rfl|rfl|rfl|rfl|rfl|rfl|rfl<;>kernel_rfl
theorem eJ(h:j<7)(w:World):(Instr.findKey 148 (iv (j:Int)) (tkL 7)).run prog w=.ok (some (j,tkV j)) w:=by
 rcases ZV h with rfl|rfl|rfl|rfl|rfl|rfl|rfl<;>kernel_rfl
theorem jb(h:TkAt g w b j)(e:j<7):∃ w',(Instr.mapUpdate 97 (.map (some b)) (iv (j:Int)) (tkV j)).run prog w=.ok () w'/\TkAt g w' b (j+1)/\(∀ B T,Tg.n 70 0∈T->Cg B T g w g w')/\w'.heap.size=w.heap.size:=by
 have d:(getObj b).run prog w=.ok (.map (tkL j).toArray j) w:=by simp[getObj,Sem.run,h.row]
 have f:=MapKept.run_setObj_map (P:=prog) (w:=w) (.map (tkL (j+1)).toArray (j+1)) h.row;have c:((tkL j).toArray.push { key:=iv (j:Int),val:=tkV j,born:=j })=(tkL (j+1)).toArray:=by simp[tkL,List.range_succ]
 refine⟨_,?_,⟨h.t,h.k,ChangeMaps.heap_setBlock_same h.row (.map (tkL (j+1)).toArray (j+1))⟩,λB T a=>Cg.block h.row h.t h.k a _,by simp[ChangeMaps.setBlock]⟩;rw[Instr.mapUpdate];simp only[Sem.run_bind,run_underlying underlying97,Result.andThen_ok,d,R3,eK e,c,f];rfl
theorem rTk(a:w.heap[b]?=some (.map (tkL 7).toArray 7))(d:k<7):(Instr.lookup 97 (.map (some b)) (iv (k:Int)) false).run prog w=.ok (tkV k) w:=by
 have c:(getObj b).run prog w=.ok (.map (tkL 7).toArray 7) w:=by simp[getObj,Sem.run,a]
 simp[Instr.lookup,run_underlying underlying97,c,R3,eJ d]
end
section
variable{fn:Func}{R:Ending->World->Prop}{B:Nat}{T:List Tg}{g:Gh}{w:World}
theorem jE{s:Xs}(d:Nat)(c:D5 s d=some (Instr.makeMap 97 none>>=λv=>pure (.value v)))
  (e:(nxt s d undef s.L).o.map Ob.l'=(nxt s d undef s.L).o.map Ob.r')
  (p:∀ b g' w',w.heap.size<=b->TkAt g' w' b 0->(∀ B T,Cg B T g w g' w')->(∀ b,w'.heap.size<=b->g'.t b=.z/\g'.k b=0)->GG prog fn R B T (nxt s d (.map (some b)) s.L).s g' w'):GG prog fn R B T s g w:=by
 refine L9 d s.L e (Cp c) λl r j o f=>?_;have q:(Instr.makeMap 97 none).run prog w=.ok (.map (some w.heap.size)) (w.alloc (.map #[] 0)):=by
  simp[Instr.makeMap,go_sem]
 have h:∀ B T,Cg B T g w (Pb g w (.n 70 0) 0) (w.alloc (.map #[] 0)):=λB T =>
  ⟨rfl,rfl,rfl,by simp,λb a=>.inl (if_neg (by omega)),λb a=>by show _<=(if b=w.heap.size then _ else g.k b);rw[if_neg (by omega)];exact A' _,λb a _ _=>if_neg (by omega),λb a _ _=>heap_alloc_old w _ a,λb a j u=>World.cell?_of_block (w:=w) (heap_alloc_old w _ a)⟩
 have i:∀ b,(w.alloc (.map #[] 0)).heap.size<=b->(Pb g w (.n 70 0) 0).t b=.z/\(Pb g w (.n 70 0) 0).k b=0:=λb a=>by
  have m:w.heap.size+1<=b:=by simpa using a
  show(if b=w.heap.size then _ else g.t b)=.z/\(if b=w.heap.size then _ else g.k b)=0;rw[if_neg (by omega),if_neg (by omega)];exact l.new b (by omega)
 refine⟨.map (some w.heap.size),_,Pb g w (.n 70 0) 0,.inl ?_,l.ch (h _ []) i (by simp),p _ _ _ (A' _) ⟨if_pos rfl,if_pos rfl,heap_alloc_new _ _⟩ h i⟩;rw[DQ c f,Sem.run_bind,q,Result.andThen_ok];rfl
theorem H9{s:Xs}(c:Nat){b j:Nat}(h:TkAt g w b j)(u:j<7)(a:D5 s c=some (Instr.mapUpdate 97 (.map (some b)) (iv (j:Int)) (tkV j)>>=λ_=>pure .skip))
  (d:(nxt s c undef s.L).o.map Ob.l'=(nxt s c undef s.L).o.map Ob.r')(r:s.L.all (λy=>[Tg.n 70 0].all λt=>y.t.ne t)=true)
  (v:∀ w',TkAt g w' b (j+1)->(∀ B T,Tg.n 70 0∈T->Cg B T g w g w')->GG prog fn R B T (nxt s c undef s.L).s g w'):GG prog fn R B T s g w:=by
 refine L9 c s.L d (Cp a) λk A i o e=>?_;obtain⟨w',x,p,f,q⟩:=jb h u;refine⟨undef,w',g,.inr ⟨?_,rfl⟩,k.ch (f _ [Tg.n 70 0] (D'.2 rfl)) (λb m=>k.new b (by rw[q]at m;exact m)) r,v w' p f⟩;rw[DQ a e,Sem.run_bind,x,Result.andThen_ok];rfl
end
def TM:List Tg:=[0,1,2,3,4].flatMap TN
theorem F1:Tg.z∉TM:=by simp[TM,TN]
theorem jm{i:Nat}(a:i<5):∀ t∈TN i,t∈TM:=λt b=>oU.2 ⟨i,by rcases qk a with rfl|rfl|rfl|rfl|rfl<;>simp,b⟩
theorem jn{i j r:Nat}(h:j≠i)(a:r<6):Tg.n r j∉TN i:=by simp[TN];omega
def mtA(nb:Nat->Nat)(ob tb:Nat):Array Value:=#[pt (nb 0) 0,pt (nb 1) 0,pt (nb 2) 0,pt (nb 3) 0,pt (nb 4) 0,pt ob 0,.map (some tb)]
structure MS(mb tb ob:Nat)(nb:Nat->Nat)(g:Gh)(w:World)(M:Meet):Prop where
 box:Box g w mb (mtA nb ob tb) 102
 tk:TkAt g w tb 7
 ab:∀ i,i<5->∃ x,NodeAt g w i (nb i) ob x (M.ab i)
 out:∃ lt tl,OutAt g w ob lt tl M.bm M.eb
 new:Ji g w
def MP(mb tb ob:Nat)(nb:Nat->Nat)(g:Gh)(w:World)(v:Value)(M:Meet):Ending->World->Prop:=λe w'=>∃ g',e=.returned v/\MS mb tb ob nb g' w' M/\Cg w.heap.size TM g w g' w'
section
variable{mb tb ob i:Nat}{nb:Nat->Nat}{g g':Gh}{w w':World}{M:Meet}
theorem MS.ns(h:MS mb tb ob nb g w M)(a:i<5):NS i (nb i) ob g w (M.ab i) M.bm M.eb :=
 let ⟨x,hx⟩:=h.ab i a
 let ⟨lt,tl,ho⟩:=h.out
 ⟨x,lt,tl,hx,ho,h.new⟩
theorem MS.qM{B:Nat}(h:MS mb tb ob nb g w M)(c:Cg B [] g w g' w')(b:Ji g' w'):MS mb tb ob nb g' w' M :=
 ⟨h.box.ch c,h.tk.ch c,λi a=>let ⟨x,hx⟩:=h.ab i a;⟨x,hx.ch c⟩,let ⟨lt,tl,ho⟩:=h.out;⟨lt,tl,ho.ch c⟩,b⟩
theorem MS.of{B:Nat}(h:MS mb tb ob nb g w M)(q:i<5){p:Nod}{a:List Let}{b:List Tol}(m:NS i (nb i) ob g' w' p a b)(c:Cg B (TN i) g w g' w'):MS mb tb ob nb g' w' ⟨upN M.ab i p,a,b⟩:=by
 obtain⟨x,lt,o,d,f,k⟩:=m;refine⟨h.box.ch c (Bx i),h.tk.ch c (by simp[TN]),λj l=>?_,⟨lt,o,f⟩,k⟩;by_cases e:j=i
 .subst e;exact⟨x,by show NodeAt g' w' j (nb j) ob x (upN M.ab j p j);rw[Dd];exact d⟩
 .obtain⟨y,hy⟩:=h.ab j l;exact⟨y,by show NodeAt g' w' j (nb j) ob y (upN M.ab i p j);rw[Dz _ _ e];exact hy.ch c (Bx i) λr n=>jn e n⟩
theorem MS.call(h:MS mb tb ob nb g w M)(b:i<5){f:FuncId}{a:Array Value}{v:Value}{p:Nod}{d:List Let}{j:List Tol}(l:Calls prog f a w (NP i (nb i) ob g w v p d j)):Calls prog f a w (MP mb tb ob nb g w v ⟨upN M.ab i p,d,j⟩) :=
 l.mono λe o ⟨k,m,n,c⟩=>⟨k,m,h.of b n c,c.mono (jm b)⟩
theorem UA{W:World}(b:W.heap[mb]?=some (.cells (mtA nb ob tb) 102)){j:Nat}(a:j<5):W.cell? ⟨mb,j,none⟩=some (pt (nb j) 0):=by
 rcases qk a with rfl|rfl|rfl|rfl|rfl<;>(rw[cell_of_row _ _ _ _ _ _ b];rfl)
end
end Go.Proofs.YtdjfdfpkkenjbacGreatDoor
