/- Part 8 of the walk. -/
import Derived.Test.YtdjfdfpkkenjbadGreatDoorZ7
set_option maxRecDepth 100000
set_option maxHeartbeats 4000000
open Go.Proofs.Tryz
set_option linter.unusedVariables false
namespace Go.Proofs.YtdjfdfpkkenjbadGreatDoor
open Go.RowKit
theorem LI(x:Value)(d:List Int)(s:Int)(w:World)(h:Sl w x d) :
  Calls prog 147 #[.agg (tpA x s)] w λe w'=>e=.returned (.bool (decide (AR d s)))/\Bw w w':=by
 have b:=h.len;obtain⟨f,i,rfl⟩:=h.qP;obtain⟨M,k⟩:∃ M,d.length=M:=⟨_,rfl⟩;have l:Hid (d.length=M):=k;rw[k]at b ⊢
 clear k h;simp only[tpA];have a:Bw w (w.alloc (.cells #[.slice f M i,.int .i64 s] 130)):=(Below.refl _ _).alloc (A' _) _;have j:=heap_alloc_new w (.cells #[.slice f M i,.int .i64 s] 130);generalize q:w.alloc (.cells #[.slice f M i,.int .i64 s] 130)=W0 at a j;have o:W0.cell? ⟨w.heap.size,0,none⟩=some (.slice f M i):=cell_of_row _ _ 0 _ _ _ j;have p:W0.cell? ⟨w.heap.size,1,none⟩=some (.int .i64 s):=cell_of_row _ _ 1 _ _ _ j;clear j;have c:Hid (AR d s↔(M<=100000/\0<=s/\s<=(M:Int))):=by
  unfold Hid AR;rw[l.out]
 by_cases m:M<=100000
 .have h1i:(M:Int)<=100000:=by omega
  by_cases n:0<=s
  .by_cases h3:s<=(M:Int)
   .go_enter func147,ntmps147
    go_wp2
    go_ret;exact⟨Aw (by rw[O' (c.out.2 ⟨m,n,h3⟩)]),a⟩
   .go_enter func147,ntmps147
    go_wp2
    go_ret;exact⟨Aw (by rw[E' (λg=>absurd (c.out.1 g).2.2 (by omega))]),a⟩
  .go_enter func147,ntmps147
   go_wp2
   go_ret;exact⟨Aw (by rw[E' (λg=>absurd (c.out.1 g).2.1 (by omega))]),a⟩
 .have h1i:¬ (M:Int)<=100000:=by omega
  go_enter func147,ntmps147
  go_wp2
  go_ret;exact⟨Aw (by rw[E' (λg=>absurd (c.out.1 g).1 (by omega))]),a⟩
theorem JV(x:Value)(d:List Int)(s:Int)(n:Nat)(w:World)(h:Sl w x d)(G:n<=d.length) :
  Calls prog 148 #[.agg (tpA x s),.int .i64 (n:Int)] w λe w'=>∃ y,e=.returned (.agg (tpA y (n:Int)))/\w'.ownsRow w.heap.size 5 1 y n ((d.take n).map (Value.int .u8))/\Bw w w':=by
 have i:=h.len;obtain⟨b,c,rfl⟩:=h.qP;obtain⟨M,q⟩:∃ M,d.length=M:=⟨_,rfl⟩;have HM:Hid (d.length=M):=q;have N:Hid (n<=d.length):=G;obtain⟨t,u⟩:∃ t,t=d.take n:=⟨_,rfl⟩;have O:Hid (t=d.take n):=u;rw[<- u];clear u;rw[q]at h i G ⊢
 clear q;simp only[tpA];have v:=heap_alloc2_old w (.cells #[.slice b M c,.int .i64 s] 130) (.cells #[.slice none 0 0,.int .i64 0] 130);have z:=heap_alloc2_new w (.cells #[.slice b M c,.int .i64 s] 130) (.cells #[.slice none 0 0,.int .i64 0] 130);have l:Bw w ((w.alloc (.cells #[.slice b M c,.int .i64 s] 130)).alloc (.cells #[.slice none 0 0,.int .i64 0] 130)):=((Below.refl _ _).alloc (A' _) _).alloc (by simp) _;have f:((w.alloc (.cells #[.slice b M c,.int .i64 s] 130)).alloc (.cells #[.slice none 0 0,.int .i64 0] 130)).heap.size=w.heap.size+2:=by simp
 generalize U:(w.alloc (.cells #[.slice b M c,.int .i64 s] 130)).alloc (.cells #[.slice none 0 0,.int .i64 0] 130)=W0 at v z l f;have s0:=h.af l;have p:Hid (W0.heap.size=w.heap.size+2):=f;have K:w.heap.size+1<W0.heap.size:=by omega
 have L:w.heap.size<W0.heap.size:=by omega
 clear f;go_enter func148,ntmps148
 go_wp2_with ((with_reducible (refine Fb ?_));at_make;refine MO _ rfl _ _ 26 rfl W0.heap.size 5 underlying26 Av n rfl rfl (by omega) (A' _) ?_)
 clear U;intro A o F;have j:Bw W0 A:=(Below.refl _ _).grown F (A' _) (λk r=>by cases r);have I:=(j.block w.heap.size L).trans v;have J:=(j.block (w.heap.size+1) K).trans z;have Y:=s0.af j;obtain⟨Z,o⟩:=o.out;have C:Hid (A.ownsRow W0.heap.size 5 1 (.slice (some ⟨W0.heap.size,0,none⟩) n n) n Z):=o;have R:=l.trans (j.mono l.size);clear o v z F;have Q:A.cell? ⟨w.heap.size,0,none⟩=some (.slice b M c):=cell_of_row _ _ 0 _ _ _ I;go_wp2_with ((with_reducible (refine Fb ?_));refine MM _ rfl _ _ 26 26 rfl W0.heap.size 5 underlying26 jx W0.heap.size n _ rfl C.out _ rfl d N.out Y t O.out ?_)
 intro B H P;have a:Hid (B.ownsRow W0.heap.size 5 1 (.slice (some ⟨W0.heap.size,0,none⟩) n n) n (t.map (Value.int .u8))):=H;have E:=P.mono (show w.heap.size+2<=W0.heap.size by have:=p.out;omega);have p1:=(E.block (w.heap.size+1) (by omega)).trans J;have S:=R.trans (E.mono (by omega));obtain⟨g,m⟩:∃ g,W0.heap.size=g:=⟨_,rfl⟩;have HG:Hid (W0.heap.size=g):=m;have f:g=w.heap.size+2:=m.symm.trans p.out;have D:Hid (g=w.heap.size+2):=f;rw[m]at a ⊢
 clear H C I J Q m f K L p;have W:=aO (some ⟨g,0,none⟩) n n (n:Int);go_wp2_with ((with_reducible (refine Fb ?_));refine wpList_store_row rfl 130 (.tmp 4) (.tmp 14) rfl (w.heap.size+1) #[.slice (some ⟨g,0,none⟩) n n,.int .i64 (n:Int)] rfl rfl 130 _ p1 MC rfl W ?_)
 have X:=setRow_heap B (w.heap.size+1) _ (#[.slice (some ⟨g,0,none⟩) n n,.int .i64 (n:Int)]) 130 _ p1;have T:=Da S (show w.heap.size<=w.heap.size+1 by omega) (#[.slice (some ⟨g,0,none⟩) n n,.int .i64 (n:Int)]);have V:(B.setRow (w.heap.size+1) #[.slice (some ⟨g,0,none⟩) n n,.int .i64 (n:Int)]).ownsRow g 5 1 (.slice (some ⟨g,0,none⟩) n n) n (t.map (Value.int .u8)):=DG a.out (λk r=>setRow_other _ _ _ _ (by have:=(a.out.lt k r).1;have:=D.out;omega));refine bodyPost_ret (aA rfl _ _ (w.heap.size+1) 130 _ (0,0) _ rfl X underlying130 rfl MC) rfl ?_;exact⟨_,rfl,FR V (by have:=D.out;omega),T⟩
theorem XC:(prog.info? 24).map (·.size)=some 5:=by kernel_rfl
theorem Va:(prog.info? 177).map (·.size)=some 8:=by kernel_rfl
theorem iW{v r:Value}{b a:Option Value}(h:∀ W,(Instr.slice 26 v b a none).run prog W=.ok r W)(w:World) :
  (do let x <- Instr.slice 26 v b a none;pure (Next.value x):Sem Next).run prog w=.ok (.value r) w:=by
 simp only[Sem.run_bind,h w,Result.andThen_ok,Sem.run_pure]
theorem Sl.sI(w:World)(b0 a b c d f h i:Int)(e:TypeId){g:Nat}(n:g=w.heap.size)(p:0<=b0/\b0<256)(q:0<=a/\a<256)(r:0<=b/\b<256)(s:0<=c/\c<256)(j:d=b0)(k:f=a)(l:h=b)(m:i=c) :
  Sl (w.alloc (.cells #[.int .u8 d,.int .u8 f,.int .u8 h,.int .u8 i] e)) (.slice (some ⟨g,0,none⟩) 4 4) [b0,a,b,c]:=by
 subst j k l m;exact Sl.built w [d,f,h,i] e n (by simp) (by intro x o;simp at o;omega)
theorem Rj(w:World)(l:List Int)(e:TypeId){g:Nat}(c:g=w.heap.size){a:Nat}(b:a<=w.heap.size)(d:l.length<=1000):(w.alloc (.cells (l.map (Value.int .u8)).toArray e)).ownsRow a e 1 (.slice (some ⟨g,0,none⟩) l.length l.length) l.length (l.map (Value.int .u8)):=by
 subst c;refine⟨by simp,.inr ⟨w.heap.size,l.length,_,rfl,b,heap_alloc_new _ _,A' _,by unfold maxLen;omega,by simp,by rw[mo (by simp)]⟩⟩
theorem JG(w:World)(b c:Int)(e:TypeId){g:Nat}(h:g=w.heap.size){a:Nat}(d:a<=w.heap.size)(f:c=b):(w.alloc (.cells #[.int .u8 c] e)).ownsRow a e 1 (.slice (some ⟨g,0,none⟩) 1 1) [b].length ([b].map (Value.int .u8)):=by
 subst f;exact Rj w [c] e h d (by simp)
def Dj(ns:List Int):List Int:=ns.flatMap Ad
theorem Wa(ns:List Int):(Dj ns).length=4*ns.length:=by
 induction ns with
 | nil=>rfl
 | cons n ns ih =>
  show(Ad n++Dj ns).length=_;rw[H',BF,ih,mI];omega
theorem SL(ns:List Int)(n:Int):Dj (ns++[n])=Dj ns++Ad n:=by simp[Dj]
theorem TC(l:List Int)(k:Nat)(a:k<l.length):l.take (k+1)=l.take k++[l.getD k 0]:=by
 rw[mx a,AN a]
theorem Gy(v:Value)(l ns:List Int)(B g:Nat)(w:World)(I:w.ownsRow B 5 1 v l.length (l.map (Value.int .u8)))(O:B<=w.heap.size)(T:l.length<=1000)(z:ns.length<=10)(H:∀ x∈ns,0<=x/\x<2147483648)
  (G:w.heap[g]?=some (.cells (ns.map (Value.int .i64)).toArray 3)) :
  Calls prog 195 #[v,.slice (some ⟨g,0,none⟩) ns.length ns.length] w λe w'=>∃ v',e=.returned v'/\w'.ownsRow B 5 1 v' (l++Dj ns).length ((l++Dj ns).map (Value.int .u8))/\Below B w w':=by
 obtain⟨N,t⟩:∃ N,ns.length=N:=⟨_,rfl⟩;have D:Hid (ns.length=N):=t;have M:Hid (∀ x∈ns,0<=x/\x<2147483648):=H;rw[t]at z ⊢
 clear t H;have i:Hid (w.ownsRow B 5 1 v (l++Dj (ns.take 0)).length ((l++Dj (ns.take 0)).map (Value.int .u8))):=by unfold Hid;simpa[Dj]using I
 clear I;go_enter func195,ntmps195
 go_wp2_with fail
 go_loopw [0,9] (λv iv wr=>∃ j:Nat,j<=N/\iv=.int .i64 (j:Int)/\Hid (wr.ownsRow B 5 1 v (l++Dj (ns.take j)).length ((l++Dj (ns.take j)).map (Value.int .u8)))/\wr.heap[g]?=some (.cells (ns.map (Value.int .i64)).toArray 3)/\Below B w wr) (λ_ iv _=>N-(intOf iv).toNat)
 case atStart=>exact⟨0,by omega,rfl,i,G,Below.refl _ _⟩
 case round =>
  obtain⟨j,S,rfl,f,c,a⟩:=hrel;clear i G;by_cases y:j<N
  .have hji:(j:Int)<(N:Int):=by omega
   have b:j<ns.length:=by rw[D.out];exact y
   have o:=f.out.lt;have Q:B<=wr.heap.size:=me O a.size;have P:=M.out (ns.getD j 0) (by rw[AN b];exact mN b);have F:wr.cell? ⟨g,j,none⟩=some (.int .i64 (ns.getD j 0)):=by
    rw[cell_of_row _ _ j _ _ _ c,AN b];simp[List.getElem?_eq_getElem b]
   have s:Hid (ns.take (j+1)=ns.take j++[ns.getD j 0]):=TC ns j b;have d:(l++Dj (ns.take j)).length+4<=140737488355328:=by
    rw[H',Wa,j'];omega
   have p:=Mu f.out c (by decide);have lg:g<wr.heap.size:=(U'.1 c).1;have K:Hid (∀ n,Ad n=[n/16777216%256,n/65536%256,n/256%256,n%256]):=λn=>rfl;generalize ns.getD j 0=n at P F s;generalize E:l++Dj (ns.take j)=L at f d;have C:Hid (l++Dj (ns.take j)=L):=E;clear E b;go_wp2_with (at_builtin;refine Aa _ rfl _ _ 26 rfl B 5 underlying26 Av _ _ rfl rfl L [n/16777216%256,n/65536%256,n/256%256,n%256] (f.out.alloc _) (Sl.sI _ (n/16777216%256) (n/65536%256) (n/256%256) (n%256) _ _ _ _ _ rfl (by omega) (by omega) (by omega) (by omega) (by omega) (by omega) (by omega) (by omega)) d (by simp;omega) ?_)
   intro R A q h;have u:Below B w A:=(a.alloc Q _).grown h (by simp;omega) (λk z=>(o k z).1);have m:A.heap[g]?=some (.cells (ns.map (Value.int .i64)).toArray 3):=by
    rw[h.block g (by simp;omega) (λe=>p g e.symm rfl),heap_alloc_old _ _ lg];exact c
   have r:Hid (A.ownsRow B 5 1 R (l++Dj (ns.take (j+1))).length ((l++Dj (ns.take (j+1))).map (Value.int .u8))):=by
    unfold Hid;rw[s.out,SL,<- ml,C.out,K.out];simpa using q
   clear q h a d f p o c F s C;go_wp2
   go_roundw
   case rel=>exact⟨j+1,by omega,by go_num,r,m,u⟩
   case measure=>simp[intOf];omega
  .obtain rfl:j=N:=by omega
   have J:ns.take j=ns:=mo (by rw[D.out];exact A' _);rw[J]at f
   clear J;go_wp2
   go_ret;exact⟨_,rfl,f.out,a⟩
theorem Sl.sH{w:World}{a:Option Addr}{n b:Nat}{l:List Int}(h:Sl w (.slice a n b) l)(d c m:Nat)(j:d<=c)(f:c<=l.length)(s:m=c-d)(p o:Int)(i:p=(d:Int))(g:o=(c:Int)) :
  ∃ a' c',(∀ W,(Instr.slice 26 (.slice a n b) (some (.int .i64 p)) (some (.int .i64 o)) none).run prog W=.ok (.slice a' m c') W)/\Sl w (.slice a' m c') ((l.take c).drop d):=by
 subst i;subst g;subst s;have t:=h.qY d c j f;obtain⟨⟨a',k,e,v,x,u⟩,r,q⟩:=h;simp only[Value.slice.injEq]at e;obtain⟨rfl,rfl,rfl⟩:=e;refine⟨_,_,λW=>?_,by simpa[sliced]using t⟩;rw[run_slice_lh (P:=prog) W 26 a _ b underlying26 .i64 .i64 _ _ (by omega) (by omega) (by omega)];have e:prog.elem 26=5:=by kernel_rfl
 rw[e,G8,mK,mK];simp[Result.andThen,sliced]
theorem iU(v:Value)(l:List Int)(w:World)(h:Sl w v l)(o:l.length<=2000)(k:AJ w) :
  Calls prog 206 #[v] w λe w'=>∃ v',e=.returned (.tuple #[v',.int .i64 0])/\Fresh w w' v' (dig l):=by
 have j:=h;obtain⟨⟨a,c,rfl,n,p,d⟩,g,b⟩:=h;clear d b;go_enter func206,ntmps206
 go_wp2_with fail
 refine(F6 _ l w j (by omega) k).mono ?_;rintro e q ⟨m,rfl,i,f⟩;go_wp2
 go_ret2
 exact⟨m,rfl,Fresh.pd i (FE (AA l)) (by rw[AA];omega) (DR l) f⟩
theorem O2(v:Value)(l:List Int)(w:World)(h:Sl w v l)(p:l.length<=2000)(q:AJ w) :
  Calls prog 198 #[v] w λe w'=>∃ a c,e=.returned (.tuple #[.slice a 4 c,.int .i64 0])/\Sl w' (.slice a 4 c) ((dig l).take 4)/\Bw w w':=by
 go_enter func198,ntmps198
 go_wp2_with fail
 refine(iU v l w h p q).mono ?_;rintro e t ⟨y,rfl,f⟩;obtain⟨g,b,m,s,d⟩:=f.shape;rw[AA]at m d
 subst m;obtain⟨j,k,n,r⟩:=f.sl.qt 4 (by rw[AA];decide);have o:=f.sa;clear f;have i:(4:Int)<=(b:Int):=by omega
 replace n:∀ W,(Instr.slice 26 (.slice (some ⟨g,0,none⟩) 32 b) none (some (.int .i64 4)) none).run prog W=.ok (.slice j 4 k) W:=n;go_wp2
 go_ret2
 exact⟨j,k,rfl,r,o⟩
theorem MZ(v:Value)(r:List Int)(w:World)(h:Sl w v r)(ht:AJ w){u:World}(O:Sl u v r) :
  Calls prog 180 #[v] w λe w'=>∃ a n c,e=.returned (.tuple #[.slice a n c,.bool (fbO r).isSome])/\Sl u (.slice a n c) ((fbO r).getD [])/\Bw w w':=by
 have o:=h.len;have P:=Al h.byte 0;obtain⟨ax,cp,rfl⟩:=h.qP;by_cases B:r=[]
 .subst B;have d:Hid (fbO []=none):=if_pos rfl;rw[d.out];go_enter func180,ntmps180
  go_wp2
  go_ret2
  exact⟨none,0,0,rfl,Sl.nil _ _,Below.refl _ _⟩
 .have hp:0<r.length:=by
   rcases Nat.eq_zero_or_pos r.length with g|g
   .exact absurd (Y' g) B
   .exact g
  obtain⟨bd,od,rfl,F,G⟩:=h.rA 0 hp;obtain⟨x,f⟩:∃ x:Nat,r.getD 0 0=(x:Int):=⟨(r.getD 0 0).toNat,by omega⟩;have q:(r.getD 0 0).toNat=x:=by rw[f];exact mK _
  rw[f]at G P
  obtain⟨M,D⟩:∃ M,r.length=M:=⟨_,rfl⟩;have b:Hid (r.length=M):=D;have j:Hid ((r.getD 0 0).toNat=x):=q;have hz:(0:Int)<(M:Int):=by omega
  have a2:((M:Int)==0)=false:=by simp;omega
  rw[D]at h O o hp ⊢
  have a3:x<256:=by omega
  have i:Hid (¬ r=[]):=B;clear D f q P B;rw[ou]at G
  by_cases L:M<x+5
  .have d:Hid (fbO r=none):=by
    unfold Hid fbO;rw[if_neg i.out,j.out,b.out,if_pos L]
   rw[d.out];have l:(M:Int)<1+(x:Int)+4:=by omega
   clear i j;go_enter func180,ntmps180
   go_wp2
   go_ret2
   exact⟨none,0,0,rfl,Sl.nil _ _,Below.refl _ _⟩
  .have l:¬ (M:Int)<1+(x:Int)+4:=by omega
   obtain⟨E,N⟩:∃ E:Nat,E=x+1:=⟨_,rfl⟩;have z:Hid (E=x+1):=N;have C:1+(x:Int)=(E:Int):=by omega
   have a0:E+4<=M:=by omega
   have a1:E<=256:=by omega
   have m:1<=E:=by omega
   rw[C]at l
   obtain⟨X,cu,ru,S⟩:=h.qt E (by rw[b.out];omega);obtain⟨V,Z,rf,H⟩:=h.sH E (E+4) 4 (by omega) (by rw[b.out];omega) (by omega) (E:Int) ((E:Int)+4) rfl (by omega);obtain⟨U,Y,rb,Q⟩:=O.sH 1 E x m (by rw[b.out];omega) (by omega) 1 (E:Int) rfl rfl;have hl:(r.take E).length=E:=by rw[j',b.out];omega
   have I:Hid ((r.take (E+4)).drop E=(r.drop E).take 4):=by unfold Hid;rw[px,show E+4-E=4 by omega]
   rw[I.out]at H
   clear N L m I;go_enter func180,ntmps180
   go_wp2_with fail
   refine(O2 (.slice X E cu) (r.take E) w S (by omega) ht).mono ?_;rintro e T ⟨W,cg,rfl,R,A⟩;have y:=H.af A;have s:=Q;clear S H Q ru G F hl;go_wp2_with fail
   refine(IQ (.slice W 4 cg) (.slice V 4 Z) ((dig (r.take E)).take 4) ((r.drop E).take 4) T R y).mono ?_;rintro e w2 ⟨rfl,n2,p⟩;have J:Bw T w2:=by rw[p];exact Aq (Below.refl _ _) n2
   clear p;have K:=A.trans (J.mono A.size);have t:=s;clear A J s R y rf;by_cases k:(dig (r.take E)).take 4=(r.drop E).take 4
   .have d:Hid (fbO r=some ((r.take E).drop 1)):=by
     unfold Hid fbO;have:=z.out;rw[if_neg i.out,j.out,b.out,if_neg (by omega),<- this,if_neg (λg=>g k)]
    rw[O' k];clear k i j z;go_wp2
    go_ret2
    rw[d.out];exact⟨U,x,Y,rfl,t,K⟩
   .have d:Hid (fbO r=none):=by
     unfold Hid fbO;have:=z.out;rw[if_neg i.out,j.out,b.out,if_neg (by omega),<- this,if_pos k]
    rw[E' k];clear k i j z t;go_wp2
    go_ret2
    rw[d.out];exact⟨none,0,0,rfl,Sl.nil _ _,K⟩
theorem Po(v:Value)(b:List Int)(w:World)(h:Sl w v b)(P:b.length<=255)(U:AJ w) :
  Calls prog 194 #[v] w λe w'=>∃ y,e=.returned (.tuple #[y,.int .i64 0])/\w'.ownsRow w.heap.size 5 1 y (AM b).length ((AM b).map (Value.int .u8))/\Bw w w':=by
 obtain⟨ax,cp,rfl⟩:=h.qP;obtain⟨N,l⟩:∃ N,b.length=N:=⟨_,rfl⟩;have Y:Hid (b.length=N):=l;have z:Hid (Eb b++(dig (Eb b)).take 4=AM b):=rfl;have K:Hid ([(N:Int)]++b=Eb b):=by unfold Hid Eb;rw[l];rfl
 have a:Hid ((Eb b).length=N+1/\∀ x∈Eb b,0<=x/\x<256):=⟨by rw[CD,l],L3 h.byte P⟩;rw[l]at h P ⊢
 have V:(N:Int)%256=(N:Int):=by omega
 have o:[(N:Int)].length+b.length<=140737488355328:=by rw[l];simp;omega
 clear l;obtain⟨q,g⟩:∃ q,w.alloc (.cells #[.int .u8 (N:Int)] 5)=q:=⟨_,rfl⟩;have r:Bw w q:=by rw[<- g];exact Co _ _
 have H:q.ownsRow w.heap.size 5 1 (.slice (some ⟨w.heap.size,0,none⟩) 1 1) [(N:Int)].length ([(N:Int)].map (Value.int .u8)):=by rw[<- g];exact JG w N N 5 rfl (A' _) rfl
 have O:=h.af r;go_enter func194,ntmps194
 go_wp2_with (at_builtin;refine Aa _ rfl _ _ 26 rfl w.heap.size 5 underlying26 Av _ _ rfl rfl [(N:Int)] b H O o r.size ?_)
 clear g;intro s t j L;have c:=H.lt;have A:Bw w t:=r.grown L r.size (λk n=>(c k n).1);replace j:t.ownsRow w.heap.size 5 1 s ([(N:Int)]++b).length (([(N:Int)]++b).map (Value.int .u8)):=by simpa using j
 rw[K.out]at j
 have I:=Sl.pd j (by rw[a.out.1];omega) a.out.2;have m:(Eb b).length<=2000:=by rw[a.out.1];omega
 have i:(Eb b).length+((dig (Eb b)).take 4).length<=140737488355328:=by rw[a.out.1,j',AA];omega
 clear H L c K o O;generalize E:Eb b=F at j I m i z;have d:Hid (t.ownsRow w.heap.size 5 1 s F.length (F.map (Value.int .u8))):=j;clear j E a;go_wp2_with fail
 refine(O2 s F t I m (U.af A)).mono ?_;rintro e X ⟨Z,c4,rfl,J,B⟩;have C:=A.trans (B.mono A.size);have f:Hid (X.ownsRow w.heap.size 5 1 s F.length (F.map (Value.int .u8))):=DG d.out (λk n=>B.block k (d.out.lt k n).2);have p:=f.out.lt;generalize T:(dig F).take 4=D at J z i;clear d B T I;have G:=C.size;go_wp2_with (at_builtin;refine Aa _ rfl _ _ 26 rfl w.heap.size 5 underlying26 Av _ _ rfl rfl F D f.out J i G ?_)
 intro W R Q M;have S:Bw w R:=C.grown M C.size (λk n=>(p k n).1);have u:Hid (R.ownsRow w.heap.size 5 1 W (AM b).length ((AM b).map (Value.int .u8))):=by
  unfold Hid;rw[<- z.out];simpa using Q
 clear Q M f p J;go_wp2
 go_ret2
 exact⟨_,rfl,u.out,S⟩
section
variable{P:Program}{md:Region.Mode}{ops:Array Oper}{Q:Exit->Act->World->Prop}{S:World->Prop}
theorem Wc{i d:Nat}{o:Oper}{a:Act}{w:World}{K:Act->World->Prop}(r:ops[i]?=some o)(B:Region.wanted o (yielded ops a.tmps)=true)(q:o.dst=some d)(s x:Operand)(t:TypeId)
  (n:o.op=.call { callee:=.builtin .append,args:=#[s,x],argTypes:=#[t,t] })
  (b e:Nat)(z:P.underlying t=some (.slice e))(f:(P.info? e).map (λi=>(i.zero,i.size,i.bytes))=some (some (.int .u8 0),1,1))
  (v u:Value)(y:a.eval s=v)(C:a.eval x=u)(l m:List Int)(j:w.ownsRow b e 1 v l.length (l.map (Value.int .u8)))(A:Sl w u m)
  (g:l.length+m.length<=140737488355328)(c:b<=w.heap.size)
  (h:∀ v' w',w'.ownsRow b e 1 v' (l++m).length ((l++m).map (Value.int .u8))->w.grownBy w' v.ownBlock->K (a.put (some d) v') w'):wpOp P ops Q i K a w :=
 wpOp_step r λF p=>by
  rw[if_pos B];obtain⟨v',w',k,D,E⟩:=Hq (P:=P) w b t o.type e z f v l j u m A g c;unfold Oper.wp execOp;simp only[n,resolve,invoke,builtin,Sem.run_bind,Sem.run_pure,Result.andThen_ok,oP,mO,nD,y,C,k];exact p _ _ (by rw[q];exact h v' w' D E)
end
section
theorem Hl(x:Value)(d:List Int)(s:Int)(k:Nat)(G:k<=1000)(w:World)(h:Sl w x d) :
  Calls prog 173 #[.agg (tpA x s),.int .i64 (k:Int)] w λe w'=>e=.returned (.int .i64 (G3 d s k))/\Bw w w':=by
 have t:=h.len;obtain⟨q,r,rfl⟩:=h.qP;obtain⟨M,B⟩:∃ M,d.length=M:=⟨_,rfl⟩;have z:Hid (d.length=M):=B;rw[B]at h t ⊢
 clear B;simp only[tpA];obtain⟨o,n⟩:∃ o,w.alloc (.cells #[.slice q M r,.int .i64 s] 130)=o:=⟨_,rfl⟩;have c:o.heap[w.heap.size]?=some (.cells #[.slice q M r,.int .i64 s] 130):=by rw[<- n];exact EB _ _
 have A:Bw w o:=by rw[<- n];exact Co _ _
 have i:w.heap.size<o.heap.size:=(U'.1 c).1;have b:=h.af A;go_enter func173,ntmps173
 go_wp2_with ((with_reducible (refine Fb ?_));(refine wpList_load_row rfl 130 _ rfl w.heap.size rfl 130 _ (0,0) _ c underlying130 rfl MC ?_))
 clear n;refine(LI (.slice q M r) d s o b).mono ?_;rintro e y ⟨rfl,f⟩;have E:=A.trans (f.mono A.size);have a:=(f.block _ i).trans c;have C:=Z' i f.size;have D:=b.af f;clear i c b;clear f;by_cases m:AR d s
 .rw[O' m];have F:M<=100000:=by rw[<- z.out];exact m.1
  have u:=E;by_cases v:100000<M+k
  .have h2i:(100000:Int)<(M:Int)+(k:Int):=by omega
   have p:Hid (G3 d s k=8):=by unfold Hid G3;rw[if_neg (λg=>g m),z.out,if_pos v]
   clear m v;have j:y.cell? ⟨w.heap.size,0,none⟩=some (.slice q M r):=cell_of_row _ _ 0 _ _ _ a;have l:y.cell? ⟨w.heap.size,1,none⟩=some (.int .i64 s):=cell_of_row _ _ 1 _ _ _ a;go_wp2
   go_ret;exact⟨by rw[p.out];rfl,u⟩
  .have h2i:¬ (100000:Int)<(M:Int)+(k:Int):=by omega
   have p:Hid (G3 d s k=0):=by unfold Hid G3;rw[if_neg (λg=>g m),z.out,if_neg v]
   clear m v;have j:y.cell? ⟨w.heap.size,0,none⟩=some (.slice q M r):=cell_of_row _ _ 0 _ _ _ a;have l:y.cell? ⟨w.heap.size,1,none⟩=some (.int .i64 s):=cell_of_row _ _ 1 _ _ _ a;go_wp2
   go_ret;exact⟨by rw[p.out];rfl,u⟩
 .rw[E' m];have p:Hid (G3 d s k=5):=if_pos m;clear m;have u:=E;go_wp2
  go_ret;exact⟨by rw[p.out];rfl,u⟩
theorem ML(x:Value)(d:List Int)(s:Int)(v:Value)(b:List Int)(w:World)(h:Sl w x d)(hv:Sl w v b)(hb:b.length<=255)(hd:d.length<=100000)(ht:AJ w) :
  Calls prog 174 #[.agg (tpA x s),v] w λe w'=>∃ y,e=.returned (.tuple #[.agg (tpA y s),.int .i64 0])/\w'.ownsRow w.heap.size 5 1 y (d++AM b).length ((d++AM b).map (Value.int .u8))/\Bw w w':=by
 have HD:Hid (∀ x∈d,0<=x/\x<256):=h.byte;have a2:Hid (∀ x∈AM b,0<=x/\x<256):=Mc hv.byte hb;have a8:(AM b).length<=260:=by rw[Bj];omega
 have a6:=h.len;obtain⟨ax,cp,rfl⟩:=h.qP;obtain⟨M,hM⟩:∃ M,d.length=M:=⟨_,rfl⟩;have HM:Hid (d.length=M):=hM;rw[hM]at h a6 ⊢
 clear hM;simp only[tpA];rw[HM.out]at hd
 obtain⟨i0,b7,c2,c5,c6⟩:=info_parts Av;obtain⟨U,Q⟩:∃ U,(w.alloc (.cells #[.slice ax M cp,.int .i64 s] 130)).alloc (.cells #[.slice none 0 0,.int .i64 0] 130)=U:=⟨_,rfl⟩;have A:U.heap[w.heap.size]?=some (.cells #[.slice ax M cp,.int .i64 s] 130):=by rw[<- Q];exact T8 _ _ _
 have B:U.heap[w.heap.size+1]?=some (.cells #[.slice none 0 0,.int .i64 0] 130):=by rw[<- Q];exact T9 _ _ _
 have bb:Bw w U:=by rw[<- Q];exact WJ _ _ _
 have t:w.heap.size<U.heap.size:=(U'.1 A).1;have u:(w.heap.size+1)<U.heap.size:=(U'.1 B).1;have I:=ht.af bb;have E:=h.af bb;have o:=hv.af bb;go_enter func174,ntmps174
 go_wp2_with fail
 clear Q;refine(Po v b U o hb I).mono ?_;rintro e q ⟨y,rfl,oy,a⟩;obtain⟨R,hR⟩:∃ R,AM b=R:=⟨_,rfl⟩;rw[hR]at oy a8 a2
 have HR:Hid (AM b=R):=hR;clear hR;have sy:=Sl.pd oy (by omega) a2.out;obtain⟨N,hN⟩:∃ N,R.length=N:=⟨_,rfl⟩;have HN:Hid (R.length=N):=hN;rw[hN]at oy a8
 clear hN;obtain⟨ay,cy,rfl⟩:=ES oy;have d1:=bb.trans (a.mono bb.size);have J:=I.af a;have n:=(a.block _ t).trans A;have m:=Z' t a.size;have C:=(a.block _ u).trans B;have f:=Z' u a.size;have G:=E.af a;have F:=o.af a;clear I t A u B E o;clear a;clear oy;have d0:=sy;have a5:w.heap.size+1<q.heap.size:=f;have L:q.cell? ⟨w.heap.size,0,none⟩=some (.slice ax M cp):=cell_of_row _ _ 0 _ _ _ n;go_wp2_with (at_make;refine wpList_make_own _ rfl _ _ 26 rfl q.heap.size 5 i0 (.int .u8 0) 1 underlying26 b7 c2 c5 _ _ _ (M+N) rfl rfl (by omega) (by rw[c6];omega) (by unfold maxLen;omega) (A' _) ?_)
 intro w2 o2 g2;have r:Bw q w2:=(Below.refl _ _).grown g2 (A' _) (λk Y=>by cases Y);clear g2 L;have d7:=r.size;have b5:=r;have d2:=d1.trans (r.mono d1.size);have d5:=J.af r;have D:=(r.block _ m).trans n;have c7:=Z' m r.size;have a0:=(r.block _ f).trans C;have c8:=Z' f r.size;have H:=G.af r;have c9:=F.af r;clear J m n f C G F;clear r;have a1:Hid (w2.ownsRow q.heap.size 5 1 (.slice (some ⟨q.heap.size,0,none⟩) 0 (M+N)) ([]:List Int).length (([]:List Int).map (Value.int .u8))):=o2;have V:=o2.lt;have b8:([]:List Int).length+d.length<=140737488355328:=by rw[HM.out];simp;omega
 clear o2;have O:w2.cell? ⟨w.heap.size,0,none⟩=some (.slice ax M cp):=cell_of_row _ _ 0 _ _ _ D;go_wp2_with (at_builtin;refine Aa _ rfl _ _ 26 rfl q.heap.size 5 underlying26 Av _ _ rfl rfl [] d a1.out H b8 (by omega) ?_)
 intro v3 l o3 g3;have b3:Below q.heap.size w2 l:=(Below.refl _ _).grown g3 (by omega) (λk Y=>(V k Y).1);have K:Hid (l.ownsRow q.heap.size 5 1 v3 d.length (d.map (Value.int .u8))):=by unfold Hid;simpa using o3
 have d8:=b3.size;have d4:Sl l (.slice ay N cy) R:=d0.af (show Bw q l from b5.trans b3);have a9:=(b3.block w.heap.size (by omega)).trans D;have b0:=(b3.block (w.heap.size+1) a5).trans a0;have d3:=d2.trans (b3.mono (show w.heap.size<=q.heap.size by omega));have z:w.heap.size+1<l.heap.size:=by omega
 have d6:q.heap.size<=l.heap.size:=by omega
 obtain⟨a3,c3,h3⟩:=ES K.out;rw[HM.out]at h3
 subst h3;have c1:l.cell? ⟨w.heap.size,1,none⟩=some (.int .i64 s):=cell_of_row _ _ 1 _ _ _ a9;obtain⟨T,hT⟩:∃ T,M+N=T:=⟨_,rfl⟩;have HT:Hid (M+N=T):=hT;clear hT;clear o3 g3 b3 V a1 H O;go_wp2_with fail
 apply aC (λg c Wz=>Wz.heap[w.heap.size+1]?=some (.cells #[.slice g T c,.int .i64 s] 130)/\Wz.ownsRow q.heap.size 5 1 (.slice g T c) T ((d++R).map (Value.int .u8))/\Below (w.heap.size+1) l Wz)
 .intro K2 HK2;have j:Bw l l.drew:=(Below.refl _ _).drew;refine wp_region_held (S:=λw'=>Below (w.heap.size+1) l w') (by kernel_rfl) ?_;have P:(λw'=>Below (w.heap.size+1) l w') l.drew:=j.mono (oz z);refine Bd (i:=0) 29 (v:=.slice a3 M c3) rfl rfl (by kernel_rfl) (by kernel_rfl) (by kernel_rfl) (λ_ _ _ h=>h) (qd ⟨by rfl,λ_ _=>by kernel_rfl⟩) P ?_;simp only[Act.put,mj,mp,mq];refine Bd (i:=1) 30 (v:=.slice ay N cy) rfl rfl (by kernel_rfl) (by kernel_rfl) (by kernel_rfl) (λ_ _ _ h=>h) (qd ⟨by rfl,λ_ _=>by kernel_rfl⟩) P ?_;simp only[Act.put,mj,mp,mq];refine Bd (i:=3) 32 (v:=.pointer (some ⟨w.heap.size,1,none⟩)) rfl rfl (by kernel_rfl) (by kernel_rfl) (by kernel_rfl) (λ_ _ _ h=>h) (qd ⟨by rfl,λ_ _=>by kernel_rfl⟩) P ?_;simp only[Act.put,mj,mp,mq];refine Bd (i:=4) 33 (v:=.int .i64 s) rfl rfl (by kernel_rfl) (by kernel_rfl) (by kernel_rfl) (λ_ _ _ h=>h) (Xd (by rfl) 3 (.tmp 32) rfl _ underlying3 rfl ⟨w.heap.size,1,none⟩ rfl (.int .i64 s) (λw' c0=>(c0.cell (p:=⟨w.heap.size,1,none⟩) (show w.heap.size<w.heap.size+1 by omega)).trans c1)) P ?_;simp only[Act.put,mj,mp,mq];have od:l.drew.ownsRow q.heap.size 5 1 (.slice a3 M c3) d.length (d.map (Value.int .u8)):=DG K.out (λk Y=>j.block k (K.out.lt k Y).2);have rd:=(j.block (w.heap.size+1) z).trans b0;have b9:=od.lt;have Z:d.length+R.length<=140737488355328:=by rw[HM.out,HN.out];omega
  refine Ei (i:=2) (by kernel_rfl) (Wc (i:=2) (d:=31) rfl (by kernel_rfl) rfl (.tmp 29) (.tmp 30) 26 rfl q.heap.size 5 underlying26 Av (.slice a3 M c3) (.slice ay N cy) (by kernel_rfl) (by kernel_rfl) d R od (d4.af j) Z (me d6 j.size) ?_);intro v4 w4 o4 g4;have b4:Below (w.heap.size+1) l w4:=(j.mono (oz z)).grown g4 (me (oz z) j.size) (λk Y=>me (oz a5) (b9 k Y).1);have r4:w4.heap[w.heap.size+1]?=some (.cells #[.slice none 0 0,.int .i64 0] 130):=(g4.block (w.heap.size+1) (Z' z j.size) (λe=>Mu od rd (by decide) _ e.symm rfl)).trans rd;have b6:(d++R).length=T:=by rw[H',HM.out,HN.out];exact HT.out
  rw[b6]at o4
  obtain⟨W,X,h4⟩:=ES o4;subst h4;refine⟨b4,?_⟩;simp only[Act.put,mj,mp,mq];refine Bd (i:=5) 34 (v:=.agg #[.slice W T X,.int .i64 s]) rfl rfl (by kernel_rfl) (by kernel_rfl) (by kernel_rfl) (λ_ _ _ h=>h) (qd ⟨by rfl,λ_ _=>by kernel_rfl⟩) b4 ?_;simp only[Act.put,mj,mp,mq];have a7:=aO W T X s;have e7:Below (w.heap.size+1) l (w4.setRow (w.heap.size+1) #[.slice W T X,.int .i64 s]):=Da b4 (A' _) _;have q7:=setRow_heap w4 (w.heap.size+1) _ (#[.slice W T X,.int .i64 s]) 130 _ r4;have o7:=WI o4 r4 (by decide) (#[.slice W T X,.int .i64 s]);refine Ei (i:=6) (by kernel_rfl) (U8 (i:=6) rfl (by kernel_rfl) rfl 130 (.tmp 4) (.tmp 34) rfl (w.heap.size+1) #[.slice W T X,.int .i64 s] (by kernel_rfl) (by kernel_rfl) 130 _ r4 MC rfl a7 ⟨e7,?_⟩);refine Bd (i:=7) 5 (v:=.int .i64 0) rfl rfl (by kernel_rfl) (by kernel_rfl) (by kernel_rfl) (λ_ _ _ h=>h) (qd ⟨by rfl,λ_ _=>by kernel_rfl⟩) e7 ?_;simp only[Act.put,mj,mp,mq];exact wpAnyH_done (by kernel_rfl) (HK2.out W X _ ⟨q7,o7,e7⟩) _
 rintro g c Wz ⟨qR,oR,eR⟩;have dR:=d3.trans (eR.mono (by omega));have b1:Hid ((d++AM b).length=T):=by unfold Hid;rw[HR.out,H',HM.out,HN.out];exact HT.out
 clear a9 b0 c1 K;go_wp2
 refine bodyPost_ret (UM rfl _ _ (w.heap.size+1) 130 _ (0,0) _ rfl qR underlying130 rfl MC) rfl ?_;rw[b1.out,HR.out];exact⟨_,rfl,FR oR (by omega),dR⟩
theorem Pw(b:Bal)(z:Ab b)(w:World) :
  Calls prog 175 #[.agg (baA b)] w λe w'=>∃ y,e=.returned y/\w'.ownsRow w.heap.size 5 1 y 9 ((Bu b).map (Value.int .u8))/\Bw w w':=by
 obtain⟨n,m⟩:=b;have t:=z;unfold Ab at t;simp only at t;have O:Hid (Ab ⟨n,m⟩):=z;clear z;simp only[baA];obtain⟨d,o⟩:∃ d,w.alloc (.cells #[.int .i64 n,.int .i64 m] 111)=d:=⟨_,rfl⟩;have h:d.heap[w.heap.size]?=some (.cells #[.int .i64 n,.int .i64 m] 111):=by rw[<- o];exact EB _ _
 have v:Bw w d:=by rw[<- o];exact Co _ _
 have f:w.heap.size<d.heap.size:=(U'.1 h).1;obtain⟨i,p⟩:∃ i,d.alloc (.cells #[.int .u8 1] 5)=i:=⟨_,rfl⟩;have u:Bw d i:=by rw[<- p];exact Co _ _
 have B:i.ownsRow d.heap.size 5 1 (.slice (some ⟨d.heap.size,0,none⟩) 1 1) [(1:Int)].length ([(1:Int)].map (Value.int .u8)):=by rw[<- p];exact JG d 1 1 5 rfl (A' _) rfl
 have E:=v.trans (u.mono v.size);have a:=(u.block _ f).trans h;have c:=Z' f u.size;clear f h;have j:i.cell? ⟨w.heap.size,0,none⟩=some (.int .i64 n):=cell_of_row _ _ 0 _ _ _ a;have l:i.cell? ⟨w.heap.size,1,none⟩=some (.int .i64 m):=cell_of_row _ _ 1 _ _ _ a;obtain⟨r,q⟩:∃ r,i.alloc (.cells #[.int .i64 n,.int .i64 m] 3)=r:=⟨_,rfl⟩;have s:Bw i r:=by rw[<- q];exact Co _ _
 have rn:r.heap[i.heap.size]?=some (.cells ([n,m].map (Value.int .i64)).toArray 3):=by rw[<- q];exact heap_alloc_new _ _
 have N:d.heap.size<=r.heap.size:=me u.size s.size;have H:=E.trans (s.mono E.size);have C:=(s.block _ c).trans a;have A:=Z' c s.size;have g:=DG B (λk J=>s.block k (B.lt k J).2);clear c a B;go_enter func175,ntmps175
 go_wp2_with fail
 clear o p q j l;refine(Gy (.slice (some ⟨d.heap.size,0,none⟩) 1 1) [1] [n,m] d.heap.size i.heap.size r g N (by simp) (by simp) (by intro x K;simp at K;omega) rn).mono ?_;rintro e M ⟨L,rfl,F,D⟩;have I:=H.trans (D.mono v.size);have G:Hid (M.ownsRow w.heap.size 5 1 L 9 ((Bu ⟨n,m⟩).map (Value.int .u8))):=FR F v.size;clear F D rn g;go_wp2
 go_ret;exact⟨_,rfl,G.out,I⟩
theorem Pz(v:Vt)(hv:Ah v)(x:Value)(w:World)(P:Sl w x (D2 v.w.k v.w.c v.w.s v.w.n v.w.v)) :
  Calls prog 193 #[.agg (vtA v),x] w λe w'=>∃ y,e=.returned y/\w'.ownsRow w.heap.size 5 1 y 33 ((Bk v).map (Value.int .u8))/\Bw w w':=by
 obtain⟨p,⟨o,m⟩,⟨G,F,I,H,J⟩⟩:=v;have E:=hv;unfold Ah Ab at E;simp only at E P;obtain⟨a0,a1,-⟩:=E;clear hv;simp only[vtA,vtC];obtain⟨b,z⟩:∃ b,w.alloc (.cells #[.int .i64 p,.int .i64 o,.int .i64 m,.int .i64 G,.int .i64 F,.int .i64 I,.int .i64 H,.int .i64 J] 177)=b:=⟨_,rfl⟩;have i:b.heap[w.heap.size]?=some (.cells #[.int .i64 p,.int .i64 o,.int .i64 m,.int .i64 G,.int .i64 F,.int .i64 I,.int .i64 H,.int .i64 J] 177):=by rw[<- z];exact EB _ _
 have u:Bw w b:=by rw[<- z];exact Co _ _
 have g:w.heap.size<b.heap.size:=(U'.1 i).1;have j:=P.af u;obtain⟨f,A⟩:∃ f,b.alloc (.cells #[.int .u8 2] 5)=f:=⟨_,rfl⟩;have N:Bw b f:=by rw[<- A];exact Co _ _
 have W:f.ownsRow b.heap.size 5 1 (.slice (some ⟨b.heap.size,0,none⟩) 1 1) [(2:Int)].length ([(2:Int)].map (Value.int .u8)):=by rw[<- A];exact JG b 2 2 5 rfl (A' _) rfl
 have d1:=u.trans (N.mono u.size);have a:=(N.block _ g).trans i;have d:=Z' g N.size;have l:=j.af N;clear g i j;have q:f.cell? ⟨w.heap.size,0,none⟩=some (.int .i64 p):=cell_of_row _ _ 0 _ _ _ a;have r:f.cell? ⟨w.heap.size,1,none⟩=some (.int .i64 o):=cell_of_row _ _ 1 _ _ _ a;have t:f.cell? ⟨w.heap.size,2,none⟩=some (.int .i64 m):=cell_of_row _ _ 2 _ _ _ a;obtain⟨K,B⟩:∃ K,f.alloc (.cells #[.int .i64 p,.int .i64 o,.int .i64 m] 3)=K:=⟨_,rfl⟩;have M:Bw f K:=by rw[<- B];exact Co _ _
 have rn:K.heap[f.heap.size]?=some (.cells ([p,o,m].map (Value.int .i64)).toArray 3):=by rw[<- B];exact heap_alloc_new _ _
 have z1:b.heap.size<=K.heap.size:=me N.size M.size;have d2:=d1.trans (M.mono d1.size);have Y:=(M.block _ d).trans a;have V:=Z' d M.size;have Z:=l.af M;have h:=DG W (λk U=>M.block k (W.lt k U).2);clear d a l W;go_enter func193,ntmps193
 go_wp2_with fail
 clear z A B q r t;refine(Gy (.slice (some ⟨b.heap.size,0,none⟩) 1 1) [2] [p,o,m] b.heap.size f.heap.size K h z1 (by simp) (by simp) (by intro x P;simp at P;omega) rn).mono ?_;rintro e w3 ⟨v3,rfl,S,T⟩;have d3:=d2.trans (T.mono u.size);have Q:=P.af d3;have z3:b.heap.size<=w3.heap.size:=me z1 T.size;have O:=S.lt;have R:Hid ([2]++Dj [p,o,m]++D2 G F I H J=Bk ⟨p,⟨o,m⟩,⟨G,F,I,H,J⟩⟩):=rfl;have D:([(2:Int)]++Dj [p,o,m]).length+(D2 G F I H J).length<=140737488355328:=by show 33<=_;decide
 generalize hL:[(2:Int)]++Dj [p,o,m]=L at S R D;generalize hC:D2 G F I H J=C at Q R D;clear hL hC rn T h;go_wp2_with (at_builtin;refine Aa _ rfl _ _ 26 rfl b.heap.size 5 underlying26 Av _ _ rfl rfl L C S Q D z3 ?_)
 intro v4 w4 o4 g4;have d4:Bw w w4:=d3.grown g4 (me u.size z3) (λk U=>me u.size (O k U).1);have HO:Hid (w4.ownsRow w.heap.size 5 1 v4 33 ((Bk ⟨p,⟨o,m⟩,⟨G,F,I,H,J⟩⟩).map (Value.int .u8))):=by
  have X:w4.ownsRow b.heap.size 5 1 v4 (L++C).length ((L++C).map (Value.int .u8)):=by simpa using o4
  have:=FR X u.size;rw[R.out]at this
  exact this
 clear o4 g4 S O R;go_wp2
 go_ret;exact⟨_,rfl,HO.out,d4⟩
variable{B b k:Nat}{E s:Int}{d:List Int}{f:Cmd->Option Bal}{g:Gh}{v:Vt}{w:World}{x:S3}{τ:Tg}
theorem Nb.mono{C:Nat}{y:S3}{l:List Int}(h:Nb B y l)(c:C<=B):Nb C y l:=λd a b=>me c (h d a b)
theorem ao{y:Value}{l:List Vt}(b:Sv w y l):∃ z:S3,y=z.v:=by
 obtain⟨a,c,rfl⟩:=b.shape;exact⟨⟨a,l.length,c⟩,rfl⟩
theorem kL(w:World):Sv w (.slice none 0 0) []:=⟨⟨none,0,rfl,A' _,λ_=>rfl,.inl rfl⟩,by simp⟩
theorem iw{b:Bal}(d:NTab w){E:Int}(c:(if Ab b then 0 else 2)=E) :
  Calls prog 139 #[.agg #[iv 0,iv 0,S3.v s30],.agg #[iv b.r,iv b.n]] w λe w'=>∃ (r n:Int) (y z:S3),e=.returned (.tuple #[.agg #[iv r,iv n,y.v],z.v,iv E])/\Bw w w':=by
 refine(QK ⟨0,0⟩ (.slice none 0 0) [] b w (kL w) d).mono ?_;rintro e w' ⟨y,z,rfl,g,h,f⟩;obtain⟨y,rfl⟩:=ao g;obtain⟨z,rfl⟩:=ao h;have a:Cj ⟨⟨0,0⟩,[]⟩ b=E:=(dG b).trans c;rw[a];exact⟨_,_,y,z,rfl,f⟩
theorem ET{may:Prop}[Decidable may]{b:List Int}(h:CG d s may b=E)(a:E≠0):FU d s may b=[]/\GJ d s may b=0:=⟨if_neg (by rw[h];exact a),if_neg (by rw[h];exact a)⟩
theorem ZS{b:Bal}(a:Ab b){w:World}:Calls prog 175 #[.agg #[iv b.r,iv b.n]] w λe w'=>∃ y:S3,e=.returned y.v/\Sl w' y.v (Bu b)/\Bw w w':=by
 refine(Pw b a w).mono ?_;rintro e w' ⟨y,rfl,c,h⟩;obtain⟨z,rfl,d⟩:=Pd (l:=Bu b) c (by rw[show(Bu b).length=9 from rfl];decide) (Wk b);exact⟨z,rfl,d,h⟩
theorem Ve{v:S3}{b:List Int}(s:Int){w:World}(h:Sl w x.v d)(c:Sl w v.v b)(a:b.length<=255)(m:d.length+5+b.length<=100000)(i:AJ w) :
  Calls prog 174 #[.agg #[x.v,iv s],v.v] w λe w'=>∃ y:S3,e=.returned (.tuple #[.agg #[y.v,iv s],iv 0])/\Sl w' y.v (d++AM b)/\Nb w.heap.size y (d++AM b)/\Bw w w':=by
 refine(ML x.v d s v.v b w h c a (by omega) i).mono ?_;rintro e w' ⟨y,rfl,g,j⟩;obtain⟨z,rfl,l,f⟩:=J1 g (by rw[H',Bj];omega) (λx k=>(Q'.1 k).elim (h.byte x) (Mc c.byte a x));exact⟨z,rfl,l,f,j⟩
theorem fN(f:NTab w){E:Int}(d:(if Ah v then 0 else 2)=E) :
  Calls prog 141 #[.agg #[iv 0,iv 0,S3.v s30],.agg #[iv v.bt,iv v.b.r,iv v.b.n,iv v.w.k,iv v.w.c,iv v.w.s,iv v.w.n,iv v.w.v]] w λe w'=>∃ (r n:Int) (y:S3),e=.returned (.tuple #[.agg #[iv r,iv n,y.v],iv E])/\Bw w w':=by
 refine(R4 ⟨0,0⟩ (.slice none 0 0) [] v w (kL w) f).mono ?_;rintro e w' ⟨y,rfl,h,g⟩;obtain⟨y,rfl⟩:=ao h;have a:Ba ⟨⟨0,0⟩,[]⟩ v=E:=(eM v).trans d;rw[a];exact⟨_,_,y,rfl,g⟩
theorem Ya{m:Cmd}(f:NTab w)(d:m.e=0) :
  Calls prog 15 #[.agg #[iv m.k,iv m.c,iv m.s,iv m.n,iv m.v]] w λe w'=>∃ y:S3,e=.returned (.tuple #[y.v,iv 0])/\Sl w' y.v (D2 m.k m.c m.s m.n m.v)/\Bw w w':=by
 refine(RY m.k m.c m.s m.n m.v w f).mono ?_;rintro e w' ⟨y,rfl,b,g⟩;have a:Bh m.k m.c m.s m.n m.v=0:=d;rw[Ue a]at b
 rw[a];obtain⟨y,rfl,h⟩:=Pd b (by rw[DQ];decide) (Jp _ _ _ _ _);exact⟨y,rfl,h,g⟩
theorem aq(d:Ah v){x:S3}{w:World}(f:Sl w x.v (D2 v.w.k v.w.c v.w.s v.w.n v.w.v)) :
  Calls prog 193 #[.agg #[iv v.bt,iv v.b.r,iv v.b.n,iv v.w.k,iv v.w.c,iv v.w.s,iv v.w.n,iv v.w.v],x.v] w λe w'=>∃ y:S3,e=.returned y.v/\Sl w' y.v (Bk v)/\Bw w w':=by
 refine(Pz v d x.v w f).mono ?_;rintro e w' ⟨y,rfl,a,h⟩;obtain⟨z,rfl,g⟩:=Pd (l:=Bk v) a (by rw[GF];decide) (WZ v);exact⟨z,rfl,g,h⟩
theorem ZG(h:G3 d s k=0):d.length+k<=100000:=by
 unfold G3 at h;split at h
 .cases h
 .split at h
  .cases h
  .omega
theorem Kr{b:Bal}(h:Sl w x.v d)(hT:AJ w)(hN:NTab w) :
  Calls prog 140 #[.agg #[x.v,iv s],.agg #[iv b.r,iv b.n]] w λe w'=>∃ y:S3,e=.returned (.tuple #[.agg #[y.v,iv (GJ d s (Ab b) (Bu b))],iv (CG d s (Ab b) (Bu b))])/\Sl w' y.v (FU d s (Ab b) (Bu b))/\Nb w.heap.size y (FU d s (Ab b) (Bu b))/\Bw w w':=by
 obtain⟨j,q⟩:∃ j,G3 d s 14=j:=⟨_,rfl⟩;obtain⟨m,k⟩:∃ m:Int,(if Ab b then 0 else 2)=m:=⟨_,rfl⟩;have hW:CG d s (Ab b) (Bu b)=if j≠0 then j else m:=by rw[<- q,<- k];rfl
 refine kIn func140 (kR 11 [0,0,0,0,1,0,0] λa w1 U=>kC 1 ((q▸Hl x.v d s 14 (by decide) _ (h.af U))) ?_);rintro _ w2 ⟨rfl,Y⟩;refine⟨_,rfl,Y,?_⟩;refine kR 7 [] λd2 w3 b3=>?_;by_cases o:j≠0
 .refine kI ((j != 0)) true (by simpa using o) (kF 7 [2,0] λd3 w4 b4 q4=>?_);have c:=hW.trans (if_pos o);rw[c,(ET c o).1,(ET c o).2];have B5:=((btr (btr U Y) b3).trans b4);exact qE2 4 5 130 2 (a 2) #[S3.v s30,iv 0] (iv j) λK=>⟨s30,rfl,Np _,λh=>absurd rfl h,B5⟩
 .refine kI ((j != 0)) false (by simpa using o) ?_;have a0:j=0:=by simpa using o
  have hd:=ZG (q.trans a0);refine kR 6 [1] λd4 w6 b6=>?_;have P:=(btr (btr (btr U Y) b3) b6);refine kC 2 (iw (hN.af P) k) ?_;rintro _ w8 ⟨r,n,ya,za,rfl,Q⟩;refine⟨_,rfl,Q,?_⟩;refine kR 14 [1,0,3,0] λa5 w9 b9=>?_;by_cases E:m≠0
  .refine kI ((m != 0)) true (by simpa using E) (kF 7 [2,0] λa8 c2 V c1=>?_);have c:=hW.trans (if_neg o);rw[c,(ET c E).1,(ET c E).2];have R:=((btr (btr P Q) b9).trans V);exact qE2 4 5 130 2 (a 2) #[S3.v s30,iv 0] (iv m) λK=>⟨s30,rfl,Np _,λh=>absurd rfl h,R⟩
  .refine kI ((m != 0)) false (by simpa using E) ?_;have F:m=0:=by simpa using E
   have p:Ab b:=by by_cases g:Ab b;exact g;rw[if_neg g,F]at k;cases k
   have c:CG d s (Ab b) (Bu b)=0:=hW.trans ((if_neg o).trans F);rw[c,show FU d s (Ab b) (Bu b)=d++AM (Bu b)from if_pos c,show GJ d s (Ab b) (Bu b)=s from if_pos c];refine kR 4 [2,2,1] λa9 c3 t=>jD 33 (λw' e L=>∃ (y:S3),e=[(4,pt (a 2) 0),(5,iv 0)]/\L=[⟨(a 0),.cells #[S3.v x,iv s] 130,.z,false⟩,⟨(a 1),.cells #[iv b.r,iv b.n] 111,.z,false⟩,⟨(a 2),.cells #[S3.v y,iv s] 130,.l,false⟩,⟨(a5 0),.cells #[iv r,iv n,S3.v ya] 114,.l,false⟩]/\Sl w' y.v (d++AM (Bu b))/\Nb w.heap.size y (d++AM (Bu b))/\Bw w w') ?_ ?_
   .intro J hJ;refine jF 0 2 ?_ ?_
    .refine kR 1 [0] λb0 c4 W=>kC 2 (ZS p) ?_;rintro _ c5 ⟨a6,rfl,G,u⟩;refine⟨_,rfl,u,?_⟩;have f:=(btr (btr (btr (btr (btr P Q) b9) t) W) u);refine kC 3 (Ve s (h.af f) G (by rw[show(Bu b).length=9 from rfl];decide) (by rw[show(Bu b).length=9 from rfl];omega) (hT.af f)) ?_;rintro _ c6 ⟨a3,rfl,N,I,A⟩;refine⟨_,rfl,A,?_⟩;refine kF 5 [8,10,13,2,0,14] λb5 c7 X a1=>?_;have S:=((btr f A).trans X);exact kB [true,true,true,true] λz K=>hJ _ _ z _ ⟨a3,rfl,rfl,(N.kept a1),I.mono f.size,S⟩ K
    .refine kC 2 (ZS p) ?_;rintro _ c8 ⟨a7,rfl,H,B⟩;refine⟨_,rfl,B,?_⟩;refine kR 1 [1,0] λb7 c9 C=>?_;have i:=(btr (btr (btr (btr (btr P Q) b9) t) B) C);refine kC 3 (Ve s (h.af i) (H.af C) (by rw[show(Bu b).length=9 from rfl];decide) (by rw[show(Bu b).length=9 from rfl];omega) (hT.af i)) ?_;rintro _ d0 ⟨a4,rfl,O,M,D⟩;refine⟨_,rfl,D,?_⟩;refine kF 5 [8,10,13,2,0,14] λc0 d1 Z a2=>?_;have T:=((btr i D).trans Z);exact kB [true,true,true,true] λz K=>hJ _ _ z _ ⟨a4,rfl,rfl,(O.kept a2),M.mono i.size,T⟩ K
   .rintro w13 _ z13 _ ⟨y,rfl,rfl,hy,hn,hb⟩;exact qE2 4 5 130 2 (a 2) #[S3.v y,iv s] (iv 0) λK=>⟨y,rfl,hy,hn,hb⟩
theorem Rh(h:Sl w x.v d)(hT:AJ w)(hN:NTab w) :
  Calls prog 166 #[.agg #[x.v,iv s],.agg #[iv v.bt,iv v.b.r,iv v.b.n,iv v.w.k,iv v.w.c,iv v.w.s,iv v.w.n,iv v.w.v]] w λe w'=>∃ y:S3,e=.returned (.tuple #[.agg #[y.v,iv (GJ d s (Ah v) (Bk v))],iv (CG d s (Ah v) (Bk v))])/\Sl w' y.v (FU d s (Ah v) (Bk v))/\Nb w.heap.size y (FU d s (Ah v) (Bk v))/\Bw w w':=by
 obtain⟨p,D⟩:∃ p,G3 d s 38=p:=⟨_,rfl⟩;obtain⟨u,t⟩:∃ u:Int,(if Ah v then 0 else 2)=u:=⟨_,rfl⟩;have hW:CG d s (Ah v) (Bk v)=if p≠0 then p else u:=by rw[<- D,<- t];rfl
 refine kIn func166 (kR 11 [0,0,0,0,1,0,0] λa w1 b1=>kC 1 ((D▸Hl x.v d s 38 (by decide) _ (h.af b1))) ?_);rintro _ w2 ⟨rfl,b2⟩;refine⟨_,rfl,b2,?_⟩;refine kR 7 [] λd9 w3 b3=>?_;by_cases A:p≠0
 .refine kI ((p != 0)) true (by simpa using A) (kF 7 [2,0] λe0 w4 b4 q4=>?_);have i:=hW.trans (if_pos A);rw[i,(ET i A).1,(ET i A).2];have B5:=((btr (btr b1 b2) b3).trans b4);exact qE2 4 5 130 2 (a 2) #[S3.v s30,iv 0] (iv p) λK=>⟨s30,rfl,Np _,λh=>absurd rfl h,B5⟩
 .refine kI ((p != 0)) false (by simpa using A) ?_;have a4:p=0:=by simpa using A
  have hd:=ZG (D.trans a4);refine kR 6 [1] λe1 w6 b6=>?_;have Z:=(btr (btr (btr b1 b2) b3) b6);refine kC 2 (fN (hN.af Z) t) ?_;rintro _ w8 ⟨r,n,ya,rfl,b8⟩;refine⟨_,rfl,b8,?_⟩;refine kR 12 [1,0,3,0] λa9 w9 b9=>?_;by_cases N:u≠0
  .refine kI ((u != 0)) true (by simpa using N) (kF 7 [2,0] λb7 c7 a0 c6=>?_);have i:=hW.trans (if_neg A);rw[i,(ET i N).1,(ET i N).2];have W:=((btr (btr Z b8) b9).trans a0);exact qE2 4 5 130 2 (a 2) #[S3.v s30,iv 0] (iv u) λK=>⟨s30,rfl,Np _,λh=>absurd rfl h,W⟩
  .refine kI ((u != 0)) false (by simpa using N) ?_;have O:u=0:=by simpa using N
   have f:Ah v:=by by_cases g:Ah v;exact g;rw[if_neg g,O]at t;cases t
   refine kR 5 [1] λc0 c8 a1=>?_;have B:=(btr (btr (btr Z b8) b9) a1);refine kC 2 (Ya (m:=v.w) (hN.af B) f.2.2) ?_;rintro _ c9 ⟨yc,rfl,V,C⟩;refine⟨_,rfl,C,?_⟩;refine kR 18 [3,2,1,4] λc1 d0 q=>?_;have i:CG d s (Ah v) (Bk v)=0:=hW.trans ((if_neg A).trans O);rw[i,show FU d s (Ah v) (Bk v)=d++AM (Bk v)from if_pos i,show GJ d s (Ah v) (Bk v)=s from if_pos i];refine jD 44 (λw' e L=>∃ (y:S3),e=[(4,pt (a 2) 0),(5,iv 0)]/\L=[⟨(a 0),.cells #[S3.v x,iv s] 130,.z,false⟩,⟨(a 1),.cells #[iv v.bt,iv v.b.r,iv v.b.n,iv v.w.k,iv v.w.c,iv v.w.s,iv v.w.n,iv v.w.v] 177,.z,false⟩,⟨(a 2),.cells #[S3.v y,iv s] 130,.l,false⟩,⟨(a9 0),.cells #[iv r,iv n,S3.v ya] 114,.l,false⟩]/\Sl w' y.v (d++AM (Bk v))/\Nb w.heap.size y (d++AM (Bk v))/\Bw w w') ?_ ?_
   .intro J hJ;refine jF 0 3 ?_ ?_
    .refine kR 1 [0] λc2 d1 E=>kC 3 (aq f ((V.af q).af E)) ?_;rintro _ d2 ⟨b0,rfl,P,F⟩;refine⟨_,rfl,F,?_⟩;have j:=(btr (btr (btr (btr B C) q) E) F);refine kC 4 (Ve s (h.af j) P (by rw[show(Bk v).length=33 from rfl];decide) (by rw[show(Bk v).length=33 from rfl];omega) (hT.af j)) ?_;rintro _ d3 ⟨a7,rfl,T,R,G⟩;refine⟨_,rfl,G,?_⟩;refine kF 5 [10,12,15,2,0,16] λc3 d4 a2 a5=>?_;have X:=((btr j G).trans a2);exact kB [true,true,true,true] λz K=>hJ _ _ z _ ⟨a7,rfl,rfl,(T.kept a5),R.mono j.size,X⟩ K
    .refine kC 3 (aq f (V.af q)) ?_;rintro _ d5 ⟨b5,rfl,Q,H⟩;refine⟨_,rfl,H,?_⟩;refine kR 1 [1,0] λc4 d6 I=>?_;have o:=(btr (btr (btr (btr B C) q) H) I);refine kC 4 (Ve s (h.af o) (Q.af I) (by rw[show(Bk v).length=33 from rfl];decide) (by rw[show(Bk v).length=33 from rfl];omega) (hT.af o)) ?_;rintro _ d7 ⟨a8,rfl,U,S,M⟩;refine⟨_,rfl,M,?_⟩;refine kF 5 [10,12,15,2,0,16] λc5 d8 a3 a6=>?_;have Y:=((btr o M).trans a3);exact kB [true,true,true,true] λz K=>hJ _ _ z _ ⟨a8,rfl,rfl,(U.kept a6),S.mono o.size,Y⟩ K
   .rintro w17 _ z17 _ ⟨y,rfl,rfl,hy,hn,hb⟩;exact qE2 4 5 130 2 (a 2) #[S3.v y,iv s] (iv 0) λK=>⟨y,rfl,hy,hn,hb⟩
def cmG(c:Cmd):Value:=.agg #[iv c.k,iv c.c,iv c.s,iv c.n,iv c.v]
theorem Uy(x:Cmd × Bal × Nat):(mkA x).key=cmG x.1:=rfl
theorem Yd(u v:Cmd)(w:World):(Op.equal 24 (cmG u) (cmG v)).run prog w=.ok (decide (u=v)) w:=by
 have a:=Uf u.k u.c u.s u.n u.v v.k v.c v.s v.n v.v w;rw[TX]at a
 rw[run_eql_struct]at a
 show(Op.equalIn 10000 _ _ _).run _ _=_;simp only[cmG];cases hr:(Op.equalIn 10000 24 (.agg #[iv u.k,iv u.c,iv u.s,iv u.n,iv u.v]) (.agg #[iv v.k,iv v.c,iv v.s,iv v.n,iv v.v])).run prog w with
 | ok b w'=>simp only[hr]at a;simp[Result.andThen]at a;rw[a.1,a.2]
 | _=>simp only[hr]at a;simp[Result.andThen]at a
abbrev Ask:=Cmd × Bal × Nat
def Lx(v:Cmd):List Ask->Nat->Option (Nat × Value)
 | [],_=>none
 | x::c,i=>if v=x.1 then some (i,(mkA x).val)else Lx v c (i+1)
theorem Nv(v:Cmd)(w:World):∀ (c:List Ask) (i:Nat),(Instr.findAsking 24 (cmG v) (c.map mkA) i).run prog w=.ok (Lx v c i) w
 | [],i=>by simp[Instr.findAsking,Lx]
 | x::c,i=>by
  have h:=Yd v x.1 w;rw[mO,Instr.findAsking,Sem.run_bind];rw[Uy,h,Result.andThen_ok,Lx];by_cases e:v=x.1
  .rw[O' e,if_pos e];rfl
  .rw[E' e,if_neg e];simpa using Nv v w c (i+1)
theorem GQ(v:Cmd)(w:World)(c:List Ask):(Instr.findKey 24 (cmG v) (c.map mkA)).run prog w=.ok (Lx v c 0) w:=by
 rw[Instr.findKey,Sem.run_bind,run_underlying underlying24 w,Result.andThen_ok];cases c with
 | nil=>simp[Instr.findNow,Lx]
 | cons x c =>
  show Sem.run _ (match(none:Option (Option (Nat × Value)))with|some r=>pure r|none=>Instr.findAsking 24 (cmG v) ((x::c).map mkA)) w=_;exact Nv v w (x::c) 0
theorem Fd(a:Bool)(v:Cmd)(w:World):(Instr.checkKey a 10000 24 (cmG v)).run prog w=.ok () w:=by
 obtain⟨k,c,q,m,x⟩:=v;kernel_rfl
theorem dZ(v:Cmd)(n:Nat):Instr.sameBits (n+1) (cmG v) (cmG v)=true:=by simp[Instr.sameBits,cmG]
theorem ZU(v:Cmd)(w:World):(Instr.keyThatStays (cmG v) (cmG v)).run prog w=.ok (cmG v) w:=by
 rw[Instr.keyThatStays,if_pos (dZ v 9999)];rfl
def FY(c:List Ask)(v:Cmd):Option Bal:=(c.find? λx=>decide (v=x.1)).map (·.2.1)
theorem KN(v:Cmd):∀ (c:List Ask) (i:Nat),(Lx v c i=none/\FY c v=none/\∀ x∈c,v≠x.1)\/∃ a x b,c=a++x::b/\x.1=v/\(∀ y∈a,v≠y.1)/\Lx v c i=some (i+a.length,(mkA x).val)/\FY c v=some x.2.1
 | [],i=>.inl ⟨rfl,rfl,λx hx=>by cases hx⟩
 | x::c,i=>by
  by_cases e:v=x.1
  .refine .inr ⟨[],x,c,rfl,e.symm,λy hy=>(P' hy).elim,?_,?_⟩
   .rw[Lx,if_pos e];rfl
   .simp[FY,e]
  .rcases KN v c (i+1)with⟨h1,h2,h3⟩|⟨a,y,b,rfl,hy,h3,h4,h5⟩
   .refine .inl ⟨by rw[Lx,if_neg e,h1],?_,λy hy=>?_⟩
    .rw[<- h2];simp[FY,e]
    .rcases mn.1 hy with rfl|hy
     .exact e
     .exact h3 y hy
   .refine .inr ⟨x::a,y,b,rfl,hy,λz hz=>?_,?_,?_⟩
    .rcases mn.1 hz with rfl|hz
     .exact e
     .exact h3 z hz
    .rw[Lx,if_neg e,h4];simp;omega
    .rw[<- h5];simp[FY,e]
def Kx(b:Bal):Value:=.agg #[iv b.r,iv b.n]
theorem fD(h:AskAt g w τ b f)(v:Cmd)(ok:Bool):(Instr.lookup 125 (.map (some b)) (cmG v) ok).run prog w=.ok (if ok then .tuple #[Kx ((f v).getD Be),.bool (f v).isSome]else Kx ((f v).getD Be)) w:=by
 obtain⟨_,_,c,k,j,_,_,_,l⟩:=h;have e:f v=FY c v:=l v;have i:(getObj b).run prog w=.ok (.map (c.map mkA).toArray k) w:=by simp[getObj,Sem.run,j]
 rcases KN v c 0 with⟨h1,h2,_⟩|⟨a,x,d,_,_,_,h1,h2⟩
 .rw[h2]at e
  cases ok<;>simp[Instr.lookup,run_underlying underlying125,i,Fd,GQ,h1,e,Kx,Be]
 .rw[h2]at e
  cases ok<;>simp[Instr.lookup,run_underlying underlying125,i,Fd,GQ,h1,e,mkA,Kx]
theorem Cg.block{T:List Tg}{m:Array MapEntry}(f:w.heap[b]?=some (.map m k))(r:g.t b=τ)(q:g.k b=0)(d:τ∈T)(o:Obj):Cg B T g w g (ChangeMaps.setBlock w b o) :=
 have c:∀ a,g.t a∉T->a≠b:=λa h e=>h (by rw[e,r];exact d)
 ⟨rfl,rfl,rfl,by simp[ChangeMaps.setBlock],λ_ _=>.inl rfl,λ_ _=>A' _,λ_ _ _ _=>rfl,λa _ h _=>ChangeMaps.heap_setBlock_other f o (c a h),
  λa _ j p=>World.cell?_of_block (w:=w) (ChangeMaps.heap_setBlock_other f o (λe=>by have i:a=b:=e;rw[i,q]at p;omega))⟩
theorem V5(c:List Ask)(v u:Cmd)(x:Bal)(k:Nat)(h:∀ y∈c,v≠y.1):FY (c++[(v,x,k)]) u=if u=v then some x else FY c u:=by
 unfold FY;rw[nI];by_cases e:u=v
 .subst e;have a:c.find? (λy=>decide (u=y.1))=none:=by
   rw[nv];intro y b;simp[h y b]
  simp[a]
 .rw[if_neg e];simp[e]
theorem Yg(a d:List Ask)(v u:Cmd)(x y:Bal)(k:Nat)(h:∀ y∈a,v≠y.1):FY (a++(v,y,k)::d) u=if u=v then some y else FY (a++(v,x,k)::d) u:=by
 unfold FY;rw[nI,nI,oM,oM];by_cases e:u=v
 .subst e;have b:a.find? (λy=>decide (u=y.1))=none:=by
   rw[nv];intro y c;simp[h y c]
  simp[b]
 .rw[if_neg e];simp[e]
theorem Yh(a d:List Ask)(v u:Cmd)(x:Bal)(k:Nat)(h:∀ y∈a,v≠y.1)(f:∀ y∈d,v≠y.1):FY (a++d) u=if u=v then none else FY (a++(v,x,k)::d) u:=by
 unfold FY;rw[nI,nI,oM];by_cases e:u=v
 .subst e;have g:a.find? (λy=>decide (u=y.1))=none:=by
   rw[nv];intro y c;simp[h y c]
  have b:d.find? (λy=>decide (u=y.1))=none:=by
   rw[nv];intro y c;simp[f y c]
  simp[g,b]
 .rw[if_neg e];simp[e]
theorem bC(h:AskAt g w τ b f)(v:Cmd)(x:Bal):∃ w',(Instr.mapUpdate 125 (.map (some b)) (cmG v) (Kx x)).run prog w=.ok () w'/\AskAt g w' τ b (BU f v (some x))/\(∀ B T,τ∈T->Cg B T g w g w')/\w'.heap.size=w.heap.size:=by
 obtain⟨s,j,c,k,l,m,n,o,E⟩:=h;have F:(getObj b).run prog w=.ok (.map (c.map mkA).toArray k) w:=by simp[getObj,Sem.run,l]
 rcases KN v c 0 with⟨h1,h2,h3⟩|⟨a,y,d,rfl,hy,h3,h1,h2⟩
 .have C:=MapKept.run_setObj_map (P:=prog) (w:=w) (.map ((c++[(v,x,k)]).map mkA).toArray (k+1)) l;refine⟨_,?_,⟨s,j,c++[(v,x,k)],k+1,ChangeMaps.heap_setBlock_same l (.map ((c++[(v,x,k)]).map mkA).toArray (k+1)),?_,?_,?_,?_⟩,λB T t=>Cg.block l s j t _,by simp[ChangeMaps.setBlock]⟩
  .have z:((c.map mkA).toArray.push { key:=cmG v,val:=Kx x,born:=k })=((c++[(v,x,k)]).map mkA).toArray:=by simp[mkA,cmG,Kx,cmV]
   rw[Instr.mapUpdate];simp only[Sem.run_bind,run_underlying underlying125,Result.andThen_ok,F,Fd,GQ,h1,z,C];rfl
  .intro y hy;rcases Q'.1 hy with hy|hy
   .have:=m y hy;omega
   .obtain rfl:y=(v,x,k):=by simpa using hy
    show k<k+1;omega
  .rw[mH,om];refine⟨n,by simp,?_⟩;intro p A q r;obtain⟨y,hy,rfl⟩:=mz.1 A;obtain rfl:q=k:=by simpa using r
   have:=m y hy;omega
  .rw[mH,om];refine⟨o,by simp,?_⟩;intro p A q r;obtain⟨y,hy,rfl⟩:=mz.1 A;obtain rfl:q=v:=by simpa using r
   exact λe=>h3 y hy e.symm
  .intro u;rw[show(List.find? (λx=>decide (u=x.1)) (c++[(v,x,k)])).map (·.2.1)=FY (c++[(v,x,k)]) u from rfl,V5 c v u x k h3];unfold BU;split
   .rfl
   .exact E u
 .obtain⟨yv,yb,yk⟩:=y;simp only at hy;subst hy;have C:=MapKept.run_setObj_map (P:=prog) (w:=w) (.map ((a++(yv,x,yk)::d).map mkA).toArray k) l;refine⟨_,?_,⟨s,j,a++(yv,x,yk)::d,k,ChangeMaps.heap_setBlock_same l (.map ((a++(yv,x,yk)::d).map mkA).toArray k),?_,?_,?_,?_⟩,λB T t=>Cg.block l s j t _,by simp[ChangeMaps.setBlock]⟩
  .have hx:((a++(yv,yb,yk)::d).map mkA).toArray[a.length]?=some (mkA (yv,yb,yk)):=by simp
   have z:(((a++(yv,yb,yk)::d).map mkA).toArray.modify a.length λe=>{ e with key:=cmG yv,val:=Kx x })=((a++(yv,x,yk)::d).map mkA).toArray:=by
    apply nL;intro i;rw[oN];split
    .rename_i hi
     subst hi;simp[mkA,cmG,Kx,cmV]
    .rename_i hi
     simp only[m5,mH,mO];rcases mX i a.length with g|g
     .rw[mr (by simpa using g),mr (by simpa using g)]
     .rw[mw (by simpa using g),mw (by simpa using g)];obtain⟨q,r⟩:∃ q,i-(a.map mkA).length=q+1:=⟨i-a.length-1,by simp;omega⟩;rw[r];rfl
   have D:=ZU yv w;rw[Instr.mapUpdate];simp only[Sem.run_bind,run_underlying underlying125,Result.andThen_ok,F,Fd,GQ,h1,mR,hx,mY,p9];rw[Uy,D,Result.andThen_ok,z,C];rfl
  .intro y hy;rcases Q'.1 hy with hy|hy
   .exact m y (mi _ hy)
   .rcases mn.1 hy with rfl|hy
    .exact m (yv,yb,yk) (by simp)
    .exact m y (mg _ (I' _ hy))
  .simpa using n
  .simpa using o
  .intro u;rw[show(List.find? (λx=>decide (u=x.1)) (a++(yv,x,yk)::d)).map (·.2.1)=FY (a++(yv,x,yk)::d) u from rfl,Yg a d yv u yb x yk h3];unfold BU;split
   .rfl
   .exact E u
theorem bB(h:AskAt g w τ b f)(v:Cmd)(A:TypeId):∃ w',(Builtin.delete_ #[125,24] A #[.map (some b),cmG v]).run prog w=.ok (.tuple #[]) w'/\AskAt g w' τ b (BU f v none)/\(∀ B T,τ∈T->Cg B T g w g w')/\w'.heap.size=w.heap.size:=by
 obtain⟨n,j,c,k,l,p,m,i,s⟩:=h;have t:(getObj b).run prog w=.ok (.map (c.map mkA).toArray k) w:=by simp[getObj,Sem.run,l]
 rcases KN v c 0 with⟨h1,h2,h3⟩|⟨a,y,d,rfl,hy,h3,h1,h2⟩
 .have q:=MapKept.run_setObj_map (P:=prog) (w:=w) (.map (c.map mkA).toArray k) l;refine⟨_,?_,⟨n,j,c,k,ChangeMaps.heap_setBlock_same l (.map (c.map mkA).toArray k),p,m,i,?_⟩,λB T o=>Cg.block l n j o _,by simp[ChangeMaps.setBlock]⟩
  .simp[Builtin.delete_,run_underlying underlying125,t,Fd,GQ,h1,q];rfl
  .intro u;unfold BU;split
   .rename_i e;rw[e];exact h2.symm
   .exact s u
 .obtain⟨yv,yb,yk⟩:=y;simp only at hy;subst hy;have q:=MapKept.run_setObj_map (P:=prog) (w:=w) (.map ((a++d).map mkA).toArray k) l;have z:∀ y∈d,yv≠y.1:=by
   intro y hy e;rw[mH,mO,om]at i
   exact(oq.1 i.2.1).1 (mz.2 ⟨y,hy,e.symm⟩)
  refine⟨_,?_,⟨n,j,a++d,k,ChangeMaps.heap_setBlock_same l (.map ((a++d).map mkA).toArray k),?_,?_,?_,?_⟩,λB T o=>Cg.block l n j o _,by simp[ChangeMaps.setBlock]⟩
  .have he:(((a++(yv,yb,yk)::d).map mkA).toArray.eraseIdxIfInBounds a.length)=((a++d).map mkA).toArray:=by
    rw[Array.eraseIdxIfInBounds,dif_pos (by simp)];simp[List.eraseIdx_append_of_length_le]
   have r:=GQ yv w (a++(yv,yb,yk)::d);rw[h1,mR]at r
   simp only[Builtin.delete_,m5,nu,o8,Sem.run_bind,run_underlying underlying125,Result.andThen_ok,t,Fd,r,he,q];rfl
  .intro y hy;rcases Q'.1 hy with hy|hy
   .exact p y (mi _ hy)
   .exact p y (mg _ (I' _ hy))
  .rw[mH,mO]at m
   rw[mH];exact m.sublist (List.Sublist.append_left (List.sublist_cons_self _ _) _)
  .rw[mH,mO]at i
   rw[mH];exact i.sublist (List.Sublist.append_left (List.sublist_cons_self _ _) _)
  .intro u;rw[show(List.find? (λx=>decide (u=x.1)) (a++d)).map (·.2.1)=FY (a++d) u from rfl,Yh a d yv u yb yk h3 z];unfold BU;split
   .rfl
   .exact s u
end
section
variable{fn:Func}{R:Ending->World->Prop}{B:Nat}{T:List Tg}{g:Gh}{w:World}
section
variable{b:Nat}{f:Cmd->Option Bal}{g:Gh}{s:Xs}{w:World}{τ:Tg}
theorem ZA(h:AskAt g w τ b f)(v:Cmd):(Instr.lookup 125 (.map (some b)) (cmG v) true).run prog w=.ok (.tuple #[Kx ((f v).getD Be),.bool (f v).isSome]) w:=fD h v true
theorem iA(h:AskAt g w τ b f)(v:Cmd):(Instr.lookup 125 (.map (some b)) (cmG v) false).run prog w=.ok (Kx ((f v).getD Be)) w:=fD h v false
theorem Ul(c:Nat){τ:Tg}{b:Nat}{f:Cmd->Option Bal}(v:Cmd)(x:Bal)(h:AskAt g w τ b f)(a:Dx s c=some (Instr.mapUpdate 125 (.map (some b)) (cmG v) (Kx x)>>=λ_=>pure .skip))(d:(nxt s c undef s.L).o.map Ob.l'=(nxt s c undef s.L).o.map Ob.r')(r:s.L.all (λy=>[τ].all λt=>y.t.ne t)=true)(u:∀ w',AskAt g w' τ b (BU f v (some x))->(∀ B T,τ∈T->Cg B T g w g w')->GG prog fn R B T (nxt s c undef s.L).s g w'):GG prog fn R B T s g w:=by
 refine L5 c s.L d (Cn a) λk C i o e=>?_;obtain⟨w',A,p,j,q⟩:=bC h v x;refine⟨undef,w',g,.inr ⟨?_,rfl⟩,k.ch (j _ [τ] (D'.2 rfl)) (λb m=>k.new b (by rw[q]at m;exact m)) r,u w' p j⟩;rw[DM a e,Sem.run_bind,A,Result.andThen_ok];rfl
theorem cC(c:Nat){τ:Tg}{b:Nat}{f:Cmd->Option Bal}(v:Cmd)(p:TypeId)(h:AskAt g w τ b f)(a:Dx s c=some (Builtin.delete_ #[125,24] p #[.map (some b),cmG v]>>=λv=>pure (.value v)))(d:(nxt s c undef s.L).o.map Ob.l'=(nxt s c undef s.L).o.map Ob.r')(u:s.L.all (λy=>[τ].all λt=>y.t.ne t)=true)(x:∀ w',AskAt g w' τ b (BU f v none)->(∀ B T,τ∈T->Cg B T g w g w')->GG prog fn R B T (nxt s c (.tuple #[]) s.L).s g w'):GG prog fn R B T s g w:=by
 refine L5 c s.L d (Cn a) λk C i o e=>?_;obtain⟨w',A,q,j,r⟩:=bB h v p;refine⟨.tuple #[],w',g,.inl ?_,k.ch (j _ [τ] (D'.2 rfl)) (λb m=>k.new b (by rw[r]at m;exact m)) u,x w' q j⟩;rw[DM a e,Sem.run_bind,A,Result.andThen_ok];rfl
end
end
section
def tkG:Nat->FuncId
 | 0=>83
 | 1=>84
 | 2=>85
 | 3=>86
 | 4=>87
 | 5=>88
 | _=>89
def tkV(k:Nat):Value:=.func (.func (tkG k)) #[] #[]
def tkL(j:Nat):List MapEntry:=(List.range j).map λ(k:Nat)=>{ key:=iv (k:Int),val:=tkV k,born:=k }
structure TkAt(g:Gh)(w:World)(b j:Nat):Prop where
 t:g.t b=.n 70 0
 k:g.k b=0
 row:w.heap[b]?=some (.map (tkL j).toArray j)
variable{b j k:Nat}{g:Gh}{w:World}
theorem TkAt.ch{B:Nat}{T:List Tg}{d:Gh}{e:World}(h:TkAt g w b j)(c:Cg B T g w d e)(hn:Tg.n 70 0∉T:=by simp):TkAt d e b j :=
 have a:=c.rc h.row h.t hn
 ⟨a.2.1,a.2.2.trans h.k,a.1⟩
theorem ZP(h:k<7):k=0\/k=1\/k=2\/k=3\/k=4\/k=5\/k=6:=by omega
theorem Rq(a:Bool)(k:Nat)(w:World):(Instr.checkKey a 10000 164 (iv (k:Int))).run prog w=.ok () w:=by kernel_rfl
theorem eB(h:j<7)(w:World):(Instr.findKey 164 (iv (j:Int)) (tkL j)).run prog w=.ok none w:=by
 rcases ZP h with rfl|rfl|rfl|rfl|rfl|rfl|rfl<;>kernel_rfl
theorem eA(h:j<7)(w:World):(Instr.findKey 164 (iv (j:Int)) (tkL 7)).run prog w=.ok (some (j,tkV j)) w:=by
 rcases ZP h with rfl|rfl|rfl|rfl|rfl|rfl|rfl<;>kernel_rfl
theorem iY(h:TkAt g w b j)(e:j<7):∃ w',(Instr.mapUpdate 104 (.map (some b)) (iv (j:Int)) (tkV j)).run prog w=.ok () w'/\TkAt g w' b (j+1)/\(∀ B T,Tg.n 70 0∈T->Cg B T g w g w')/\w'.heap.size=w.heap.size:=by
 have d:(getObj b).run prog w=.ok (.map (tkL j).toArray j) w:=by simp[getObj,Sem.run,h.row]
 have f:=MapKept.run_setObj_map (P:=prog) (w:=w) (.map (tkL (j+1)).toArray (j+1)) h.row;have c:((tkL j).toArray.push { key:=iv (j:Int),val:=tkV j,born:=j })=(tkL (j+1)).toArray:=by simp[tkL,List.range_succ]
 refine⟨_,?_,⟨h.t,h.k,ChangeMaps.heap_setBlock_same h.row (.map (tkL (j+1)).toArray (j+1))⟩,λB T a=>Cg.block h.row h.t h.k a _,by simp[ChangeMaps.setBlock]⟩;rw[Instr.mapUpdate];simp only[Sem.run_bind,run_underlying underlying104,Result.andThen_ok,d,Rq,eB e,c,f];rfl
theorem rTk(a:w.heap[b]?=some (.map (tkL 7).toArray 7))(d:k<7):(Instr.lookup 104 (.map (some b)) (iv (k:Int)) false).run prog w=.ok (tkV k) w:=by
 have c:(getObj b).run prog w=.ok (.map (tkL 7).toArray 7) w:=by simp[getObj,Sem.run,a]
 simp[Instr.lookup,run_underlying underlying104,c,Rq,eA d]
end
section
variable{fn:Func}{R:Ending->World->Prop}{B:Nat}{T:List Tg}{g:Gh}{w:World}
theorem jA{s:Xs}(d:Nat)(c:Dx s d=some (Instr.makeMap 104 none>>=λv=>pure (.value v)))
  (e:(nxt s d undef s.L).o.map Ob.l'=(nxt s d undef s.L).o.map Ob.r')
  (p:∀ b g' w',w.heap.size<=b->TkAt g' w' b 0->(∀ B T,Cg B T g w g' w')->(∀ b,w'.heap.size<=b->g'.t b=.z/\g'.k b=0)->GG prog fn R B T (nxt s d (.map (some b)) s.L).s g' w'):GG prog fn R B T s g w:=by
 refine L5 d s.L e (Cn c) λl r j o f=>?_;have q:(Instr.makeMap 104 none).run prog w=.ok (.map (some w.heap.size)) (w.alloc (.map #[] 0)):=by
  simp[Instr.makeMap,go_sem]
 have h:∀ B T,Cg B T g w (OS g w (.n 70 0) 0) (w.alloc (.map #[] 0)):=λB T =>
  ⟨rfl,rfl,rfl,by simp,λb a=>.inl (if_neg (by omega)),λb a=>by show _<=(if b=w.heap.size then _ else g.k b);rw[if_neg (by omega)];exact A' _,λb a _ _=>if_neg (by omega),λb a _ _=>heap_alloc_old w _ a,λb a j u=>World.cell?_of_block (w:=w) (heap_alloc_old w _ a)⟩
 have i:∀ b,(w.alloc (.map #[] 0)).heap.size<=b->(OS g w (.n 70 0) 0).t b=.z/\(OS g w (.n 70 0) 0).k b=0:=λb a=>by
  have m:w.heap.size+1<=b:=by simpa using a
  show(if b=w.heap.size then _ else g.t b)=.z/\(if b=w.heap.size then _ else g.k b)=0;rw[if_neg (by omega),if_neg (by omega)];exact l.new b (by omega)
 refine⟨.map (some w.heap.size),_,OS g w (.n 70 0) 0,.inl ?_,l.ch (h _ []) i (by simp),p _ _ _ (A' _) ⟨if_pos rfl,if_pos rfl,heap_alloc_new _ _⟩ h i⟩;rw[DM c f,Sem.run_bind,q,Result.andThen_ok];rfl
theorem H4{s:Xs}(c:Nat){b j:Nat}(h:TkAt g w b j)(u:j<7)(a:Dx s c=some (Instr.mapUpdate 104 (.map (some b)) (iv (j:Int)) (tkV j)>>=λ_=>pure .skip))
  (d:(nxt s c undef s.L).o.map Ob.l'=(nxt s c undef s.L).o.map Ob.r')(r:s.L.all (λy=>[Tg.n 70 0].all λt=>y.t.ne t)=true)
  (v:∀ w',TkAt g w' b (j+1)->(∀ B T,Tg.n 70 0∈T->Cg B T g w g w')->GG prog fn R B T (nxt s c undef s.L).s g w'):GG prog fn R B T s g w:=by
 refine L5 c s.L d (Cn a) λk A i o e=>?_;obtain⟨w',x,p,f,q⟩:=iY h u;refine⟨undef,w',g,.inr ⟨?_,rfl⟩,k.ch (f _ [Tg.n 70 0] (D'.2 rfl)) (λb m=>k.new b (by rw[q]at m;exact m)) r,v w' p f⟩;rw[DM a e,Sem.run_bind,x,Result.andThen_ok];rfl
end
def TM:List Tg:=[0,1,2,3,4].flatMap TN
theorem Fu:Tg.z∉TM:=by simp[TM,TN]
theorem jj{i:Nat}(a:i<5):∀ t∈TN i,t∈TM:=λt b=>oQ.2 ⟨i,by rcases qv a with rfl|rfl|rfl|rfl|rfl<;>simp,b⟩
theorem jk{i j r:Nat}(h:j≠i)(a:r<6):Tg.n r j∉TN i:=by simp[TN];omega
def mtA(nb:Nat->Nat)(ob tb:Nat):Array Value:=#[pt (nb 0) 0,pt (nb 1) 0,pt (nb 2) 0,pt (nb 3) 0,pt (nb 4) 0,pt ob 0,.map (some tb)]
structure MS(mb tb ob:Nat)(nb:Nat->Nat)(g:Gh)(w:World)(M:Meet):Prop where
 box:Box g w mb (mtA nb ob tb) 109
 tk:TkAt g w tb 7
 ab:∀ i,i<5->∃ x,NodeAt g w i (nb i) ob x (M.ab i)
 out:∃ lt tl,OutAt g w ob lt tl M.br M.fa
 new:Jh g w
def MP(mb tb ob:Nat)(nb:Nat->Nat)(g:Gh)(w:World)(v:Value)(M:Meet):Ending->World->Prop:=λe w'=>∃ g',e=.returned v/\MS mb tb ob nb g' w' M/\Cg w.heap.size TM g w g' w'
section
variable{mb tb ob i:Nat}{nb:Nat->Nat}{g g':Gh}{w w':World}{M:Meet}
theorem MS.ns(h:MS mb tb ob nb g w M)(a:i<5):NS i (nb i) ob g w (M.ab i) M.br M.fa :=
 let ⟨x,hx⟩:=h.ab i a
 let ⟨lt,tl,ho⟩:=h.out
 ⟨x,lt,tl,hx,ho,h.new⟩
theorem MS.qL{B:Nat}(h:MS mb tb ob nb g w M)(c:Cg B [] g w g' w')(b:Jh g' w'):MS mb tb ob nb g' w' M :=
 ⟨h.box.ch c,h.tk.ch c,λi a=>let ⟨x,hx⟩:=h.ab i a;⟨x,hx.ch c⟩,let ⟨lt,tl,ho⟩:=h.out;⟨lt,tl,ho.ch c⟩,b⟩
theorem MS.of{B:Nat}(h:MS mb tb ob nb g w M)(q:i<5){p:Nod}{a:List Let}{b:List Tol}(m:NS i (nb i) ob g' w' p a b)(c:Cg B (TN i) g w g' w'):MS mb tb ob nb g' w' ⟨upN M.ab i p,a,b⟩:=by
 obtain⟨x,lt,o,d,f,k⟩:=m;refine⟨h.box.ch c (Bx i),h.tk.ch c (by simp[TN]),λj l=>?_,⟨lt,o,f⟩,k⟩;by_cases e:j=i
 .subst e;exact⟨x,by show NodeAt g' w' j (nb j) ob x (upN M.ab j p j);rw[Db];exact d⟩
 .obtain⟨y,hy⟩:=h.ab j l;exact⟨y,by show NodeAt g' w' j (nb j) ob y (upN M.ab i p j);rw[Dy _ _ e];exact hy.ch c (Bx i) λr n=>jk e n⟩
theorem MS.call(h:MS mb tb ob nb g w M)(b:i<5){f:FuncId}{a:Array Value}{v:Value}{p:Nod}{d:List Let}{j:List Tol}(l:Calls prog f a w (NP i (nb i) ob g w v p d j)):Calls prog f a w (MP mb tb ob nb g w v ⟨upN M.ab i p,d,j⟩) :=
 l.mono λe o ⟨k,m,n,c⟩=>⟨k,m,h.of b n c,c.mono (jj b)⟩
theorem Uz{W:World}(b:W.heap[mb]?=some (.cells (mtA nb ob tb) 109)){j:Nat}(a:j<5):W.cell? ⟨mb,j,none⟩=some (pt (nb j) 0):=by
 rcases qv a with rfl|rfl|rfl|rfl|rfl<;>(rw[cell_of_row _ _ _ _ _ _ b];rfl)
end
end Go.Proofs.YtdjfdfpkkenjbadGreatDoor
