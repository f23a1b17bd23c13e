/- Part 11 of the walk. -/
import Derived.Lib.AppendZeros
import Derived.Test.YtgbabbapcibnlabGreatDoorZ10
set_option maxRecDepth 100000
set_option maxHeartbeats 4000000
open Go.Proofs.Tryz
set_option linter.unusedVariables false
namespace Go.Proofs.YtgbabbapcibnlabGreatDoor
section
open Go.RowKit
section
def NO(k:Nat):Int:=if k=1 then 2 else if k=2 then 1 else if k=3 then 4 else 0
variable{c:Int}{l:List Int}{w:World}{x:S3}
theorem NTab.right(h:NTab w)(k:Nat)(a:k<=3):w.cell? ⟨2,k*3,none⟩=some (.int .i64 (NO k)):=by
 rcases(by omega:k=0\/k=1\/k=2\/k=3)with rfl|rfl|rfl|rfl
 .exact h.cell 0 (by omega)
 .exact h.cell 3 (by omega)
 .exact h.cell 6 (by omega)
 .exact h.cell 9 (by omega)
theorem Vu(k:Nat)(r:Int)(c:k<=3)(a:0<=r)(b:r<=7):(bits .and .i64 r (NO k)=0)↔¬ Ov (k:Int) r:=by
 have all:∀ (i:Fin 4) (j:Fin 8),(bits .and .i64 ((j.val:Nat):Int) (NO i.val)=0)↔¬ Ov ((i.val:Nat):Int) ((j.val:Nat):Int):=by decide +kernel
 obtain⟨m,rfl⟩:=mO a;exact all ⟨k,by omega⟩ ⟨m,by omega⟩
theorem Rt(b d f k c s n v a:Int)(w:World)(K:NTab w) :
  Calls prog 96 #[.agg (tkA b d f),.agg (cmA k c s n v),.int .i64 a] w λe w'=>e=.returned (.int .i64 (FV b d f k c s n v a))/\Bw w w':=by
 have j:Bw w (w.alloc (.cells (tkA b d f) 59)):=(Below.refl _ _).alloc (A' _) _;have i:=Bt.made w b d f;have M:(w.alloc (.cells (tkA b d f) 59)).heap.size=w.heap.size+1:=by simp
 have l:Below (w.alloc (.cells (tkA b d f) 59)).heap.size (w.alloc (.cells (tkA b d f) 59)) ((w.alloc (.cells (tkA b d f) 59)).alloc (.cells (cmA k c s n v) 49)):=(Below.refl _ _).alloc (A' _) _;have o:=Bc.made (w.alloc (.cells (tkA b d f) 59)) k c s n v;replace i:=i.af l;have z:=j.trans (l.mono j.size);have r:=K.af z;rw[M]at o
 clear j l K M;have H:=GF k c s n v;have I:=IM b d f;generalize T:(w.alloc (.cells (tkA b d f) 59)).alloc (.cells (cmA k c s n v) 49)=W at z i o r;go_enter func96,ntmps96
 go_wp2_with (refine wpList_load_row rfl 59 _ rfl w.heap.size rfl 59 _ (0,0) _ i.row underlying59 rfl I ?_)
 clear T;refine(Jj b d f _).mono ?_;rintro e X ⟨rfl,j⟩;have C:Bw w X:=z.trans (j.mono z.size);replace i:=i.af j;replace o:=o.af j;replace r:=r.af j;clear j z;by_cases q:Dy b d f
 .rw[O' q];go_wp2_with (refine wpList_load_row rfl 49 _ rfl (w.heap.size+1) rfl 49 _ (0,0) _ o.row underlying49 rfl H ?_)
  refine(El k c s n v _ r).mono ?_;rintro e t ⟨rfl,l⟩;have D:Bw w t:=C.trans (l.mono C.size);replace i:=i.af l;replace o:=o.af l;replace r:=r.af l;clear l C;by_cases A:Bm k c s n v=0
  .have hz:=EV A;obtain⟨m,rfl⟩:=mO hz.1.1;have Z:(0:Int)<=(m:Int):=by omega
   have k1:(m:Int)<4:=by omega
   have k2:m<4:=by omega
   have G:=r.right m (by omega);have B:=Vu m d (by omega) q.2.1.1 q.2.1.2;obtain⟨N,O,P,Q,S⟩:=EU o.row;obtain⟨U,V,L⟩:=J5 i.row;have x:Hid (Dy b d f):=q;have y:Hid (Bm (m:Int) c s n v=0):=A;rw[A];clear q A hz i o r;by_cases u:c=b
   .have h3':decide (c=b)=true:=O' u;by_cases E:bits .and .i64 d (NO m)=0
    .have h:Hid (11=FV b d f (m:Int) c s n v a):=(KL x.out y.out (λg=>B.1 E g.1)).symm;have Y:Hid (c=b):=u;clear B x y;subst u;clear h3';generalize NO m=R at G E;go_wp2_with fail
     go_quiet (fail)
     have p:Bw w (t.drewN nq):=Ar D nq;generalize t.drewN nq=w3 at p ⊢;go_wp2
     go_ret;exact⟨CT h.out,p⟩
    .have HR:Hid (Ov (m:Int) d/\c=b):=⟨Classical.not_not.1 λg=>E (B.2 g),u⟩;clear B;subst u;clear h3';generalize NO m=R at G E;go_wp2_with fail
     go_quiet (fail)
     have p:Bw w (t.drewN nq):=Ar D nq;have J:(t.drewN nq).cell? ⟨w.heap.size,2,none⟩=some (.int .i64 f):=by simpa using L
     generalize t.drewN nq=w3 at p J ⊢;clear N O P Q S U V L G;go_wp2_with fail
     refine(Fl a f _).mono ?_;rintro e w4 ⟨rfl,rfl⟩;by_cases F:0<=a/\a<=f
     .rw[O' F];have h:Hid (0=FV c d f (m:Int) c s n v a):=(bq x.out y.out ⟨HR.out.1,rfl⟩ F).symm;go_wp2
      go_ret;exact⟨CT h.out,p⟩
     .rw[E' F];have h:Hid (10=FV c d f (m:Int) c s n v a):=(UP x.out y.out ⟨HR.out.1,rfl⟩ F).symm;go_wp2
      go_ret;exact⟨CT h.out,p⟩
   .have h3':decide (c=b)=false:=E' u;have h:Hid (11=FV b d f (m:Int) c s n v a):=(KL x.out y.out (λg=>u g.2)).symm;clear B x y;go_wp2_with fail
    go_quiet (fail)
    have p:Bw w (t.drewN nq):=Ar D nq;generalize t.drewN nq=w3 at p ⊢;go_wp2
    go_ret;exact⟨CT h.out,p⟩
  .have h:Hid (Bm k c s n v=FV b d f k c s n v a):=(Xb q A).symm;go_wp2
   go_ret;exact⟨CT h.out,D⟩
 .rw[E' q];have h:Hid (2=FV b d f k c s n v a):=(Xc q).symm;go_wp2
  go_ret;exact⟨CT h.out,C⟩
theorem Yx(a:0<=c)(h:c<=7)(g:AJ w) :
  Calls prog 39 #[iv c] w λe w'=>∃ y:S3,e=.returned (.tuple #[y.v,iv 0])/\Sl w' y.v (Ji c)/\Nb w.heap.size y (Ji c)/\Bw w w':=by
 refine(gQ c w a h g).mono ?_;rintro e w' ⟨v,rfl,f,b⟩;obtain⟨y,rfl,i,d⟩:=Jo f (by rw[DI];decide) (V3 c);exact⟨y,rfl,i,d,b⟩
theorem jC(h:7<c):Calls prog 39 #[iv c] w λe w'=>e=.returned (.tuple #[S3.v s30,iv 2])/\Bw w w':=by
 refine(gP c w (by omega)).mono ?_;rintro e w' ⟨rfl,rfl⟩;exact⟨rfl,Below.refl _ _⟩
theorem Jh(d:AJ w):Calls prog 37 #[] w λe w'=>∃ y:S3,e=.returned y.v/\Sl w' y.v F6/\Nb w.heap.size y F6/\Bw w w':=by
 refine(So w d).mono ?_;rintro e w' ⟨v,rfl,c,a⟩;obtain⟨y,rfl,f,b⟩:=Jo c (by rw[JI];decide) V0;exact⟨y,rfl,f,b,a⟩
theorem Sl.sK{a:Option Addr}{n b:Nat}(h:Sl w (.slice a n b) l)(c:Nat)(f:c<=l.length) :
  ∃ a' c',(∀ W,(Instr.slice 24 (.slice a n b) none (some (.int .i64 (c:Int))) none).run prog W=.ok (.slice a' c c') W)/\∀ w2,Sl w2 (.slice a n b) l->Sl w2 (.slice a' c c') (l.take c):=by
 have k:=λw2 (d:Sl w2 (.slice a n b) l)=>d.qX 0 c (by omega) f;obtain⟨⟨a',g,e,o,p,m⟩,j,i⟩:=h;simp only[Value.slice.injEq]at e;obtain⟨rfl,rfl,rfl⟩:=e;refine⟨_,_,λW=>?_,λw2 d=>by simpa[sliced]using k w2 d⟩;rw[run_slice_h (P:=prog) W 24 a _ b underlying24 .i64 _ (by omega) (by omega)];have e:prog.elem 24=5:=by kernel_rfl
 rw[e,FJ];simp[Result.andThen,sliced]
theorem slF(h:Sl w x.v l)(a:Nat)(b:a<=l.length):∃ y:S3,(∀ W,(Instr.sliceAt 24 x.v (some (iv (a:Int))) none none).run prog W=.ok y.v W)/\∀ w2,Sl w2 x.v l->Sl w2 y.v (l.drop a):=by
 obtain⟨c,d,e,f⟩:=h.sc a b;exact⟨⟨c,x.n-a,d⟩,λW=>by rw[run_sliceAt_slice _ _ _ _ _ _ Tz];exact e W,f⟩
theorem slU(h:Sl w x.v l)(a:Nat)(b:a<=l.length):∃ y:S3,(∀ W,(Instr.sliceAt 24 x.v none (some (iv (a:Int))) none).run prog W=.ok y.v W)/\∀ w2,Sl w2 x.v l->Sl w2 y.v (l.take a):=by
 obtain⟨c,d,e,f⟩:=h.sK a b;exact⟨⟨c,a,d⟩,λW=>by rw[run_sliceAt_slice _ _ _ _ _ _ Tz];exact e W,f⟩
theorem LJ{y:S3}{key:List Int}(j:Sl w x.v key)(i:Sl w y.v l)(k:AJ w){E:Int}(f:Ey key l=E) :
  Calls prog 127 #[x.v,y.v] w λe w'=>∃ a b c:Int,e=.returned (.tuple #[.agg #[iv a,iv b,iv c],iv E])/\(E=0->a=l.getD 0 0/\b=l.getD 1 0/\c=Ac l 2)/\Bw w w':=by
 subst f;refine(VW x.v y.v key l w j i k).mono ?_;rintro e w' ⟨rfl,h⟩;by_cases d:Ey key l=0
 .rw[Uo d];exact⟨_,_,_,rfl,λ_=>⟨rfl,rfl,rfl⟩,h⟩
 .rw[I7 d];exact⟨0,0,0,rfl,λg=>absurd g d,h⟩
theorem Vf(h:Sl w x.v l)(f:NTab w){E:Int}(d:Cr l=E) :
  Calls prog 128 #[x.v] w λe w'=>∃ m:Cmd,e=.returned (.tuple #[.agg #[iv m.k,iv m.c,iv m.s,iv m.n,iv m.v],iv E])/\(E=0->m=⟨Ac l 0,Ac l 4,Ac l 8,Ac l 12,Ac l 16⟩)/\Bw w w':=by
 subst d;refine(Lb x.v l w h f).mono ?_;rintro e w' ⟨rfl,b⟩;by_cases a:Cr l=0
 .rw[show Kh l=_ from if_pos a];exact⟨⟨Ac l 0,Ac l 4,Ac l 8,Ac l 12,Ac l 16⟩,rfl,λ_=>rfl,b⟩
 .rw[show Kh l=_ from if_neg a];exact⟨⟨0,0,0,0,0⟩,rfl,λg=>absurd g a,b⟩
theorem VN(h:Sl w x.v l)(hT:AJ w)(H:Dj w){E:Int}(q:OP l=E){D:List Int}(g:SH l=D) :
  Calls prog 126 #[x.v] w λe w'=>∃ y:S3,e=.returned (.tuple #[y.v,iv E])/\Sl w' y.v D/\Nb w.heap.size y D/\Bw w w':=by
 have S:=EO h;have N:=h.byte;unfold SH at g;rw[q]at g
 refine tIn [Fa.sl x l] func126 ⟨⟨h,λ_ _ _=>rfl⟩,trivial⟩ (tR 12 [] λa0 _ _=>?_);by_cases p:l=[]
 .refine tI (((x.n:Int)==0)) true (by rw[S,p];rfl) (tR 5 [] λa1 _ _=>?_);obtain rfl:13=E:=by rw[<- q];unfold OP;rw[if_pos p]
  exact tE (.tuple #[.slice none 0 0,iv 13]) λ_ B=>⟨s30,rfl,by rw[<- g,if_neg (by decide)];exact Ez _,λ_ a m=>(by cases m),B⟩
 .refine tI (((x.n:Int)==0)) false (by rw[S];simpa using p) ?_;obtain⟨c,i⟩:∃ c,l.getD 0 0=c:=⟨_,rfl⟩;have b:0<l.length:=List.length_pos_iff.2 p;have r:0<=c/\c<256:=by rw[<- i];exact N _ (by rw[mL,G' b];exact mM b)
  have d:OP l=if 7<c then 2 else Ka (Ji c) 0 0 noB (l.drop 1):=by unfold OP;rw[if_neg p,i]
  rw[q]at d
  refine tR 4 [] λa2 _ _=>tF λF _=>?_;obtain⟨Z,od,O,_,A⟩:=QO F.1.s b;rw[i]at A
  refine tV 1 (pt Z od) (λF C=>(O _)) (tV 2 (.int .u8 c) (λF C=>(CP underlying5 rfl A)) (tV 3 (iv c) (λF C=>(rUi r)) ?_));by_cases M:7<c
  .refine tC1 4 (λF C=>jC M) λ_=>tR 19 [] λa3 _ _=>?_;obtain rfl:2=E:=by rw[<- q];rw[q,d,if_pos M]
   exact tE (.tuple #[.slice none 0 0,iv 2]) λ_ B=>⟨s30,rfl,by rw[<- g,if_neg (by decide)];exact Ez _,λ_ a m=>(by cases m),B⟩
  .refine tC 4 (λF C=>Yx r.1 (by omega) (hT.af (CgQ.af C))) λj=>?_;rintro _ _ ⟨y,rfl,hy,R,Y⟩;refine⟨_,Fa.sl y (Ji c)::_,rfl,Y,λF=>⟨CI hy R j,F⟩,?_⟩;refine tR 17 [] λT _ _=>tC 1 (λF C=>ic F.1.s (DI c)) λj=>?_;rintro _ _ ⟨u,rfl,hu,P,J⟩;refine⟨_,Fa.sl u (Ji c)::_,rfl,J,λF=>⟨CI hu P j,F⟩,?_⟩;refine tR 19 [1,0,0,0,12,0,0,2] λU _ _=>?_;rw[if_neg M]at d
   refine tF λF o=>?_;have I:=o.size;obtain⟨z,hz,G⟩:=slF F.2.2.1.s 1 b;refine tT 2 (S3.v z) (λ_=>(hz _)) (IH 3 8 ?_ ?_)
   .refine tF λF o=>?_;have I:=o.size;refine tC 3 (λF C=>Uz F.1.s (DI c) (G _ F.2.2.1.s) (H.af H.pos (CgQ.af C)) d.symm) λj=>?_;rintro _ _ ⟨k,v,t,x0,x1,x2,x3,x4,x5,x6,x7,rfl,Q,f,K⟩;refine⟨_,Fa.sl v D::_,rfl,K,λF=>⟨CI (by rw[<- g,i];exact Q) (by rw[<- g,i];exact f) j,F⟩,?_⟩;refine tR 16 [8,10,12,14,17,1,0,19,1,0,20,22] λV _ _=>tE (.tuple #[S3.v v,iv E]) λF B=>⟨v,rfl,F.1.s,by rw[<- g,i];exact λh a m=>me I (f h a m),B⟩
   .refine tR 1 [1,0] λW _ _=>tF λF o=>?_;have I:=o.size;refine tC 3 (λF C=>Uz F.1.s (DI c) (G _ F.2.2.1.s) (H.af H.pos (CgQ.af C)) d.symm) λj=>?_;rintro _ _ ⟨k,v,t,x0,x1,x2,x3,x4,x5,x6,x7,rfl,Q,f,L⟩;refine⟨_,Fa.sl v D::_,rfl,L,λF=>⟨CI (by rw[<- g,i];exact Q) (by rw[<- g,i];exact f) j,F⟩,?_⟩;refine tR 15 [8,10,12,14,19,1,0,20,22] λX _ _=>tE (.tuple #[S3.v v,iv E]) λF B=>⟨v,rfl,F.1.s,by rw[<- g,i];exact λh a m=>me I (f h a m),B⟩
theorem Ri(h:Sl w x.v l)(G:AJ w)(hq:Dj w)(hN:NTab w){E:Int}(j:unE l=E) :
  Calls prog 95 #[x.v] w λe w'=>∃ (a b c:Int) (m:Cmd),e=.returned (.tuple #[.agg #[iv a,iv b,iv c],.agg #[iv m.k,iv m.c,iv m.s,iv m.n,iv m.v],iv E])/\(E=0->a=(unT l).getD 0 0/\b=(unT l).getD 1 0/\c=Ac (unT l) 2/\m=⟨Ac (unQ l) 0,Ac (unQ l) 4,Ac (unQ l) 8,Ac (unQ l) 12,Ac (unQ l) 16⟩)/\Bw w w':=by
 obtain⟨r,I⟩:∃ r,OP l=r:=⟨_,rfl⟩;obtain⟨D,P⟩:∃ D,SH l=D:=⟨_,rfl⟩;have f:unT l=D.take 22:=by unfold unT;rw[P]
 have t:unQ l=D.drop 22:=by unfold unQ;rw[P]
 unfold unE at j;rw[I,P]at j
 refine tIn [Fa.sl x l] func95 ⟨⟨h,λ_ _ _=>rfl⟩,trivial⟩ (tR 9 [1,0,1,0] λd _ _=>tC 1 (λF C=>VN F.1.s (G.af (CgQ.af C)) (hq.af hq.pos (CgQ.af C)) I P) λp=>?_);rintro _ _ ⟨y,rfl,hy,a0,b2⟩;refine⟨_,Fa.sl y D::_,rfl,b2,λF=>⟨CI hy a0 p,F⟩,?_⟩;have K:=EO hy;refine tR 12 [] λa9 _ _=>?_;by_cases H:r≠0
 .refine tI ((r != 0)) true (by simpa using H) ?_;obtain rfl:r=E:=by rw[<- j,if_pos H]
  refine tR 9 [0,0,1,0] λb0 _ _=>tX λF C=>qE5 2 3 4 59 49 0 (d 0) 1 (d 1) #[iv 0,iv 0,iv 0] #[iv 0,iv 0,iv 0,iv 0,iv 0] (iv r) λ_=>⟨0,0,0,⟨0,0,0,0,0⟩,rfl,λg=>absurd g H,CgQ.af C⟩
 .refine tI ((r != 0)) false (by simpa using H) ?_;rw[if_neg H]at j
  refine tR 8 [] λb1 _ _=>?_;by_cases h2:D.length≠42
  .refine tI (((y.n:Int) != 42)) true (by rw[K];simp;omega) ?_;obtain rfl:3=E:=by rw[<- j,if_pos h2]
   refine tR 8 [0,0,1,0] λb3 _ _=>tX λF C=>qE5 2 3 4 59 49 0 (d 0) 1 (d 1) #[iv 0,iv 0,iv 0] #[iv 0,iv 0,iv 0,iv 0,iv 0] (iv 3) λ_=>⟨0,0,0,⟨0,0,0,0,0⟩,rfl,λg=>absurd g (by decide),CgQ.af C⟩
  .refine tI (((y.n:Int) != 42)) false (by rw[K];simp;omega) ?_;rw[if_neg h2,f,t]at j
   obtain⟨o,q⟩:∃ o,Ey F6 (D.take 22)=o:=⟨_,rfl⟩;rw[q]at j
   refine tF λF _=>?_;obtain⟨u,hu,A⟩:=slU F.1.s 22 (by omega);refine tR 2 [] λb4 _ _=>IG 45 (λee LL L=>∃ (a b c:Int) (W:Nat),ee=[(2,pt (d 0) 0),(3,pt (d 1) 0),(4,iv 0),(5,S3.v y),(6,iv o),(7,pt W 0)]/\LL=[⟨(d 0),.cells #[iv 0,iv 0,iv 0] 59,.l,false⟩,⟨(d 1),.cells #[iv 0,iv 0,iv 0,iv 0,iv 0] 49,.l,false⟩,⟨W,.cells #[iv a,iv b,iv c] 59,.l,false⟩]/\L=[Fa.sl y D]/\(o=0->a=(D.take 22).getD 0 0/\b=(D.take 22).getD 1 0/\c=Ac (D.take 22) 2)) (λJ X=>?_) ?_
   .refine tR 2 [10,2] λb5 _ _=>tT 2 (S3.v u) (λ_=>(hu _)) (IH 0 7 ?_ ?_)
    .refine tC 0 (λF C=>Jh (G.af (CgQ.af C))) λp=>?_;rintro _ _ ⟨i,rfl,Y,hin,Q⟩;refine⟨_,Fa.sl i F6::_,rfl,Q,λF=>⟨CI Y hin p,F⟩,?_⟩;refine IH 3 7 ?_ ?_
     .refine tC 3 (λF C=>LJ F.1.s (A _ F.2.1.s) (G.af (CgQ.af C)) q) λp=>?_;rintro _ _ ⟨a,b,c,rfl,z,R⟩;refine⟨_,_,rfl,R,id,?_⟩;refine tR 7 [8,10,12,15,1,0,17,2,0,18] λM _ _=>tD X [true,true,true] ⟨a,b,c,(M 0),rfl,rfl,rfl,z⟩ (λF=>⟨F.2.1,trivial⟩)
     .refine tR 1 [1,0] λN _ _=>tC 3 (λF C=>LJ F.1.s (A _ F.2.1.s) (G.af (CgQ.af C)) q) λp=>?_;rintro _ _ ⟨a,b,c,rfl,z,S⟩;refine⟨_,_,rfl,S,id,?_⟩;refine tR 6 [8,10,12,17,2,0,18] λa1 _ _=>tD X [true,true,true] ⟨a,b,c,(N 0),rfl,rfl,rfl,z⟩ (λF=>⟨F.2.1,trivial⟩)
    .refine tR 1 [1,0] λO _ _=>tC 0 (λF C=>Jh (G.af (CgQ.af C))) λp=>?_;rintro _ _ ⟨i,rfl,Y,hin,T⟩;refine⟨_,Fa.sl i F6::_,rfl,T,λF=>⟨CI Y hin p,F⟩,?_⟩;refine tC 3 (λF C=>LJ F.1.s (A _ F.2.1.s) (G.af (CgQ.af C)) q) λp=>?_;rintro _ _ ⟨a,b,c,rfl,z,U⟩;refine⟨_,_,rfl,U,id,?_⟩;refine tR 6 [8,10,12,17,2,0,18] λa2 _ _=>tD X [true,true,true] ⟨a,b,c,(O 0),rfl,rfl,rfl,z⟩ (λF=>⟨F.2.1,trivial⟩)
   rintro _ _ _ ⟨a,b,c,W,rfl,rfl,rfl,z⟩ _ _ _;refine tR 6 [] λa3 _ _=>?_;by_cases B:o≠0
   .refine tI ((o != 0)) true (by simpa using B) ?_;obtain rfl:o=E:=by rw[<- j,if_pos B]
    refine tR 9 [0,0,1,0] λa4 _ _=>tX λF C=>qE5 2 3 4 59 49 0 (d 0) 1 (d 1) #[iv 0,iv 0,iv 0] #[iv 0,iv 0,iv 0,iv 0,iv 0] (iv o) λ_=>⟨0,0,0,⟨0,0,0,0,0⟩,rfl,λg=>absurd g B,CgQ.af C⟩
   .refine tI ((o != 0)) false (by simpa using B) ?_;rw[if_neg B]at j
    obtain⟨ha,hb,hc⟩:=z (mg.1 B);refine tR 4 [] λa5 _ _=>tF λF _=>?_;obtain⟨v,hv,Z⟩:=slF F.1.s 22 (by omega);refine tV 1 (S3.v v) (λF C=>(hv _)) (tC 2 (λF C=>Vf (Z _ F.1.s) (hN.af (CgQ.af C)) j) λp=>?_);rintro _ _ ⟨m,rfl,hm,V⟩;refine⟨_,_,rfl,V,id,?_⟩;refine tR 11 [1,0,3,0,3,0,2,4] λa6 _ _=>IH 1 3 ?_ ?_
    .refine tR 5 [3,7,0,0,9,1,0,10] λa7 _ _=>tX λF C=>qE5 2 3 4 59 49 0 (d 0) 1 (d 1) #[iv a,iv b,iv c] #[iv m.k,iv m.c,iv m.s,iv m.n,iv m.v] (iv E) λ_=>⟨a,b,c,m,rfl,λg=>⟨by rw[f];exact ha,by rw[f];exact hb,by rw[f];exact hc,by rw[t];exact hm g⟩,CgQ.af C⟩
    .refine tR 5 [0,0,3,3,9,1,0,10] λa8 _ _=>tX λF C=>qE5 2 3 4 59 49 0 (d 0) 1 (d 1) #[iv a,iv b,iv c] #[iv m.k,iv m.c,iv m.s,iv m.n,iv m.v] (iv E) λ_=>⟨a,b,c,m,rfl,λg=>⟨by rw[f];exact ha,by rw[f];exact hb,by rw[f];exact hc,by rw[t];exact hm g⟩,CgQ.af C⟩
theorem UQ{a b:Int}{m:Cmd}{d:Int}(g:NTab w){F:Int}(f:FV a b c m.k m.c m.s m.n m.v d=F):Calls prog 96 #[.agg #[iv a,iv b,iv c],.agg #[iv m.k,iv m.c,iv m.s,iv m.n,iv m.v],iv d] w λe w'=>e=.returned (iv F)/\Bw w w':=by subst f;exact Rt a b c m.k m.c m.s m.n m.v d w g
theorem VC(v:Value)(l:List Int)(now:Int)(w:World)(h:Sl w v l)(hT:AJ w)(R:Dj w)(P:NTab w) :
  Calls prog 51 #[v,iv now] w λe w'=>e=.returned (.tuple #[.agg (opA l now),iv (opE l now)])/\Bw w w':=by
 obtain⟨x,rfl,h⟩:=ZQ h;obtain⟨E,I⟩:∃ E,unE l=E:=⟨_,rfl⟩;obtain⟨i,f⟩:∃ i,opE l now=i:=⟨_,rfl⟩;have K:=h.byte;have G:=ik (l:=l) (now:=now);have H:=il (l:=l) (now:=now);rw[f]at G H ⊢
 unfold opE at f;rw[I]at f
 refine tIn [Fa.sl x l] func51 ⟨⟨h,λ_ _ _=>rfl⟩,trivial⟩ (tR 8 [1,0] λa _ _=>tC 1 (λF C=>Ri F.1.s (hT.af (CgQ.af C)) (R.af R.pos (CgQ.af C)) (P.af (CgQ.af C)) I) λNz=>?_);rintro _ _ ⟨ta,tb,tc,m,rfl,hu,Z⟩;refine⟨_,_,rfl,Z,id,?_⟩;refine tR 16 [0,0,0,0,1,0,2,0] λj _ _=>?_;by_cases o:E≠0
 .refine tI ((E != 0)) true (by simpa using o) (tR 7 [0,0] λa0 _ _=>?_);obtain rfl:E=i:=by rw[<- f,if_pos o]
  rw[G o];exact tX λ_ C=>qE2 4 5 49 0 (a 0) (cmA 0 0 0 0 0) (iv E) λ_=>⟨rfl,CgQ.af C⟩
 .refine tI ((E != 0)) false (by simpa using o) ?_;have q:E=0:=mg.1 o;obtain⟨e1,e2,e3,p⟩:=hu q;have d:=kM (I.trans q);rw[if_neg o,<- e1,<- e2,<- e3]at f
  rw[show Ac (unQ l) 0=m.k by rw[p],show Ac (unQ l) 4=m.c by rw[p],show Ac (unQ l) 8=m.s by rw[p],show Ac (unQ l) 12=m.n by rw[p],show Ac (unQ l) 16=m.v by rw[p]]at f H
  obtain⟨c,L⟩:∃ c,l.getD 0 0=c:=⟨_,rfl⟩;have M:0<=c/\c<256:=by rw[<- L];exact K _ (by rw[mL,G' d];exact mM d)
  rw[L]at f
  refine tR 3 [] λa1 _ _=>IG 42 (λee Y u=>∃ (b:Bool),ee=[(0,S3.v x),(1,iv now),(4,pt (a 0) 0),(6,pt (j 0) 0),(7,pt (j 1) 0),(31,.bool b)]/\Y=[⟨(a 0),.cells #[iv 0,iv 0,iv 0,iv 0,iv 0] 49,.l,false⟩,⟨(j 0),.cells #[iv ta,iv tb,iv tc] 59,.z,false⟩,⟨(j 1),.cells #[iv m.k,iv m.c,iv m.s,iv m.n,iv m.v] 49,.z,false⟩]/\u=[Fa.sl x l]/\b=decide (m.k≠0/\m.c≠c)) (λJ O=>?_) ?_
  .refine tR 3 [12,0,2,2] λa2 _ _=>?_;by_cases A:m.k=0
   .refine tT 2 (.bool false) (λ_=>(H6 (t:=3) (m:=m.k) (n:=0) (x:=(.tmp 21)) (y:=(.const (iv 0))) (by simpa using A))) (tR 10 [6,8,10,12,14,16,18,20,22] λa3 _ _=>tD O [true,true,true] ⟨false,rfl,rfl,rfl,(E' λg=>g.1 A).symm⟩ (λF=>F))
   .refine tT 2 (.bool true) (λ_=>(H6 (t:=3) (m:=m.k) (n:=0) (x:=(.tmp 21)) (y:=(.const (iv 0))) (by simpa using A))) (tR 4 [6,8,10,2,12] λa4 _ _=>tF λF _=>?_);obtain⟨bd,od,N,_,r⟩:=QO F.1.s d;rw[L]at r
    refine tT 7 (pt bd od) (λ_=>(N _)) (tV 8 (.int .u8 c) (λF C=>(CP underlying5 rfl r)) (tT 9 (iv c) (λ_=>(rUi M)) (tR 3 [20,22] λS _ _=>?_)));exact tD O [true,true,true] ⟨m.c != c,rfl,rfl,rfl,(by by_cases g:m.c=c<;>simp[g,A])⟩ (λF=>F)
  rintro _ _ _ ⟨b,rfl,rfl,rfl,Q⟩ _ _ _;by_cases B:m.k≠0/\m.c≠c
  .refine tI (b) true (by rw[Q];exact O' B) (tR 6 [0,0] λT _ _=>?_);obtain rfl:11=i:=by rw[<- f,if_pos B]
   rw[G (by decide)];exact tX λ_ C=>qE2 4 5 49 0 (a 0) (cmA 0 0 0 0 0) (iv 11) λ_=>⟨rfl,CgQ.af C⟩
  .refine tI (b) false (by rw[Q];exact E' B) ?_;rw[if_neg B]at f
   refine tR 7 [1,2] λU _ _=>tC1 3 (λF C=>UQ (m:=m) (P.af (CgQ.af C)) f) λ_=>tR 7 [] λV _ _=>?_;by_cases D:i≠0
   .refine tI ((i != 0)) true (by simpa using D) (tR 7 [0,0] λW _ _=>?_);rw[G D];exact tX λ_ C=>qE2 4 5 49 0 (a 0) (cmA 0 0 0 0 0) (iv i) λ_=>⟨rfl,CgQ.af C⟩
   .refine tI ((i != 0)) false (by simpa using D) ?_;obtain rfl:i=0:=mg.1 D;refine tR 7 [2,0,0] λX _ _=>?_;rw[H rfl];exact tX λ_ C=>qE2 4 5 49 0 (a 0) (cmA m.k m.c m.s m.n m.v) (iv 0) λ_=>⟨rfl,CgQ.af C⟩
theorem Nv(a:List (List Int))(j:Nat)(h:j<a.length):(a.take (j+1)).flatten=(a.take j).flatten++a.getD j []:=by
 rw[my h,List.flatten_append];simp[List.getD,List.getElem?_eq_getElem h]
theorem TW(a:List (List Int))(h:∀ l∈a,l.length<=1000):a.flatten.length<=1000*a.length:=by
 induction a with
 | nil=>simp
 | cons x r ih =>
  have c:=h x (by simp);have d:=ih (λl b=>h l (by simp[b]));simp only[List.flatten_cons,H',mE];omega
theorem MC(n:Nat):(Builtin.zeroCells (Value.int .u8 0).cells n).size=n:=by
 simp[Builtin.zeroCells,Value.cells]
theorem Yk(n:Nat)(w:World)(o:0<n)(t:n<=20000) :
  Calls prog 81 #[.slice none 0 0,.int .i64 (n:Int)] w λe w'=>∃ v',e=.returned v'/\w'.ownsRow w.heap.size 5 1 v' 0 []/\Bw w w':=by
 obtain⟨r,l,d,f,g⟩:=info_parts Av;have i:=λs=>Lib.run_append_nil_zeros (P:=prog) w 24 3 s 5 r (.int .u8 0) .i64 .i64 underlying24 underlying3 l d n o (by rw[f];decide) (by omega) (by rw[g];omega);have c:=grownCap_ge w n 0 5;have b:=grownCap_le_maxLen w n 0 5 (by unfold maxLen;omega);have a:(Builtin.zeroCells (Value.int .u8 0).cells n++Builtin.zeroCells (Value.int .u8 0).cells (grownCap w n 0 5-n)).size=grownCap w n 0 5*1:=by rw[Array.size_append,MC,MC];omega
 generalize Builtin.zeroCells (Value.int .u8 0).cells n++Builtin.zeroCells (Value.int .u8 0).cells (grownCap w n 0 5-n)=Z at i a;generalize grownCap w n 0 5=cap at i a c b;have k:Bw w (w.drew.alloc (.cells Z 5)):=((Below.refl w.heap.size w).drew).alloc (by exact A' _) _;have j:(w.drew.alloc (.cells Z 5)).heap[w.heap.size]?=some (.cells Z 5):=heap_alloc_new _ _;generalize w.drew.alloc (.cells Z 5)=W at i k j;have p:W.ownsRow w.heap.size 5 1 (.slice (some ⟨w.heap.size,0,none⟩) 0 cap) 0 []:=⟨by simp,.inr ⟨w.heap.size,cap,Z,rfl,A' _,j,by omega,b,a,by simp⟩⟩;have q:∀ h,(Instr.slice 24 (.slice (some ⟨w.heap.size,0,none⟩) n cap) none (some (.int .i64 0)) none).run prog h=.ok (.slice (some ⟨w.heap.size,0,none⟩) 0 cap) h:=λh=>by
  rw[run_slice_h (P:=prog) h 24 (some ⟨w.heap.size,0,none⟩) n cap underlying24 .i64 0 (by omega) (by omega)];have e:prog.elem 24=5:=by kernel_rfl
  rw[e,FJ];simp[Result.andThen,sliced,Addr.add_mid]
 have m:(0:Int)<(n:Int):=by omega
 clear j a b c l d f g;go_enter func81,ntmps81
 go_wp2_with (at_builtin;refine Lib.wpList_append_run _ rfl _ _ _ _ rfl _ _ rfl rfl _ _ (i _) ?_)
 go_ret;exact⟨_,rfl,p,k⟩
theorem RC(g n M:Nat)(K:List Value)(a:List (List Int))(w:World)(hg:g<w.heap.size)(hn:n<=10)(C:a.length=n)(R:∀ i,i<n->w.cell? ⟨g,i,none⟩=some (K.getD i undef))(U:∀ i,i<n->Sl w (K.getD i undef) (a.getD i []))(y:∀ l∈a,l.length<=1000)(T:0<a.flatten.length) :
  Calls prog 41 #[.slice (some ⟨g,0,none⟩) n M] w λe w'=>∃ v',e=.returned v'/\w'.ownsRow w.heap.size 5 1 v' a.flatten.length (a.flatten.map (Value.int .u8))/\Bw w w':=by
 have c:Hid (a.length=n):=C;have O:Hid _:=R;have P:Hid _:=U;have I:Hid _:=y;have X:Hid _:=T;clear C R U y T;go_enter func41,ntmps41
 go_wp2_with fail
 go_loopw [3,11] (λsv i wr=>∃ j:Nat,j<=n/\i=.int .i64 j/\sv=.int .i64 ((a.take j).flatten.length:Int)/\w=wr) (λ_ i _=>n-(intOf i).toNat)
 case atStart=>exact⟨0,by omega,rfl,by simp,rfl⟩
 case round =>
  obtain⟨j,hj,rfl,rfl,rfl⟩:=hrel;have d:=TW (a.take j) (λl y=>I.out l (mr y));by_cases m:j<n
  .have t:(a.take j).flatten.length<=10000:=by rw[X']at d;omega
   have r:Hid ((a.take (j+1)).flatten.length=(a.take j).flatten.length+(a.getD j []).length):=by unfold Hid;rw[Nv a j (by rw[c.out];exact m),H']
   have q:=P.out j m;have J:=O.out j m;have u:(a.getD j []).length<=1000:=by
    have f:j<a.length:=by rw[c.out];exact m
    have:a.getD j []=a[j]:=by simp[List.getD,List.getElem?_eq_getElem f]
    rw[this];exact I.out _ (mM f)
   generalize K.getD j undef=vj at q J;generalize a.getD j []=lj at q r u;generalize (a.take j).flatten.length=pre at r t;clear d;obtain⟨⟨aj,kj,rfl,_,_,_⟩,_,_⟩:=q;generalize lj.length=nj at *;go_wp2
   go_roundw
   case rel=>exact⟨j+1,by omega,by go_num,by rw[r.out];go_num,by simp⟩
   case measure=>simp[intOf];omega
  .obtain rfl:j=n:=by omega
   have Q:Hid (a.take j=a):=mq (by rw[c.out];exact A' _);have V:a.flatten.length<=10000:=by rw[Q.out,c.out]at d;omega
   rw[Q.out];clear d;have L:=X.out;generalize G:a.flatten.length=Z at V L;have Y:Hid (a.flatten.length=Z):=G;clear G;go_wp2_with fail
   refine(Yk Z w L (by omega)).mono ?_;rintro e w1 ⟨v1,rfl,x,A⟩;clear L V;obtain⟨g1,c1,rfl⟩:=EE x;have z:Hid (w1.ownsRow w.heap.size 5 1 (.slice g1 0 c1) (a.take 0).flatten.length ((a.take 0).flatten.map (Value.int .u8))):=by unfold Hid;simpa using x
   clear x;go_wp2_with fail
   go_loopw [6,27] (λv i wr=>∃ k:Nat,k<=j/\i=.int .i64 k/\Hid (wr.ownsRow w.heap.size 5 1 v (a.take k).flatten.length ((a.take k).flatten.map (Value.int .u8)))/\Bw w wr) (λ_ i _=>j-(intOf i).toNat)
   case atStart=>exact⟨0,by omega,rfl,z,A⟩
   case round =>
    obtain⟨k,S,rfl,h,s⟩:=hrel;have b:=h.out;clear h z A;have D:=b.lt;by_cases o:k<j
    .have d:=TW (a.take k) (λl y=>I.out l (mr y));have t:(a.take k).flatten.length<=10000:=by rw[X']at d;omega
     have r:Hid ((a.take (k+1)).flatten=(a.take k).flatten++a.getD k []):=Nv a k (by rw[c.out];exact o);have q:=(P.out k o).af s;have J:=(s.cell (p:=⟨g,k,none⟩) hg).trans (O.out k o);have u:(a.getD k []).length<=1000:=by
      have f:k<a.length:=by rw[c.out];exact o
      have:a.getD k []=a[k]:=by simp[List.getD,List.getElem?_eq_getElem f]
      rw[this];exact I.out _ (mM f)
     generalize K.getD k undef=vj at q J;generalize a.getD k []=lj at q r u;generalize (a.take k).flatten=pre at b r t;clear d;have H:=q;obtain⟨⟨aj,kj,rfl,_,_,_⟩,_,_⟩:=q;go_wp2_with (at_builtin;refine Aa _ rfl _ _ 24 rfl w.heap.size 5 underlying24 Av _ _ rfl rfl pre lj b H (by omega) s.size ?_)
     intro v2 W E B;have F:W.ownsRow w.heap.size 5 1 v2 (pre++lj).length ((pre++lj).map (Value.int .u8)):=by simpa using E
     have N:Bw w W:=s.grown B s.size (λk S=>(D k S).1);clear E B b D s H J;go_wp2
     go_roundw
     case rel=>exact⟨k+1,by omega,by go_num,by rw[r.out];exact F,N⟩
     case measure=>simp[intOf];omega
    .have HJ:Hid (a.take k=a):=by unfold Hid;exact mq (by rw[c.out];omega)
     go_wp2
     go_ret;refine⟨u6,rfl,?_,s⟩;rw[HJ.out]at b
     exact b
theorem bM{c d:Value}{a b:List Int}{e:TypeId}{g:Nat}(f:w.heap[g]?=some (.cells #[c,d] e))(h:Sl w c a)(j:Sl w d b)(k:a.length<=1000)(m:b.length<=1000)(n:0<a.length) :
  Calls prog 41 #[.slice (some ⟨g,0,none⟩) 2 2] w λe w'=>∃ v',e=.returned v'/\w'.ownsRow w.heap.size 5 1 v' (a++b).length ((a++b).map (Value.int .u8))/\Bw w w':=by
 refine(RC g 2 2 [c,d] [a,b] w (U'.1 f).1 (by omega) rfl ?_ ?_ ?_ ?_).mono ?_
 .intro i hi;rw[cell_of_row _ _ i _ _ _ f];obtain rfl|rfl:i=0\/i=1:=by omega
  all_goals rfl
 .intro i hi;obtain rfl|rfl:i=0\/i=1:=by omega
  .exact h
  .exact j
 .intro l hl;simp only[mn,Q',or_false]at hl;rcases hl with rfl|rfl
  .exact k
  .exact m
 .simp;omega
 .rintro e w2 ⟨v2,rfl,ho,hb⟩;exact⟨v2,rfl,by simpa using ho,hb⟩
end
end
section
section
def paE(n tc tr tu k c s m v:Int):Int:=if ¬ (0<=n/\n<1073741824)then 2 else if Nf tc tr tu≠0 then Nf tc tr tu else Bm k c s m v
def paP(tc tr tu k c s m v:Int):List Int:=K3 F6 tc tr tu++DT k c s m v
def paL(n tc tr tu k c s m v:Int):List Int:=if paE n tc tr tu k c s m v=0 then c::Kr (Ji c) n (paP tc tr tu k c s m v)else[]
variable{c k m n s tc tr tu v:Int}
theorem Zc(h:paE n tc tr tu k c s m v=0):(0<=n/\n<1073741824)/\Dy tc tr tu/\Bm k c s m v=0:=by
 unfold paE at h;split at h
 .cases h
 .rename_i g1
  split at h
  .rename_i g;exact absurd h g
  .rename_i g2
   refine⟨mg.1 g1,?_,h⟩;have a:=mg.1 g2;unfold Nf at a;split at a
   .assumption
   .cases a
theorem io(a:0<=n/\n<1073741824)(b:Nf tc tr tu=0):paE n tc tr tu k c s m v=Bm k c s m v:=by
 unfold paE;rw[if_neg (λg=>g a),if_neg (λg=>g b)]
theorem Zd(h:paE n tc tr tu k c s m v=0):paL n tc tr tu k c s m v=c::Kr (Ji c) n (paP tc tr tu k c s m v):=if_pos h
theorem Hz(a b d k c s m v:Int):(paP a b d k c s m v).length=42:=by unfold paP;rw[H',EG,E3]
end
end
section
open Go.RowKit
section
variable{tc tr tu:Int}{w:World}{x:S3}
theorem Yj(d:Sl w x.v F6)(f:AJ w)(h:Dy tc tr tu) :
  Calls prog 36 #[x.v,.agg #[iv tc,iv tr,iv tu]] w λe w'=>∃ y:S3,e=.returned (.tuple #[y.v,iv 0])/\Sl w' y.v (K3 F6 tc tr tu)/\Bw w w':=by
 refine(Vs x.v F6 tc tr tu w d f).mono ?_;have a:MK F6 tc tr tu=0:=by rw[Qa JI];exact KG h
 rintro e w' ⟨v,rfl,b,c⟩;rw[show Qb F6 tc tr tu=K3 F6 tc tr tu from if_pos a]at b
 rw[a];obtain⟨y,rfl,g⟩:=OR b (by rw[EG];decide) (WG _ h);exact⟨y,rfl,g,c⟩
theorem Xp{y:S3}{l m:List Int}{e:TypeId}{g:Nat}(j:w.heap[g]?=some (.cells #[x.v,y.v] e))(b:Sl w x.v l)(c:Sl w y.v m)(n:l.length<=1000)(o:m.length<=1000)(p:0<l.length) :
  Calls prog 41 #[.slice (some ⟨g,0,none⟩) 2 2] w λe w'=>∃ z:S3,e=.returned z.v/\Sl w' z.v (l++m)/\Nb w.heap.size z (l++m)/\Bw w w':=by
 refine(bM j b c n o p).mono ?_;rintro e w' ⟨v,rfl,i,f⟩;obtain⟨z,rfl,k,h⟩:=Jo i (by rw[H'];omega) (λa d=>(P'.1 d).elim (b.byte a) (c.byte a));exact⟨z,rfl,k,h,f⟩
theorem dB{n k c s m v:Int}(h:paE n tc tr tu k c s m v=0)(o:Tabs w) :
  Calls prog 20 #[iv n,.agg #[iv tc,iv tr,iv tu],.agg #[iv k,iv c,iv s,iv m,iv v]] w λe w'=>∃ y:S3,e=.returned (.tuple #[y.v,iv 0])/\Sl w' y.v (paL n tc tr tu k c s m v)/\Nb w.heap.size y (paL n tc tr tu k c s m v)/\Bw w w':=by
 obtain⟨Y,hB,X⟩:=Zc h;have hc:=(EV X).2;unfold InC at hc;rw[Zd h];refine kIn func20 (kR 11 [0,0,0,0] λb4 w1 b1=>kV 1 (.bool false) (rLt (x:=(.tmp 14)) (y:=(.const (iv 0))) (t:=3) (m:=n) (n:=0) (E' (by omega))) (kR 2 [] λb6 w2 b2=>kV 4 (.bool false) (rGe (x:=(.tmp 17)) (y:=(.const (iv 1073741824))) (t:=3) (m:=n) (n:=1073741824) (E' (by omega))) (kR 7 [8,2,0] λb7 w3 b3=>?_)));have S:=(btr (btr b1 b2) b3);refine kC 0 (Jh (o.t.af S)) ?_;rintro _ w5 ⟨yi,rfl,M,_,U⟩;refine⟨_,rfl,U,?_⟩;have T:=(btr S U);refine kC 2 (Yj M (o.t.af T) hB) ?_;rintro _ w8 ⟨yt,rfl,Q,V⟩;refine⟨_,rfl,V,?_⟩;refine kR 17 [6,8,10,12,14,1] λc0 w9 W=>?_;have p:=(btr (btr T V) W);refine kC 1 (XR (m:=⟨k,c,s,m,v⟩) (o.n.af p) X) ?_;rintro _ a2 ⟨yc,rfl,L,g⟩;refine⟨_,rfl,g,?_⟩;refine kR 18 [1] λZ a3 i=>?_;have r:=(btr (btr p g) i);refine kC 2 (Yx (c:=c) (by omega) (by omega) (o.t.af r)) ?_;rintro _ a4 ⟨yk,rfl,N,_,d⟩;refine⟨_,rfl,d,?_⟩;refine kR 22 [0,0] λH a5 f=>Ag λK=>kC 6 (Xp (K.sP 2 (H 0) _ 24 .z true (by kernel_rfl)) (((((Q.af W).af g).af i).af d).af f) (((L.af i).af d).af f) (by rw[EG];decide) (by rw[E3];decide) (by rw[EG];decide)) ?_;rintro _ a6 ⟨yp,rfl,O,_,j⟩;refine⟨_,rfl,j,?_⟩;have A:=(btr (btr (btr r d) f) j);refine kC 7 (eg ((N.af f).af j) (DI c) O (me (Nat.le_of_eq (Hz tc tr tu k c s m v)) (by decide)) ⟨Y.1,Y.2⟩ (o.q.af o.q.pos A)) ?_;rintro _ a7 ⟨u,z,rfl,hz,_,C⟩;refine⟨_,rfl,C,?_⟩;refine kR 21 [0,0,3,0,1] λa0 a8 D=>kV 2 (.int .u8 c) (fy (P:=prog) (src:=3) (dst:=5) (k:=.i64) (n:=c) (by kernel_rfl) underlying5 (by kernel_rfl) (by rw[IntKind.wrap_u8];omega)) (kR 3 [0,0,0,0] λb R E=>Ag λK=>?_);have J:Sl R (S3.v ⟨some ⟨(b 0),0,none⟩,1,1⟩) [c]:=Sl.ofRow (l:=[c]) (K.sP 4 (b 0) _ 5 .z true (by kernel_rfl)) (by show 1<=_;decide) (λa ha=>by rw[D'.1 ha];omega);have B:=(btr (btr (btr A C) D) E);refine kC 6 (Xp (x:=⟨some ⟨(b 0),0,none⟩,1,1⟩) (K.sP 5 (b 1) _ 24 .z true (by kernel_rfl)) J ((hz.af D).af E) (by show 1<=1000;decide) (by rw[EA];show(paP tc tr tu k c s m v).length+20<=1000;rw[Hz];decide) (by show 0<1;decide)) ?_;rintro _ a9 ⟨y,rfl,hy,hw,F⟩;refine⟨_,rfl,F,?_⟩;refine kR 3 [] λa1 b0 G=>?_;have I:=(btr (btr B F) G);exact kE (.tuple #[S3.v y,iv 0]) ⟨y,rfl,(hy.af G),hw.mono B.size,I⟩
end
end
section
structure Gr where
 k:Int
 a:Int
 b:Int
 c:Int
 d:Int
def pkT(g:Gr):Int:=if pick g.d 17=16 then(pick g.c 4+1)%4 else pick g.c 4
def pkR(g:Gr):Int:=if pick g.d 17=15 then 0 else 7
def pkP(g:Gr):List Int:=paL (pick g.a 1000) (pkT g) (pkR g) 60 (wK g.b) (pick g.c 4) (pick g.d 6) (pick g.a 4) (wV g.b g.d)
theorem Zj(g:Gr):paE (pick g.a 1000) (pkT g) (pkR g) 60 (wK g.b) (pick g.c 4) (pick g.d 6) (pick g.a 4) (wV g.b g.d)=0:=by
 have e:=Be g.a 1000 (by omega);have h:=Be g.c 4 (by omega);have i:=Be g.d 6 (by omega);have f:Dy (pkT g) (pkR g) 60:=by
  unfold Dy pkT pkR;refine⟨?_,?_,by omega⟩<;>split<;>omega
 rw[io ⟨e.1,by omega⟩ (KG f)];exact eX g.b g.a g.d _ _ (by omega) (by omega)
def pkB(g:Gr):List Int:=if pick g.d 23=22/\30<(pkP g).length then(pkP g).take 30 else pkP g
def acN(k:Int)(n:Int):Lac:=⟨k,n,0,0,[]⟩
def MI(g:Gr)(cr:Bool):Lac :=
 if pick g.k 24<3 then⟨1,pick g.a 5,0,0,pkB g⟩
 else if pick g.k 24<5 then acN 2 (pick g.a 5)
 else if pick g.k 24<14 then acN 3 (pick g.a 5)
 else if pick g.k 24=14 then⟨4,0,pick g.c 20,0,[]⟩
 else if pick g.k 24=15 then⟨5,0,pick g.c 20,0,[]⟩
 else if pick g.k 24=16 then⟨6,0,pick g.c 20,0,[]⟩
 else if pick g.k 24=17/\cr=true then⟨8,pick g.a 5,0,pick g.c 90,[]⟩
 else if pick g.k 24=18/\cr=true then acN 9 (pick g.a 5)
 else acN 7 0
def Wj(s:Nat)(x:Lac):Lac:=if x.k=1/\6<s+1 then acN 7 0 else x
def dZ(s:Nat)(x:Lac):Nat:=if x.k=1 then s+1 else s
def LV(cr:Bool):Nat->List Gr->List Lac
 | _,[]=>[]
 | s,g::l=>Wj s (MI g cr)::LV cr (dZ s (MI g cr)) l
def scr(l:List Gr)(most:Nat)(cr:Bool):List Lac:=LV cr 0 (l.take most)
def Ay:List Lac:=(List.range 5).map λn:Nat=>acN 9 (n:Int)
def An:List Lac:=(List.range 5).map (λn:Nat=>acN 3 (n:Int))++[acN 7 0]
def Af:Nat->List Lac
 | 0=>[]
 | m+1=>Af m++An
def Dk(m:Nat):List Lac:=Ay++Af m
def hvy(x:Lac):Bool:=decide (x.k=1\/x.k=2\/x.k=6\/x.k=8)
def Fb(l:List Lac):Nat:=100+20*(l.filter hvy).length
def Ct(m:Nat)(i:Int):List Lac:=Dk 0++[acN 2 i]++Dk m
def GX(l:List Lac)(i:Int):List Lac:=Ct (Fb l) i++Ct (Fb l) i
end
section
open Go.RowKit
section
variable{fn:Func}{R:Ending->World->Prop}{B:Nat}{T:List Tg}{g:Gh}{w:World}
theorem gG{s:Xs}(d:Nat)(r i:Nat)(c:Dw s d=some (Instr.makeMap 90 none>>=λv=>pure (.value v)))
  (e:(nxt s d undef s.L).o.map Ob.l'=(nxt s d undef s.L).o.map Ob.r')
  (q:∀ b g' w',w.heap.size<=b->AskAt g' w' (.n r i) b (λ_=>none)->(∀ B T,Cg B T g w g' w')->(∀ b,w'.heap.size<=b->g'.t b=.z/\g'.k b=0)->GG prog fn R B T (nxt s d (.map (some b)) s.L).s g' w'):GG prog fn R B T s g w:=by
 refine Lq d s.L e (Cj c) λm A j o f=>?_;have u:(Instr.makeMap 90 none).run prog w=.ok (.map (some w.heap.size)) (w.alloc (.map #[] 0)):=by
  simp[Instr.makeMap,go_sem]
 have h:∀ B T,Cg B T g w (OE g w (.n r i) 0) (w.alloc (.map #[] 0)):=λB T =>
  ⟨rfl,rfl,rfl,by simp,λb a=>.inl (if_neg (by omega)),λb a=>by show _<=(if b=w.heap.size then _ else g.k b);rw[if_neg (by omega)];exact A' _,λb a _ _=>if_neg (by omega),λb a _ _=>heap_alloc_old w _ a,λb a j C=>World.cell?_of_block (w:=w) (heap_alloc_old w _ a)⟩
 have l:∀ b,(w.alloc (.map #[] 0)).heap.size<=b->(OE g w (.n r i) 0).t b=.z/\(OE g w (.n r i) 0).k b=0:=λb a=>by
  have p:w.heap.size+1<=b:=by simpa using a
  show(if b=w.heap.size then _ else g.t b)=.z/\(if b=w.heap.size then _ else g.k b)=0;rw[if_neg (by omega),if_neg (by omega)];exact m.new b (by omega)
 refine⟨.map (some w.heap.size),_,OE g w (.n r i) 0,.inl ?_,m.ch (h _ []) l (by simp),q _ _ _ (A' _) ⟨if_pos rfl,if_pos rfl,[],0,heap_alloc_new _ _,λx y=>absurd y Q',nI,nI,λ_=>rfl⟩ h l⟩;rw[DB c f,Sem.run_bind,u,Result.andThen_ok];rfl
end
section
def jI(a:Acc)(y:S3)(b:Nat):Array Value:=((AI 0 0 (CW.bare true [] 0 a []) (NX.mk s30 y s30 s30 s30 s30 (λ_=>s30) (some b))).toList.drop 6).toArray
variable{E e0:Int}{c m:Cmd}{g:Gh}{i nb ob:Nat}{ls:List Let}{p:Nod}{s:Sto}{ts:List Tol}{w:World}
theorem Bf(i:Nat)(o:∀ b,w.heap.size<=b->g.t b=.z/\g.k b=0)(a:Acc)(y:S3) :
  Calls prog 25 #[.agg #[iv a.p.r,iv a.p.n,S3.v y]] w λe w'=>∃ (b:Nat) (g':Gh),e=.returned (.agg (jI a y b))/\AskAt g' w' (.n 5 i) b (λ_=>none)/\(∀ b,w'.heap.size<=b->g'.t b=.z/\g'.k b=0)/\Cg w.heap.size [] g w g' w':=by
 refine gI (fn:=f25) [] g func25 o (qR [] 8 [0,0,1,0,0] λs u C l=>gG 1 5 i (by kernel_rfl) (by kernel_rfl) ?_);intro h x D q j c B;have m:=c w.heap.size [];refine qR [] 3 [1,0] λs3 A E d=>qE1 2 92 1 (s 1) (jI a y h) λK=>⟨h,_,rfl,(j.ch d),K.new,((l.trans m).trans d)⟩
theorem Pends.nil(g:Gh)(w:World)(nb:Nat):Pends g w nb [] []:=⟨rfl,λk v q h=>by cases h⟩
theorem X9(h:NS i nb ob g w p ls ts)(k:Int)(G:-9223372036854775808<=k)(H:k<=9223372036854775807) :
  Calls prog 31 #[pt nb 0,iv k] w (NP i nb ob g w (.tuple #[]) (if p.up then p.kc k else p) ls ts):=by
 obtain⟨x,lt,P,u,y,Z⟩:=h;refine gI (fn:=f31) (TN i) g func31 Z (qN u (qO y (qR [] 9 [0] λs1 g1 w1 b=>?_)));by_cases q:p.up=true
 .refine qI ((!p.up)) false (by simpa using q) ?_;rw[if_pos q];refine qR [] 8 [0] λs2 O w2 c=>Ag λKq=>?_;have X:=(u.tape.ch (b.trans c)).s;have W:∀ z,w2.heap.size<=z->O.t z=.z:=λz hz=>(Kq.new z hz).1;refine qC 5 (X8 (s:=p.sy) (k:=k) X G H) ?_;rintro e' w3 ⟨A,rfl,m,I,N⟩;refine⟨_,rfl,N,?_⟩;have o:=Cg.eb (B:=w.heap.size) (T:=[]) (g:=O) N;have a0:=EO m;have M:FSl _ _ A _:=⟨m,λhl a Y=>W _ (I hl a Y)⟩;refine qR [] 13 [0,0,2,0] λs4 g4 w4 j=>?_;by_cases r:Gd p.d p.sy k≠0
  .refine qI (((Gd p.d p.sy k) != 0)) true (by simpa using r) (qE (.tuple #[]) λK=>?_);rw[show p.kc k=p from if_pos r];exact⟨_,rfl,(nsC u y (((b.n c).n o).n j) K),((((b.nil (TN i)).n c).n o).n j)⟩
  .refine qI (((Gd p.d p.sy k) != 0)) false (by simpa using r) (qR [] 8 [7,0,2,4,8,10,12] λs7 V w7 E=>Cn 33 (λR w' e L=>e=[(0,pt nb 0)]/\L=[⟨nb,.cells (AI i ob (p.bare false (Kf p.d p.sy k) (Kg p.d p.sy k) DS []) (NX.mk A s30 s30 s30 s30 s30 (λ_=>s30) none)) 97,.n 0 i,false⟩,⟨ob,.cells #[S3.v lt,S3.v P] 67,.n 50 0,false⟩,⟨(s4 0),.cells #[S3.v A,iv (Kg p.d p.sy k)] 95,.z,false⟩]/\True/\Cg w.heap.size ([.n 0 i]:List Tg) V w7 R w') (by kernel_rfl) ?_ ?_)
   .intro J hJ
    (exact Dm 3 7 (by kernel_rfl) (by(refine qR [.n 0 i] 9 [2,15,0,1,16,18,21,0,1,22,24,27,0,1] λa1 S a3 C=>?_;exact qB [true,true,true] λz Q K=>hJ _ _ _ z _ ⟨rfl,rfl,trivial,C⟩ K)) (by(refine qR [.n 0 i] 9 [0,1,7,2,16,18,21,0,1,22,24,27,0,1] λa2 U a4 D=>?_;exact qB [true,true,true] λz Q K=>hJ _ _ _ z _ ⟨rfl,rfl,trivial,D⟩ K)))
   rintro g8 w8 _ z8 _ ⟨rfl,rfl,_,F⟩;refine qE (.tuple #[]) λK=>?_;rw[show p.kc k=(p.bare false (Kf p.d p.sy k) (Kg p.d p.sy k) DS [])from if_neg r];exact⟨_,rfl,⟨(NX.mk A s30 s30 s30 s30 s30 (λ_=>s30) none),lt,P,K.nd 0 (((M.ch j).ch E).ch F) ⟨Sv.nil _,λh=>absurd rfl h⟩ (λ_ _=>⟨Sv.nil _,λh=>absurd rfl h⟩) ⟨[],OwnS.nil _ _ _ _ _ _,Pends.nil _ _ _⟩ (OwnS.nil _ _ _ _ _ _) (OwnS.nil _ _ _ _ _ _) (OwnS.nil _ _ _ _ _ _) rfl (λh=>by cases h),y.ch ((((((b.nil ([.n 0 i]:List Tg)).n c).n o).n j).n E).trans (F)) (hn:=by simp<;>omega),K.new⟩,((((((b.nil (TN i)).n c).n o).n j).n E).trans (F.mono (by simp[TN])))⟩
 .refine qI ((!p.up)) true (by simpa using q) (qE (.tuple #[]) λK=>?_);rw[if_neg q];exact⟨_,rfl,(nsC u y b K),(b.nil (TN i))⟩
def nx0(b:Nat):NX:=NX.mk s30 s30 s30 s30 s30 s30 (λ_=>s30) (some b)
theorem Qq{b:Nat}(d:w.heap[nb]?=some (.cells (AI i ob CW (nx0 b)) 97))(e:g.t nb=.n 0 i)(c:g.k nb=0)(a:AskAt g w (.n 5 i) b (λ_=>none)):NodeAt g w i nb ob (nx0 b) CW :=
 ⟨d,e,c,⟨⟨⟨none,0,rfl,A' _,λ_=>rfl,.inl rfl⟩,by simp[CW],by simp[CW]⟩,λh=>absurd rfl h⟩,⟨Sv.nil _,λh=>absurd rfl h⟩,λ_ _=>⟨Sv.nil _,λh=>absurd rfl h⟩,⟨[],OwnS.nil _ _ _ _ _ _,Pends.nil _ _ _⟩,OwnS.nil _ _ _ _ _ _,OwnS.nil _ _ _ _ _ _,OwnS.nil _ _ _ _ _ _,a,λ_=>⟨b,rfl⟩⟩
def nbF(a b c d e:Nat):Nat->Nat
 | 0=>a
 | 1=>b
 | 2=>c
 | 3=>d
 | _=>e
theorem L5(hg:∀ b,w.heap.size<=b->g.t b=.z/\g.k b=0) :
  Calls prog 16 #[] w λe w'=>∃ (mb tb ob:Nat) (nb:Nat->Nat) (g':Gh),e=.returned (pt mb 0)/\MS mb tb ob nb g' w' Ao/\Cg w.heap.size [.n 70 0] g w g' w':=by
 refine gI (fn:=f16) [.n 70 0] g func16 hg (qR [] 8 [52,0] λa g1 w1 c1=>Ag λK=>qG 2 [.n 70 0] [true] (Ty K.new) ?_);rintro R w2 ⟨tb,g2,rfl,A2,n2,T⟩;refine⟨_,g2,rfl,T,n2,?_⟩;replace T:=T.ret (B:=w.heap.size);refine qR [] 10 [1,0] λs3 g3 w3 c3=>fh 5 27 [(1,pt (s3 0) 0),(8,iv 0)] [true,true] [⟨(a 0),.cells #[sn,sn] 67,.n 50 0,false⟩,⟨(s3 0),.cells #[.pointer none,.pointer none,.pointer none,.pointer none,.pointer none,pt (a 0) 0,.map (some tb)] 73,.l,false⟩] (by kernel_rfl) (by kernel_rfl) (by kernel_rfl) (by kernel_rfl) λN E z=>qR [] 25 [14,0,2,4,6,8,10,12,1,14,22,24] λs5 g5 w5 c5=>Ag λK=>qG 8 [] [true,true] (Bf 0 K.new DS s30) ?_;rintro R w6 ⟨L,g6,rfl,A6,n6,Q⟩;refine⟨_,g6,rfl,Q,n6,?_⟩;replace Q:=Q.ret (B:=w.heap.size);refine qR [] 10 [18,21,2,0,26,29,1,0] λA g7 w7 X=>E5 (N 5) 27 [(1,pt (s3 0) 0),(8,iv 1)] [true,true,true] [⟨(a 0),.cells #[sn,sn] 67,.n 50 0,false⟩,⟨(s3 0),.cells #[pt (A 0) 0,.pointer none,.pointer none,.pointer none,.pointer none,pt (a 0) 0,.map (some tb)] 73,.l,false⟩,⟨(A 0),.cells (AI 0 (a 0) CW (nx0 L)) 97,.n 0 0,false⟩] (by kernel_rfl) (by kernel_rfl) (by kernel_rfl) (by kernel_rfl) (by kernel_rfl) λz S K=>E 4 _ _ _ _ _ ?_ K;refine qR [] 25 [14,0,2,4,6,8,10,12,1,14,22,24] λs8 g8 w8 Y=>Ag λK=>qG 8 [] [true,true,true] (Bf 1 K.new DS s30) ?_;rintro R w9 ⟨P,g9,rfl,A9,n9,M⟩;refine⟨_,g9,rfl,M,n9,?_⟩;replace M:=M.ret (B:=w.heap.size);refine qR [] 10 [18,21,2,1,26,29,1,0] λc a5 c0 H=>E5 (N 4) 27 [(1,pt (s3 0) 0),(8,iv 2)] [true,true,true,true] [⟨(a 0),.cells #[sn,sn] 67,.n 50 0,false⟩,⟨(s3 0),.cells #[pt (A 0) 0,pt (c 0) 0,.pointer none,.pointer none,.pointer none,pt (a 0) 0,.map (some tb)] 73,.l,false⟩,⟨(A 0),.cells (AI 0 (a 0) CW (nx0 L)) 97,.n 0 0,false⟩,⟨(c 0),.cells (AI 1 (a 0) CW (nx0 P)) 97,.n 0 1,false⟩] (by kernel_rfl) (by kernel_rfl) (by kernel_rfl) (by kernel_rfl) (by kernel_rfl) λz S K=>E 3 _ _ _ _ _ ?_ K;refine qR [] 25 [14,0,2,4,6,8,10,12,1,14,22,24] λb4 a6 c4 I=>Ag λK=>qG 8 [] [true,true,true,true] (Bf 2 K.new DS s30) ?_;rintro R d0 ⟨G,Z,rfl,U,a2,p⟩;refine⟨_,Z,rfl,p,a2,?_⟩;replace p:=p.ret (B:=w.heap.size);refine qR [] 10 [18,21,2,2,26,29,1,0] λj a7 d1 C=>E5 (N 3) 27 [(1,pt (s3 0) 0),(8,iv 3)] [true,true,true,true,true] [⟨(a 0),.cells #[sn,sn] 67,.n 50 0,false⟩,⟨(s3 0),.cells #[pt (A 0) 0,pt (c 0) 0,pt (j 0) 0,.pointer none,.pointer none,pt (a 0) 0,.map (some tb)] 73,.l,false⟩,⟨(A 0),.cells (AI 0 (a 0) CW (nx0 L)) 97,.n 0 0,false⟩,⟨(c 0),.cells (AI 1 (a 0) CW (nx0 P)) 97,.n 0 1,false⟩,⟨(j 0),.cells (AI 2 (a 0) CW (nx0 G)) 97,.n 0 2,false⟩] (by kernel_rfl) (by kernel_rfl) (by kernel_rfl) (by kernel_rfl) (by kernel_rfl) λz S K=>E 2 _ _ _ _ _ ?_ K;refine qR [] 25 [14,0,2,4,6,8,10,12,1,14,22,24] λb5 a8 d2 D=>Ag λK=>qG 8 [] [true,true,true,true,true] (Bf 3 K.new DS s30) ?_;rintro R d3 ⟨J,a0,rfl,V,a3,o⟩;refine⟨_,a0,rfl,o,a3,?_⟩;replace o:=o.ret (B:=w.heap.size);refine qR [] 10 [18,21,2,3,26,29,1,0] λu a9 d4 x=>E5 (N 2) 27 [(1,pt (s3 0) 0),(8,iv 4)] [true,true,true,true,true,true] [⟨(a 0),.cells #[sn,sn] 67,.n 50 0,false⟩,⟨(s3 0),.cells #[pt (A 0) 0,pt (c 0) 0,pt (j 0) 0,pt (u 0) 0,.pointer none,pt (a 0) 0,.map (some tb)] 73,.l,false⟩,⟨(A 0),.cells (AI 0 (a 0) CW (nx0 L)) 97,.n 0 0,false⟩,⟨(c 0),.cells (AI 1 (a 0) CW (nx0 P)) 97,.n 0 1,false⟩,⟨(j 0),.cells (AI 2 (a 0) CW (nx0 G)) 97,.n 0 2,false⟩,⟨(u 0),.cells (AI 3 (a 0) CW (nx0 J)) 97,.n 0 3,false⟩] (by kernel_rfl) (by kernel_rfl) (by kernel_rfl) (by kernel_rfl) (by kernel_rfl) λz S K=>E 1 _ _ _ _ _ ?_ K;refine qR [] 25 [14,0,2,4,6,8,10,12,1,14,22,24] λb7 b0 d5 y=>Ag λK=>qG 8 [] [true,true,true,true,true,true] (Bf 4 K.new DS s30) ?_;rintro R d6 ⟨O,a1,rfl,W,a4,d⟩;refine⟨_,a1,rfl,d,a4,?_⟩;replace d:=d.ret (B:=w.heap.size);refine qR [] 10 [18,21,2,4,26,29,1,0] λF b1 d7 q=>E5 (N 1) 27 [(1,pt (s3 0) 0),(8,iv 5)] [true,true,true,true,true,true,true] [⟨(a 0),.cells #[sn,sn] 67,.n 50 0,false⟩,⟨(s3 0),.cells #[pt (A 0) 0,pt (c 0) 0,pt (j 0) 0,pt (u 0) 0,pt (F 0) 0,pt (a 0) 0,.map (some tb)] 73,.l,false⟩,⟨(A 0),.cells (AI 0 (a 0) CW (nx0 L)) 97,.n 0 0,false⟩,⟨(c 0),.cells (AI 1 (a 0) CW (nx0 P)) 97,.n 0 1,false⟩,⟨(j 0),.cells (AI 2 (a 0) CW (nx0 G)) 97,.n 0 2,false⟩,⟨(u 0),.cells (AI 3 (a 0) CW (nx0 J)) 97,.n 0 3,false⟩,⟨(F 0),.cells (AI 4 (a 0) CW (nx0 O)) 97,.n 0 4,false⟩] (by kernel_rfl) (by kernel_rfl) (by kernel_rfl) (by kernel_rfl) (by kernel_rfl) λz S K=>E 0 _ _ _ _ _ ?_ K;refine qR [] 12 [] λb8 b2 d8 r=>j4 1 (s3 0) (by kernel_rfl) λb3 s=>qE (pt (s3 0) 0) λK=>⟨(s3 0),tb,(a 0),(nbF (A 0) (c 0) (j 0) (u 0) (F 0)),_,rfl,?_,((((((((((((((((((((c1.nil [.n 70 0]).trans T).n c3).n c5).n Q).n X).n Y).n M).n H).n I).n p).n C).n D).n o).n x).n y).n d).n q).n r).n s)⟩;obtain⟨z1,z2⟩:=K.ra 1 (s3 0) (.cells (mtA (nbF (A 0) (c 0) (j 0) (u 0) (F 0)) (a 0) tb) 73) false (by kernel_rfl);obtain⟨o1,o2,o3⟩:=K.rh 0 (a 0) (.cells #[S3.v s30,S3.v s30] 67) 50 0 (by kernel_rfl);obtain⟨q0,r0,t0⟩:=K.rh 2 (A 0) (.cells (AI 0 (a 0) CW (nx0 L)) 97) 0 0 (by kernel_rfl);obtain⟨q1,r1,t1⟩:=K.rh 3 (c 0) (.cells (AI 1 (a 0) CW (nx0 P)) 97) 0 1 (by kernel_rfl);obtain⟨q2,r2,t2⟩:=K.rh 4 (j 0) (.cells (AI 2 (a 0) CW (nx0 G)) 97) 0 2 (by kernel_rfl);obtain⟨q3,r3,t3⟩:=K.rh 5 (u 0) (.cells (AI 3 (a 0) CW (nx0 J)) 97) 0 3 (by kernel_rfl);obtain⟨q4,r4,t4⟩:=K.rh 6 (F 0) (.cells (AI 4 (a 0) CW (nx0 O)) 97) 0 4 (by kernel_rfl);refine⟨⟨z1,z2⟩,((((((((((((((((((A2.ch c3).ch c5).ch Q).ch X).ch Y).ch M).ch H).ch I).ch p).ch C).ch D).ch o).ch x).ch y).ch d).ch q).ch r).ch s),λi hi=>?_,⟨s30,s30,o1,o2,o3,⟨[],OwnS.nil _ _ _ _ _ _,⟨rfl,λk b m h=>(by cases h)⟩⟩,OwnS.nil _ _ _ _ _ _⟩,K.new⟩;rcases qq hi with rfl|rfl|rfl|rfl|rfl
 .exact⟨_,Qq q0 r0 t0 (((((((((((((((A6.ch X).ch Y).ch M).ch H).ch I).ch p).ch C).ch D).ch o).ch x).ch y).ch d).ch q).ch r).ch s)⟩
 .exact⟨_,Qq q1 r1 t1 ((((((((((((A9.ch H).ch I).ch p).ch C).ch D).ch o).ch x).ch y).ch d).ch q).ch r).ch s)⟩
 .exact⟨_,Qq q2 r2 t2 (((((((((U.ch C).ch D).ch o).ch x).ch y).ch d).ch q).ch r).ch s)⟩
 .exact⟨_,Qq q3 r3 t3 ((((((V.ch x).ch y).ch d).ch q).ch r).ch s)⟩
 .exact⟨_,Qq q4 r4 t4 (((W.ch q).ch r).ch s)⟩
theorem aY(h:NS i nb ob g w p ls ts)(N:p.up=true)(hw:p.bn.length<100000000)(c:Cmd) :
  Calls prog 55 #[pt nb 0,.agg #[iv c.k,iv c.c,iv c.s,iv c.n,iv c.v]] w (NP i nb ob g w (.tuple #[]) (p.want c) ls ts):=by
 obtain⟨x,lt,T,d,J,Y⟩:=h;obtain⟨j,q⟩:=d.rz N;obtain⟨o,rfl⟩:∃ o:NX,x={ o with bN:=some j }:=⟨x,by cases x;simp only at q;subst q;rfl⟩;clear q;have R:AskAt g w (.n 5 i) j p.bN:=d.rm rfl;refine gI (fn:=f55) (TN i) g func55 Y (qN d (qO J ?_));obtain⟨A,y,Q,P,M,L⟩:=id R;refine Iq j _ 5 i M A y (by kernel_rfl) ?_;refine qR [] 13 [0,0,13,0,2,4,6,8,0,10,3] λs1 g1 w1 t=>qU 6 (.tuple #[.agg #[iv ((p.bN c).getD Bb).r,iv ((p.bN c).getD Bb).n],.bool (p.bN c).isSome]) (λW X=>(Zs (g:=g) (τ:=.n 5 i) (b:=j) (f:=p.bN) ⟨A,y,Q,P,AV.at (X rfl) 2 j (.map (Q.map mkA).toArray P) (.n 5 i) (by kernel_rfl),L⟩ c)) (qR [] 11 [14,16,18,21,0,0,23,4,0,24] λs2 g2 w2 u=>?_);by_cases E:(p.bN c).isSome=true
 .refine qI ((p.bN c).isSome) true E (qE (.tuple #[]) λK=>?_);rw[show p.want c=p from if_pos E];have O:=t.n u;exact⟨_,rfl,⟨({ o with bN:=some j }:NX),lt,T,d.ch O,J.ch O,K.new⟩,((t.nil (TN i)).n u)⟩
 .refine qI ((p.bN c).isSome) false (by simpa using E) (Ir [true,true,false,true,true] ?_);have Z:o.bn.n=p.bn.length:=d.bn.num;refine qR [] 11 [12,0,2,4,6,8,10,0,12,2,15,0,0] λS g5 w5 B=>Kj 8 (x:=({ o with bN:=some j }:NX).bn) 38 38 49 5 40 (.agg #[iv 0,iv 0,iv 0,iv 0,iv 0]) ⟨(S 0),0,none⟩ 1 1 [iv c.k,iv c.c,iv c.s,iv c.n,iv c.v] (d.bn.ch ((t.trans u).trans B) (by simp) (by simp)) (by kernel_rfl) (by kernel_rfl) (by kernel_rfl) underlying38 (by kernel_rfl) (by kernel_rfl) (by decide) (by decide) rfl (by simp[Value.oneCell']) (λK=>BR K 4 (S 0) [iv c.k,iv c.c,iv c.s,iv c.n,iv c.v] 49 .z true (by kernel_rfl)) (by show o.bn.n+1<=_;unfold maxLen;omega) (by show(o.bn.n+1)*40<=_;omega) ?_;intro y6 g6 w6 V n6 H G6;have F:=H w.heap.size [.n 4 i] (D'.2 rfl);refine qR [.n 0 i] 13 [18,20,22,25,0,1,8,0,2,4,6,8,0,10,2,12] λs7 g7 w7 C=>TY 7 (τ:=.n 5 i) (b:=j) c Bb (((((R.ch t).ch u).ch B).ch F).ch C) (by kernel_rfl) (by kernel_rfl) (by kernel_rfl) ?_;intro w8 U I;have G:=I w.heap.size [.n 5 i] (D'.2 rfl);refine qR [] 1 [] λs9 g9 w9 D=>qE (.tuple #[]) λK=>?_;rw[show p.want c={ p with bn:=p.bn++[c],bN:=BU p.bN c (some Bb) }from if_neg E];have a:=((((((t.nil ([.n 4 i,.n 0 i,.n 5 i]:List Tg)).n u).n B).m F).m C).m G).n D;have e:Tg.z∉([.n 4 i,.n 0 i,.n 5 i]:List Tg):=by simp
  exact⟨_,rfl,⟨({ o with bN:=some j,bn:=y6 }:NX),lt,T,K.nd 0 (d.tape.ch a e) (d.lp.ch a e) (BA d.an a e) (Cb d.bu a e (by simp)) (d.ew.ch a) (d.ae.ch a) (by rw[Cq];exact(((V.ch C).ch G).ch D)) (U.ch D) (λ_=>⟨j,rfl⟩),J.ch a e (by simp<;>omega),K.new⟩,(((((((t.nil (TN i)).n u).n B).trans (F.mono (by simp[TN]))).trans (C.mono (by simp[TN]))).trans (G.mono (by simp[TN]))).n D)⟩
theorem Ol(n g:Int)(w:World) :
  Calls prog 129 #[.int .i64 n,.int .i64 g] w λe w'=>e=.returned (.bool (decide (0<=n/\n<=g)))/\w'=w:=by
 by_cases a:0<=n
 .by_cases h1:n<=g
  .rw[O' (show 0<=n/\n<=g from⟨a,h1⟩)];go_enter func129,ntmps129
   go_wp2
   go_ret;exact⟨rfl,rfl⟩
  .rw[E' (show ¬ (0<=n/\n<=g)from λh=>h1 h.2)];go_enter func129,ntmps129
   go_wp2
   go_ret;exact⟨rfl,rfl⟩
 .rw[E' (show ¬ (0<=n/\n<=g)from λh=>a h.1)];go_enter func129,ntmps129
  go_wp2
  go_ret;exact⟨rfl,rfl⟩
theorem T3(s:Sto)(w:World) :
  Calls prog 98 #[.agg (stA s)] w λe w'=>e=.returned (.int .i64 (Nc s))/\Bw w w':=by
 have n:Bw w (w.alloc (.cells (stA s) 89)):=(Below.refl _ _).alloc (A' _) _;have p:Bs (w.alloc (.cells (stA s) 89)) w.heap.size s:=heap_alloc_new _ _;generalize x:w.alloc (.cells (stA s) 89)=W at n p;go_enter func98,ntmps98
 go_wp2_with ((with_reducible (refine EQ ?_));(refine GA rfl _ rfl w.heap.size 0 rfl s.V p.so ?_))
 clear x
 go_loopw [9] (λiv wr=>∃ i:Nat,i<=8/\iv=.int .i64 (i:Int)/\Hid (∀ j,j<i->VaB (s.V j))/\W=wr) (λiv _=>(8-intOf iv).toNat)
 case atStart=>exact⟨0,by omega,rfl,λj r=>by omega,rfl⟩
 case round =>
  obtain⟨i,t,rfl,l,rfl⟩:=hrel;by_cases a:i<8
  .have hlt':(i:Int)<8:=by omega
   have d:=UC s.V i a;go_wp2_with fail
   refine(Ol (s.V i) 1073741824 _).mono ?_;rintro e y ⟨rfl,rfl⟩;by_cases b:0<=s.V i/\s.V i<=1073741824
   .rw[O' b];have o:Hid (∀ j,j<i+1->VaB (s.V j)):=λj r=>by
     by_cases h:j=i
     .subst h;exact b
     .exact l.out j (by omega)
    clear b d l;go_wp2
    go_roundw
    case rel=>exact⟨i+1,by omega,by go_num,o,by simp⟩
    case measure=>simp[intOf];omega
   .rw[E' b];have k:Hid (Nc s=5):=KF (λh=>b (h.1 i a));clear b d l;go_wp2
    go_ret;rw[k.out];exact⟨rfl,n⟩
  .obtain rfl:i=8:=by omega
   clear a t;go_wp2_with ((with_reducible (refine EQ ?_));(refine GA rfl _ rfl w.heap.size 8 rfl s.L p.sm ?_))
   go_loopw [18] (λiv wr=>∃ i:Nat,i<=8/\iv=.int .i64 (i:Int)/\Hid (∀ j,j<i->ClB (s.L j) (s.C j) (s.A j))/\W=wr) (λiv _=>(8-intOf iv).toNat)
   case atStart=>exact⟨0,by omega,rfl,λj r=>by omega,rfl⟩
   case round =>
    obtain⟨i,t,rfl,f,rfl⟩:=hrel;by_cases a:i<8
    .have hlt':(i:Int)<8:=by omega
     have d:=UC s.L i a;go_wp2_with fail
     refine(Ol (s.L i) 1048577 _).mono ?_;rintro e y ⟨rfl,rfl⟩;by_cases b:0<=s.L i/\s.L i<=1048577
     .rw[O' b];have u:=p.sx i a;have v:=p.sw i a;have z:(0:Int)<=(i:Int):=by omega
      by_cases m:s.L i=0
      .rw[m];by_cases c:s.C i=0/\s.A i=0
       .rw[c.1]at u
        rw[c.2]at v
        have o:Hid (∀ j,j<i+1->ClB (s.L j) (s.C j) (s.A j)):=λj r=>by
         by_cases h:j=i
         .subst h;exact⟨b,λ_=>c⟩
         .exact f.out j (by omega)
        clear b d c m f;go_wp2
        go_roundw
        case rel=>exact⟨i+1,by omega,by go_num,o,by simp⟩
        case measure=>simp[intOf];omega
       .have k:Hid (Nc s=5):=KF (λh=>c ((h.2 i a).2 m));have q:=dk (s.C i) (s.A i);rw[E' c]at q
        clear b d c m f l;go_wp2
        go_ret;rw[k.out];exact⟨rfl,n⟩
      .have o:Hid (∀ j,j<i+1->ClB (s.L j) (s.C j) (s.A j)):=λj r=>by
        by_cases h:j=i
        .subst h;exact⟨b,λg=>absurd g m⟩
        .exact f.out j (by omega)
       have q:(s.L i==0)=false:=by simpa using m
       clear b d f;go_wp2
       go_roundw
       case rel=>exact⟨i+1,by omega,by go_num,o,by simp⟩
       case measure=>simp[intOf];omega
     .rw[E' b];have k:Hid (Nc s=5):=KF (λh=>b (h.2 i a).1);clear b d l f;go_wp2
      go_ret;rw[k.out];exact⟨rfl,n⟩
    .obtain rfl:i=8:=by omega
     have k:Hid (Nc s=0):=ep ⟨l.out,f.out⟩;clear a t f l;go_wp2
     go_ret;rw[k.out];exact⟨rfl,n⟩
theorem lt8(h:i<8):i=0\/i=1\/i=2\/i=3\/i=4\/i=5\/i=6\/i=7:=by omega
theorem fX(s:Sto)(c d:Nat)(q v:Int)(w:World)(x:c<8)(Y:d<8)(q0:0<=q)(q1:q<=1048576) :
  Calls prog 130 #[.agg (stA s),.agg #[iv 1,iv (c:Int),iv q,iv (d:Int),iv v]] w λe w'=>e=.returned (.tuple #[.agg (stA (L8 s ⟨1,c,q,d,v⟩)),.agg #[iv 0,iv (MO s ⟨1,c,q,d,v⟩)]])/\Bw w w':=by
 have r:∀ b,w.heap.size<=b->gS.t b=.z/\gS.k b=0:=λ_ _=>⟨rfl,rfl⟩;refine gI (fn:=f130) [] gS func130 r (qR [] 26 [1,0,0,0,1,0,1,0,1,0,1] λa Q Z E=>Cn 48 (λg w' e L=>e=[(2,pt (a 0) 0),(3,pt (a 1) 0),(4,pt (a 2) 0),(5,pt (a 3) 0),(6,pt (a 4) 0)]/\L=[⟨(a 0),.cells (stA ({ s with V:=By s.V d v })) 89,.l,false⟩,⟨(a 1),.cells #[iv 1,iv (c:Int),iv q,iv (d:Int),iv v] 49,.z,false⟩,⟨(a 2),.cells (stA E2) 89,.l,false⟩,⟨(a 3),.cells #[iv 0,iv 0] 85,.l,false⟩,⟨(a 4),.cells #[iv 0,iv 0] 85,.l,false⟩]/\True/\Cg w.heap.size ([]:List Tg) Q Z g w') (by kernel_rfl) ?_ ?_)
 .intro J hJ;rcases lt8 Y with rfl|rfl|rfl|rfl|rfl|rfl|rfl|rfl <;>
  (refine qR [] 8 [1,1,0,0] λa4 g3 w3 G=>?_;exact qB [true,true,true,true,true] λz h K=>hJ _ _ _ z _ ⟨rfl,rfl,trivial,(G.nil ([]:List Tg))⟩ K)
 rintro g2 w2 _ z2 _ ⟨rfl,rfl,_,F⟩;refine qR [] 13 [1,4,0,1,1] λa5 W w4 H=>qV 4 (iv (q+1)) (AK 37 q underlying3 (by omega)) (Cn 48 (λg w' e L=>e=[(2,pt (a 0) 0),(3,pt (a 1) 0),(4,pt (a 2) 0),(5,pt (a 3) 0),(6,pt (a 4) 0)]/\L=[⟨(a 0),.cells (stA (Sto.mk (By s.V d v) (By s.L c (q+1)) s.C s.A s.R)) 89,.l,false⟩,⟨(a 1),.cells #[iv 1,iv (c:Int),iv q,iv (d:Int),iv v] 49,.z,false⟩,⟨(a 2),.cells (stA E2) 89,.l,false⟩,⟨(a 3),.cells #[iv 0,iv 0] 85,.l,false⟩,⟨(a 4),.cells #[iv 0,iv v] 85,.l,false⟩]/\True/\Cg w.heap.size ([]:List Tg) W w4 g w') (by kernel_rfl) ?_ ?_)
 .intro J hJ;rcases lt8 x with rfl|rfl|rfl|rfl|rfl|rfl|rfl|rfl <;>
  (refine qR [] 4 [0,0] λa6 g6 w6 M=>?_;exact qB [true,true,true,true,true] λz h K=>hJ _ _ _ z _ ⟨rfl,rfl,trivial,(M.nil ([]:List Tg))⟩ K)
 rintro g5 w5 _ z5 _ ⟨rfl,rfl,_,I⟩;refine qR [] 2 [] λa7 X w7 N=>Cn 48 (λg w' e L=>e=[(2,pt (a 0) 0),(3,pt (a 1) 0),(4,pt (a 2) 0),(5,pt (a 3) 0),(6,pt (a 4) 0)]/\L=[⟨(a 0),.cells (stA (Sto.mk (By s.V d v) (By s.L c (q+1)) (By s.C c 0) (By s.A c v) s.R)) 89,.l,false⟩,⟨(a 1),.cells #[iv 1,iv (c:Int),iv q,iv (d:Int),iv v] 49,.z,false⟩,⟨(a 2),.cells (stA E2) 89,.l,false⟩,⟨(a 3),.cells #[iv 0,iv 0] 85,.l,false⟩,⟨(a 4),.cells #[iv 0,iv v] 85,.l,false⟩]/\True/\Cg w.heap.size ([]:List Tg) X w7 g w') (by kernel_rfl) ?_ ?_
 .intro J hJ;rcases lt8 x with rfl|rfl|rfl|rfl|rfl|rfl|rfl|rfl <;>
  (refine qR [] 7 [1,4,0,0] λa8 g9 w9 P=>?_;exact qB [true,true,true,true,true] λz h K=>hJ _ _ _ z _ ⟨rfl,rfl,trivial,(P.nil ([]:List Tg))⟩ K)
 rintro g8 w8 _ z8 _ ⟨rfl,rfl,_,O⟩;refine qR [] 3 [2,0,0] λy p u i=>Cn 48 (λg w' e L=>e=[(2,pt (a 0) 0),(3,pt (a 1) 0),(4,pt (a 2) 0),(5,pt (a 3) 0),(6,pt (a 4) 0)]/\L=[⟨(a 0),.cells (stA (Sto.mk (By s.V d v) (By s.L c (q+1)) (By s.C c 0) (By s.A c v) s.R)) 89,.l,false⟩,⟨(a 1),.cells #[iv 1,iv (c:Int),iv q,iv (d:Int),iv v] 49,.z,false⟩,⟨(a 2),.cells (stA (Sto.mk (By s.V d v) (By s.L c (q+1)) (By s.C c 0) (By s.A c v) s.R)) 89,.l,false⟩,⟨(a 3),.cells #[iv 0,iv v] 85,.l,false⟩,⟨(a 4),.cells #[iv 0,iv v] 85,.l,false⟩]/\True/\Cg w.heap.size ([]:List Tg) p u g w') (by kernel_rfl) ?_ ?_
 .intro J hJ
  (exact Dm 1 2 (by kernel_rfl) (by(refine qR [] 4 [4,5,2,0,7,3,0] λB T a1 m=>?_;exact qB [true,true,true,true,true] λz h K=>hJ _ _ _ z _ ⟨rfl,rfl,trivial,(m.nil ([]:List Tg))⟩ K)) (by(refine qR [] 4 [2,0,3,4,7,3,0] λD U a2 o=>?_;exact qB [true,true,true,true,true] λz h K=>hJ _ _ _ z _ ⟨rfl,rfl,trivial,(o.nil ([]:List Tg))⟩ K)))
 rintro S a0 _ a3 _ ⟨rfl,rfl,_,j⟩;exact qE4 4 5 89 85 2 (a 2) 3 (a 3) (stA (L8 s ⟨1,c,q,d,v⟩)) #[iv 0,iv (MO s ⟨1,c,q,d,v⟩)] λK=>⟨rfl,Cg.af (((((((E.trans F).trans H).trans I).trans N).trans O).trans i).trans j) (λ_ _=>Q')⟩
theorem fY(s:Sto)(c d:Nat)(q v:Int)(w:World)(x:c<8)(Y:d<8)(q0:0<=q)(q1:q<=1048576) :
  Calls prog 130 #[.agg (stA s),.agg #[iv 2,iv (c:Int),iv q,iv (d:Int),iv v]] w λe w'=>e=.returned (.tuple #[.agg (stA (L8 s ⟨2,c,q,d,v⟩)),.agg #[iv 0,iv (MO s ⟨2,c,q,d,v⟩)]])/\Bw w w':=by
 have r:∀ b,w.heap.size<=b->gS.t b=.z/\gS.k b=0:=λ_ _=>⟨rfl,rfl⟩;refine gI (fn:=f130) [] gS func130 r (qR [] 31 [1,0,0,0,1,0,1,0,1,0,1] λa Q Z E=>Cn 48 (λg w' e L=>e=[(2,pt (a 0) 0),(3,pt (a 1) 0),(4,pt (a 2) 0),(5,pt (a 3) 0),(6,pt (a 4) 0)]/\L=[⟨(a 0),.cells (stA s) 89,.l,false⟩,⟨(a 1),.cells #[iv 2,iv (c:Int),iv q,iv (d:Int),iv v] 49,.z,false⟩,⟨(a 2),.cells (stA E2) 89,.l,false⟩,⟨(a 3),.cells #[iv 0,iv 0] 85,.l,false⟩,⟨(a 4),.cells #[iv 0,iv (s.V d)] 85,.l,false⟩]/\True/\Cg w.heap.size ([]:List Tg) Q Z g w') (by kernel_rfl) ?_ ?_)
 .intro J hJ;rcases lt8 Y with rfl|rfl|rfl|rfl|rfl|rfl|rfl|rfl <;>
  (refine qR [] 8 [1,0,4,0] λa4 g3 w3 G=>?_;exact qB [true,true,true,true,true] λz h K=>hJ _ _ _ z _ ⟨rfl,rfl,trivial,(G.nil ([]:List Tg))⟩ K)
 rintro g2 w2 _ z2 _ ⟨rfl,rfl,_,F⟩;refine qR [] 7 [1,1] λa5 W w4 H=>qV 4 (iv (q+1)) (AK 37 q underlying3 (by omega)) (Cn 48 (λg w' e L=>e=[(2,pt (a 0) 0),(3,pt (a 1) 0),(4,pt (a 2) 0),(5,pt (a 3) 0),(6,pt (a 4) 0)]/\L=[⟨(a 0),.cells (stA (Sto.mk s.V (By s.L c (q+1)) s.C s.A s.R)) 89,.l,false⟩,⟨(a 1),.cells #[iv 2,iv (c:Int),iv q,iv (d:Int),iv v] 49,.z,false⟩,⟨(a 2),.cells (stA E2) 89,.l,false⟩,⟨(a 3),.cells #[iv 0,iv 0] 85,.l,false⟩,⟨(a 4),.cells #[iv 0,iv (s.V d)] 85,.l,false⟩]/\True/\Cg w.heap.size ([]:List Tg) W w4 g w') (by kernel_rfl) ?_ ?_)
 .intro J hJ;rcases lt8 x with rfl|rfl|rfl|rfl|rfl|rfl|rfl|rfl <;>
  (refine qR [] 4 [0,0] λa6 g6 w6 M=>?_;exact qB [true,true,true,true,true] λz h K=>hJ _ _ _ z _ ⟨rfl,rfl,trivial,(M.nil ([]:List Tg))⟩ K)
 rintro g5 w5 _ z5 _ ⟨rfl,rfl,_,I⟩;refine qR [] 2 [] λa7 X w7 N=>Cn 48 (λg w' e L=>e=[(2,pt (a 0) 0),(3,pt (a 1) 0),(4,pt (a 2) 0),(5,pt (a 3) 0),(6,pt (a 4) 0)]/\L=[⟨(a 0),.cells (stA (Sto.mk s.V (By s.L c (q+1)) (By s.C c 0) (By s.A c (s.V d)) s.R)) 89,.l,false⟩,⟨(a 1),.cells #[iv 2,iv (c:Int),iv q,iv (d:Int),iv v] 49,.z,false⟩,⟨(a 2),.cells (stA E2) 89,.l,false⟩,⟨(a 3),.cells #[iv 0,iv 0] 85,.l,false⟩,⟨(a 4),.cells #[iv 0,iv (s.V d)] 85,.l,false⟩]/\True/\Cg w.heap.size ([]:List Tg) X w7 g w') (by kernel_rfl) ?_ ?_
 .intro J hJ;rcases lt8 x with rfl|rfl|rfl|rfl|rfl|rfl|rfl|rfl <;>
  (refine qR [] 7 [1,4,0,0] λa8 g9 w9 P=>?_;exact qB [true,true,true,true,true] λz h K=>hJ _ _ _ z _ ⟨rfl,rfl,trivial,(P.nil ([]:List Tg))⟩ K)
 rintro g8 w8 _ z8 _ ⟨rfl,rfl,_,O⟩;refine qR [] 3 [2,0,0] λy p u i=>Cn 48 (λg w' e L=>e=[(2,pt (a 0) 0),(3,pt (a 1) 0),(4,pt (a 2) 0),(5,pt (a 3) 0),(6,pt (a 4) 0)]/\L=[⟨(a 0),.cells (stA (Sto.mk s.V (By s.L c (q+1)) (By s.C c 0) (By s.A c (s.V d)) s.R)) 89,.l,false⟩,⟨(a 1),.cells #[iv 2,iv (c:Int),iv q,iv (d:Int),iv v] 49,.z,false⟩,⟨(a 2),.cells (stA (Sto.mk s.V (By s.L c (q+1)) (By s.C c 0) (By s.A c (s.V d)) s.R)) 89,.l,false⟩,⟨(a 3),.cells #[iv 0,iv (s.V d)] 85,.l,false⟩,⟨(a 4),.cells #[iv 0,iv (s.V d)] 85,.l,false⟩]/\True/\Cg w.heap.size ([]:List Tg) p u g w') (by kernel_rfl) ?_ ?_
 .intro J hJ
  (exact Dm 1 2 (by kernel_rfl) (by(refine qR [] 4 [4,5,2,0,7,3,0] λB T a1 m=>?_;exact qB [true,true,true,true,true] λz h K=>hJ _ _ _ z _ ⟨rfl,rfl,trivial,(m.nil ([]:List Tg))⟩ K)) (by(refine qR [] 4 [2,0,3,4,7,3,0] λD U a2 o=>?_;exact qB [true,true,true,true,true] λz h K=>hJ _ _ _ z _ ⟨rfl,rfl,trivial,(o.nil ([]:List Tg))⟩ K)))
 rintro S a0 _ a3 _ ⟨rfl,rfl,_,j⟩;exact qE4 4 5 89 85 2 (a 2) 3 (a 3) (stA (L8 s ⟨2,c,q,d,v⟩)) #[iv 0,iv (MO s ⟨2,c,q,d,v⟩)] λK=>⟨rfl,Cg.af (((((((E.trans F).trans H).trans I).trans N).trans O).trans i).trans j) (λ_ _=>Q')⟩
theorem fZ(s:Sto)(c d:Nat)(q v:Int)(w:World)(x:c<8)(Y:d<8)(q0:0<=q)(q1:q<=1048576) :
  Calls prog 130 #[.agg (stA s),.agg #[iv 3,iv (c:Int),iv q,iv (d:Int),iv v]] w λe w'=>e=.returned (.tuple #[.agg (stA (L8 s ⟨3,c,q,d,v⟩)),.agg #[iv 0,iv (MO s ⟨3,c,q,d,v⟩)]])/\Bw w w':=by
 have r:∀ b,w.heap.size<=b->gS.t b=.z/\gS.k b=0:=λ_ _=>⟨rfl,rfl⟩;refine gI (fn:=f130) [] gS func130 r (qR [] 37 [1,0,0,0,1,0,1,0,1,0,1] λa Q Z E=>Cn 48 (λg w' e L=>e=[(2,pt (a 0) 0),(3,pt (a 1) 0),(4,pt (a 2) 0),(5,pt (a 3) 0),(6,pt (a 4) 0)]/\L=[⟨(a 0),.cells (stA ({ s with R:=By s.R d true })) 89,.l,false⟩,⟨(a 1),.cells #[iv 3,iv (c:Int),iv q,iv (d:Int),iv v] 49,.z,false⟩,⟨(a 2),.cells (stA E2) 89,.l,false⟩,⟨(a 3),.cells #[iv 0,iv 0] 85,.l,false⟩,⟨(a 4),.cells #[iv 0,iv 0] 85,.l,false⟩]/\True/\Cg w.heap.size ([]:List Tg) Q Z g w') (by kernel_rfl) ?_ ?_)
 .intro J hJ;rcases lt8 Y with rfl|rfl|rfl|rfl|rfl|rfl|rfl|rfl <;>
  (refine qR [] 6 [1,0,0] λa4 g3 w3 G=>?_;exact qB [true,true,true,true,true] λz h K=>hJ _ _ _ z _ ⟨rfl,rfl,trivial,(G.nil ([]:List Tg))⟩ K)
 rintro g2 w2 _ z2 _ ⟨rfl,rfl,_,F⟩;refine qR [] 7 [1,1] λa5 W w4 H=>qV 4 (iv (q+1)) (AK 37 q underlying3 (by omega)) (Cn 48 (λg w' e L=>e=[(2,pt (a 0) 0),(3,pt (a 1) 0),(4,pt (a 2) 0),(5,pt (a 3) 0),(6,pt (a 4) 0)]/\L=[⟨(a 0),.cells (stA (Sto.mk s.V (By s.L c (q+1)) s.C s.A (By s.R d true))) 89,.l,false⟩,⟨(a 1),.cells #[iv 3,iv (c:Int),iv q,iv (d:Int),iv v] 49,.z,false⟩,⟨(a 2),.cells (stA E2) 89,.l,false⟩,⟨(a 3),.cells #[iv 0,iv 0] 85,.l,false⟩,⟨(a 4),.cells #[iv 0,iv 0] 85,.l,false⟩]/\True/\Cg w.heap.size ([]:List Tg) W w4 g w') (by kernel_rfl) ?_ ?_)
 .intro J hJ;rcases lt8 x with rfl|rfl|rfl|rfl|rfl|rfl|rfl|rfl <;>
  (refine qR [] 4 [0,0] λa6 g6 w6 M=>?_;exact qB [true,true,true,true,true] λz h K=>hJ _ _ _ z _ ⟨rfl,rfl,trivial,(M.nil ([]:List Tg))⟩ K)
 rintro g5 w5 _ z5 _ ⟨rfl,rfl,_,I⟩;refine qR [] 2 [] λa7 X w7 N=>Cn 48 (λg w' e L=>e=[(2,pt (a 0) 0),(3,pt (a 1) 0),(4,pt (a 2) 0),(5,pt (a 3) 0),(6,pt (a 4) 0)]/\L=[⟨(a 0),.cells (stA (Sto.mk s.V (By s.L c (q+1)) (By s.C c 0) (By s.A c 0) (By s.R d true))) 89,.l,false⟩,⟨(a 1),.cells #[iv 3,iv (c:Int),iv q,iv (d:Int),iv v] 49,.z,false⟩,⟨(a 2),.cells (stA E2) 89,.l,false⟩,⟨(a 3),.cells #[iv 0,iv 0] 85,.l,false⟩,⟨(a 4),.cells #[iv 0,iv 0] 85,.l,false⟩]/\True/\Cg w.heap.size ([]:List Tg) X w7 g w') (by kernel_rfl) ?_ ?_
 .intro J hJ;rcases lt8 x with rfl|rfl|rfl|rfl|rfl|rfl|rfl|rfl <;>
  (refine qR [] 7 [1,4,0,0] λa8 g9 w9 P=>?_;exact qB [true,true,true,true,true] λz h K=>hJ _ _ _ z _ ⟨rfl,rfl,trivial,(P.nil ([]:List Tg))⟩ K)
 rintro g8 w8 _ z8 _ ⟨rfl,rfl,_,O⟩;refine qR [] 3 [2,0,0] λy p u i=>Cn 48 (λg w' e L=>e=[(2,pt (a 0) 0),(3,pt (a 1) 0),(4,pt (a 2) 0),(5,pt (a 3) 0),(6,pt (a 4) 0)]/\L=[⟨(a 0),.cells (stA (Sto.mk s.V (By s.L c (q+1)) (By s.C c 0) (By s.A c 0) (By s.R d true))) 89,.l,false⟩,⟨(a 1),.cells #[iv 3,iv (c:Int),iv q,iv (d:Int),iv v] 49,.z,false⟩,⟨(a 2),.cells (stA (Sto.mk s.V (By s.L c (q+1)) (By s.C c 0) (By s.A c 0) (By s.R d true))) 89,.l,false⟩,⟨(a 3),.cells #[iv 0,iv 0] 85,.l,false⟩,⟨(a 4),.cells #[iv 0,iv 0] 85,.l,false⟩]/\True/\Cg w.heap.size ([]:List Tg) p u g w') (by kernel_rfl) ?_ ?_
 .intro J hJ
  (exact Dm 1 2 (by kernel_rfl) (by(refine qR [] 4 [4,5,2,0,7,3,0] λB T a1 m=>?_;exact qB [true,true,true,true,true] λz h K=>hJ _ _ _ z _ ⟨rfl,rfl,trivial,(m.nil ([]:List Tg))⟩ K)) (by(refine qR [] 4 [2,0,3,4,7,3,0] λD U a2 o=>?_;exact qB [true,true,true,true,true] λz h K=>hJ _ _ _ z _ ⟨rfl,rfl,trivial,(o.nil ([]:List Tg))⟩ K)))
 rintro S a0 _ a3 _ ⟨rfl,rfl,_,j⟩;exact qE4 4 5 89 85 2 (a 2) 3 (a 3) (stA (L8 s ⟨3,c,q,d,v⟩)) #[iv 0,iv (MO s ⟨3,c,q,d,v⟩)] λK=>⟨rfl,Cg.af (((((((E.trans F).trans H).trans I).trans N).trans O).trans i).trans j) (λ_ _=>Q')⟩
theorem Xd(s:Sto)(k:Int)(a b:Nat)(q v:Int)(w:World)(j:1<=k/\k<=3)(c:a<8)(d:b<8)(f:0<=q)(g:q<=1048576){S:Sto}(i:L8 s ⟨k,a,q,b,v⟩=S){A:Int}(h:MO s ⟨k,a,q,b,v⟩=A) :
  Calls prog 130 #[.agg (stA s),.agg #[iv k,iv (a:Int),iv q,iv (b:Int),iv v]] w λe w'=>e=.returned (.tuple #[.agg (stA S),.agg #[iv 0,iv A]])/\Bw w w':=by
 subst i h;rcases(show k=1\/k=2\/k=3 by omega)with rfl|rfl|rfl
 .exact fX s a b q v w c d f g
 .exact fY s a b q v w c d f g
 .exact fZ s a b q v w c d f g
theorem WJ(s:Sto)(k:Int)(c d:Nat)(q v:Int)(w:World)(k0:0<=k)(k3:k<=3)(U:c<8)(hn:d<8)(q0:0<=q)(q1:q<=1048576) :
  Calls prog 99 #[.agg (stA s),.agg #[iv k,iv (c:Int),iv q,iv (d:Int),iv v]] w λe w'=>e=.returned (.tuple #[.agg (stA (dnS s ⟨k,c,q,d,v⟩)),.agg #[iv (dnC s ⟨k,c,q,d,v⟩),iv (dnA s ⟨k,c,q,d,v⟩)]])/\Bw w w':=by
 have a4:∀ b,w.heap.size<=b->gS.t b=.z/\gS.k b=0:=λ_ _=>⟨rfl,rfl⟩;refine gI (fn:=f99) [] gS func99 a4 (qR [] 14 [0,0,0,0,1,0,1,0,1] λa g1 w1 x=>?_);by_cases h:k=0
 .refine qI ((k==0)) true (by simpa using h) (qR [] 7 [0,2,0,3,0] λf3 g2 w2 c2=>?_);rw[show dnS s ⟨k,c,q,d,v⟩=s from if_neg (λg=>g.1 h),show dnC s ⟨k,c,q,d,v⟩=0 from if_pos h,show dnA s ⟨k,c,q,d,v⟩=0 from if_pos h];exact qE4 4 5 89 85 2 (a 2) 3 (a 3) (stA s) #[iv 0,iv 0] λK=>⟨rfl,Cg.af (x.trans c2) (λ_ _=>Q')⟩
 .refine qI ((k==0)) false (by simpa using h) (qR [] 3 [] λf4 g3 w3 G=>Cn 49 (λN w' e L=>e=[(2,pt (a 0) 0),(3,pt (a 1) 0),(4,pt (a 2) 0),(5,pt (a 3) 0),(6,iv (s.L c))]/\L=[⟨(a 0),.cells (stA s) 89,.z,false⟩,⟨(a 1),.cells #[iv k,iv (c:Int),iv q,iv (d:Int),iv v] 49,.z,false⟩,⟨(a 2),.cells (stA E2) 89,.l,false⟩,⟨(a 3),.cells #[iv 0,iv 0] 85,.l,false⟩]/\True/\Cg w.heap.size ([]:List Tg) g3 w3 N w') (by kernel_rfl) ?_ ?_)
  .intro J hJ;rcases lt8 U with rfl|rfl|rfl|rfl|rfl|rfl|rfl|rfl <;>
   (refine qR [] 7 [1,0] λf5 g5 w5 c5=>?_;exact qB [true,true,true,true] λz Q K=>hJ _ _ _ z _ ⟨rfl,rfl,trivial,(c5.nil ([]:List Tg))⟩ K)
  rintro g4 w4 _ z4 _ ⟨rfl,rfl,_,H⟩;refine qR [] 7 [1] λf6 g6 w6 I=>qV 3 (iv (q+1)) (AK 20 q underlying3 (by omega)) (qR [] 3 [] λf7 g7 w7 M=>?_);by_cases i:s.L c=q+1
  .refine qI (((s.L c)==(q+1))) true (by simpa using i) (qR [] 2 [6] λf8 g8 w8 c8=>Cn 49 (λN w' e L=>e=[(2,pt (a 0) 0),(3,pt (a 1) 0),(4,pt (a 2) 0),(5,pt (a 3) 0)]/\L=[⟨(a 0),.cells (stA s) 89,.z,false⟩,⟨(a 1),.cells #[iv k,iv (c:Int),iv q,iv (d:Int),iv v] 49,.z,false⟩,⟨(a 2),.cells (stA s) 89,.l,false⟩,⟨(a 3),.cells #[iv (s.C c),iv (s.A c)] 85,.l,false⟩]/\True/\Cg w.heap.size ([]:List Tg) g8 w8 N w') (by kernel_rfl) ?_ ?_)
   .intro J hJ;rcases lt8 U with rfl|rfl|rfl|rfl|rfl|rfl|rfl|rfl <;>
    (refine qR [] 3 [0,0,2,6] λa8 c0 e0 p=>?_;exact Dm 2 6 (by kernel_rfl) (by(refine qR [] 2 [1,8] λa9 d0 e1 E=>?_;exact Dm 5 6 (by kernel_rfl) (by(refine qR [] 4 [0,13,2,0,15,3,0] λb0 d1 e2 V=>?_;exact qB [true,true,true,true] λz Q K=>hJ _ _ _ z _ ⟨rfl,rfl,trivial,(((p.nil ([]:List Tg)).n E).n V)⟩ K)) (by(refine qR [] 4 [2,0,11,0,15,3,0] λb1 d2 e3 W=>?_;exact qB [true,true,true,true] λz Q K=>hJ _ _ _ z _ ⟨rfl,rfl,trivial,(((p.nil ([]:List Tg)).n E).n W)⟩ K)))) (by(refine qR [] 6 [2,0,5,1,8,11,0,15,3,0] λb2 d3 e4 X=>?_;exact qB [true,true,true,true] λz Q K=>hJ _ _ _ z _ ⟨rfl,rfl,trivial,((p.nil ([]:List Tg)).n X)⟩ K)))
   rintro g9 w9 _ z9 _ ⟨rfl,rfl,_,c9⟩;rw[show dnS s ⟨k,c,q,d,v⟩=s from if_neg (λg=>g.2.1 (by show q<s.L c;omega)),show dnC s ⟨k,c,q,d,v⟩=s.C c from(if_neg h).trans (if_pos i),show dnA s ⟨k,c,q,d,v⟩=s.A c from(if_neg h).trans (if_pos i)];exact qE4 4 5 89 85 2 (a 2) 3 (a 3) (stA s) #[iv (s.C c),iv (s.A c)] λK=>⟨rfl,Cg.af ((((((x.trans G).trans H).trans I).trans M).trans c8).trans c9) (λ_ _=>Q')⟩
  .refine qI (((s.L c)==(q+1))) false (by simpa using i) (qR [] 8 [1] λb3 d4 e5 m=>?_);by_cases j:q<s.L c
   .refine qI ((decide (q<(s.L c)))) true (O' j) (qR [] 7 [0,2,0,3,0] λb4 d5 e6 Y=>?_);rw[show dnS s ⟨k,c,q,d,v⟩=s from if_neg (λg=>g.2.1 j),show dnC s ⟨k,c,q,d,v⟩=7 from(if_neg h).trans ((if_neg i).trans (if_pos j)),show dnA s ⟨k,c,q,d,v⟩=0 from(if_neg h).trans ((if_neg i).trans (if_pos j))];exact qE4 4 5 89 85 2 (a 2) 3 (a 3) (stA s) #[iv 7,iv 0] λK=>⟨rfl,Cg.af ((((((x.trans G).trans H).trans I).trans M).trans m).trans Y) (λ_ _=>Q')⟩
   .refine qI ((decide (q<(s.L c)))) false (E' j) (qR [] 2 [] λb5 a3 a5 r=>Cn 49 (λN w' e L=>e=[(2,pt (a 0) 0),(3,pt (a 1) 0),(4,pt (a 2) 0),(5,pt (a 3) 0),(36,.bool (s.R c))]/\L=[⟨(a 0),.cells (stA s) 89,.z,false⟩,⟨(a 1),.cells #[iv k,iv (c:Int),iv q,iv (d:Int),iv v] 49,.z,false⟩,⟨(a 2),.cells (stA E2) 89,.l,false⟩,⟨(a 3),.cells #[iv 0,iv 0] 85,.l,false⟩]/\True/\Cg w.heap.size ([]:List Tg) a3 a5 N w') (by kernel_rfl) ?_ ?_)
    .intro J hJ;rcases lt8 U with rfl|rfl|rfl|rfl|rfl|rfl|rfl|rfl <;>
     (refine qR [] 7 [1,0] λb6 d7 e8 Z=>?_;exact qB [true,true,true,true] λz Q K=>hJ _ _ _ z _ ⟨rfl,rfl,trivial,(Z.nil ([]:List Tg))⟩ K)
    rintro d6 e7 _ f2 _ ⟨rfl,rfl,_,u⟩;by_cases o:s.R c=true
    .refine qI ((s.R c)) true o (qR [] 7 [0,2,0,3,0] λb7 d8 e9 a0=>?_);rw[show dnS s ⟨k,c,q,d,v⟩=s from if_neg (λg=>Bool.noConfusion (o.symm.trans g.2.2)),show dnC s ⟨k,c,q,d,v⟩=11 from(if_neg h).trans ((if_neg i).trans ((if_neg j).trans (if_pos o))),show dnA s ⟨k,c,q,d,v⟩=0 from(if_neg h).trans ((if_neg i).trans ((if_neg j).trans (if_pos o)))];exact qE4 4 5 89 85 2 (a 2) 3 (a 3) (stA s) #[iv 11,iv 0] λK=>⟨rfl,Cg.af ((((((((x.trans G).trans H).trans I).trans M).trans m).trans r).trans u).trans a0) (λ_ _=>Q')⟩
    .refine qI ((s.R c)) false (by simpa using o) ?_;obtain⟨S,hS⟩:∃ S,L8 s ⟨k,c,q,d,v⟩=S:=⟨_,rfl⟩;obtain⟨A,hA⟩:∃ A,MO s ⟨k,c,q,d,v⟩=A:=⟨_,rfl⟩;refine qR [] 6 [0,1] λb8 O P F=>?_;have a6:=(Cg.af ((((((((x.trans G).trans H).trans I).trans M).trans m).trans r).trans u).trans F) (λ_ _=>Q'));refine Ag λy=>?_;have a7:∀ z,P.heap.size<=z->O.t z=.z:=λz hz=>(y.new z hz).1;refine qC 2 (Xd s k c d q v P (by omega) U hn q0 q1 hS hA) ?_;rintro e' f0 ⟨rfl,D⟩;refine⟨_,rfl,D,?_⟩;have a1:=Cg.eb (B:=w.heap.size) (T:=[]) (g:=O) D;refine qR [] 5 [2,0,3,0] λb9 d9 f1 a2=>?_;rw[show dnS s ⟨k,c,q,d,v⟩=S from(if_pos ⟨h,j,by simpa using o⟩).trans hS,show dnC s ⟨k,c,q,d,v⟩=0 from(if_neg h).trans ((if_neg i).trans ((if_neg j).trans (if_neg o))),show dnA s ⟨k,c,q,d,v⟩=A from(if_neg h).trans ((if_neg i).trans ((if_neg j).trans ((if_neg o).trans hA)))];exact qE4 4 5 89 85 2 (a 2) 3 (a 3) (stA S) #[iv 0,iv A] λK=>⟨rfl,Cg.af ((((((((((x.trans G).trans H).trans I).trans M).trans m).trans r).trans u).trans F).trans a1).trans a2) (λ_ _=>Q')⟩
theorem aS(j:m.e=0){S:Sto}(i:dnS s m=S){C A:Int}(h:dnC s m=C)(g:dnA s m=A) :
  Calls prog 99 #[.agg (stA s),.agg #[iv m.k,iv m.c,iv m.s,iv m.n,iv m.v]] w λe w'=>e=.returned (.tuple #[.agg (stA S),.agg #[iv C,iv A]])/\Bw w w':=by
 subst i h g;obtain⟨k,c,q,n,v⟩:=m;obtain⟨b,f⟩:=TH j;unfold InC at f;simp only at b f ⊢;obtain⟨a,rfl⟩:∃ a:Nat,c=(a:Int):=⟨c.toNat,by omega⟩;obtain⟨d,rfl⟩:∃ d:Nat,n=(d:Int):=⟨n.toNat,by omega⟩;exact WJ s k a d q v w b.1 b.2 (by omega) (by omega) (by omega) (by omega)
theorem WI(a:Nc s=E):Calls prog 98 #[.agg (stA s)] w λe w'=>e=.returned (iv E)/\Bw w w':=by subst a;exact T3 s w
theorem VK(b:NTab w){E:Int}(a:m.e=E):Calls prog 76 #[.agg #[iv m.k,iv m.c,iv m.s,iv m.n,iv m.v]] w λe w'=>e=.returned (iv E)/\Bw w w':=by subst a;exact El m.k m.c m.s m.n m.v w b
theorem kN(s:Sto)(m:Cmd)(w:World)(hN:NTab w) :
  Calls prog 53 #[.agg (stA s),.agg #[iv m.k,iv m.c,iv m.s,iv m.n,iv m.v]] w λe w'=>e=.returned (.tuple #[.agg (stA (doS s m)),.agg #[iv (doC s m),iv (doA s m)],iv (doE s m)])/\Bw w w':=by
 obtain⟨E,o⟩:∃ E,Nc s=E:=⟨_,rfl⟩;obtain⟨F,Y⟩:∃ F,m.e=F:=⟨_,rfl⟩;have Z:∀ b,w.heap.size<=b->gS.t b=.z/\gS.k b=0:=λ_ _=>⟨rfl,rfl⟩;refine gI (fn:=f53) [] gS func53 Z (qR [] 12 [0,0,0,0,1,0,1,0,0] λa g1 w1 j=>?_);have a5:=(Cg.af j (λ_ _=>Q'));refine Ag λI=>?_;have a9:∀ z,w1.heap.size<=z->g1.t z=.z:=λz D=>(I.new z D).1;refine qC 1 (WI o) ?_;rintro e' w2 ⟨rfl,b2⟩;refine⟨_,rfl,b2,?_⟩;have r:=Cg.eb (B:=w.heap.size) (T:=[]) (g:=g1) b2;refine qR [] 7 [] λb8 g3 w3 u=>?_;by_cases x:E≠0
 .refine qI ((E != 0)) true (by simpa using x) (qR [] 9 [2,0,3,0] λb9 g4 w4 c4=>?_);have h:doE s m=E:=by unfold doE;unfold Nc at o;split at o;exact absurd o.symm x;rename_i g;rw[if_neg g];exact o
  have d:doE s m≠0:=by rw[h];exact x
  rw[XJ d,XF d,show doA s m=0 from if_neg d,h];exact qE5 4 5 6 89 85 2 (a 2) 3 (a 3) (stA E2) #[iv 0,iv 0] (iv E) λK=>⟨rfl,(Cg.af (((j.trans r).trans u).trans c4) (λ_ _=>Q'))⟩
 .refine qI ((E != 0)) false (by simpa using x) ?_;have hB:If s:=pQ λg=>absurd (o.symm.trans (KF g)) (by rw[show E=0 from by simpa using x];decide);refine qR [] 5 [1] λc0 g5 w5 G=>?_;have N:=(Cg.af (((j.trans r).trans u).trans G) (λ_ _=>Q'));refine Ag λM=>?_;have b0:∀ z,w5.heap.size<=z->g5.t z=.z:=λz D=>(M.new z D).1;refine qC 1 (VK (hN.af N) Y) ?_;rintro e' w6 ⟨rfl,b6⟩;refine⟨_,rfl,b6,?_⟩;have V:=Cg.eb (B:=w.heap.size) (T:=[]) (g:=g5) b6;refine qR [] 7 [] λd0 g7 w7 W=>?_;by_cases H:F≠0
  .refine qI ((F != 0)) true (by simpa using H) (qR [] 9 [2,0,3,0] λd1 g8 w8 c8=>?_);have h:doE s m=F:=(if_pos hB).trans Y;have d:doE s m≠0:=by rw[h];exact H
   rw[XJ d,XF d,show doA s m=0 from if_neg d,h];exact qE5 4 5 6 89 85 2 (a 2) 3 (a 3) (stA E2) #[iv 0,iv 0] (iv F) λK=>⟨rfl,(Cg.af ((((((j.trans r).trans u).trans G).trans V).trans W).trans c8) (λ_ _=>Q'))⟩
  .refine qI ((F != 0)) false (by simpa using H) ?_;have y:m.e=0:=by rw[Y];simpa using H
   have h:doE s m=0:=(if_pos hB).trans y;obtain⟨S,hS⟩:∃ S,dnS s m=S:=⟨_,rfl⟩;obtain⟨C,hC⟩:∃ C,dnC s m=C:=⟨_,rfl⟩;obtain⟨A,hA⟩:∃ A,dnA s m=A:=⟨_,rfl⟩;refine qR [] 5 [0,1] λd2 g9 w9 c9=>?_;have a1:=(Cg.af ((((((j.trans r).trans u).trans G).trans V).trans W).trans c9) (λ_ _=>Q'));refine Ag λp=>?_;have a2:∀ z,w9.heap.size<=z->g9.t z=.z:=λz D=>(p.new z D).1;refine qC 2 (aS y hS hC hA) ?_;rintro e' b1 ⟨rfl,q⟩;refine⟨_,rfl,q,?_⟩;have O:=Cg.eb (B:=w.heap.size) (T:=[]) (g:=g9) q;refine qR [] 11 [0,0,0,0,4,0,5,0,2,0,4] λi X a0 P=>Cn 33 (λg' w' e L=>e=[(4,pt (a 2) 0),(5,pt (a 3) 0),(6,iv 0)]/\L=[⟨(a 0),.cells (stA s) 89,.z,false⟩,⟨(a 1),.cells #[iv m.k,iv m.c,iv m.s,iv m.n,iv m.v] 49,.z,false⟩,⟨(a 2),.cells (stA S) 89,.l,false⟩,⟨(a 3),.cells #[iv C,iv A] 85,.l,false⟩,⟨(i 0),.cells (stA S) 89,.z,false⟩,⟨(i 1),.cells #[iv C,iv A] 85,.z,false⟩]/\True/\Cg w.heap.size ([]:List Tg) X a0 g' w') (by kernel_rfl) ?_ ?_
   .intro J hJ
    (exact Dm 1 2 (by kernel_rfl) (by(refine qR [] 5 [5,5,2,0,7,3,0,8] λa3 a7 b4 R=>?_;exact qB [true,true,true,true,true,true] λz K0 K=>hJ _ _ _ z _ ⟨rfl,rfl,trivial,(R.nil ([]:List Tg))⟩ K)) (by(refine qR [] 5 [2,0,3,5,7,3,0,8] λa4 a8 b5 U=>?_;exact qB [true,true,true,true,true,true] λz K0 K=>hJ _ _ _ z _ ⟨rfl,rfl,trivial,(U.nil ([]:List Tg))⟩ K)))
   rintro a6 b3 _ b7 _ ⟨rfl,rfl,_,Q⟩;rw[RJ h,gp h,go h,h,hS,hC,hA];exact qE5 4 5 6 89 85 2 (a 2) 3 (a 3) (stA S) #[iv C,iv A] (iv 0) λK=>⟨rfl,(Cg.af (((((((((j.trans r).trans u).trans G).trans V).trans W).trans c9).trans O).trans P).trans Q) (λ_ _=>Q'))⟩
theorem DC(s:Sto)(k c q n v:Int)(w:World)(a:NTab w) :
  Calls prog 53 #[.agg (stA s),.agg (cmA k c q n v)] w λe w'=>e=.returned (.tuple #[.agg (stA (doS s ⟨k,c,q,n,v⟩)),.agg #[.int .i64 (doC s ⟨k,c,q,n,v⟩),.int .i64 (doA s ⟨k,c,q,n,v⟩)],.int .i64 (doE s ⟨k,c,q,n,v⟩)])/\Bw w w':=kN s ⟨k,c,q,n,v⟩ w a
theorem YN{v:Value}{l:List Int}{a:Int}(h:Sl w v l)(f:AJ w)(j:Dj w)(d:NTab w)(i:opE l a=e0)(g:GW l a=c) :
  Calls prog 51 #[v,iv a] w λe w'=>e=.returned (.tuple #[.agg #[iv c.k,iv c.c,iv c.s,iv c.n,iv c.v],iv e0])/\Bw w w':=by
 have b:=VC v l a w h f j d;rw[ij,i,g]at b
 exact b
theorem Ws(h:NS i nb ob g w p ls ts){w0:World}(H:Base w0 g w)(E:Tabs w0)(dv:S3)(y:List Int)(hd:Sl w dv.v y){n:Nat}(b0:NOk n p)(f9:p.bad<100000000)(hw:p.bn.length<100000000)(e9:ts.length<100000000){A:Int}{c:Cmd}(he:opE y (p.done:Int)=A)(hc:GW y (p.done:Int)=c) :
  Calls prog 26 #[pt nb 0,dv.v] w (NP i nb ob g w (.tuple #[]) (p.qP i A c ts).1 ls (p.qP i A c ts).2):=by
 obtain⟨x,lt,tl,I,M,hg⟩:=h;have e8:=b0.dn;have i7:=b0.ag;refine gI (fn:=f26) (TN i) g func26 hg (qN I (qO M (qR [] 9 [0] λs1 g1 w1 m=>?_)));by_cases h1:p.up=true
 .refine qI ((!p.up)) false (by simpa using h1) ?_;have t:¬ p.up=false:=by simp[h1]
  refine qR [] 9 [0] λs2 g2 w2 o=>?_;have G:=H.ch (m.trans o);have e7:=Cg.af (m.trans o) (λ_ _=>Q');refine qC 6 (YN (hd.af e7) (G.tt E) (G.tq E) (G.tn E) he hc) ?_;rintro F w3 ⟨rfl,b3⟩;refine⟨_,rfl,b3,?_⟩;have q:=Cg.eb (B:=w.heap.size) (T:=[]) (g:=g2) b3;refine qR [] 13 [0,0,2,0] λs4 g4 w4 r=>?_;by_cases h2:A≠0
  .refine qI ((A != 0)) true (by simpa using h2) (qR [] 6 [0] λs5 g5 w5 c5=>qV 4 (iv ((p.bad+1:Nat):Int)) (AK 29 (p.bad:Int) underlying3 (by omega)) (qR [.n 0 i] 4 [0,1] λs6 g6 w6 c6=>qE (.tuple #[]) λK=>?_));rw[show p.qP i A c ts=({ p with bad:=p.bad+1 },ts)from(if_neg t).trans (if_pos h2)];have C7:=(((((m.nil ([.n 0 i]:List Tg)).n o).n q).n r).n c5).trans (c6);exact⟨_,rfl,⟨x,lt,tl,K.si 0 I C7,M.ch C7 (hn:=by simp<;>omega),K.new⟩,((((((m.nil (TN i)).n o).n q).n r).n c5).trans (c6.mono (by simp[TN])))⟩
  .refine qI ((A != 0)) false (by simpa using h2) (qR [] 6 [4,0,4,2] λs8 g8 w8 u=>Ag λK=>?_);have b9:NS i nb ob g8 w8 p ls ts:=(nsC I M ((((m.n o).n q).n r).n u) K);refine qC 1 (Ug b9 e8) ?_;rintro F j7 ⟨m0,rfl,b1,O⟩;refine⟨_,rfl,O,?_⟩;have a:=Cg.eb (B:=w.heap.size) (T:=[]) (g:=g8) O;refine qC 3 (Fu (l:=p.ae.take p.done) b1 (by rw[X'];omega) c) ?_;rintro F j8 ⟨rfl,P⟩;refine⟨_,rfl,P,?_⟩;have b:=Cg.eb (B:=w.heap.size) (T:=[]) (g:=g8) P;refine qR [] 1 [] λi8 h0 j9 d=>?_;by_cases h3:c∈p.ae.take p.done
   .refine qI ((decide (c∈p.ae.take p.done))) true (by simpa using h3) (qR [] 8 [16,0,2,4,6,8,0,10,2] λi9 e2 f4 j=>Cn 55 (λg' w' e L=>∃ (b6 b7:Nat),e=[(0,pt nb 0),(4,pt (s4 0) 0),(6,pt b6 0),(7,pt b7 0)]/\L=[⟨nb,.cells (AI i ob p x) 97,.n 0 i,false⟩,⟨ob,.cells #[S3.v lt,S3.v tl] 67,.n 50 0,false⟩,⟨(s4 0),.cells #[iv c.k,iv c.c,iv c.s,iv c.n,iv c.v] 49,.z,false⟩,⟨b6,.cells (stA (doS p.lr c)) 89,.l,false⟩,⟨b7,.cells #[iv (doC p.lr c),iv (doA p.lr c)] 85,.l,false⟩]/\Cg w.heap.size [] g w g' w') (by kernel_rfl) ?_ ?_)
    .intro J hJ;refine Yf 6 11 12 (by kernel_rfl) ?_ ?_ ?_
     .have hB18:=H.ch ((((((((m.trans o).trans q).trans r).trans u).trans a).trans b).trans d).trans j) (by simp);refine qC 6 (DC p.lr c.k c.c c.s c.n c.v f4 (hB18.tn E)) ?_;rintro F k0 ⟨rfl,Q⟩;refine⟨_,rfl,Q,?_⟩;have W:=Cg.eb (B:=w.heap.size) (T:=[]) (g:=e2) Q;refine qR [] 4 [14,16,18,20] λj0 h4 k1 X=>Dm 11 12 (by kernel_rfl) ?_ ?_
      .refine qR [] 6 [1,0,25,1,0,27,3,0,29,4,0,30] λb2 h5 k2 c9=>qB [true,true,true,true,true] λz N K=>hJ _ _ _ z _ ⟨(b2 0),(b2 1),rfl,rfl,(((((((((((m.trans o).trans q).trans r).trans u).trans a).trans b).trans d).trans j).trans W).trans X).trans c9)⟩ K
      .refine qR [] 6 [1,0,23,1,0,27,4,0,29,3,0,30] λb4 h6 k3 d0=>Ny ?_;exact qB [true,true,true,true,true] λz N K=>hJ _ _ _ z _ ⟨(b4 1),(b4 0),rfl,rfl,(((((((((((m.trans o).trans q).trans r).trans u).trans a).trans b).trans d).trans j).trans W).trans X).trans d0)⟩ K
     .refine qR [] 1 [1,0] λb5 e3 f5 C=>Dm 6 12 (by kernel_rfl) ?_ ?_
      .have hB25:=H.ch (((((((((m.trans o).trans q).trans r).trans u).trans a).trans b).trans d).trans j).trans C) (by simp);refine qC 6 (DC p.lr c.k c.c c.s c.n c.v f5 (hB25.tn E)) ?_;rintro F k4 ⟨rfl,R⟩;refine⟨_,rfl,R,?_⟩;have d1:=Cg.eb (B:=w.heap.size) (T:=[]) (g:=e3) R;refine qR [] 9 [14,16,18,20,25,1,0,27,3,0,29,4,0,30] λf0 h7 k5 d2=>qB [true,true,true,true,true] λz N K=>hJ _ _ _ z _ ⟨(b5 0),(f0 0),rfl,rfl,(((((((((((m.trans o).trans q).trans r).trans u).trans a).trans b).trans d).trans j).trans C).trans d1).trans d2)⟩ K
      .refine qR [] 1 [1,0] λf1 e4 f6 Y=>?_;have a4:=H.ch ((((((((((m.trans o).trans q).trans r).trans u).trans a).trans b).trans d).trans j).trans C).trans Y) (by simp);refine qC 6 (DC p.lr c.k c.c c.s c.n c.v f6 (a4.tn E)) ?_;rintro F k6 ⟨rfl,S⟩;refine⟨_,rfl,S,?_⟩;have d3:=Cg.eb (B:=w.heap.size) (T:=[]) (g:=e4) S;refine qR [] 8 [14,16,18,20,27,3,0,29,4,0,30] λj1 h8 k7 d4=>qB [true,true,true,true,true] λz N K=>hJ _ _ _ z _ ⟨(b5 0),(f1 0),rfl,rfl,((((((((((((m.trans o).trans q).trans r).trans u).trans a).trans b).trans d).trans j).trans C).trans Y).trans d3).trans d4)⟩ K
     .refine qR [] 1 [1,0] λb8 e5 f7 D=>Dm 6 11 (by kernel_rfl) ?_ ?_
      .have hB34:=H.ch (((((((((m.trans o).trans q).trans r).trans u).trans a).trans b).trans d).trans j).trans D) (by simp);refine qC 6 (DC p.lr c.k c.c c.s c.n c.v f7 (hB34.tn E)) ?_;rintro F k8 ⟨rfl,U⟩;refine⟨_,rfl,U,?_⟩;have d5:=Cg.eb (B:=w.heap.size) (T:=[]) (g:=e5) U;refine qR [] 9 [14,16,18,20,23,1,0,27,4,0,29,3,0,30] λf2 h9 k9 d6=>Ny ?_;exact qB [true,true,true,true,true] λz N K=>hJ _ _ _ z _ ⟨(f2 0),(b8 0),rfl,rfl,(((((((((((m.trans o).trans q).trans r).trans u).trans a).trans b).trans d).trans j).trans D).trans d5).trans d6)⟩ K
      .refine qR [] 1 [1,0] λf3 e6 f8 Z=>?_;have a5:=H.ch ((((((((((m.trans o).trans q).trans r).trans u).trans a).trans b).trans d).trans j).trans D).trans Z) (by simp);refine qC 6 (DC p.lr c.k c.c c.s c.n c.v f8 (a5.tn E)) ?_;rintro F l0 ⟨rfl,V⟩;refine⟨_,rfl,V,?_⟩;have d7:=Cg.eb (B:=w.heap.size) (T:=[]) (g:=e6) V;refine qR [] 8 [14,16,18,20,27,4,0,29,3,0,30] λj2 i0 l1 d8=>Ny ?_;exact qB [true,true,true,true,true] λz N K=>hJ _ _ _ z _ ⟨(f3 0),(b8 0),rfl,rfl,((((((((((((m.trans o).trans q).trans r).trans u).trans a).trans b).trans d).trans j).trans D).trans Z).trans d7).trans d8)⟩ K
    .rintro g16 w16 _ z16 _ ⟨b6,b7,rfl,rfl,hcc⟩;refine qR [] 5 [2,4] λj3 i1 l2 a0=>?_;rw[show p.qP i A c ts=(p,(ts++[⟨i,c.c,c.s,doC p.lr c,doA p.lr c⟩]))from(if_neg t).trans ((if_neg h2).trans (if_pos h3))];refine qS 3 [false,false,true,true,true] I M (hcc.n a0) (λc0=>Rd c0 e9 c (doC p.lr c) (doA p.lr c)) λi2 l3 l8 g0 g7 a6 a8 d9=>qR [] 1 [] λj4 i3 l4 a1=>qF a6 a8 a1 ((((hcc.nil (TN i)).n a0).trans (d9)).n a1)
   .refine qI ((decide (c∈p.ae.take p.done))) false (by simpa using h3) (qR [] 4 [2] λj5 i4 l5 a2=>?_);rw[show p.qP i A c ts=(p.want c,ts)from(if_neg t).trans ((if_neg h2).trans (if_neg h3))];refine qS 2 [false,false,true] I M ((((((((m.n o).n q).n r).n u).n a).n b).n d).n a2) (λc7=>aY c7 h1 hw c) λi5 l6 l9 g3 g9 a7 a9 e1=>qR [] 1 [] λj6 i6 l7 a3=>qF a7 a9 a3 (((((((((((m.nil (TN i)).n o).n q).n r).n u).n a).n b).n d).n a2).trans (e1)).n a3)
 .refine qI ((!p.up)) true (by simpa using h1) (qE (.tuple #[]) λK=>?_);rw[show p.qP i A c ts=(p,ts)from if_pos (by simpa using h1)];exact⟨_,rfl,(nsC I M m K),(m.nil (TN i))⟩
end
end
end Go.Proofs.YtgbabbapcibnlabGreatDoor
