/- Part 13 of the walk. -/
import Derived.Lib.AppendZeros
import Derived.Test.YthohlalejhgbmaaGreatDoorZ12
set_option maxRecDepth 100000
set_option maxHeartbeats 4000000
open Go.Proofs.Tryz
set_option linter.unusedVariables false
namespace Go.Proofs.YthohlalejhgbmaaGreatDoor
section
open Go.RowKit
section
def Nl(k:Nat):Int:=if k=1 then 2 else if k=2 then 1 else if k=3 then 4 else 0
variable{c:Int}{key l:List Int}{w:World}{x y:S3}
theorem NTab.right(h:NTab w)(k:Nat)(a:k<=3):w.cell? ⟨2,k*3,none⟩=some (.int .i64 (Nl k)):=by
 rcases(by omega:k=0\/k=1\/k=2\/k=3)with rfl|rfl|rfl|rfl
 .exact h.cell 0 (by omega)
 .exact h.cell 3 (by omega)
 .exact h.cell 6 (by omega)
 .exact h.cell 9 (by omega)
theorem Uu(k:Nat)(r:Int)(c:k<=3)(a:0<=r)(b:r<=7):(bits .and .i64 r (Nl k)=0)↔¬ NL (k:Int) r:=by
 have all:∀ (i:Fin 4) (j:Fin 8),(bits .and .i64 ((j.val:Nat):Int) (Nl i.val)=0)↔¬ NL ((i.val:Nat):Int) ((j.val:Nat):Int):=by decide +kernel
 obtain⟨m,rfl⟩:=jY a;exact all ⟨k,by omega⟩ ⟨m,by omega⟩
theorem QD(b d f k c s n v a:Int)(w:World)(K:NTab w) :
  Calls prog 101 #[.agg (tkA b d f),.agg (cmA k c s n v),.int .i64 a] w λe w'=>e=.returned (.int .i64 (E4 b d f k c s n v a))/\Bw w w':=by
 have j:Bw w (w.alloc (.cells (tkA b d f) 115)):=(Below.refl _ _).alloc (A' _) _;have i:=Bt.made w b d f;have M:(w.alloc (.cells (tkA b d f) 115)).heap.size=w.heap.size+1:=by simp
 have l:Below (w.alloc (.cells (tkA b d f) 115)).heap.size (w.alloc (.cells (tkA b d f) 115)) ((w.alloc (.cells (tkA b d f) 115)).alloc (.cells (cmA k c s n v) 47)):=(Below.refl _ _).alloc (A' _) _;have o:=Bc.made (w.alloc (.cells (tkA b d f) 115)) k c s n v;replace i:=i.ab l;have z:=j.trans (l.mono j.size);have r:=K.ab z;rw[M]at o
 clear j l K M;have H:=Gi k c s n v;have I:=I0 b d f;generalize Q:(w.alloc (.cells (tkA b d f) 115)).alloc (.cells (cmA k c s n v) 47)=W at z i o r;go_enter func101,ntmps101
 go_wp2_with (refine wpList_load_row rfl 115 _ rfl w.heap.size rfl 115 _ (0,0) _ i.row underlying115 rfl I ?_)
 clear Q;refine(IK b d f _).mono ?_;rintro e U ⟨rfl,j⟩;have C:Bw w U:=z.trans (j.mono z.size);replace i:=i.ab j;replace o:=o.ab j;replace r:=r.ab j;clear j z;by_cases q:De b d f
 .rw[I' q];go_wp2_with (refine wpList_load_row rfl 47 _ rfl (w.heap.size+1) rfl 47 _ (0,0) _ o.row underlying47 rfl H ?_)
  refine(DL k c s n v _ r).mono ?_;rintro e t ⟨rfl,l⟩;have D:Bw w t:=C.trans (l.mono C.size);replace i:=i.ab l;replace o:=o.ab l;replace r:=r.ab l;clear l C;by_cases A:AW k c s n v=0
  .have hz:=E7 A;obtain⟨m,rfl⟩:=jY hz.1.1;have X:(0:Int)<=(m:Int):=by omega
   have Y:(m:Int)<4:=by omega
   have Z:m<4:=by omega
   have G:=r.right m (by omega);have B:=Uu m d (by omega) q.2.1.1 q.2.1.2;obtain⟨c0,c1,N,O,P⟩:=E6 o.row;obtain⟨S,T,L⟩:=Je i.row;have x:Hid (De b d f):=q;have y:Hid (AW (m:Int) c s n v=0):=A;rw[A];clear q A hz i o r;by_cases u:c=b
   .have h3':decide (c=b)=true:=I' u;by_cases E:bits .and .i64 d (Nl m)=0
    .have h:Hid (11=E4 b d f (m:Int) c s n v a):=(K4 x.out y.out (λg=>B.1 E g.1)).symm;have V:Hid (c=b):=u;clear B x y;subst u;clear h3';generalize Nl m=R at G E;go_wp2_with fail
     go_quiet (fail)
     have p:Bw w (t.drewN nq):=Am D nq;generalize t.drewN nq=w3 at p ⊢;go_wp2
     go_ret;exact⟨Br h.out,p⟩
    .have HR:Hid (NL (m:Int) d/\c=b):=⟨Classical.not_not.1 λg=>E (B.2 g),u⟩;clear B;subst u;clear h3';generalize Nl m=R at G E;go_wp2_with fail
     go_quiet (fail)
     have p:Bw w (t.drewN nq):=Am D nq;have J:(t.drewN nq).cell? ⟨w.heap.size,2,none⟩=some (.int .i64 f):=by simpa using L
     generalize t.drewN nq=w3 at p J ⊢;clear c0 c1 N O P S T L G;go_wp2_with fail
     refine(EL a f _).mono ?_;rintro e w4 ⟨rfl,rfl⟩;by_cases F:0<=a/\a<=f
     .rw[I' F];have h:Hid (0=E4 c d f (m:Int) c s n v a):=(Zs x.out y.out ⟨HR.out.1,rfl⟩ F).symm;go_wp2
      go_ret;exact⟨Br h.out,p⟩
     .rw[D' F];have h:Hid (10=E4 c d f (m:Int) c s n v a):=(TU x.out y.out ⟨HR.out.1,rfl⟩ F).symm;go_wp2
      go_ret;exact⟨Br h.out,p⟩
   .have h3':decide (c=b)=false:=D' u;have h:Hid (11=E4 b d f (m:Int) c s n v a):=(K4 x.out y.out (λg=>u g.2)).symm;clear B x y;go_wp2_with fail
    go_quiet (fail)
    have p:Bw w (t.drewN nq):=Am D nq;generalize t.drewN nq=w3 at p ⊢;go_wp2
    go_ret;exact⟨Br h.out,p⟩
  .have h:Hid (AW k c s n v=E4 b d f k c s n v a):=(VK q A).symm;go_wp2
   go_ret;exact⟨Br h.out,D⟩
 .rw[D' q];have h:Hid (2=E4 b d f k c s n v a):=(VL q).symm;go_wp2
  go_ret;exact⟨Br h.out,C⟩
theorem Xp(a:0<=c)(g:Ax w){E:Int}(b:(if c<=7 then 0 else 2)=E) :
  Calls prog 76 #[iv c] w λe w'=>∃ y:S3,e=.returned (.tuple #[y.v,iv E])/\(E=0->Sl w' y.v (Gz c))/\Bw w w':=by
 subst b;by_cases h:c<=7
 .rw[if_pos h];refine(fc c w a h g).mono ?_;rintro e w' ⟨v,rfl,f,d⟩;obtain⟨y,rfl,i⟩:=FM f (by rw[FH];decide) (U9 c);exact⟨y,rfl,λ_=>i,d⟩
 .rw[if_neg h];refine(fb c w (by omega)).mono ?_;rintro e w' ⟨rfl,rfl⟩;exact⟨s30,rfl,λh=>absurd h (by decide),Below.refl _ _⟩
theorem IG(c:Ax w):Calls prog 75 #[] w λe w'=>∃ y:S3,e=.returned y.v/\Sl w' y.v Gy/\Bw w w':=by
 refine(R5 w c).mono ?_;rintro e w' ⟨v,rfl,b,a⟩;obtain⟨y,rfl,d⟩:=FM b (by rw[Js];decide) U5;exact⟨y,rfl,d,a⟩
theorem fw(a:Sl w x.v key)(b:key.length=32) :
  Calls prog 157 #[x.v] w λe w'=>∃ y:S3,e=.returned (.tuple #[.agg #[y.v,iv 0,iv 0,.bool false,.bool false,.bool false,.bool false,.bool false,.bool false,.bool false,.bool false],iv 0])/\Sl w' y.v key/\Bw w w':=by
 refine(bj x.v key w a).mono ?_;rw[if_pos b,if_pos b];rintro e w' ⟨v,rfl,d,c⟩;obtain⟨y,rfl,f⟩:=FM d a.len a.byte;exact⟨y,rfl,f,c⟩
theorem WE{l:List Bool}(h:l.length=8):∃ a b c d e f g k,l=[a,b,c,d,e,f,g,k]:=by
 match l,h with
 | [a,b,c,d,e,f,g,k],_=>exact⟨a,b,c,d,e,f,g,k,rfl⟩
theorem T4{r:List Int}(d:Sl w x.v key)(f:Sl w y.v r)(g:Cp w){E:Int}(b:Co key 0 0 noB r=E) :
  Calls prog 158 #[.agg #[x.v,iv 0,iv 0,.bool false,.bool false,.bool false,.bool false,.bool false,.bool false,.bool false,.bool false],y.v] w λe w'=>∃ (c v:S3) (t:Int) (x0 x1 x2 x3 x4 x5 x6 x7:Bool),e=.returned (.tuple #[.agg #[c.v,iv 0,iv t,.bool x0,.bool x1,.bool x2,.bool x3,.bool x4,.bool x5,.bool x6,.bool x7],v.v,iv E])/\Sl w' v.v (if E=0 then J9 key r else[])/\Bw w w':=by
 by_cases h:E=0
 .subst h;refine(cO x.v key 0 0 noB y.v r w d rfl f g b _ rfl).mono ?_;rintro e w' ⟨m,n,rfl,i,_,j,a⟩;obtain⟨c,rfl,_⟩:=Tz i;obtain⟨v,rfl,k⟩:=Tz j;obtain⟨x0,x1,x2,x3,x4,x5,x6,x7,l⟩:=WE (Ei 0 noB (Fe (r.take 4)));rw[l];exact⟨c,v,_,x0,x1,x2,x3,x4,x5,x6,x7,rfl,by rw[if_pos rfl];exact k,a⟩
 .refine(cN x.v key 0 0 noB y.v r w d rfl f g E b h).mono ?_;rintro e w' ⟨rfl,a⟩;exact⟨s30,s30,0,false,false,false,false,false,false,false,false,rfl,by rw[if_neg h];exact DZ _,a⟩
theorem Ly(j:Sl w x.v key)(i:Sl w y.v l)(k:Ax w){E:Int}(f:DX key l=E) :
  Calls prog 130 #[x.v,y.v] w λe w'=>∃ a b c:Int,e=.returned (.tuple #[.agg #[iv a,iv b,iv c],iv E])/\(E=0->a=l.getD 0 0/\b=l.getD 1 0/\c=Ac l 2)/\Bw w w':=by
 subst f;refine(UZ x.v y.v key l w j i k).mono ?_;rintro e w' ⟨rfl,h⟩;by_cases d:DX key l=0
 .rw[Tt d];exact⟨_,_,_,rfl,λ_=>⟨rfl,rfl,rfl⟩,h⟩
 .rw[Ig d];exact⟨0,0,0,rfl,λg=>absurd g d,h⟩
theorem Uh(h:Sl w x.v l)(f:NTab w){E:Int}(d:Ca l=E) :
  Calls prog 131 #[x.v] w λe w'=>∃ m:Cmd,e=.returned (.tuple #[.agg #[iv m.k,iv m.c,iv m.s,iv m.n,iv m.v],iv E])/\(E=0->m=⟨Ac l 0,Ac l 4,Ac l 8,Ac l 12,Ac l 16⟩)/\Bw w w':=by
 subst d;refine(KK x.v l w h f).mono ?_;rintro e w' ⟨rfl,b⟩;by_cases a:Ca l=0
 .rw[show JJ l=_ from if_pos a];exact⟨⟨Ac l 0,Ac l 4,Ac l 8,Ac l 12,Ac l 16⟩,rfl,λ_=>rfl,b⟩
 .rw[show JJ l=_ from if_neg a];exact⟨⟨0,0,0,0,0⟩,rfl,λg=>absurd g a,b⟩
theorem UR(h:Sl w x.v l)(hT:Ax w)(X:Cp w){E:Int}(F:PP l=E){D:List Int}(hD:Ow l=D) :
  Calls prog 129 #[x.v] w λe w'=>∃ y:S3,e=.returned (.tuple #[y.v,iv E])/\Sl w' y.v D/\Bw w w':=by
 have hn:=IY h;subst F hD;refine kIn func129 (kR 12 [] λd6 w1 b1=>?_);by_cases h1:x.n=0
 .refine kI (((x.n:Int)==0)) true (by simp;omega) (kR 5 [] λd7 w2 b2=>?_);have B3:=(btr b1 b2);obtain rfl:l=[]:=Z' (by omega);exact kE (.tuple #[S3.v s30,iv 13]) ⟨s30,rfl,DZ _,B3⟩
 .refine kI (((x.n:Int)==0)) false (by simp;omega) ?_;have M:¬ l=[]:=λe=>h1 (by rw[hn,e];rfl);obtain⟨bd,od,a7,a6,H⟩:=Qj h (by omega);obtain⟨c,I⟩:∃ c,l.getD 0 0=c:=⟨_,rfl⟩;have m:=Ai h.byte 0;rw[I]at H m
  refine kR 4 [] λd8 w4 b4=>kV 1 (pt bd od) (a7 _) ?_;have o:=(btr b1 b4);refine kV 2 (.int .u8 c) (BX underlying5 rfl ((Below.cell o (p:=⟨bd,od,none⟩) a6).trans H)) (kV 3 (iv c) (rUi m) ?_);obtain⟨i,a⟩:∃ i:Int,(if c<=7 then 0 else 2)=i:=⟨_,rfl⟩;refine kC 4 (Xp m.1 (hT.ab o) a) ?_;rintro _ w9 ⟨yk,rfl,a9,V⟩;refine⟨_,rfl,V,?_⟩;refine kR 12 [] λc0 c5 b=>?_;by_cases W:i≠0
  .refine kI ((i != 0)) true (by simpa using W) (kR 6 [] λc1 c6 a2=>?_);have Y:=(btr (btr (btr o V) b) a2);have h7:¬ c<=7:=λg=>W (by rw[<- a,if_pos g]);have a4:i=2:=by rw[<- a,if_neg h7]
   have G:PP l=2:=(if_neg M).trans (if_pos (by rw[I];omega));rw[G,show Ow l=[]from if_neg (by rw[G];decide),a4];exact kE (.tuple #[S3.v s30,iv 2]) ⟨s30,rfl,DZ _,Y⟩
  .refine kI ((i != 0)) false (by simpa using W) ?_;have C:i=0:=by simpa using W
   have h7:c<=7:=by by_cases g:c<=7;exact g;rw[if_neg g,C]at a;cases a
   have R:=a9 C;refine kR 4 [] λc2 c7 j=>kC 1 (fw ((R.ab b).ab j) (FH c)) ?_;rintro _ c8 ⟨yc,rfl,Q,k⟩;refine⟨_,rfl,k,?_⟩;obtain⟨y1,a8,P,_⟩:=slB h 1 (by omega);obtain⟨E,F⟩:∃ E,Co (Gz c) 0 0 noB (l.drop 1)=E:=⟨_,rfl⟩;refine kR 19 [0,0,0,0,3,0,0,2] λS c9 d=>kT 2 (S3.v y1) (λ_=>(a8 _)) (Xo 41 (λw' e L=>∃ (v:S3) (b7:Nat) (cs:Array Value),e=[(8,S3.v v),(5,iv E)]/\L=[⟨(S 0),.cells #[S3.v yc,iv 0,iv 0,.bool false,.bool false,.bool false,.bool false,.bool false,.bool false,.bool false,.bool false] 162,.z,false⟩,⟨b7,.cells cs 162,.l,false⟩]/\Sl w' v.v (if E=0 then J9 (Gz c) (l.drop 1)else[])/\Bw w w') ?_ ?_)
   .intro J hJ;refine U8 3 8 ?_ ?_
    .have B19:=(btr (btr (btr (btr (btr o V) b) j) k) d);refine kC 3 (T4 (Q.ab d) (P.ab B19) (X.ab X.pos B19) F) ?_;rintro _ d0 ⟨A,b6,b3,x0,x1,x2,x3,x4,x5,x6,x7,rfl,N,q⟩;refine⟨_,rfl,q,?_⟩;refine kR 9 [8,10,12,14,17,1,0,19,1,0,20,22] λT d1 r=>?_;have Z:=(btr (btr B19 q) r);exact kB [true,true] λz K=>hJ _ _ z _ ⟨b6,(T 0),#[S3.v A,iv 0,iv b3,.bool x0,.bool x1,.bool x2,.bool x3,.bool x4,.bool x5,.bool x6,.bool x7],rfl,rfl,(N.ab r),Z⟩ K
    .refine kR 1 [1,0] λU d2 s=>?_;have f:=(btr (btr (btr (btr (btr (btr o V) b) j) k) d) s);refine kC 3 (T4 ((Q.ab d).ab s) (P.ab f) (X.ab X.pos f) F) ?_;rintro _ d3 ⟨B,b8,b5,x0,x1,x2,x3,x4,x5,x6,x7,rfl,O,t⟩;refine⟨_,rfl,t,?_⟩;refine kF 8 [8,10,12,14,19,1,0,20,22] λc3 d4 a3 b0=>?_;have a0:=((btr f t).trans a3);exact kB [true,true] λz K=>hJ _ _ z _ ⟨b8,(U 0),#[S3.v B,iv 0,iv b5,.bool x0,.bool x1,.bool x2,.bool x3,.bool x4,.bool x5,.bool x6,.bool x7],rfl,rfl,(O.kept b0),a0⟩ K
   .rintro w17 _ z17 _ ⟨v,b7,cs,rfl,rfl,hv,hb⟩;refine kR 7 [] λc4 d5 u=>?_;have a1:=(btr hb u);have G:PP l=E:=(if_neg M).trans ((if_neg (by rw[I];omega)).trans (by rw[I];exact F));have a5:Ow l=(if E=0 then J9 (Gz c) (l.drop 1)else[]):=by unfold Ow;rw[G,I]
    rw[G,a5];exact kE (.tuple #[S3.v v,iv E]) ⟨v,rfl,(hv.ab u),a1⟩
theorem Qz(h:Sl w x.v l)(U:Ax w)(hq:Cp w)(hN:NTab w){E:Int}(g:unE l=E) :
  Calls prog 100 #[x.v] w λe w'=>∃ (a b c:Int) (m:Cmd),e=.returned (.tuple #[.agg #[iv a,iv b,iv c],.agg #[iv m.k,iv m.c,iv m.s,iv m.n,iv m.v],iv E])/\(E=0->a=(unT l).getD 0 0/\b=(unT l).getD 1 0/\c=Ac (unT l) 2/\m=⟨Ac (unQ l) 0,Ac (unQ l) 4,Ac (unQ l) 8,Ac (unQ l) 12,Ac (unQ l) 16⟩)/\Bw w w':=by
 obtain⟨C,a2⟩:∃ C,PP l=C:=⟨_,rfl⟩;obtain⟨D,hD⟩:∃ D,Ow l=D:=⟨_,rfl⟩;unfold unT unQ;unfold unE unT unQ at g;rw[hD]at g ⊢
 rw[a2]at g
 refine kIn func100 (kR 9 [1,0,1,0] λd w1 F=>kC 1 (UR (h.ab F) (U.ab F) (hq.ab hq.pos F) a2 hD) ?_);rintro _ w2 ⟨y,rfl,hy,Z⟩;refine⟨_,rfl,Z,?_⟩;have f1:=IY hy;refine kR 12 [] λh5 w3 p=>?_;by_cases h1:C≠0
 .refine kI ((C != 0)) true (by simpa using h1) (kF 9 [0,0,1,0] λh6 w4 b4 q4=>?_);have B5:=((btr (btr F Z) p).trans b4);have i:C=E:=by rw[<- g];rw[if_pos h1]
  rw[<- i];exact qE5 2 3 4 115 47 0 (d 0) 1 (d 1) #[iv 0,iv 0,iv 0] #[iv 0,iv 0,iv 0,iv 0,iv 0] (iv C) λK=>⟨0,0,0,⟨0,0,0,0,0⟩,rfl,λh=>absurd h (by exact h1),B5⟩
 .refine kI ((C != 0)) false (by simpa using h1) ?_;rw[if_neg h1]at g
  refine kR 8 [] λh7 w6 t=>?_;by_cases h2:y.n≠42
  .refine kI (((y.n:Int) != 42)) true (by simp;omega) (kF 8 [0,0,1,0] λh8 w7 S q7=>?_);have B8:=((btr (btr (btr F Z) p) t).trans S);have i:3=E:=by rw[<- g];rw[if_pos (by omega)]
   rw[<- i];exact qE5 2 3 4 115 47 0 (d 0) 1 (d 1) #[iv 0,iv 0,iv 0] #[iv 0,iv 0,iv 0,iv 0,iv 0] (iv 3) λK=>⟨0,0,0,⟨0,0,0,0,0⟩,rfl,λh=>absurd h (by decide),B8⟩
  .refine kI (((y.n:Int) != 42)) false (by simp;omega) ?_;rw[if_neg (by omega)]at g
   obtain⟨y1,d7,Q⟩:=slT hy 22 (by omega);obtain⟨o,u⟩:∃ o,DX Gy (D.take 22)=o:=⟨_,rfl⟩;rw[u]at g
   refine kR 4 [10,2] λh9 w9 A=>kT 2 (S3.v y1) (λ_=>(d7 _)) (Xo 45 (λw' e L=>∃ (a b c:Int) (S:Nat),e=[(2,pt (d 0) 0),(3,pt (d 1) 0),(5,S3.v y),(6,iv o),(7,pt S 0)]/\L=[⟨(d 0),.cells #[iv 0,iv 0,iv 0] 115,.l,false⟩,⟨(d 1),.cells #[iv 0,iv 0,iv 0,iv 0,iv 0] 47,.l,false⟩,⟨S,.cells #[iv a,iv b,iv c] 115,.l,false⟩]/\(o=0->a=(D.take 22).getD 0 0/\b=(D.take 22).getD 1 0/\c=Ac (D.take 22) 2)/\Sl w' y.v D/\Bw w w') ?_ ?_)
   .intro J hJ;refine U8 0 7 ?_ ?_
    .have B13:=(btr (btr (btr (btr F Z) p) t) A);refine kC 0 (IG (U.ab B13)) ?_;rintro _ f5 ⟨e2,rfl,j,f⟩;refine⟨_,rfl,f,?_⟩;refine U8 3 7 ?_ ?_
     .have B17:=(btr B13 f);refine kC 3 (Ly j ((((Q.ab p).ab t).ab A).ab f) (U.ab B17) u) ?_;rintro _ f6 ⟨c3,d1,d4,rfl,a3,G⟩;refine⟨_,rfl,G,?_⟩;refine kR 7 [8,10,12,15,1,0,17,2,0,18] λa6 f7 Y=>?_;have b0:=(btr (btr B17 G) Y);exact kB [true,true,true] λz K=>hJ _ _ z _ ⟨c3,d1,d4,(a6 0),rfl,rfl,a3,((((((hy.ab p).ab t).ab A).ab f).ab G).ab Y),b0⟩ K
     .refine kR 1 [1,0] λa7 f8 q=>?_;have V:=(btr (btr B13 f) q);refine kC 3 (Ly (j.ab q) (((((Q.ab p).ab t).ab A).ab f).ab q) (U.ab V) u) ?_;rintro _ f9 ⟨c4,d2,d5,rfl,a4,H⟩;refine⟨_,rfl,H,?_⟩;refine kF 6 [8,10,12,17,2,0,18] λe4 g0 c6 e0=>?_;have b5:=((btr V H).trans c6);exact kB [true,true,true] λz K=>hJ _ _ z _ ⟨c4,d2,d5,(a7 0),rfl,rfl,a4,(((((((hy.ab p).ab t).ab A).ab f).ab q).ab H).kept e0),b5⟩ K
    .refine kR 1 [1,0] λa8 g1 I=>?_;have W:=(btr (btr (btr (btr (btr F Z) p) t) A) I);refine kC 0 (IG (U.ab W)) ?_;rintro _ g2 ⟨e3,rfl,R,r⟩;refine⟨_,rfl,r,?_⟩;have X:=(btr W r);refine kC 3 (Ly R (((((Q.ab p).ab t).ab A).ab I).ab r) (U.ab X) u) ?_;rintro _ g3 ⟨c5,d3,d6,rfl,a5,M⟩;refine⟨_,rfl,M,?_⟩;refine kF 6 [8,10,12,17,2,0,18] λe5 g4 c7 e1=>?_;have b8:=((btr X M).trans c7);exact kB [true,true,true] λz K=>hJ _ _ z _ ⟨c5,d3,d6,(a8 0),rfl,rfl,a5,(((((((hy.ab p).ab t).ab A).ab I).ab r).ab M).kept e1),b8⟩ K
   .rintro w11 _ z11 _ ⟨a,b,c,S,rfl,rfl,hp,hyx,hb⟩;refine kR 6 [] λe6 g5 N=>?_;by_cases T:o≠0
    .refine kI ((o != 0)) true (by simpa using T) (kF 9 [0,0,1,0] λe7 g6 c8 f2=>?_);have c0:=((btr hb N).trans c8);have i:o=E:=by rw[<- g];rw[if_pos T]
     rw[<- i];exact qE5 2 3 4 115 47 0 (d 0) 1 (d 1) #[iv 0,iv 0,iv 0] #[iv 0,iv 0,iv 0,iv 0,iv 0] (iv o) λK=>⟨0,0,0,⟨0,0,0,0,0⟩,rfl,λh=>absurd h (by exact T),c0⟩
    .refine kI ((o != 0)) false (by simpa using T) ?_;have P:o=0:=by simpa using T
     rw[if_neg T]at g
     obtain⟨y3,d8,d9⟩:=slB (hyx.ab N) 22 (by omega);refine kR 4 [] λe8 g7 a0=>kV 1 (S3.v y3) (d8 _) ?_;have B:=(btr (btr hb N) a0);refine kC 2 (Uh (d9.1.ab a0) (hN.ab B) g) ?_;rintro _ g8 ⟨m,rfl,hm,O⟩;refine⟨_,rfl,O,?_⟩;refine kR 11 [0,0,3,0,3,0,2,4] λa9 g9 a1=>Xo 45 (λw' e L=>∃ (_:Unit),e=[(2,pt (d 0) 0),(3,pt (d 1) 0),(4,iv E)]/\L=[⟨(d 0),.cells #[iv a,iv b,iv c] 115,.l,false⟩,⟨(d 1),.cells #[iv m.k,iv m.c,iv m.s,iv m.n,iv m.v] 47,.l,false⟩,⟨S,.cells #[iv a,iv b,iv c] 115,.l,false⟩,⟨(a9 0),.cells #[iv m.k,iv m.c,iv m.s,iv m.n,iv m.v] 47,.z,false⟩]/\Bw w w') ?_ ?_
     .intro J hJ;refine U8 1 3 ?_ ?_
      .refine kF 5 [3,7,0,0,9,1,0,10] λe9 h0 c9 f3=>?_;have c1:=((btr (btr B O) a1).trans c9);exact kB [true,true,true,true] λz K=>hJ _ _ z _ ⟨(),rfl,rfl,c1⟩ K
      .refine kF 5 [0,0,3,3,9,1,0,10] λf0 h4 d0 f4=>?_;have c2:=((btr (btr B O) a1).trans d0);exact kB [true,true,true,true] λz K=>hJ _ _ z _ ⟨(),rfl,rfl,c2⟩ K
     .rintro w42 _ z42 _ ⟨_,rfl,rfl,hb2⟩;exact qE5 2 3 4 115 47 0 (d 0) 1 (d 1) #[iv a,iv b,iv c] #[iv m.k,iv m.c,iv m.s,iv m.n,iv m.v] (iv E) λK=>⟨a,b,c,m,rfl,λh=>⟨(hp P).1,(hp P).2.1,(hp P).2.2,hm h⟩,hb2⟩
theorem MG{a b:Int}{m:Cmd}{d:Int}(g:NTab w){F:Int}(f:E4 a b c m.k m.c m.s m.n m.v d=F):Calls prog 101 #[.agg #[iv a,iv b,iv c],.agg #[iv m.k,iv m.c,iv m.s,iv m.n,iv m.v],iv d] w λe w'=>e=.returned (iv F)/\Bw w w':=by subst f;exact QD a b c m.k m.c m.s m.n m.v d w g
theorem UH(v:Value)(l:List Int)(d:Int)(w:World)(h:Sl w v l)(hT:Ax w)(hq:Cp w)(hN:NTab w) :
  Calls prog 54 #[v,iv d] w λe w'=>e=.returned (.tuple #[.agg (opA l d),iv (opE l d)])/\Bw w w':=by
 obtain⟨x,rfl,h⟩:=Tz h;obtain⟨E,H⟩:∃ E,unE l=E:=⟨_,rfl⟩;have c4:=H;refine kIn func54 (kR 8 [1,0] λi w1 z=>kC 1 (Qz (h.ab z) (hT.ab z) (hq.ab hq.pos z) (hN.ab z) H) ?_);rintro _ w2 ⟨a,b,c,m,rfl,hm,Q⟩;refine⟨_,rfl,Q,?_⟩;refine kR 16 [0,0,0,0,1,0,2,0] λe3 w3 b3=>?_;by_cases L:E≠0
 .refine kI ((E != 0)) true (by simpa using L) (kF 7 [0,0] λe4 w4 b4 q4=>?_);have f:opE l d=E:=(if_pos (by rw[H];exact L)).trans H;rw[Ou (by rw[f];exact L),f];have B5:=((btr (btr z Q) b3).trans b4);exact qE2 4 5 47 0 (i 0) #[iv 0,iv 0,iv 0,iv 0,iv 0] (iv E) λK=>⟨rfl,B5⟩
 .refine kI ((E != 0)) false (by simpa using L) ?_;have D:E=0:=by simpa using L
  obtain⟨ha,N,hc,o⟩:=hm D;have a8:0<l.length:=jf (H.trans D);have hU:¬ unE l≠0:=by rw[H,D];simp
  obtain⟨e1,e2⟩:m.k=Ac (unQ l) 0/\m.c=Ac (unQ l) 4:=by rw[o];exact⟨rfl,rfl⟩
  refine kR 6 [12,0,2,2] λe5 w6 b6=>?_;by_cases R:m.k≠0
  .refine kT 2 (.bool true) (λ_=>(FO (t:=3) (m:=m.k) (n:=0) (x:=(.tmp 21)) (y:=(.const (iv 0))) (by simpa using R))) ?_;obtain⟨bd,od,a7,a6,O⟩:=Qj h a8;obtain⟨C,G⟩:∃ C,l.getD 0 0=C:=⟨_,rfl⟩;have P:=Ai h.byte 0;rw[G]at O P
   refine kR 4 [6,8,10,2,12] λe6 w7 b7=>kT 7 (pt bd od) (λ_=>(a7 _)) ?_;have Y:=(btr (btr (btr (btr z Q) b3) b6) b7);refine kV 8 (.int .u8 C) (BX underlying5 rfl ((Below.cell Y (p:=⟨bd,od,none⟩) a6).trans O)) (kT 9 (iv C) (λ_=>(rUi P)) ?_);by_cases S:m.c≠C
   .refine kT 10 (.bool true) (λ_=>(FO (t:=3) (m:=m.c) (n:=C) (x:=(.tmp 25)) (y:=(.tmp 29)) (by simpa using S))) (kF 9 [22,0,0] λa9 d0 Z c5=>?_);have f:opE l d=11:=(if_neg hU).trans (if_pos ⟨by rw[<- e1];exact R,by rw[<- e2,G];exact S⟩);rw[Ou (by rw[f];decide),f];have T:=(Y.trans Z);exact qE2 4 5 47 0 (i 0) #[iv 0,iv 0,iv 0,iv 0,iv 0] (iv 11) λK=>⟨rfl,T⟩
   .refine kT 10 (.bool false) (λ_=>(FO (t:=3) (m:=m.c) (n:=C) (x:=(.tmp 25)) (y:=(.tmp 29)) (by simpa using S))) (kR 10 [22,1,2] λb0 d1 a0=>?_);obtain⟨F,M⟩:∃ F,E4 a b c m.k m.c m.s m.n m.v d=F:=⟨_,rfl⟩;have f:opE l d=F:=(if_neg hU).trans ((if_neg (λg=>g.2 (by rw[<- e2,G];simpa using S))).trans (by rw[<- M,ha,N,hc,o]));have r:=(btr Y a0);refine kC 3 (MG (hN.ab r) M) ?_;rintro _ d2 ⟨rfl,A⟩;refine⟨_,rfl,A,?_⟩;refine kR 7 [] λb5 d3 I=>?_;by_cases q:F≠0
    .refine kI ((F != 0)) true (by simpa using q) (kF 7 [0,0] λb8 d4 a1 c6=>?_);rw[Ou (by rw[f];exact q),f];have U:=((btr (btr r A) I).trans a1);exact qE2 4 5 47 0 (i 0) #[iv 0,iv 0,iv 0,iv 0,iv 0] (iv F) λK=>⟨rfl,U⟩
    .refine kI ((F != 0)) false (by simpa using q) ?_;have j:F=0:=by simpa using q
     refine kF 7 [2,0,0] λb9 d5 a2 c7=>?_;rw[show opA l d=#[iv m.k,iv m.c,iv m.s,iv m.n,iv m.v]from(XL (f.trans j)).trans (by rw[o];rfl),f,j];have V:=((btr (btr r A) I).trans a2);exact qE2 4 5 47 0 (i 0) #[iv m.k,iv m.c,iv m.s,iv m.n,iv m.v] (iv 0) λK=>⟨rfl,V⟩
  .refine kT 2 (.bool false) (λ_=>(FO (t:=3) (m:=m.k) (n:=0) (x:=(.tmp 21)) (y:=(.const (iv 0))) (by simpa using R))) (kR 18 [6,8,10,12,14,16,18,20,22,1,2] λc0 d6 a3=>?_);obtain⟨F,M⟩:∃ F,E4 a b c m.k m.c m.s m.n m.v d=F:=⟨_,rfl⟩;have f:opE l d=F:=(if_neg hU).trans ((if_neg (λg=>g.1 (by rw[<- e1];simpa using R))).trans (by rw[<- M,ha,N,hc,o]));have u:=(btr (btr (btr (btr z Q) b3) b6) a3);refine kC 3 (MG (hN.ab u) M) ?_;rintro _ d7 ⟨rfl,B⟩;refine⟨_,rfl,B,?_⟩;refine kR 7 [] λc1 d8 J=>?_;by_cases q:F≠0
   .refine kI ((F != 0)) true (by simpa using q) (kF 7 [0,0] λc2 d9 a4 c8=>?_);rw[Ou (by rw[f];exact q),f];have W:=((btr (btr u B) J).trans a4);exact qE2 4 5 47 0 (i 0) #[iv 0,iv 0,iv 0,iv 0,iv 0] (iv F) λK=>⟨rfl,W⟩
   .refine kI ((F != 0)) false (by simpa using q) ?_;have j:F=0:=by simpa using q
    refine kF 7 [2,0,0] λc3 e0 a5 c9=>?_;rw[show opA l d=#[iv m.k,iv m.c,iv m.s,iv m.n,iv m.v]from(XL (f.trans j)).trans (by rw[o];rfl),f,j];have X:=((btr (btr u B) J).trans a5);exact qE2 4 5 47 0 (i 0) #[iv m.k,iv m.c,iv m.s,iv m.n,iv m.v] (iv 0) λK=>⟨rfl,X⟩
theorem MV(a:List (List Int))(j:Nat)(h:j<a.length):(a.take (j+1)).flatten=(a.take j).flatten++a.getD j []:=by
 rw[jT h,List.flatten_append];simp[List.getD,List.getElem?_eq_getElem h]
theorem SX(a:List (List Int))(h:∀ l∈a,l.length<=1000):a.flatten.length<=1000*a.length:=by
 induction a with
 | nil=>simp
 | cons x r ih =>
  have c:=h x (by simp);have d:=ih (λl b=>h l (by simp[b]));simp only[List.flatten_cons,M',ke];omega
theorem Mm(n:Nat):(Builtin.zeroCells (Value.int .u8 0).cells n).size=n:=by
 simp[Builtin.zeroCells,Value.cells]
theorem Xb(n:Nat)(w:World)(o:0<n)(t:n<=20000) :
  Calls prog 86 #[.slice none 0 0,.int .i64 (n:Int)] w λe w'=>∃ v',e=.returned v'/\w'.ownsRow w.heap.size 5 1 v' 0 []/\Bw w w':=by
 obtain⟨r,l,d,f,g⟩:=info_parts Aq;have i:=λs=>Lib.run_append_nil_zeros (P:=prog) w 48 3 s 5 r (.int .u8 0) .i64 .i64 underlying48 underlying3 l d n o (by rw[f];decide) (by omega) (by rw[g];omega);have c:=grownCap_ge w n 0 5;have b:=grownCap_le_maxLen w n 0 5 (by unfold maxLen;omega);have a:(Builtin.zeroCells (Value.int .u8 0).cells n++Builtin.zeroCells (Value.int .u8 0).cells (grownCap w n 0 5-n)).size=grownCap w n 0 5*1:=by rw[Array.size_append,Mm,Mm];omega
 generalize Builtin.zeroCells (Value.int .u8 0).cells n++Builtin.zeroCells (Value.int .u8 0).cells (grownCap w n 0 5-n)=Z at i a;generalize grownCap w n 0 5=cap at i a c b;have k:Bw w (w.drew.alloc (.cells Z 5)):=((Below.refl w.heap.size w).drew).alloc (by exact A' _) _;have j:(w.drew.alloc (.cells Z 5)).heap[w.heap.size]?=some (.cells Z 5):=heap_alloc_new _ _;generalize w.drew.alloc (.cells Z 5)=W at i k j;have p:W.ownsRow w.heap.size 5 1 (.slice (some ⟨w.heap.size,0,none⟩) 0 cap) 0 []:=⟨by simp,.inr ⟨w.heap.size,cap,Z,rfl,A' _,j,by omega,b,a,by simp⟩⟩;have q:∀ h,(Instr.slice 48 (.slice (some ⟨w.heap.size,0,none⟩) n cap) none (some (.int .i64 0)) none).run prog h=.ok (.slice (some ⟨w.heap.size,0,none⟩) 0 cap) h:=λh=>by
  rw[run_slice_h (P:=prog) h 48 (some ⟨w.heap.size,0,none⟩) n cap underlying48 .i64 0 (by omega) (by omega)];have e:prog.elem 48=5:=by kernel_rfl
  rw[e,He];simp[Result.andThen,sliced,Addr.add_mid]
 have m:(0:Int)<(n:Int):=by omega
 clear j a b c l d f g;go_enter func86,ntmps86
 go_wp2_with (at_builtin;refine Lib.wpList_append_run _ rfl _ _ _ _ rfl _ _ rfl rfl _ _ (i _) ?_)
 go_ret;exact⟨_,rfl,p,k⟩
theorem KG(g n M:Nat)(K:List Value)(a:List (List Int))(w:World)(hg:g<w.heap.size)(hn:n<=10)(C:a.length=n)(R:∀ i,i<n->w.cell? ⟨g,i,none⟩=some (K.getD i undef))(U:∀ i,i<n->Sl w (K.getD i undef) (a.getD i []))(y:∀ l∈a,l.length<=1000)(T:0<a.flatten.length) :
  Calls prog 43 #[.slice (some ⟨g,0,none⟩) n M] w λe w'=>∃ v',e=.returned v'/\w'.ownsRow w.heap.size 5 1 v' a.flatten.length (a.flatten.map (Value.int .u8))/\Bw w w':=by
 have c:Hid (a.length=n):=C;have O:Hid _:=R;have P:Hid _:=U;have I:Hid _:=y;have X:Hid _:=T;clear C R U y T;go_enter func43,ntmps43
 go_wp2_with fail
 go_loopw [3,11] (λsv i wr=>∃ j:Nat,j<=n/\i=.int .i64 j/\sv=.int .i64 ((a.take j).flatten.length:Int)/\w=wr) (λ_ i _=>n-(intOf i).toNat)
 case atStart=>exact⟨0,by omega,rfl,by simp,rfl⟩
 case round =>
  obtain⟨j,hj,rfl,rfl,rfl⟩:=hrel;have d:=SX (a.take j) (λl y=>I.out l (jU y));by_cases m:j<n
  .have t:(a.take j).flatten.length<=10000:=by rw[X']at d;omega
   have r:Hid ((a.take (j+1)).flatten.length=(a.take j).flatten.length+(a.getD j []).length):=by unfold Hid;rw[MV a j (by rw[c.out];exact m),M']
   have q:=P.out j m;have J:=O.out j m;have u:(a.getD j []).length<=1000:=by
    have f:j<a.length:=by rw[c.out];exact m
    have:a.getD j []=a[j]:=by simp[List.getD,List.getElem?_eq_getElem f]
    rw[this];exact I.out _ (km f)
   generalize K.getD j undef=vj at q J;generalize a.getD j []=lj at q r u;generalize (a.take j).flatten.length=pre at r t;clear d;obtain⟨⟨aj,kj,rfl,_,_,_⟩,_,_⟩:=q;generalize lj.length=nj at *;go_wp2
   go_roundw
   case rel=>exact⟨j+1,by omega,by go_num,by rw[r.out];go_num,by simp⟩
   case measure=>simp[intOf];omega
  .obtain rfl:j=n:=by omega
   have Q:Hid (a.take j=a):=jS (by rw[c.out];exact A' _);have V:a.flatten.length<=10000:=by rw[Q.out,c.out]at d;omega
   rw[Q.out];clear d;have L:=X.out;generalize G:a.flatten.length=Z at V L;have Y:Hid (a.flatten.length=Z):=G;clear G;go_wp2_with fail
   refine(Xb Z w L (by omega)).mono ?_;rintro e w1 ⟨v1,rfl,x,A⟩;clear L V;obtain⟨g1,c1,rfl⟩:=Cd x;have z:Hid (w1.ownsRow w.heap.size 5 1 (.slice g1 0 c1) (a.take 0).flatten.length ((a.take 0).flatten.map (Value.int .u8))):=by unfold Hid;simpa using x
   clear x;go_wp2_with fail
   go_loopw [6,27] (λv i wr=>∃ k:Nat,k<=j/\i=.int .i64 k/\Hid (wr.ownsRow w.heap.size 5 1 v (a.take k).flatten.length ((a.take k).flatten.map (Value.int .u8)))/\Bw w wr) (λ_ i _=>j-(intOf i).toNat)
   case atStart=>exact⟨0,by omega,rfl,z,A⟩
   case round =>
    obtain⟨k,S,rfl,h,s⟩:=hrel;have b:=h.out;clear h z A;have D:=b.lt;by_cases o:k<j
    .have d:=SX (a.take k) (λl y=>I.out l (jU y));have t:(a.take k).flatten.length<=10000:=by rw[X']at d;omega
     have r:Hid ((a.take (k+1)).flatten=(a.take k).flatten++a.getD k []):=MV a k (by rw[c.out];exact o);have q:=(P.out k o).ab s;have J:=(s.cell (p:=⟨g,k,none⟩) hg).trans (O.out k o);have u:(a.getD k []).length<=1000:=by
      have f:k<a.length:=by rw[c.out];exact o
      have:a.getD k []=a[k]:=by simp[List.getD,List.getElem?_eq_getElem f]
      rw[this];exact I.out _ (km f)
     generalize K.getD k undef=vj at q J;generalize a.getD k []=lj at q r u;generalize (a.take k).flatten=pre at b r t;clear d;have H:=q;obtain⟨⟨aj,kj,rfl,_,_,_⟩,_,_⟩:=q;go_wp2_with (at_builtin;refine Aa _ rfl _ _ 48 rfl w.heap.size 5 underlying48 Aq _ _ rfl rfl pre lj b H (by omega) s.size ?_)
     intro v2 W E B;have F:W.ownsRow w.heap.size 5 1 v2 (pre++lj).length ((pre++lj).map (Value.int .u8)):=by simpa using E
     have N:Bw w W:=s.grown B s.size (λk S=>(D k S).1);clear E B b D s H J;go_wp2
     go_roundw
     case rel=>exact⟨k+1,by omega,by go_num,by rw[r.out];exact F,N⟩
     case measure=>simp[intOf];omega
    .have HJ:Hid (a.take k=a):=by unfold Hid;exact jS (by rw[c.out];omega)
     go_wp2
     go_ret;refine⟨u6,rfl,?_,s⟩;rw[HJ.out]at b
     exact b
theorem ZL(f h a:Value)(b c d:List Int)(w:World)(e:TypeId)(g:Nat)(o:g=w.heap.size)(k:Sl w f b)(m:Sl w h c)(n:Sl w a d)(p:b.length<=1000)(q:c.length<=1000)(r:d.length<=1000)(s:0<b.length) :
  Calls prog 43 #[.slice (some ⟨g,0,none⟩) 3 3] (w.alloc (.cells #[f,h,a] e)) λe w'=>∃ v',e=.returned v'/\w'.ownsRow w.heap.size 5 1 v' (b++(c++d)).length ((b++(c++d)).map (Value.int .u8))/\Bw w w':=by
 subst o;have j:Bw w (w.alloc (.cells #[f,h,a] e)):=(Below.refl _ _).alloc (A' _) _;refine(KG w.heap.size 3 3 [f,h,a] [b,c,d] (w.alloc (.cells #[f,h,a] e)) (by simp) (by omega) rfl ?_ ?_ ?_ ?_).mono ?_
 .intro i hi;rw[cell_of_row _ _ i _ _ _ (heap_alloc_new w _)];obtain rfl|rfl|rfl:i=0\/i=1\/i=2:=by omega
  all_goals rfl
 .intro i hi;obtain rfl|rfl|rfl:i=0\/i=1\/i=2:=by omega
  .exact k.ab j
  .exact m.ab j
  .exact n.ab j
 .intro l hl;simp only[jQ,N',or_false]at hl;rcases hl with rfl|rfl|rfl
  .exact p
  .exact q
  .exact r
 .simp;omega
 .rintro e w2 ⟨a,rfl,ho,hb⟩;exact⟨a,rfl,AJ (by simpa using ho) (by simp),j.trans (hb.mono (by simp))⟩
theorem ZK{c d:Value}{a b:List Int}{e:TypeId}{g:Nat}(f:w.heap[g]?=some (.cells #[c,d] e))(h:Sl w c a)(j:Sl w d b)(k:a.length<=1000)(m:b.length<=1000)(n:0<a.length) :
  Calls prog 43 #[.slice (some ⟨g,0,none⟩) 2 2] w λe w'=>∃ v',e=.returned v'/\w'.ownsRow w.heap.size 5 1 v' (a++b).length ((a++b).map (Value.int .u8))/\Bw w w':=by
 refine(KG g 2 2 [c,d] [a,b] w (H'.1 f).1 (by omega) rfl ?_ ?_ ?_ ?_).mono ?_
 .intro i hi;rw[cell_of_row _ _ i _ _ _ f];obtain rfl|rfl:i=0\/i=1:=by omega
  all_goals rfl
 .intro i hi;obtain rfl|rfl:i=0\/i=1:=by omega
  .exact h
  .exact j
 .intro l hl;simp only[jQ,N',or_false]at hl;rcases hl with rfl|rfl
  .exact k
  .exact m
 .simp;omega
 .rintro e w2 ⟨v2,rfl,ho,hb⟩;exact⟨v2,rfl,by simpa using ho,hb⟩
end
end
section
section
def paE(n tc tr tu k c s m v:Int):Int:=if ¬ (0<=n/\n<1073741824)then 2 else if MD tc tr tu≠0 then MD tc tr tu else AW k c s m v
def paP(tc tr tu k c s m v:Int):List Int:=Ke Gy tc tr tu++CS k c s m v
def paL(n tc tr tu k c s m v:Int):List Int:=if paE n tc tr tu k c s m v=0 then c::JV (Gz c) n (paP tc tr tu k c s m v)else[]
variable{c k m n s tc tr tu v:Int}
theorem XT(h:paE n tc tr tu k c s m v=0):(0<=n/\n<1073741824)/\De tc tr tu/\AW k c s m v=0:=by
 unfold paE at h;split at h
 .cases h
 .rename_i g1
  split at h
  .rename_i g;exact absurd h g
  .rename_i g2
   refine⟨jR.1 g1,?_,h⟩;have a:=jR.1 g2;unfold MD at a;split at a
   .assumption
   .cases a
theorem fD(a:0<=n/\n<1073741824)(b:MD tc tr tu=0):paE n tc tr tu k c s m v=AW k c s m v:=by
 unfold paE;rw[if_neg (λg=>g a),if_neg (λg=>g b)]
theorem XU(h:paE n tc tr tu k c s m v=0):paL n tc tr tu k c s m v=c::JV (Gz c) n (paP tc tr tu k c s m v):=if_pos h
theorem GZ(a b d k c s m v:Int):(paP a b d k c s m v).length=42:=by unfold paP;rw[M',Ek,BI]
theorem Y0{p:List Int}(a:0<=n)(b:n<1073741824)(d:p.length=42):DO (Gz c) n 0 noB p=0:=by
 unfold DO;rw[if_neg (λg=>g (OkC.new (FH c) n a (by omega))),if_neg (by omega),if_neg (by omega)]
end
end
section
open Go.RowKit
section
variable{c n tc tr tu:Int}{w:World}{x y:S3}
theorem Xa(d:Sl w x.v Gy)(f:Ax w)(h:De tc tr tu) :
  Calls prog 74 #[x.v,.agg #[iv tc,iv tr,iv tu]] w λe w'=>∃ y:S3,e=.returned (.tuple #[y.v,iv 0])/\Sl w' y.v (Ke Gy tc tr tu)/\Bw w w':=by
 refine(Ut x.v Gy tc tr tu w d f).mono ?_;have a:Mt Gy tc tr tu=0:=by rw[Px Js];exact Ku h
 rintro e w' ⟨v,rfl,b,c⟩;rw[show Py Gy tc tr tu=Ke Gy tc tr tu from if_pos a]at b
 rw[a];obtain⟨y,rfl,g⟩:=FM b (by rw[Ek];decide) (V5 _ h);exact⟨y,rfl,g,c⟩
theorem VZ{l m:List Int}{e:TypeId}{g:Nat}(j:w.heap[g]?=some (.cells #[x.v,y.v] e))(b:Sl w x.v l)(c:Sl w y.v m)(n:l.length<=1000)(o:m.length<=1000)(p:0<l.length) :
  Calls prog 43 #[.slice (some ⟨g,0,none⟩) 2 2] w λe w'=>∃ z:S3,e=.returned z.v/\Sl w' z.v (l++m)/\Nb w.heap.size z (l++m)/\Bw w w':=by
 refine(ZK j b c n o p).mono ?_;rintro e w' ⟨v,rfl,i,f⟩;obtain⟨z,rfl,k,h⟩:=RT i (by rw[M'];omega) (λa d=>(Q'.1 d).elim (b.byte a) (c.byte a));exact⟨z,rfl,k,h,f⟩
theorem cC{p:List Int}(h:Sl w x.v (Gz c))(a:Sl w y.v p)(k:Cp w)(b:0<=n)(d:n<1073741824)(i:p.length=42) :
  Calls prog 77 #[.agg #[x.v,iv n,iv 0,.bool false,.bool false,.bool false,.bool false,.bool false,.bool false,.bool false,.bool false],y.v] w λe w'=>∃ u z:S3,e=.returned (.tuple #[.agg #[u.v,iv (n+1),iv 0,.bool false,.bool false,.bool false,.bool false,.bool false,.bool false,.bool false,.bool false],z.v,iv 0])/\Sl w' z.v (JV (Gz c) n p)/\Bw w w':=by
 refine(cD x.v (Gz c) n 0 noB y.v p w h rfl a k (Y0 b d i)).mono ?_;rintro e w' ⟨m,o,rfl,f,_,j,g⟩;obtain⟨u,rfl,_⟩:=Tz f;obtain⟨z,rfl,l⟩:=FM j (by rw[FQ];omega) (Vd _ _ a.byte);exact⟨u,z,rfl,l,g⟩
theorem bH{k s m v:Int}(h:paE n tc tr tu k c s m v=0)(p:Tabs w) :
  Calls prog 37 #[iv n,.agg #[iv tc,iv tr,iv tu],.agg #[iv k,iv c,iv s,iv m,iv v]] w λe w'=>∃ y:S3,e=.returned (.tuple #[y.v,iv 0])/\Sl w' y.v (paL n tc tr tu k c s m v)/\Nb w.heap.size y (paL n tc tr tu k c s m v)/\Bw w w':=by
 obtain⟨Y,hB,X⟩:=XT h;have hc:=(E7 X).2;unfold InC at hc;rw[XU h];refine kIn func37 (kR 11 [0,0,0,0] λb4 w1 b1=>kV 1 (.bool false) (rLt (x:=(.tmp 14)) (y:=(.const (iv 0))) (t:=3) (m:=n) (n:=0) (D' (by omega))) (kR 2 [] λb6 w2 b2=>kV 4 (.bool false) (rGe (x:=(.tmp 17)) (y:=(.const (iv 1073741824))) (t:=3) (m:=n) (n:=1073741824) (D' (by omega))) (kR 7 [8,2,0] λb7 w3 b3=>?_)));have S:=(btr (btr b1 b2) b3);refine kC 0 (IG (p.t.ab S)) ?_;rintro _ w5 ⟨yi,rfl,N,U⟩;refine⟨_,rfl,U,?_⟩;have T:=(btr S U);refine kC 2 (Xa N (p.t.ab T) hB) ?_;rintro _ w8 ⟨yt,rfl,Q,V⟩;refine⟨_,rfl,V,?_⟩;refine kR 17 [6,8,10,12,14,1] λc0 w9 W=>?_;have r:=(btr (btr T V) W);refine kC 1 (WG (m:=⟨k,c,s,m,v⟩) (p.n.ab r) X) ?_;rintro _ a2 ⟨yc,rfl,M,g⟩;refine⟨_,rfl,g,?_⟩;refine kR 18 [1] λZ a3 i=>?_;have A:=(btr (btr r g) i);refine kC 2 (Xp (c:=c) (by omega) (p.t.ab A) (if_pos (by omega))) ?_;rintro _ a4 ⟨yk,rfl,o,d⟩;refine⟨_,rfl,d,?_⟩;replace o:=o rfl;refine kR 22 [0,0] λI a5 f=>Ae λK=>kC 6 (VZ (K.pU 2 (I 0) _ 48 .z true (by kernel_rfl)) (((((Q.ab W).ab g).ab i).ab d).ab f) (((M.ab i).ab d).ab f) (by rw[Ek];decide) (by rw[BI];decide) (by rw[Ek];decide)) ?_;rintro _ a6 ⟨yp,rfl,O,_,j⟩;refine⟨_,rfl,j,?_⟩;have B:=(btr (btr (btr A d) f) j);refine kC 7 (cC ((o.ab f).ab j) O (p.q.ab p.q.pos B) Y.1 Y.2 (GZ tc tr tu k c s m v)) ?_;rintro _ a7 ⟨u,z,rfl,hz,D⟩;refine⟨_,rfl,D,?_⟩;refine kR 21 [0,0,3,0,1] λa0 a8 E=>kV 2 (.int .u8 c) (dC (P:=prog) (src:=3) (dst:=5) (k:=.i64) (n:=c) (by kernel_rfl) underlying5 (by kernel_rfl) (by rw[IntKind.wrap_u8];omega)) (kR 3 [0,0,0,0] λb R F=>Ae λK=>?_);have L:Sl R (S3.v ⟨some ⟨(b 0),0,none⟩,1,1⟩) [c]:=Sl.ofRow (l:=[c]) (K.pU 4 (b 0) _ 5 .z true (by kernel_rfl)) (by show 1<=_;decide) (λa ha=>by rw[G'.1 ha];omega);have C:=(btr (btr (btr B D) E) F);refine kC 6 (VZ (x:=⟨some ⟨(b 0),0,none⟩,1,1⟩) (K.pU 5 (b 1) _ 48 .z true (by kernel_rfl)) L ((hz.ab E).ab F) (by show 1<=1000;decide) (by rw[FQ];show(paP tc tr tu k c s m v).length+20<=1000;rw[GZ];decide) (by show 0<1;decide)) ?_;rintro _ a9 ⟨y,rfl,hy,hw,G⟩;refine⟨_,rfl,G,?_⟩;refine kR 3 [] λa1 b0 H=>?_;have J:=(btr (btr C G) H);exact kE (.tuple #[S3.v y,iv 0]) ⟨y,rfl,(hy.ab H),hw.mono C.size,J⟩
end
end
section
structure Gr where
 k:Int
 a:Int
 b:Int
 c:Int
 d:Int
def pkT(g:Gr):Int:=if pick g.d 17=16 then(pick g.c 4+1)%4 else pick g.c 4
def pkR(g:Gr):Int:=if pick g.d 17=15 then 0 else 7
def pkP(g:Gr):List Int:=paL (pick g.a 1000) (pkT g) (pkR g) 60 (wK g.b) (pick g.c 4) (pick g.d 6) (pick g.a 4) (wV g.b g.d)
theorem Ya(g:Gr):paE (pick g.a 1000) (pkT g) (pkR g) 60 (wK g.b) (pick g.c 4) (pick g.d 6) (pick g.a 4) (wV g.b g.d)=0:=by
 have e:=Bn g.a 1000 (by omega);have h:=Bn g.c 4 (by omega);have i:=Bn g.d 6 (by omega);have f:De (pkT g) (pkR g) 60:=by
  unfold De pkT pkR;refine⟨?_,?_,by omega⟩<;>split<;>omega
 rw[fD ⟨e.1,by omega⟩ (Ku f)];exact di g.b g.a g.d _ _ (by omega) (by omega)
def pkB(g:Gr):List Int:=if pick g.d 23=22/\30<(pkP g).length then(pkP g).take 30 else pkP g
def acN(k:Int)(n:Int):Lac:=⟨k,n,0,0,[]⟩
def Pt(g:Gr)(cr:Bool):Lac :=
 if pick g.k 24<3 then⟨1,pick g.a 5,0,0,pkB g⟩
 else if pick g.k 24<5 then acN 2 (pick g.a 5)
 else if pick g.k 24<14 then acN 3 (pick g.a 5)
 else if pick g.k 24=14 then⟨4,0,pick g.c 20,0,[]⟩
 else if pick g.k 24=15 then⟨5,0,pick g.c 20,0,[]⟩
 else if pick g.k 24=16 then⟨6,0,pick g.c 20,0,[]⟩
 else if pick g.k 24=17/\cr=true then⟨8,pick g.a 5,0,pick g.c 90,[]⟩
 else if pick g.k 24=18/\cr=true then acN 9 (pick g.a 5)
 else acN 7 0
def Yu(s:Nat)(x:Lac):Lac:=if x.k=1/\6<s+1 then acN 7 0 else x
def fW(s:Nat)(x:Lac):Nat:=if x.k=1 then s+1 else s
def O6(cr:Bool):Nat->List Gr->List Lac
 | _,[]=>[]
 | s,g::l=>Yu s (Pt g cr)::O6 cr (fW s (Pt g cr)) l
def scr(l:List Gr)(most:Nat)(cr:Bool):List Lac:=O6 cr 0 (l.take most)
def Ex:List Lac:=(List.range 5).map λn:Nat=>acN 9 (n:Int)
def gY:List Lac:=(List.range 5).map (λn:Nat=>acN 3 (n:Int))++[acN 7 0]
def Cv:Nat->List Lac
 | 0=>[]
 | m+1=>Cv m++gY
def G0(m:Nat):List Lac:=Ex++Cv m
end
section
open Go.RowKit
section
variable{fn:Func}{R:Ending->World->Prop}{B:Nat}{T:List Tg}{g:Gh}{w:World}
theorem eS{s:Xs}(d:Nat)(r i:Nat)(c:Dd s d=some (Instr.makeMap 96 none>>=λv=>pure (.value v)))
  (e:(nxt s d undef s.L).o.map Ob.l'=(nxt s d undef s.L).o.map Ob.r')
  (q:∀ b g' w',w.heap.size<=b->AskAt g' w' (.n r i) b (λ_=>none)->(∀ B T,Cg B T g w g' w')->(∀ b,w'.heap.size<=b->g'.t b=.z/\g'.k b=0)->GG prog fn R B T (nxt s d (.map (some b)) s.L).s g' w'):GG prog fn R B T s g w:=by
 refine JM d s.L e (BE c) λm A j o f=>?_;have u:(Instr.makeMap 96 none).run prog w=.ok (.map (some w.heap.size)) (w.alloc (.map #[] 0)):=by
  simp[Instr.makeMap,go_sem]
 have h:∀ B T,Cg B T g w (Og g w (.n r i) 0) (w.alloc (.map #[] 0)):=λB T =>
  ⟨rfl,rfl,rfl,by simp,λb a=>.inl (if_neg (by omega)),λb a=>by show _<=(if b=w.heap.size then _ else g.k b);rw[if_neg (by omega)];exact A' _,λb a _ _=>if_neg (by omega),λb a _ _=>heap_alloc_old w _ a,λb a j C=>World.cell?_of_block (w:=w) (heap_alloc_old w _ a)⟩
 have l:∀ b,(w.alloc (.map #[] 0)).heap.size<=b->(Og g w (.n r i) 0).t b=.z/\(Og g w (.n r i) 0).k b=0:=λb a=>by
  have p:w.heap.size+1<=b:=by simpa using a
  show(if b=w.heap.size then _ else g.t b)=.z/\(if b=w.heap.size then _ else g.k b)=0;rw[if_neg (by omega),if_neg (by omega)];exact m.new b (by omega)
 refine⟨.map (some w.heap.size),_,Og g w (.n r i) 0,.inl ?_,m.ch (h _ []) l (by simp),q _ _ _ (A' _) ⟨if_pos rfl,if_pos rfl,[],0,heap_alloc_new _ _,λx y=>absurd y N',List.nodup_nil,List.nodup_nil,λ_=>rfl⟩ h l⟩;rw[CY c f,Sem.run_bind,u,Result.andThen_ok];rfl
end
section
def ir(a:Acc)(y:S3)(b:Nat):Array Value:=((AB 0 0 (Dc.bare true [] 0 a []) (NX.mk s30 y s30 s30 s30 s30 (λ_=>s30) (some b))).toList.drop 6).toArray
variable{g:Gh}{i nb ob:Nat}{ls:List Let}{p:Nod}{ts:List Tol}{w:World}
theorem AT(i:Nat)(m:∀ b,w.heap.size<=b->g.t b=.z/\g.k b=0)(a:Acc)(y:S3) :
  Calls prog 24 #[.agg #[iv a.p.r,iv a.p.n,S3.v y]] w λe w'=>∃ (b:Nat) (g':Gh),e=.returned (.agg (ir a y b))/\AskAt g' w' (.n 5 i) b (λ_=>none)/\(∀ b,w'.heap.size<=b->g'.t b=.z/\g'.k b=0)/\Cg w.heap.size [] g w g' w':=by
 refine gI (fn:=f24) [] g func24 m (qR [] 8 [0,0,1,0,0] λq s B c1=>eS 1 5 i (by kernel_rfl) (by kernel_rfl) ?_);intro h u C o j c A;have l:=c w.heap.size [];refine qR [] 3 [1,0] λs3 x D d=>qE1 2 98 1 (q 1) (ir a y h) λK=>⟨h,_,rfl,(j.ch d),K.new,((c1.trans l).trans d)⟩
theorem Pends.nil(g:Gh)(w:World)(a:Nat):Pends g w a [] []:=⟨rfl,λk v q h=>by cases h⟩
theorem Wm(h:NS i nb ob g w p ls ts)(k:Int)(F:-9223372036854775808<=k)(G:k<=9223372036854775807) :
  Calls prog 30 #[pt nb 0,iv k] w (NP i nb ob g w (.tuple #[]) (if p.up then p.lp k else p) ls ts):=by
 obtain⟨x,lt,O,r,u,Y⟩:=h;refine gI (fn:=f30) (TN i) g func30 Y (qN r (qO u (qR [] 9 [0] λs1 g1 w1 c1=>?_)));by_cases o:p.up=true
 .refine qI ((!p.up)) false (by simpa using o) ?_;rw[if_pos o];refine qR [] 8 [0] λs2 N w2 b=>Ae λKq=>?_;have W:=(r.tape.ch (c1.trans b)).s;have V:∀ z,w2.heap.size<=z->N.t z=.z:=λz hz=>(Kq.new z hz).1;refine qC 5 (Wl (s:=p.sy) (k:=k) W F G) ?_;rintro e' w3 ⟨y,rfl,j,H,M⟩;refine⟨_,rfl,M,?_⟩;have m:=Cg.bu (B:=w.heap.size) (T:=[]) (g:=N) M;have a0:=IY j;have I:FSl _ _ y _:=⟨j,λZ a X=>V _ (H Z a X)⟩;refine qR [] 13 [0,0,2,0] λs4 g4 w4 c=>?_;by_cases q:Gx p.d p.sy k≠0
  .refine qI (((Gx p.d p.sy k) != 0)) true (by simpa using q) (qE (.tuple #[]) λK=>?_);rw[show p.lp k=p from if_pos q];exact⟨_,rfl,(nsC r u (((c1.n b).n m).n c) K),((((c1.nil (TN i)).n b).n m).n c)⟩
  .refine qI (((Gx p.d p.sy k) != 0)) false (by simpa using q) (qR [] 8 [7,0,2,4,8,10,12] λs7 U w7 D=>BV 33 (λQ w' e L=>e=[(0,pt nb 0)]/\L=[⟨nb,.cells (AB i ob (p.bare false (JH p.d p.sy k) (JI p.d p.sy k) DT []) (NX.mk y s30 s30 s30 s30 s30 (λ_=>s30) none)) 103,.n 0 i,false⟩,⟨ob,.cells #[S3.v lt,S3.v O] 80,.n 50 0,false⟩,⟨(s4 0),.cells #[S3.v y,iv (JI p.d p.sy k)] 101,.z,false⟩]/\True/\Cg w.heap.size ([.n 0 i]:List Tg) U w7 Q w') (by kernel_rfl) ?_ ?_)
   .intro J hJ
    (exact CU 3 7 (by kernel_rfl) (by(refine qR [.n 0 i] 9 [2,15,0,1,16,18,21,0,1,22,24,27,0,1] λa1 R a3 A=>?_;exact qB [true,true,true] λz P K=>hJ _ _ _ z _ ⟨rfl,rfl,trivial,A⟩ K)) (by(refine qR [.n 0 i] 9 [0,1,7,2,16,18,21,0,1,22,24,27,0,1] λa2 S a4 C=>?_;exact qB [true,true,true] λz P K=>hJ _ _ _ z _ ⟨rfl,rfl,trivial,C⟩ K)))
   rintro g8 w8 _ z8 _ ⟨rfl,rfl,_,E⟩;refine qE (.tuple #[]) λK=>?_;rw[show p.lp k=(p.bare false (JH p.d p.sy k) (JI p.d p.sy k) DT [])from if_neg q];exact⟨_,rfl,⟨(NX.mk y s30 s30 s30 s30 s30 (λ_=>s30) none),lt,O,K.nd 0 (((I.ch c).ch D).ch E) ⟨Sv.nil _,λh=>absurd rfl h⟩ (λ_ _=>⟨Sv.nil _,λh=>absurd rfl h⟩) ⟨[],OwnS.nil _ _ _ _ _ _,Pends.nil _ _ _⟩ (OwnS.nil _ _ _ _ _ _) (OwnS.nil _ _ _ _ _ _) (OwnS.nil _ _ _ _ _ _) rfl (λh=>by cases h),u.ch ((((((c1.nil ([.n 0 i]:List Tg)).n b).n m).n c).n D).trans (E)) (hn:=by simp<;>omega),K.new⟩,((((((c1.nil (TN i)).n b).n m).n c).n D).trans (E.mono (by simp[TN])))⟩
 .refine qI ((!p.up)) true (by simpa using o) (qE (.tuple #[]) λK=>?_);rw[if_neg o];exact⟨_,rfl,(nsC r u c1 K),(c1.nil (TN i))⟩
def nx0(b:Nat):NX:=NX.mk s30 s30 s30 s30 s30 s30 (λ_=>s30) (some b)
theorem PI{b:Nat}(d:w.heap[nb]?=some (.cells (AB i ob Dc (nx0 b)) 103))(e:g.t nb=.n 0 i)(c:g.k nb=0)(a:AskAt g w (.n 5 i) b (λ_=>none)):NodeAt g w i nb ob (nx0 b) Dc :=
 ⟨d,e,c,⟨⟨⟨none,0,rfl,A' _,λ_=>rfl,.inl rfl⟩,by simp[Dc],by simp[Dc]⟩,λh=>absurd rfl h⟩,⟨Sv.nil _,λh=>absurd rfl h⟩,λ_ _=>⟨Sv.nil _,λh=>absurd rfl h⟩,⟨[],OwnS.nil _ _ _ _ _ _,Pends.nil _ _ _⟩,OwnS.nil _ _ _ _ _ _,OwnS.nil _ _ _ _ _ _,OwnS.nil _ _ _ _ _ _,a,λ_=>⟨b,rfl⟩⟩
def nbF(a b c d e:Nat):Nat->Nat
 | 0=>a
 | 1=>b
 | 2=>c
 | 3=>d
 | _=>e
theorem Ln(hg:∀ b,w.heap.size<=b->g.t b=.z/\g.k b=0) :
  Calls prog 13 #[] w λe w'=>∃ (mb tb ob:Nat) (nb:Nat->Nat) (g':Gh),e=.returned (pt mb 0)/\MS mb tb ob nb g' w' AQ/\Cg w.heap.size [.n 70 0] g w g' w':=by
 refine gI (fn:=f13) [.n 70 0] g func13 hg (qR [] 8 [52,0] λa g1 w1 c1=>Ae λK=>qG 2 [.n 70 0] [true] (S8 K.new) ?_);rintro R w2 ⟨tb,g2,rfl,A2,n2,T⟩;refine⟨_,g2,rfl,T,n2,?_⟩;replace T:=T.ret (B:=w.heap.size);refine qR [] 10 [1,0] λs3 g3 w3 c3=>dx 5 27 [(1,pt (s3 0) 0),(8,iv 0)] [true,true] [⟨(a 0),.cells #[sn,sn] 80,.n 50 0,false⟩,⟨(s3 0),.cells #[.pointer none,.pointer none,.pointer none,.pointer none,.pointer none,pt (a 0) 0,.map (some tb)] 86,.l,false⟩] (by kernel_rfl) (by kernel_rfl) (by kernel_rfl) (by kernel_rfl) λN E z=>qR [] 25 [14,0,2,4,6,8,10,12,1,14,22,24] λs5 g5 w5 c5=>Ae λK=>qG 8 [] [true,true] (AT 0 K.new DT s30) ?_;rintro R w6 ⟨L,g6,rfl,A6,n6,Q⟩;refine⟨_,g6,rfl,Q,n6,?_⟩;replace Q:=Q.ret (B:=w.heap.size);refine qR [] 10 [18,21,2,0,26,29,1,0] λA g7 w7 X=>Ea (N 5) 27 [(1,pt (s3 0) 0),(8,iv 1)] [true,true,true] [⟨(a 0),.cells #[sn,sn] 80,.n 50 0,false⟩,⟨(s3 0),.cells #[pt (A 0) 0,.pointer none,.pointer none,.pointer none,.pointer none,pt (a 0) 0,.map (some tb)] 86,.l,false⟩,⟨(A 0),.cells (AB 0 (a 0) Dc (nx0 L)) 103,.n 0 0,false⟩] (by kernel_rfl) (by kernel_rfl) (by kernel_rfl) (by kernel_rfl) (by kernel_rfl) λz S K=>E 4 _ _ _ _ _ ?_ K;refine qR [] 25 [14,0,2,4,6,8,10,12,1,14,22,24] λs8 g8 w8 Y=>Ae λK=>qG 8 [] [true,true,true] (AT 1 K.new DT s30) ?_;rintro R w9 ⟨P,g9,rfl,A9,n9,M⟩;refine⟨_,g9,rfl,M,n9,?_⟩;replace M:=M.ret (B:=w.heap.size);refine qR [] 10 [18,21,2,1,26,29,1,0] λc a5 c0 H=>Ea (N 4) 27 [(1,pt (s3 0) 0),(8,iv 2)] [true,true,true,true] [⟨(a 0),.cells #[sn,sn] 80,.n 50 0,false⟩,⟨(s3 0),.cells #[pt (A 0) 0,pt (c 0) 0,.pointer none,.pointer none,.pointer none,pt (a 0) 0,.map (some tb)] 86,.l,false⟩,⟨(A 0),.cells (AB 0 (a 0) Dc (nx0 L)) 103,.n 0 0,false⟩,⟨(c 0),.cells (AB 1 (a 0) Dc (nx0 P)) 103,.n 0 1,false⟩] (by kernel_rfl) (by kernel_rfl) (by kernel_rfl) (by kernel_rfl) (by kernel_rfl) λz S K=>E 3 _ _ _ _ _ ?_ K;refine qR [] 25 [14,0,2,4,6,8,10,12,1,14,22,24] λb4 a6 c4 I=>Ae λK=>qG 8 [] [true,true,true,true] (AT 2 K.new DT s30) ?_;rintro R d0 ⟨G,Z,rfl,U,a2,p⟩;refine⟨_,Z,rfl,p,a2,?_⟩;replace p:=p.ret (B:=w.heap.size);refine qR [] 10 [18,21,2,2,26,29,1,0] λj a7 d1 C=>Ea (N 3) 27 [(1,pt (s3 0) 0),(8,iv 3)] [true,true,true,true,true] [⟨(a 0),.cells #[sn,sn] 80,.n 50 0,false⟩,⟨(s3 0),.cells #[pt (A 0) 0,pt (c 0) 0,pt (j 0) 0,.pointer none,.pointer none,pt (a 0) 0,.map (some tb)] 86,.l,false⟩,⟨(A 0),.cells (AB 0 (a 0) Dc (nx0 L)) 103,.n 0 0,false⟩,⟨(c 0),.cells (AB 1 (a 0) Dc (nx0 P)) 103,.n 0 1,false⟩,⟨(j 0),.cells (AB 2 (a 0) Dc (nx0 G)) 103,.n 0 2,false⟩] (by kernel_rfl) (by kernel_rfl) (by kernel_rfl) (by kernel_rfl) (by kernel_rfl) λz S K=>E 2 _ _ _ _ _ ?_ K;refine qR [] 25 [14,0,2,4,6,8,10,12,1,14,22,24] λb5 a8 d2 D=>Ae λK=>qG 8 [] [true,true,true,true,true] (AT 3 K.new DT s30) ?_;rintro R d3 ⟨J,a0,rfl,V,a3,o⟩;refine⟨_,a0,rfl,o,a3,?_⟩;replace o:=o.ret (B:=w.heap.size);refine qR [] 10 [18,21,2,3,26,29,1,0] λu a9 d4 x=>Ea (N 2) 27 [(1,pt (s3 0) 0),(8,iv 4)] [true,true,true,true,true,true] [⟨(a 0),.cells #[sn,sn] 80,.n 50 0,false⟩,⟨(s3 0),.cells #[pt (A 0) 0,pt (c 0) 0,pt (j 0) 0,pt (u 0) 0,.pointer none,pt (a 0) 0,.map (some tb)] 86,.l,false⟩,⟨(A 0),.cells (AB 0 (a 0) Dc (nx0 L)) 103,.n 0 0,false⟩,⟨(c 0),.cells (AB 1 (a 0) Dc (nx0 P)) 103,.n 0 1,false⟩,⟨(j 0),.cells (AB 2 (a 0) Dc (nx0 G)) 103,.n 0 2,false⟩,⟨(u 0),.cells (AB 3 (a 0) Dc (nx0 J)) 103,.n 0 3,false⟩] (by kernel_rfl) (by kernel_rfl) (by kernel_rfl) (by kernel_rfl) (by kernel_rfl) λz S K=>E 1 _ _ _ _ _ ?_ K;refine qR [] 25 [14,0,2,4,6,8,10,12,1,14,22,24] λb7 b0 d5 y=>Ae λK=>qG 8 [] [true,true,true,true,true,true] (AT 4 K.new DT s30) ?_;rintro R d6 ⟨O,a1,rfl,W,a4,d⟩;refine⟨_,a1,rfl,d,a4,?_⟩;replace d:=d.ret (B:=w.heap.size);refine qR [] 10 [18,21,2,4,26,29,1,0] λF b1 d7 q=>Ea (N 1) 27 [(1,pt (s3 0) 0),(8,iv 5)] [true,true,true,true,true,true,true] [⟨(a 0),.cells #[sn,sn] 80,.n 50 0,false⟩,⟨(s3 0),.cells #[pt (A 0) 0,pt (c 0) 0,pt (j 0) 0,pt (u 0) 0,pt (F 0) 0,pt (a 0) 0,.map (some tb)] 86,.l,false⟩,⟨(A 0),.cells (AB 0 (a 0) Dc (nx0 L)) 103,.n 0 0,false⟩,⟨(c 0),.cells (AB 1 (a 0) Dc (nx0 P)) 103,.n 0 1,false⟩,⟨(j 0),.cells (AB 2 (a 0) Dc (nx0 G)) 103,.n 0 2,false⟩,⟨(u 0),.cells (AB 3 (a 0) Dc (nx0 J)) 103,.n 0 3,false⟩,⟨(F 0),.cells (AB 4 (a 0) Dc (nx0 O)) 103,.n 0 4,false⟩] (by kernel_rfl) (by kernel_rfl) (by kernel_rfl) (by kernel_rfl) (by kernel_rfl) λz S K=>E 0 _ _ _ _ _ ?_ K;refine qR [] 12 [] λb8 b2 d8 r=>ii 1 (s3 0) (by kernel_rfl) λb3 s=>qE (pt (s3 0) 0) λK=>⟨(s3 0),tb,(a 0),(nbF (A 0) (c 0) (j 0) (u 0) (F 0)),_,rfl,?_,((((((((((((((((((((c1.nil [.n 70 0]).trans T).n c3).n c5).n Q).n X).n Y).n M).n H).n I).n p).n C).n D).n o).n x).n y).n d).n q).n r).n s)⟩;obtain⟨z1,z2⟩:=K.oG 1 (s3 0) (.cells (mtA (nbF (A 0) (c 0) (j 0) (u 0) (F 0)) (a 0) tb) 86) false (by kernel_rfl);obtain⟨o1,o2,o3⟩:=K.oH 0 (a 0) (.cells #[S3.v s30,S3.v s30] 80) 50 0 (by kernel_rfl);obtain⟨q0,r0,t0⟩:=K.oH 2 (A 0) (.cells (AB 0 (a 0) Dc (nx0 L)) 103) 0 0 (by kernel_rfl);obtain⟨q1,r1,t1⟩:=K.oH 3 (c 0) (.cells (AB 1 (a 0) Dc (nx0 P)) 103) 0 1 (by kernel_rfl);obtain⟨q2,r2,t2⟩:=K.oH 4 (j 0) (.cells (AB 2 (a 0) Dc (nx0 G)) 103) 0 2 (by kernel_rfl);obtain⟨q3,r3,t3⟩:=K.oH 5 (u 0) (.cells (AB 3 (a 0) Dc (nx0 J)) 103) 0 3 (by kernel_rfl);obtain⟨q4,r4,t4⟩:=K.oH 6 (F 0) (.cells (AB 4 (a 0) Dc (nx0 O)) 103) 0 4 (by kernel_rfl);refine⟨⟨z1,z2⟩,((((((((((((((((((A2.ch c3).ch c5).ch Q).ch X).ch Y).ch M).ch H).ch I).ch p).ch C).ch D).ch o).ch x).ch y).ch d).ch q).ch r).ch s),λi hi=>?_,⟨s30,s30,o1,o2,o3,⟨[],OwnS.nil _ _ _ _ _ _,⟨rfl,λk b m h=>(by cases h)⟩⟩,OwnS.nil _ _ _ _ _ _⟩,K.new⟩;rcases nT hi with rfl|rfl|rfl|rfl|rfl
 .exact⟨_,PI q0 r0 t0 (((((((((((((((A6.ch X).ch Y).ch M).ch H).ch I).ch p).ch C).ch D).ch o).ch x).ch y).ch d).ch q).ch r).ch s)⟩
 .exact⟨_,PI q1 r1 t1 ((((((((((((A9.ch H).ch I).ch p).ch C).ch D).ch o).ch x).ch y).ch d).ch q).ch r).ch s)⟩
 .exact⟨_,PI q2 r2 t2 (((((((((U.ch C).ch D).ch o).ch x).ch y).ch d).ch q).ch r).ch s)⟩
 .exact⟨_,PI q3 r3 t3 ((((((V.ch x).ch y).ch d).ch q).ch r).ch s)⟩
 .exact⟨_,PI q4 r4 t4 (((W.ch q).ch r).ch s)⟩
theorem Zg(h:NS i nb ob g w p ls ts)(M:p.up=true)(hw:p.an.length<100000000)(c:Cmd) :
  Calls prog 57 #[pt nb 0,.agg #[iv c.k,iv c.c,iv c.s,iv c.n,iv c.v]] w (NP i nb ob g w (.tuple #[]) (p.want c) ls ts):=by
 obtain⟨x,lt,S,d,I,X⟩:=h;obtain⟨j,q⟩:=d.oO M;obtain⟨o,rfl⟩:∃ o:NX,x={ o with bw:=some j }:=⟨x,by cases x;simp only at q;subst q;rfl⟩;clear q;have Q:AskAt g w (.n 5 i) j p.bw:=d.oL rfl;refine gI (fn:=f57) (TN i) g func57 X (qN d (qO I ?_));obtain⟨y,u,P,O,L,J⟩:=id Q;refine Hv j _ 5 i L y u (by kernel_rfl) ?_;refine qR [] 13 [0,0,13,0,2,4,6,8,0,10,3] λs1 g1 w1 c1=>qU 6 (.tuple #[.agg #[iv ((p.bw c).getD Bh).r,iv ((p.bw c).getD Bh).n],.bool (p.bw c).isSome]) (λW V=>(Yg (g:=g) (τ:=.n 5 i) (b:=j) (f:=p.bw) ⟨y,u,P,O,AN.at (V rfl) 2 j (.map (P.map mkA).toArray O) (.n 5 i) (by kernel_rfl),J⟩ c)) (qR [] 11 [14,16,18,21,0,0,23,4,0,24] λs2 g2 w2 t=>?_);by_cases D:(p.bw c).isSome=true
 .refine qI ((p.bw c).isSome) true D (qE (.tuple #[]) λK=>?_);rw[show p.want c=p from if_pos D];have N:=c1.n t;exact⟨_,rfl,⟨({ o with bw:=some j }:NX),lt,S,d.ch N,I.ch N,K.new⟩,((c1.nil (TN i)).n t)⟩
 .refine qI ((p.bw c).isSome) false (by simpa using D) (Hw [true,true,false,true,true] ?_);have Y:o.an.n=p.an.length:=d.an.num;refine qR [] 11 [12,0,2,4,6,8,10,0,12,2,15,0,0] λR g5 w5 A=>JL 8 (x:=({ o with bw:=some j }:NX).an) 34 34 47 5 40 (.agg #[iv 0,iv 0,iv 0,iv 0,iv 0]) ⟨(R 0),0,none⟩ 1 1 [iv c.k,iv c.c,iv c.s,iv c.n,iv c.v] (d.an.ch ((c1.trans t).trans A) (by simp) (by simp)) (by kernel_rfl) (by kernel_rfl) (by kernel_rfl) underlying34 (by kernel_rfl) (by kernel_rfl) (by decide) (by decide) rfl (by simp[Value.oneCell']) (λK=>Cw K 4 (R 0) [iv c.k,iv c.c,iv c.s,iv c.n,iv c.v] 47 .z true (by kernel_rfl)) (by show o.an.n+1<=_;unfold maxLen;omega) (by show(o.an.n+1)*40<=_;omega) ?_;intro Z g6 w6 U n6 G G6;have E:=G w.heap.size [.n 4 i] (G'.2 rfl);refine qR [.n 0 i] 13 [18,20,22,25,0,1,8,0,2,4,6,8,0,10,2,12] λs7 g7 w7 B=>SZ 7 (τ:=.n 5 i) (b:=j) c Bh (((((Q.ch c1).ch t).ch A).ch E).ch B) (by kernel_rfl) (by kernel_rfl) (by kernel_rfl) ?_;intro w8 T H;have F:=H w.heap.size [.n 5 i] (G'.2 rfl);refine qR [] 1 [] λs9 g9 w9 C=>qE (.tuple #[]) λK=>?_;rw[show p.want c={ p with an:=p.an++[c],bw:=Ez p.bw c (some Bh) }from if_neg D];have a:=((((((c1.nil ([.n 4 i,.n 0 i,.n 5 i]:List Tg)).n t).n A).m E).m B).m F).n C;have e:Tg.z∉([.n 4 i,.n 0 i,.n 5 i]:List Tg):=by simp
  exact⟨_,rfl,⟨({ o with bw:=some j,an:=Z }:NX),lt,S,K.nd 0 (d.tape.ch a e) (d.ln.ch a e) (Bl d.al a e) (BP d.bn a e (by simp)) (d.dW.ch a) (d.ae.ch a) (by rw[BZ];exact(((U.ch B).ch F).ch C)) (T.ch C) (λ_=>⟨j,rfl⟩),I.ch a e (by simp<;>omega),K.new⟩,(((((((c1.nil (TN i)).n t).n A).trans (E.mono (by simp[TN]))).trans (B.mono (by simp[TN]))).trans (F.mono (by simp[TN]))).n C)⟩
end
end
end Go.Proofs.YthohlalejhgbmaaGreatDoor
