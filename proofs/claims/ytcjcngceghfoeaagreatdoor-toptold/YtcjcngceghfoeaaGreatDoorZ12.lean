/- Part 12 of the walk. -/
import Derived.Test.YtcjcngceghfoeaaGreatDoorZ11
set_option maxRecDepth 100000
set_option maxHeartbeats 4000000
open Go.Proofs.Tryz
set_option linter.unusedVariables false
namespace Go.Proofs.YtcjcngceghfoeaaGreatDoor
open Go.RowKit
section
variable{B C b i j mb ob r sz tb:Nat}{F:Nat->Lac}{L:List Lac}{M:Meet}{T:List Tg}{W w w' w0:World}{e:TypeId}{g g':Gh}{k:Int}{l:List (Lac × S3)}{ly tv x y:S3}{nb:Nat->Nat}{vs xs:List Value}{ys:Nat->S3}{α:Type}
theorem fL{f:Bool}(h:OwnS g' w' (.n 60 0) f e sz y xs)(c:Cg w.heap.size [.n 60 0] gz w g' w'):∀ a,y.a=some a->w.heap.size<=a.block:=by
 intro a d;rcases h.ex with⟨h1,_⟩|⟨b,_,h1,_,_,_,_,_,h7,_⟩
 .rw[h1]at d;cases d
 .rw[h1]at d
  simp only[Y']at d;subst d;rcases nt b w.heap.size with hlt|hge
  .have:=c.tag hlt (λh=>hlt);rw[h7]at this;cases this
  .exact hge
theorem RF(h:RdV w x 5 vs)(I:∀ u∈vs,u.oneCell'=true)(M:x.n<100000000) :
  Calls prog 38 #[x.v] w λe w'=>∃ y:S3,e=.returned y.v/\RdV w' y 5 vs/\y.n=x.n/\(vs≠[]->∀ a,y.a=some a->w.heap.size<=a.block)/\Bw w w':=by
 obtain⟨T,c,k⟩:=x;simp only at M;refine gI (fn:=f38) [.n 60 0] gz func38 (λ_ _=>⟨rfl,rfl⟩) (qR [] 8 [] λU Z w1 d=>?_);by_cases C:T=none
 .subst C;have o:k=0:=h.so rfl;have q:c=0:=by have:=h.cap;simp only at this;omega
  subst o q;refine qV 1 (.bool true) (dZ (z:=⟨none,0,0⟩) (t:=35) (e:=51) (x:=(.tmp 3)) (y:=(.const (sn))) rfl underlying35 (by kernel_rfl)) (qR [] 6 [] λV g2 w2 F=>qE (S3.v s30) λK=>⟨s30,rfl,⟨h.len,A' _,λ_=>rfl,.inl rfl⟩,rfl,λ_ a L=>(by cases L),Cg.af ((d.nil [.n 60 0]).n F) (λ_ _=>Ew)⟩)
 .obtain⟨ad,rfl⟩:=oz.1 C;refine qV 1 (.bool false) (dZ (z:=⟨some ad,c,k⟩) (t:=35) (e:=51) (x:=(.tmp 3)) (y:=(.const (sn))) rfl underlying35 (by kernel_rfl)) (qR [] 7 [62,0] λb H S g=>?_);by_cases D:c=0
  .subst D;obtain⟨s,r⟩:∃ s,prog.info? 51=some s:=nF.1 (by kernel_rfl);refine qV 2 (.slice (some ⟨(b 0),0,none⟩) 0 0) (fN 35 35 51 s underlying35 r (b 0) ad k) (qR [] 2 [] λW g4 w4 G=>qE (S3.v ⟨some ⟨(b 0),0,none⟩,0,0⟩) λK=>⟨_,rfl,⟨h.len,A' _,λh=>(by cases h),.inl rfl⟩,rfl,λO=>absurd (j' (by rw[h.len];exact qj 5)) O,Cg.af (((d.nil [.n 60 0]).n g).n G) (λ_ _=>Ew)⟩)
  .obtain⟨bx,ox,hx1,hx2,hx3⟩:∃ bx ox,(some ad:Option Addr)=some ⟨bx,ox,none⟩/\bx<w.heap.size/\∀ j u,vs[j]?=some u->w.cell? ⟨bx,ox+j,none⟩=some u:=by rcases h.ex with h|h;exact absurd h D;exact h
   simp only[Y']at hx1;subst hx1;refine Af λK=>?_;obtain⟨P,Q,R⟩:=K.tj 0 (b 0) (.cells #[] 51) 60 0 true (by kernel_rfl);have J:OwnS H S (.n 60 0) true 51 5 ⟨some ⟨(b 0),0,none⟩,0,0⟩ []:=⟨rfl,.inr ⟨(b 0),#[],rfl,P,A' _,mV _,rfl,rfl,Q,R⟩⟩;refine Iw [false] ?_;have m:=Cg.af ((d.nil [.n 60 0]).n g) (λ_ _=>Ew);refine Km 2 (x:=⟨some ⟨(b 0),0,none⟩,0,0⟩) 35 35 51 5 40 (.agg #[iv 0,iv 0,iv 0,iv 0,iv 0]) ⟨bx,ox,none⟩ c k vs J (by kernel_rfl) (by kernel_rfl) (by kernel_rfl) underlying35 (by kernel_rfl) (by kernel_rfl) (by decide) (by omega) h.len I (λK j u N=>by rw[Kf];exact(m.cell (p:=⟨bx,ox+j,none⟩) hx2).trans (hx3 j u N)) (by show 0+c<=_;unfold maxLen;omega) (by show(0+c)*40<=_;omega) ?_;intro E g5 w5 A n5 l Y;have B:=l w.heap.size [.n 60 0] (D'.2 rfl);refine qR [] 2 [] λX g6 w6 i=>qE (S3.v E) λK=>⟨E,rfl,(by have:=(A.ch i).rv;rwa [nZ]at this),(by rw[n5];show 0+c=c;omega),λ_=>fL (A.ch i) ((((d.nil [.n 60 0]).n g).trans B).n i),Cg.af ((((d.nil [.n 60 0]).n g).trans B).n i) (λ_ _=>Ew)⟩
theorem KW(h:RdV w x 5 vs)(I:∀ u∈vs,u.oneCell'=true)(M:x.n<100000000) :
  Calls prog 37 #[x.v] w λe w'=>∃ y:S3,e=.returned y.v/\RdV w' y 5 vs/\y.n=x.n/\(vs≠[]->∀ a,y.a=some a->w.heap.size<=a.block)/\Bw w w':=by
 obtain⟨T,c,k⟩:=x;simp only at M;refine gI (fn:=f37) [.n 60 0] gz func37 (λ_ _=>⟨rfl,rfl⟩) (qR [] 8 [] λU Z w1 d=>?_);by_cases C:T=none
 .subst C;have o:k=0:=h.so rfl;have q:c=0:=by have:=h.cap;simp only at this;omega
  subst o q;refine qV 1 (.bool true) (dZ (z:=⟨none,0,0⟩) (t:=28) (e:=49) (x:=(.tmp 3)) (y:=(.const (sn))) rfl underlying28 (by kernel_rfl)) (qR [] 6 [] λV g2 w2 F=>qE (S3.v s30) λK=>⟨s30,rfl,⟨h.len,A' _,λ_=>rfl,.inl rfl⟩,rfl,λ_ a L=>(by cases L),Cg.af ((d.nil [.n 60 0]).n F) (λ_ _=>Ew)⟩)
 .obtain⟨ad,rfl⟩:=oz.1 C;refine qV 1 (.bool false) (dZ (z:=⟨some ad,c,k⟩) (t:=28) (e:=49) (x:=(.tmp 3)) (y:=(.const (sn))) rfl underlying28 (by kernel_rfl)) (qR [] 7 [62,0] λb H S g=>?_);by_cases D:c=0
  .subst D;obtain⟨s,r⟩:∃ s,prog.info? 49=some s:=nF.1 (by kernel_rfl);refine qV 2 (.slice (some ⟨(b 0),0,none⟩) 0 0) (fN 28 28 49 s underlying28 r (b 0) ad k) (qR [] 2 [] λW g4 w4 G=>qE (S3.v ⟨some ⟨(b 0),0,none⟩,0,0⟩) λK=>⟨_,rfl,⟨h.len,A' _,λh=>(by cases h),.inl rfl⟩,rfl,λO=>absurd (j' (by rw[h.len];exact qj 5)) O,Cg.af (((d.nil [.n 60 0]).n g).n G) (λ_ _=>Ew)⟩)
  .obtain⟨bx,ox,hx1,hx2,hx3⟩:∃ bx ox,(some ad:Option Addr)=some ⟨bx,ox,none⟩/\bx<w.heap.size/\∀ j u,vs[j]?=some u->w.cell? ⟨bx,ox+j,none⟩=some u:=by rcases h.ex with h|h;exact absurd h D;exact h
   simp only[Y']at hx1;subst hx1;refine Af λK=>?_;obtain⟨P,Q,R⟩:=K.tj 0 (b 0) (.cells #[] 49) 60 0 true (by kernel_rfl);have J:OwnS H S (.n 60 0) true 49 5 ⟨some ⟨(b 0),0,none⟩,0,0⟩ []:=⟨rfl,.inr ⟨(b 0),#[],rfl,P,A' _,mV _,rfl,rfl,Q,R⟩⟩;refine Iw [false] ?_;have m:=Cg.af ((d.nil [.n 60 0]).n g) (λ_ _=>Ew);refine Km 2 (x:=⟨some ⟨(b 0),0,none⟩,0,0⟩) 28 28 49 5 40 (.agg #[iv 0,iv 0,iv 0,iv 0,iv 0]) ⟨bx,ox,none⟩ c k vs J (by kernel_rfl) (by kernel_rfl) (by kernel_rfl) underlying28 (by kernel_rfl) (by kernel_rfl) (by decide) (by omega) h.len I (λK j u N=>by rw[Kf];exact(m.cell (p:=⟨bx,ox+j,none⟩) hx2).trans (hx3 j u N)) (by show 0+c<=_;unfold maxLen;omega) (by show(0+c)*40<=_;omega) ?_;intro E g5 w5 A n5 l Y;have B:=l w.heap.size [.n 60 0] (D'.2 rfl);refine qR [] 2 [] λX g6 w6 i=>qE (S3.v E) λK=>⟨E,rfl,(by have:=(A.ch i).rv;rwa [nZ]at this),(by rw[n5];show 0+c=c;omega),λ_=>fL (A.ch i) ((((d.nil [.n 60 0]).n g).trans B).n i),Cg.af ((((d.nil [.n 60 0]).n g).trans B).n i) (λ_ _=>Ew)⟩
def Hd(M:Meet)(ly tv:S3):Array Value:=#[iv (M.br.length:Int),.bool (M.ae 0).up,.bool (M.ae 1).up,.bool (M.ae 2).up,.bool (M.ae 3).up,.bool (M.ae 4).up,S3.v ly,iv ((M.ae 0).bad:Int),iv ((M.ae 1).bad:Int),iv ((M.ae 2).bad:Int),iv ((M.ae 3).bad:Int),iv ((M.ae 4).bad:Int),S3.v tv]
structure OutW(w:World)(M:Meet)(ly tv:S3)(ys:Nat->S3):Prop where
 rL:RdV w ly 1 [S3.v (ys 0),S3.v (ys 1),S3.v (ys 2),S3.v (ys 3),S3.v (ys 4)]
 log:∀ j,j<5->RdC w (ys j) ((M.ae j).ab.take (M.ae j).done)
 ed:RdV w tv 5 (M.ed.flatMap Eg)
structure OutN(B:Nat)(M:Meet)(ly tv:S3)(ys:Nat->S3):Prop where
 rL:∀ a,ly.a=some a->B<=a.block
 log:∀ j,j<5->cmL ((M.ae j).ab.take (M.ae j).done)≠[]->∀ a,(ys j).a=some a->B<=a.block
 ed:M.ed.flatMap Eg≠[]->∀ a,tv.a=some a->B<=a.block
theorem OutW.ch(h:OutW w M ly tv ys)(hn:OutN B M ly tv ys)(e:∀ b,B<=b->g.t b=.z)(c:Cg C [] g w g' w'):OutW w' M ly tv ys :=
 ⟨((⟨h.rL,λ_ a d=>e _ (hn.rL a d)⟩:FzV g w ly 1 _).ch c).rd,λj i=>(((⟨(h.log j i).rv,λf a d=>e _ (hn.log j i f a d)⟩:FzV g w (ys j) 5 _).ch c).rd).rc,((⟨h.ed,λf a d=>e _ (hn.ed f a d)⟩:FzV g w tv 5 _).ch c).rd⟩
theorem UK(d:List Tol):∀ u∈d.flatMap Eg,u.oneCell'=true:=by
 intro u b;obtain⟨c,_,a⟩:=pg.1 b;simp only[Eg,mG,Q',or_false]at a;rcases a with rfl|rfl|rfl|rfl|rfl<;>rfl
theorem aG{P:Program}{c:Func}{R:Ending->World->Prop}{Φ:List Fa}{s:Xs}(b:Nat)(o:Obj)(a:w0.heap[b]?=some o)(h:GT P c R w0 Φ ⟨s.K,s.f,BM s.L++[⟨b,o,.z,false⟩]⟩ g w):GT P c R w0 Φ s g w :=
 ⟨λF C=>Cl ⟨b,o,.z,false⟩ (λ_=>⟨((CgQ.af C).block b (rl a)).trans a,C.tag (rl a) (λ_=>rl a),(λh=>by cases h),λh=>absurd rfl h⟩) rfl (h.ex F C)⟩
theorem ir(h:MS mb tb ob nb g w0 M)(b:Bw w0 w){i:Nat}(c:i<5)(a:(M.ae i).done<=(M.ae i).ab.length) :
  Calls prog 39 #[pt (nb i) 0] w λe w'=>∃ y:S3,e=.returned y.v/\RdC w' y ((M.ae i).ab.take (M.ae i).done)/\Bw w w' :=
 Uq ((h.rA (Cg.eb (B:=0) b) λd a=>h.new d (my b.size a)).ns c) a
theorem kw(a:i<5):(Instr.index 92 (.agg #[pt (nb 0) 0,pt (nb 1) 0,pt (nb 2) 0,pt (nb 3) 0,pt (nb 4) 0]) (iv (i:Int))).run prog W=.ok (pt (nb i) 0) W:=by
 rcases ri a with rfl|rfl|rfl|rfl|rfl<;>kernel_rfl
def ysL(ys:Nat->S3)(i:Nat):List Value:=(List.range i).map λj=>S3.v (ys j)
def Gi(f:Nat->Bool)(i:Nat)(b:Bool):Nat->Bool:=λj=>bif Nat.beq j i then b else f j
def Kp(f:Nat->Int)(i:Nat)(b:Int):Nat->Int:=λj=>bif Nat.beq j i then b else f j
def ra(M:Meet)(i:Nat):Nat->Bool:=λj=>bif Nat.blt j i then(M.ae j).up else false
def CH(M:Meet)(i:Nat):Nat->Int:=λj=>bif Nat.blt j i then((M.ae j).bad:Int)else 0
theorem PA(j i:Nat):Nat.blt j (i+1)=bif Nat.beq j i then true else Nat.blt j i:=by
 rw[Bool.eq_iff_iff];rcases pK j i with h|h|h
 .simp[Nat.blt,show Nat.beq j i=false from Bool.eq_false_iff.2 λe=>by have:=Nat.eq_of_beq_eq_true e;omega];omega
 .subst h;simp[Nat.blt,Nat.beq_refl]
 .simp[Nat.blt,show Nat.beq j i=false from Bool.eq_false_iff.2 λe=>by have:=Nat.eq_of_beq_eq_true e;omega];omega
theorem jq(M:Meet)(i:Nat):Gi (ra M i) i (M.ae i).up=ra M (i+1):=by
 funext j
 unfold Gi ra;rw[PA];cases h:Nat.beq j i
 .rfl
 .rw[mX h];rfl
theorem gx(M:Meet)(i:Nat):Kp (CH M i) i ((M.ae i).bad:Int)=CH M (i+1):=by
 funext j
 unfold Kp CH;rw[PA];cases h:Nat.beq j i
 .rfl
 .rw[mX h];rfl
def Lgs(g:Gh)(w:World)(M:Meet)(ys:Nat->S3)(i:Nat):Prop:=∀ j,j<i->FzV g w (ys j) 5 (cmL ((M.ae j).ab.take (M.ae j).done))
def Fa.lg(M:Meet)(ys:Nat->S3)(i:Nat):Fa:=⟨none,λg w=>Lgs g w M ys i,λhz _ c h j hj=>(h j hj).ch c hz⟩
def yup(ys:Nat->S3)(i:Nat)(y:S3):Nat->S3:=λj=>if j=i then y else ys j
theorem du(h:Lgs g w M ys i)(k:FzV g w y 5 (cmL ((M.ae i).ab.take (M.ae i).done))):Lgs g w M (yup ys i y) (i+1):=by
 intro j a;unfold yup;split
 .rename_i e;rw[e];exact k
 .exact h j (by omega)
theorem lF(a:Nat->S3)(i:Nat)(y:S3):ysL (yup a i y) (i+1)=ysL a i++[S3.v y]:=by
 unfold ysL;rw[n7,mS]
 congr 1
 .apply qb;intro j b;have:=om.1 b;unfold yup;rw[if_neg (by omega)]
 .simp[yup]
theorem fC(h:∀ j,j<i->cmL ((M.ae j).ab.take (M.ae j).done)≠[]->∀ a,(ys j).a=some a->B<=a.block)(k:cmL ((M.ae i).ab.take (M.ae i).done)≠[]->∀ a,y.a=some a->B<=a.block):∀ j,j<i+1->cmL ((M.ae j).ab.take (M.ae j).done)≠[]->∀ a,(yup ys i y j).a=some a->B<=a.block:=by
 intro j b;unfold yup;split
 .rename_i e;rw[e];exact k
 .exact h j (by omega)
theorem iD(h:OwnS g w (.n 60 0) true e sz x xs)(C:Cg w0.heap.size TQ gS w0 g w):∀ a,x.a=some a->w0.heap.size<=a.block:=by
 intro a c;rcases h.ex with⟨h1,_⟩|⟨b,cur,h1,_,_,_,_,_,h7,_⟩
 .rw[h1]at c;cases c
 .rw[h1]at c;cases c
  refine pV λd=>?_;have:=C.tag d (λ_=>d);rw[h7]at this
  cases this
theorem QB(h:MS mb tb ob nb g w M)(hd:∀ i,i<5->(M.ae i).done<=(M.ae i).ab.length/\(M.ae i).ab.length<=40)(b2:M.br.length<100000000)(b5:M.ed.length<100000000) :
  Calls prog 20 #[pt mb 0] w λe w'=>∃ (ly tv:S3) (ys:Nat->S3),e=.returned (.agg (Hd M ly tv))/\OutW w' M ly tv ys/\OutN w.heap.size M ly tv ys/\Bw w w':=by
 obtain⟨lt,tl,E⟩:=h.out;obtain⟨bs,hL,R⟩:=E.br;have S:lt.n=M.br.length:=by have:=hL.len;have:=R.len;simp at *;omega
 have b6:tl.n=M.ed.length:=by have Z:=E.ed.len;rw[G9]at Z;omega
 refine tIn [] func20 trivial (aG mb _ h.box.r ?_);refine aG ob _ E.row ?_;refine tR 21 [1,0,19,0,2,4,6,0,8,10,12,1,14,16,18,20,22,0,24,26,28,1] λb _ _=>Ig 55 (λy t c=>∃ (tv:S3) (m:Nat),y=[(0,pt mb 0),(2,pt (b 0) 0),(3,pt m 0)]/\t=[⟨mb,.cells (mtA nb ob tb) 94,.z,false⟩,⟨ob,.cells #[S3.v lt,S3.v tl] 88,.z,false⟩,⟨(b 0),.cells #[iv 0,.bool false,.bool false,.bool false,.bool false,.bool false,sn,iv 0,iv 0,iv 0,iv 0,iv 0,sn] 30,.l,false⟩,⟨m,.cells #[iv (lt.n:Int),.bool false,.bool false,.bool false,.bool false,.bool false,sn,iv 0,iv 0,iv 0,iv 0,iv 0,S3.v tv] 30,.l,false⟩]/\c=[Fa.zv tv 5 (M.ed.flatMap Eg)]/\(M.ed.flatMap Eg≠[]->∀ a,tv.a=some a->w.heap.size<=a.block)) (λJ q=>?_) ?_
 .refine Ih 15 17 ?_ ?_
  .refine tF λ_ D=>?_;have T:=D.size;refine tC 15 (λF C=>KW (E.ed.rv.af (CgQ.af C)) (UK _) (by omega)) λB=>?_;rintro _ _ ⟨tv,rfl,A,_,f,b4⟩;refine⟨_,Fa.zv tv 5 (M.ed.flatMap Eg)::_,rfl,b4,λF=>⟨⟨A,λp a o=>B _ (f p a o)⟩,F⟩,?_⟩;refine tR 4 [32,35,1,0,37,3,0] λX _ _=>tD q [true,true,true,true] ⟨tv,(X 0),rfl,rfl,rfl,λp a o=>my T (f p a o)⟩ (λF=>⟨F.1,trivial⟩)
  .refine tR 1 [1,0] λY _ _=>tF λ_ D=>?_;have U:=D.size;refine tC 15 (λF C=>KW (E.ed.rv.af (CgQ.af C)) (UK _) (by omega)) λB=>?_;rintro _ _ ⟨tv,rfl,A,_,f,b8⟩;refine⟨_,Fa.zv tv 5 (M.ed.flatMap Eg)::_,rfl,b8,λF=>⟨⟨A,λp a o=>B _ (f p a o)⟩,F⟩,?_⟩;refine tR 3 [32,37,3,0] λb9 _ _=>tD q [true,true,true,true] ⟨tv,(Y 0),rfl,rfl,rfl,λp a o=>my U (f p a o)⟩ (λF=>⟨F.1,trivial⟩)
 rintro _ _ _ ⟨tv,m,rfl,rfl,rfl,f⟩ _ _ _;refine tR 10 [0] λa1 _ _=>D1 55 [(2,pt (b 0) 0),(3,pt m 0),(26,.agg #[pt (nb 0) 0,pt (nb 1) 0,pt (nb 2) 0,pt (nb 3) 0,pt (nb 4) 0]),(27,iv 0)] [true,false,true,true] [⟨mb,.cells (mtA nb ob tb) 94,.z,false⟩,⟨(b 0),.cells #[iv 0,.bool false,.bool false,.bool false,.bool false,.bool false,sn,iv 0,iv 0,iv 0,iv 0,iv 0,sn] 30,.l,false⟩,⟨m,.cells #[iv (lt.n:Int),.bool false,.bool false,.bool false,.bool false,.bool false,sn,iv 0,iv 0,iv 0,iv 0,iv 0,S3.v tv] 30,.l,false⟩] [Fa.zv tv 5 (M.ed.flatMap Eg),Fa.ow 0 35 1 s30 (ysL (λ_=>s30) 0),Fa.lg M (λ_=>s30) 0] (λkk y t c=>∃ (i:Nat) (ly:S3) (ys:Nat->S3),kk=5-i/\y=[(2,pt (b 0) 0),(3,pt m 0),(26,.agg #[pt (nb 0) 0,pt (nb 1) 0,pt (nb 2) 0,pt (nb 3) 0,pt (nb 4) 0]),(27,iv (i:Int))]/\t=[⟨mb,.cells (mtA nb ob tb) 94,.z,false⟩,⟨(b 0),.cells #[iv 0,.bool false,.bool false,.bool false,.bool false,.bool false,sn,iv 0,iv 0,iv 0,iv 0,iv 0,sn] 30,.l,false⟩,⟨m,.cells #[iv (lt.n:Int),.bool (ra M i 0),.bool (ra M i 1),.bool (ra M i 2),.bool (ra M i 3),.bool (ra M i 4),S3.v ly,iv (CH M i 0),iv (CH M i 1),iv (CH M i 2),iv (CH M i 3),iv (CH M i 4),S3.v tv] 30,.l,false⟩]/\c=[Fa.zv tv 5 (M.ed.flatMap Eg),Fa.ow 0 35 1 ly (ysL ys i),Fa.lg M ys i]/\i<=5/\ly.n=i/\(∀ j,j<i->cmL ((M.ae j).ab.take (M.ae j).done)≠[]->∀ a,(ys j).a=some a->w.heap.size<=a.block)) (5) ⟨0,s30,λ_=>s30,rfl,rfl,rfl,rfl,by omega,rfl,λj G=>absurd G (ou _)⟩ (λF=>⟨F.1,OwnS.nil _ _ _ _ _ _,(λj G=>absurd G (ou _)),trivial⟩) ?_;rintro k _ _ _ ⟨i,ly,ys,rfl,rfl,rfl,rfl,hi,a0,hw⟩ _ _ _ J q;refine tR 5 [] λa2 _ _=>?_;by_cases Z:i<5
 .refine tI ((decide ((i:Int)<5))) true (M' (by omega)) ?_;have d:i<5:=by omega
  obtain⟨x,hN⟩:=h.ae i d;refine tR 6 [] λa3 _ _=>tV 1 (pt (nb i) 0) (λF C=>(kw d)) (aG (nb i) _ hN.row ?_);refine tR 4 [] λa4 _ _=>Ig 55 (λy t c=>y=[(2,pt (b 0) 0),(3,pt m 0),(26,.agg #[pt (nb 0) 0,pt (nb 1) 0,pt (nb 2) 0,pt (nb 3) 0,pt (nb 4) 0]),(27,iv (i:Int)),(4,iv (i:Int)),(5,pt (nb i) 0)]/\t=[⟨mb,.cells (mtA nb ob tb) 94,.z,false⟩,⟨(b 0),.cells #[iv 0,.bool false,.bool false,.bool false,.bool false,.bool false,sn,iv 0,iv 0,iv 0,iv 0,iv 0,sn] 30,.l,false⟩,⟨m,.cells #[iv (lt.n:Int),.bool (Gi (ra M i) i (M.ae i).up 0),.bool (Gi (ra M i) i (M.ae i).up 1),.bool (Gi (ra M i) i (M.ae i).up 2),.bool (Gi (ra M i) i (M.ae i).up 3),.bool (Gi (ra M i) i (M.ae i).up 4),S3.v ly,iv (CH M i 0),iv (CH M i 1),iv (CH M i 2),iv (CH M i 3),iv (CH M i 4),S3.v tv] 30,.l,false⟩,⟨(nb i),.cells (AG i ob (M.ae i) x) 111,.z,false⟩]/\c=[Fa.zv tv 5 (M.ed.flatMap Eg),Fa.ow 0 35 1 ly (ysL ys i),Fa.lg M ys i]) (λJ q=>?_) ?_
  .rcases ri d with rfl|rfl|rfl|rfl|rfl<;>exact tR 10 [3,2,0] λa5 _ _=>tD q [true,true,true,true] ⟨rfl,rfl,rfl⟩ (λF=>F)
  rintro _ _ _ ⟨rfl,rfl,rfl⟩ _ _ _;refine tR 1 [] λa6 _ _=>Ig 55 (λy t c=>y=[(2,pt (b 0) 0),(3,pt m 0),(26,.agg #[pt (nb 0) 0,pt (nb 1) 0,pt (nb 2) 0,pt (nb 3) 0,pt (nb 4) 0]),(27,iv (i:Int)),(4,iv (i:Int)),(5,pt (nb i) 0)]/\t=[⟨mb,.cells (mtA nb ob tb) 94,.z,false⟩,⟨(b 0),.cells #[iv 0,.bool false,.bool false,.bool false,.bool false,.bool false,sn,iv 0,iv 0,iv 0,iv 0,iv 0,sn] 30,.l,false⟩,⟨m,.cells #[iv (lt.n:Int),.bool (Gi (ra M i) i (M.ae i).up 0),.bool (Gi (ra M i) i (M.ae i).up 1),.bool (Gi (ra M i) i (M.ae i).up 2),.bool (Gi (ra M i) i (M.ae i).up 3),.bool (Gi (ra M i) i (M.ae i).up 4),S3.v ly,iv (Kp (CH M i) i ((M.ae i).bad:Int) 0),iv (Kp (CH M i) i ((M.ae i).bad:Int) 1),iv (Kp (CH M i) i ((M.ae i).bad:Int) 2),iv (Kp (CH M i) i ((M.ae i).bad:Int) 3),iv (Kp (CH M i) i ((M.ae i).bad:Int) 4),S3.v tv] 30,.l,false⟩,⟨(nb i),.cells (AG i ob (M.ae i) x) 111,.z,false⟩]/\c=[Fa.zv tv 5 (M.ed.flatMap Eg),Fa.ow 0 35 1 ly (ysL ys i),Fa.lg M ys i]) (λJ q=>?_) ?_
  .rcases ri d with rfl|rfl|rfl|rfl|rfl<;>exact tR 10 [3,2,0] λa7 _ _=>tD q [true,true,true,true] ⟨rfl,rfl,rfl⟩ (λF=>F)
  rintro _ _ _ ⟨rfl,rfl,rfl⟩ _ _ _;refine tR 4 [8,0,2,2,4] λa8 _ _=>tC 3 (λF C=>ir h (CgQ.af C) d (hd i d).1) λB=>?_;rintro _ _ ⟨yl,rfl,I,P⟩;refine⟨_,_,rfl,P,id,?_⟩;have V:yl.n<100000000:=by rw[I.len,X'];have:=hd i d;omega
  refine tF λ_ D=>?_;have H:=D.size;refine tC 4 (λF C=>RF I.rv (λu hu=>OD _ u hu) V) λB=>?_;rintro _ _ ⟨O,rfl,W,_,L,Q⟩;refine⟨_,Fa.zv O 5 (cmL ((M.ae i).ab.take (M.ae i).done))::_,rfl,Q,λF=>⟨⟨W,λp a o=>B _ (L p a o)⟩,F⟩,?_⟩;refine tR 1 [11,0,0] λs _ _=>Mh 6 0 (x:=ly) 26 26 35 1 24 sn ⟨(s 0),0,none⟩ 1 1 [S3.v O] (λF=>F.2.2.1) [Fa.zv tv 5 (M.ed.flatMap Eg),Fa.lg M (yup ys i O) (i+1)] (λF=>⟨F.2.1,du F.2.2.2.1 F.1,trivial⟩) rfl (by simp[TQ]) rfl (by simp[Value.oneCell']) (λF K=>Cu K 4 (s 0) [S3.v O] 35 .z true (by kernel_rfl)) (by unfold maxLen;omega) (by omega) λN _ _ b7=>tR 5 [14,17,2,0] λa9 _ _=>tV 0 (iv ((i:Int)+1)) (λF C=>(AO 27 (i:Int) underlying3 (by omega))) (tR 2 [] λb0 _ _=>tB q (5-(i+1)) (by omega) [true,true,true,false,false] (L':=[⟨mb,.cells (mtA nb ob tb) 94,.z,false⟩,⟨(b 0),.cells #[iv 0,.bool false,.bool false,.bool false,.bool false,.bool false,sn,iv 0,iv 0,iv 0,iv 0,iv 0,sn] 30,.l,false⟩,⟨m,.cells #[iv (lt.n:Int),.bool (Gi (ra M i) i (M.ae i).up 0),.bool (Gi (ra M i) i (M.ae i).up 1),.bool (Gi (ra M i) i (M.ae i).up 2),.bool (Gi (ra M i) i (M.ae i).up 3),.bool (Gi (ra M i) i (M.ae i).up 4),S3.v N,iv (Kp (CH M i) i ((M.ae i).bad:Int) 0),iv (Kp (CH M i) i ((M.ae i).bad:Int) 1),iv (Kp (CH M i) i ((M.ae i).bad:Int) 2),iv (Kp (CH M i) i ((M.ae i).bad:Int) 3),iv (Kp (CH M i) i ((M.ae i).bad:Int) 4),S3.v tv] 30,.l,false⟩]) ⟨i+1,N,yup ys i O,rfl,rfl,(by rw[jq,gx]),rfl,by omega,by omega,fC hw (λp a o=>my H (L p a o))⟩ (λF=>⟨F.2.1,(by rw[lF];exact F.1),F.2.2.1,trivial⟩))
 .refine tI ((decide ((i:Int)<5))) false (E' (by omega)) ?_;obtain rfl:i=5:=by omega
  refine tR 6 [2,1,0] λb1 _ _=>?_;have hA:Hd M ly tv=#[iv (lt.n:Int),.bool (ra M 5 0),.bool (ra M 5 1),.bool (ra M 5 2),.bool (ra M 5 3),.bool (ra M 5 4),S3.v ly,iv (CH M 5 0),iv (CH M 5 1),iv (CH M 5 2),iv (CH M 5 3),iv (CH M 5 4),S3.v tv]:=by rw[S];rfl
  exact tX λF C=>qE1 2 30 1 (b 0) #[iv (lt.n:Int),.bool (ra M 5 0),.bool (ra M 5 1),.bool (ra M 5 2),.bool (ra M 5 3),.bool (ra M 5 4),S3.v ly,iv (CH M 5 0),iv (CH M 5 1),iv (CH M 5 2),iv (CH M 5 3),iv (CH M 5 4),S3.v tv] λ_=>⟨ly,tv,ys,by rw[hA],⟨F.2.1.rv,λj G=>(F.2.2.1 j G).rd.rc,F.1.rd⟩,⟨iD F.2.1 C,hw,f⟩,CgQ.af C⟩
theorem YM(h:1<=k/\k<=9):Calls prog 25 #[iv k] w λe w'=>e=.returned (.bool true)/\Bw w w':=by
 refine tIn [] func25 trivial (tR 7 [] λa _ _=>tV 1 (.bool true) (λF C=>(rGe (t:=3) (m:=k) (n:=1) (x:=(.tmp 3)) (y:=(.const (iv 1))) (M' h.1))) (tR 6 [] λb _ _=>tE (.bool (decide (k<10))) λ_ B=>⟨by rw[M' (show k<10 by omega)],B⟩))
theorem YD:Calls prog 52 #[iv k] w λe w'=>e=.returned (.bool (k==1))/\Bw w w':=by
 refine tIn [] func52 trivial (tR 10 [] λa _ _=>tE (.bool (k==1)) λ_ B=>⟨rfl,B⟩)
theorem Qq:Calls prog 51 #[pt b 0] w λe w'=>e=.returned (.agg #[pt b 1,pt b 2,pt b 3])/\Bw w w':=by
 refine tIn [] func51 trivial (tR 18 [1,0,10,0,2,4,6,8,10,12,14,16,18,21,0,0] λa _ _=>tX λF C=>qE1 2 134 0 (a 0) #[pt b 1,pt b 2,pt b 3] λ_=>⟨rfl,CgQ.af C⟩)
theorem YO(h:j<3):j=0\/j=1\/j=2:=by omega
theorem IE(h:1<=k/\k<=9):(Instr.indexAt 140 (pt 0 0) (iv k)).run prog W=.ok (pt 0 (4*k.toNat)) W:=by
 have:=Wt k.toNat (by omega) W
 rwa [oQ (by omega)]at this
theorem LWTab.at(h:LWTab w){k:Int}(c:1<=k/\k<=9){j:Nat}(a:j<3){b:Bool}(e:Mx j k=b):w.cell? ⟨0,4*k.toNat+1+j,none⟩=some (.bool b):=by
 have:=h.has k.toNat j (by omega) a
 rwa [oQ (by omega),e]at this
theorem ig{x:Lac}(h:LacOk x)(hy:y.n=x.d.length)(i:LWTab w)(o:LBTab w):Calls prog 26 #[.agg #[iv x.k,iv x.n,iv x.a,iv x.p,S3.v y]] w λe w'=>e=.returned (.bool true)/\Bw w w':=by
 have f:=h.k;refine tIn [] func26 trivial (tR 8 [0,0] λc _ _=>tC1 0 (λF C=>Qq (b:=(c 0))) λ_=>tR 3 [] λa0 _ _=>D1 33 [(1,pt (c 0) 0),(5,.agg #[pt (c 0) 1,pt (c 0) 2,pt (c 0) 3]),(6,iv 0)] [true] [⟨(c 0),.cells #[iv x.k,iv x.n,iv x.a,iv x.p,S3.v y] 57,.z,false⟩] [] (λZ Y X l=>∃ (j:Nat),Z=3-j/\Y=[(1,pt (c 0) 0),(5,.agg #[pt (c 0) 1,pt (c 0) 2,pt (c 0) 3]),(6,iv (j:Int))]/\X=[⟨(c 0),.cells #[iv x.k,iv x.n,iv x.a,iv x.p,S3.v y] 57,.z,false⟩]/\l=[]/\j<=3) (3) ⟨0,rfl,rfl,rfl,rfl,by omega⟩ (λF=>trivial) ?_);rintro k _ _ _ ⟨j,rfl,rfl,rfl,rfl,hj⟩ _ _ _ J g;refine tR 5 [] λa1 _ _=>?_;by_cases h0:j<3
 .refine tI ((decide ((j:Int)<3))) true (M' (by omega)) ?_;rcases YO (show j<3 by omega)with rfl|rfl|rfl
  .by_cases h1:Gd x.k=true
   .have hv:=h.n h1;refine tR 15 [22,0,2,0,4] λa2 _ _=>tT 3 (pt (0) (4*x.k.toNat)) (λ_=>(IE f)) (tR 2 [8,10] λa3 _ _=>tV 6 (.bool true) (λF C=>(Dj underlying4 rfl ((i.af (CgQ.af C)).at f (j:=0) (by decide) (show Gd x.k=true from h1)))) (tR 4 [14,16,18,20,0] λa4 _ _=>tT 11 (.bool false) (λ_=>(rLt (t:=3) (m:=x.n) (n:=0) (x:=(.tmp 20)) (y:=(.const (iv 0))) (E' (by omega)))) (tR 6 [24,26,28,30,0,32,34] λa5 _ _=>tV 18 (iv 4) (λF C=>(Dj underlying3 rfl ((o.af (CgQ.af C)).tM 0 (by decide)))) (tR 4 [38,40,42] λa6 _ _=>tI ((decide (4<x.n))) false (E' (by omega)) (tR 6 [] λq _ _=>tB g (3-1) (by omega) [true] ⟨1,rfl,rfl,rfl,rfl,by omega⟩ (λF=>trivial))))))
   .refine tR 15 [22,0,2,0,4] λr _ _=>tT 3 (pt (0) (4*x.k.toNat)) (λ_=>(IE f)) (tR 2 [8,10] λs _ _=>tV 6 (.bool false) (λF C=>(Dj underlying4 rfl ((i.af (CgQ.af C)).at f (j:=0) (by decide) (show Gd x.k=false from(by simpa using h1))))) (tR 23 [14,16,18,20,22,24,26,28,30,32,34,36,38,40,42] λu _ _=>tB g (3-1) (by omega) [true] ⟨1,rfl,rfl,rfl,rfl,by omega⟩ (λF=>trivial)))
  .by_cases h1:Ij x.k=true
   .have hv:=h.a h1;refine tR 15 [22,0,2,0,4] λA _ _=>tT 3 (pt (0) (4*x.k.toNat)) (λ_=>(IE f)) (tR 2 [8,10] λD _ _=>tV 6 (.bool true) (λF C=>(Dj underlying4 rfl ((i.af (CgQ.af C)).at f (j:=1) (by decide) (show Ij x.k=true from h1)))) (tR 4 [14,16,18,20,0] λE _ _=>tT 11 (.bool false) (λ_=>(rLt (t:=3) (m:=x.a) (n:=0) (x:=(.tmp 20)) (y:=(.const (iv 0))) (E' (by omega)))) (tR 6 [24,26,28,30,0,32,34] λG _ _=>tV 18 (iv 1048576) (λF C=>(Dj underlying3 rfl ((o.af (CgQ.af C)).tM 1 (by decide)))) (tR 4 [38,40,42] λH _ _=>tI ((decide (1048576<x.a))) false (E' (by omega)) (tR 6 [] λI _ _=>tB g (3-2) (by omega) [true] ⟨2,rfl,rfl,rfl,rfl,by omega⟩ (λF=>trivial))))))
   .refine tR 15 [22,0,2,0,4] λK _ _=>tT 3 (pt (0) (4*x.k.toNat)) (λ_=>(IE f)) (tR 2 [8,10] λL _ _=>tV 6 (.bool false) (λF C=>(Dj underlying4 rfl ((i.af (CgQ.af C)).at f (j:=1) (by decide) (show Ij x.k=false from(by simpa using h1))))) (tR 23 [14,16,18,20,22,24,26,28,30,32,34,36,38,40,42] λM _ _=>tB g (3-2) (by omega) [true] ⟨2,rfl,rfl,rfl,rfl,by omega⟩ (λF=>trivial)))
  .by_cases h1:Ik x.k=true
   .have hv:=h.p h1;refine tR 15 [22,0,2,0,4] λN _ _=>tT 3 (pt (0) (4*x.k.toNat)) (λ_=>(IE f)) (tR 2 [8,10] λO _ _=>tV 6 (.bool true) (λF C=>(Dj underlying4 rfl ((i.af (CgQ.af C)).at f (j:=2) (by decide) (show Ik x.k=true from h1)))) (tR 4 [14,16,18,20,0] λP _ _=>tT 11 (.bool false) (λ_=>(rLt (t:=3) (m:=x.p) (n:=0) (x:=(.tmp 20)) (y:=(.const (iv 0))) (E' (by omega)))) (tR 6 [24,26,28,30,0,32,34] λQ _ _=>tV 18 (iv 100000) (λF C=>(Dj underlying3 rfl ((o.af (CgQ.af C)).tM 2 (by decide)))) (tR 4 [38,40,42] λR _ _=>tI ((decide (100000<x.p))) false (E' (by omega)) (tR 6 [] λS _ _=>tB g (3-3) (by omega) [true] ⟨3,rfl,rfl,rfl,rfl,by omega⟩ (λF=>trivial))))))
   .refine tR 15 [22,0,2,0,4] λT _ _=>tT 3 (pt (0) (4*x.k.toNat)) (λ_=>(IE f)) (tR 2 [8,10] λU _ _=>tV 6 (.bool false) (λF C=>(Dj underlying4 rfl ((i.af (CgQ.af C)).at f (j:=2) (by decide) (show Ik x.k=false from(by simpa using h1))))) (tR 23 [14,16,18,20,22,24,26,28,30,32,34,36,38,40,42] λV _ _=>tB g (3-3) (by omega) [true] ⟨3,rfl,rfl,rfl,rfl,by omega⟩ (λF=>trivial)))
 .refine tI ((decide ((j:Int)<3))) false (E' (by omega)) (tR 5 [] λW _ _=>tE (.bool true) λ_ B=>⟨rfl,B⟩)
theorem cH{x:Lac}(h:LacOk x)(hy:y.n=x.d.length)(o:LWTab w)(tb:LBTab w):Calls prog 27 #[.agg #[iv x.k,iv x.n,iv x.a,iv x.p,S3.v y]] w λe w'=>e=.returned (.bool true)/\Bw w w':=by
 have g:=h.k;refine tIn [] func27 trivial (tR 8 [0,0] λc _ _=>tC1 0 (λF C=>Qq (b:=(c 0))) λ_=>tR 3 [] λa1 _ _=>D1 34 [(1,pt (c 0) 0),(5,.agg #[pt (c 0) 1,pt (c 0) 2,pt (c 0) 3]),(6,iv 0)] [true] [⟨(c 0),.cells #[iv x.k,iv x.n,iv x.a,iv x.p,S3.v y] 57,.z,false⟩] [] (λkk Y X i=>∃ (j:Nat),kk=3-j/\Y=[(1,pt (c 0) 0),(5,.agg #[pt (c 0) 1,pt (c 0) 2,pt (c 0) 3]),(6,iv (j:Int))]/\X=[⟨(c 0),.cells #[iv x.k,iv x.n,iv x.a,iv x.p,S3.v y] 57,.z,false⟩]/\i=[]/\j<=3) (3) ⟨0,rfl,rfl,rfl,rfl,by omega⟩ (λF=>trivial) ?_);rintro k _ _ _ ⟨j,rfl,rfl,rfl,rfl,hj⟩ _ _ _ J f;refine tR 5 [] λa2 _ _=>?_;by_cases h0:j<3
 .refine tI ((decide ((j:Int)<3))) true (M' (by omega)) ?_;rcases YO (show j<3 by omega)with rfl|rfl|rfl
  .by_cases h1:Gd x.k=true
   .by_cases h2:x.n=0
    .refine tR 15 [0] λa3 _ _=>tV 3 (.bool false) (λF C=>(He (t:=3) (m:=x.n) (n:=0) (x:=(.tmp 12)) (y:=(.const (iv 0))) (by simpa using h2))) (tR 18 [] λa4 _ _=>tB f (3-1) (by omega) [true] ⟨1,rfl,rfl,rfl,rfl,by omega⟩ (λF=>trivial))
    .refine tR 15 [0] λa5 _ _=>tV 3 (.bool true) (λF C=>(He (t:=3) (m:=x.n) (n:=0) (x:=(.tmp 12)) (y:=(.const (iv 0))) (by simpa using h2))) (tR 4 [0] λa6 _ _=>tV 8 (pt (0) (4*x.k.toNat)) (λF C=>(IE g)) (tR 2 [] λa7 _ _=>tV 11 (.bool true) (λF C=>(Dj underlying4 rfl ((o.af (CgQ.af C)).at g (j:=0) (by decide) (show Gd x.k=true from h1)))) (tR 10 [] λq _ _=>tB f (3-1) (by omega) [true] ⟨1,rfl,rfl,rfl,rfl,by omega⟩ (λF=>trivial))))
   .have h2:x.n=0:=h.n0 (by simpa using h1);refine tR 15 [0] λr _ _=>tV 3 (.bool false) (λF C=>(He (t:=3) (m:=x.n) (n:=0) (x:=(.tmp 12)) (y:=(.const (iv 0))) (by simpa using h2))) (tR 18 [] λs _ _=>tB f (3-1) (by omega) [true] ⟨1,rfl,rfl,rfl,rfl,by omega⟩ (λF=>trivial))
  .by_cases h1:Ij x.k=true
   .by_cases h2:x.a=0
    .refine tR 15 [0] λu _ _=>tV 3 (.bool false) (λF C=>(He (t:=3) (m:=x.a) (n:=0) (x:=(.tmp 12)) (y:=(.const (iv 0))) (by simpa using h2))) (tR 18 [] λA _ _=>tB f (3-2) (by omega) [true] ⟨2,rfl,rfl,rfl,rfl,by omega⟩ (λF=>trivial))
    .refine tR 15 [0] λD _ _=>tV 3 (.bool true) (λF C=>(He (t:=3) (m:=x.a) (n:=0) (x:=(.tmp 12)) (y:=(.const (iv 0))) (by simpa using h2))) (tR 4 [0] λE _ _=>tV 8 (pt (0) (4*x.k.toNat)) (λF C=>(IE g)) (tR 2 [] λG _ _=>tV 11 (.bool true) (λF C=>(Dj underlying4 rfl ((o.af (CgQ.af C)).at g (j:=1) (by decide) (show Ij x.k=true from h1)))) (tR 10 [] λH _ _=>tB f (3-2) (by omega) [true] ⟨2,rfl,rfl,rfl,rfl,by omega⟩ (λF=>trivial))))
   .have h2:x.a=0:=h.a0 (by simpa using h1);refine tR 15 [0] λI _ _=>tV 3 (.bool false) (λF C=>(He (t:=3) (m:=x.a) (n:=0) (x:=(.tmp 12)) (y:=(.const (iv 0))) (by simpa using h2))) (tR 18 [] λK _ _=>tB f (3-2) (by omega) [true] ⟨2,rfl,rfl,rfl,rfl,by omega⟩ (λF=>trivial))
  .by_cases h1:Ik x.k=true
   .by_cases h2:x.p=0
    .refine tR 15 [0] λL _ _=>tV 3 (.bool false) (λF C=>(He (t:=3) (m:=x.p) (n:=0) (x:=(.tmp 12)) (y:=(.const (iv 0))) (by simpa using h2))) (tR 18 [] λM _ _=>tB f (3-3) (by omega) [true] ⟨3,rfl,rfl,rfl,rfl,by omega⟩ (λF=>trivial))
    .refine tR 15 [0] λN _ _=>tV 3 (.bool true) (λF C=>(He (t:=3) (m:=x.p) (n:=0) (x:=(.tmp 12)) (y:=(.const (iv 0))) (by simpa using h2))) (tR 4 [0] λO _ _=>tV 8 (pt (0) (4*x.k.toNat)) (λF C=>(IE g)) (tR 2 [] λP _ _=>tV 11 (.bool true) (λF C=>(Dj underlying4 rfl ((o.af (CgQ.af C)).at g (j:=2) (by decide) (show Ik x.k=true from h1)))) (tR 10 [] λQ _ _=>tB f (3-3) (by omega) [true] ⟨3,rfl,rfl,rfl,rfl,by omega⟩ (λF=>trivial))))
   .have h2:x.p=0:=h.p0 (by simpa using h1);refine tR 15 [0] λR _ _=>tV 3 (.bool false) (λF C=>(He (t:=3) (m:=x.p) (n:=0) (x:=(.tmp 12)) (y:=(.const (iv 0))) (by simpa using h2))) (tR 18 [] λS _ _=>tB f (3-3) (by omega) [true] ⟨3,rfl,rfl,rfl,rfl,by omega⟩ (λF=>trivial))
 .refine tI ((decide ((j:Int)<3))) false (E' (by omega)) (tR 6 [0] λT _ _=>?_);by_cases Z:y.n=0
  .refine tV 3 (.bool true) (λF C=>(D0 (t:=3) (m:=(y.n:Int)) (n:=0) (x:=(.tmp 27)) (y:=(.const (iv 0))) (by simp;omega))) (tR 7 [] λU _ _=>tE (.bool true) λ_ B=>⟨rfl,B⟩)
  .refine tV 3 (.bool false) (λF C=>(D0 (t:=3) (m:=(y.n:Int)) (n:=0) (x:=(.tmp 27)) (y:=(.const (iv 0))) (by simp;omega))) (tR 3 [0] λV _ _=>tC1 7 (λF C=>YD (k:=x.k)) λ_=>tR 3 [] λW _ _=>?_);have l:x.k=1:=nc λe=>Z (by rw[hy,h.d0 e];rfl);exact tE (.bool (x.k==1)) λ_ B=>⟨by rw[l];rfl,B⟩
theorem RB{x:Lac}(h:LacOk x)(b:y.n=x.d.length)(f:LWTab w)(c:LBTab w):Calls prog 17 #[.agg #[iv x.k,iv x.n,iv x.a,iv x.p,S3.v y]] w λe w'=>e=.returned (iv 0)/\Bw w w':=by
 have o:=h.d;refine tIn [] func17 trivial (tR 10 [0,0,0] λg _ _=>tC1 2 (λF C=>YM h.k) λ_=>tR 8 [0] λi _ _=>tC1 1 (λF C=>ig h b (f.af (CgQ.af C)) (c.af (CgQ.af C))) λ_=>tR 12 [0] λj _ _=>tI ((decide (2000<(y.n:Int)))) false (E' (by omega)) (tR 5 [0] λl _ _=>tC1 1 (λF C=>cH h b (f.af (CgQ.af C)) (c.af (CgQ.af C))) λ_=>tR 8 [] λm _ _=>tE (iv 0) λ_ B=>⟨rfl,B⟩))
def laV(x:Lac)(y:Value):List Value:=[.int .i64 x.k,.int .i64 x.n,.int .i64 x.a,.int .i64 x.p,y]
def zLa:Value:=.agg #[.int .i64 0,.int .i64 0,.int .i64 0,.int .i64 0,.slice none 0 0]
def lS:Lac:=⟨0,0,0,0,[]⟩
structure Sk(w:World)(x:Value)(F:Nat->Lac)(n:Nat):Prop where
 ex:∃ a cap,x=.slice a n cap/\(n=0\/∃ b off,a=some ⟨b,off,none⟩/\b<w.heap.size/\∀ i,i<n->∃ y,w.rangeAt b (off+5*i) (laV (F i) y)/\Sl w y (F i).d)
 len:n<=2513169434916
theorem Sk.af{x:Value}{n:Nat}(h:Sk w x F n)(e:Bw w w'):Sk w' x F n:=by
 obtain⟨⟨a,c,rfl,d⟩,f⟩:=h;refine⟨⟨a,c,rfl,?_⟩,f⟩;rcases d with d|⟨b,off,ha,hbs,hcell⟩
 .exact .inl d
 .refine .inr ⟨b,off,ha,Z' hbs e.size,λi l=>?_⟩;obtain⟨y,g,k⟩:=hcell i l;exact⟨y,λj u m=>(e.cell (p:=⟨b,off+5*i+j,none⟩) hbs).trans (g j u m),k.af e⟩
theorem Sk.shape{x:Value}{n:Nat}(h:Sk w x F n):∃ a cap,x=.slice a n cap:=by
 obtain⟨⟨a,cap,e,_⟩,_⟩:=h;exact⟨a,cap,e⟩
theorem Sk.spot{a:Option Addr}{n c:Nat}(h:Sk w (.slice a n c) F n)(i:Nat)(j:i<n):∃ b off xa xm xp,a=some ⟨b,off,none⟩/\b<w.heap.size/\w.rangeAt b (off+5*i) (laV (F i) (.slice xa xm xp))/\Sl w (.slice xa xm xp) (F i).d:=by
 obtain⟨⟨k,f,e,g⟩,_⟩:=h;simp only[Value.slice.injEq]at e;obtain⟨rfl,_,rfl⟩:=e;rcases g with rfl|⟨b,off,rfl,hb,hcell⟩
 .omega
 .obtain⟨y,h3,h4⟩:=hcell i j;obtain⟨xa,xp,rfl⟩:=h4.rD;exact⟨b,off,xa,_,xp,rfl,hb,h3,h4⟩
def laF(l:List Lac):Nat->Lac:=λi=>l.getD i lS
theorem OS{l:List Lac}(h:i<l.length):laF l i=l[i]:=by simp[laF,List.getD,List.getElem?_eq_getElem h]
def IW(F:Nat->Lac)(n:Nat):List Lac:=(List.range n).map F
theorem Xe(F:Nat->Lac)(n:Nat):(IW F n).length=n:=by simp[IW]
theorem bD{n:Nat}(h:j<n):(IW F n).drop j=F j::(IW F n).drop (j+1):=by
 have a:(IW F n)[j]?=some (F j):=by simp[IW,h]
 obtain⟨b,c⟩:=V'.1 a;rw[<- c];exact nv b
def dI:Array Value:=#[iv 0,.bool false,.bool false,.bool false,.bool false,.bool false,S3.v s30,iv 0,iv 0,iv 0,iv 0,iv 0,S3.v s30]
def TR:List Tg:=.n 70 0::TM
theorem j3:Tg.z∉TR:=by simp[TR,TM,TN]
theorem j0:∀ t∈TM,t∈TR:=λt h=>I' _ h
theorem ND:gS.t b∉TR:=j3
theorem Base.self(w:World):Base w gS w:=⟨Below.refl _ _,λ_ _=>rfl⟩
theorem Zy{d:Option Addr}{a n c:Nat}(f:d=some ⟨b,a,none⟩)(j:Nat)(g:j<n):(Instr.indexAt 23 (.slice d n c) (iv (j:Int))).run prog W=.ok (pt b (a+5*j)) W:=by
 subst f;exact Kv (P:=prog) (e:=57) (z:=5) underlying23 (by kernel_rfl) (by kernel_rfl) g _ rfl
theorem k9{k:Nat}{x:Lac}{y:Value}(h:W.rangeAt b k (laV x y)):(Instr.loadAt 57 (pt b k)).run prog W=.ok (.agg #[iv x.k,iv x.n,iv x.a,iv x.p,y]) W:=by
 have c:=run_loadVar_mid (P:=prog) W b k 57 (laV x y) _ h underlying57 rfl (by kernel_rfl);simp only[Instr.loadAt,Instr.sureAddr,Sem.run_bind,Sem.run_pure,Result.andThen_ok];exact c
theorem OutN.mono(h:OutN B M ly tv ys)(b:C<=B):OutN C M ly tv ys:=⟨λa e=>my b (h.rL a e),λj d c a e=>my b (h.log j d c a e),λc a e=>my b (h.ed c a e)⟩
theorem eq{lv:S3}{n:Nat}(h:Sk w lv.v F n)(a9:∀ i,i<n->LacOk (F i))(f2:n<=100000)(hT:Tabs w)(tw:LWTab w)(tb:LBTab w) :
  Calls prog 11 #[lv.v] w λe w'=>Bw w w'/\∃ (ly tv:S3) (ys:Nat->S3),e=.returned (.tuple #[.agg (Hd (AI.fa (IW F n)) ly tv),iv 0])/\OutW w' (AI.fa (IW F n)) ly tv ys/\OutN w.heap.size (AI.fa (IW F n)) ly tv ys:=by
 obtain⟨X,lq,H⟩:=lv;have f4:lq=n:=by obtain⟨a,e1,hh⟩:=h.shape;simp only[S3.v,Value.slice.injEq]at hh;exact hh.2.1
 subst lq;have f3:=h.len;obtain⟨G,E⟩:∃ G,IW F n=G:=⟨_,rfl⟩;have f1:G.length=n:=by rw[<- E];exact Xe F n
 rw[E];refine gI (fn:=f11) TR gS func11 (λ_ _=>⟨rfl,rfl⟩) (qR [] 12 [1,0] λd g1 w1 c1=>qI ((decide (100000<(n:Int)))) false (E' (by omega)) (qR [] 9 [] λh7 g3 w3 c3=>Ca 40 [(0,.slice X n H),(2,pt (d 0) 0),(14,.slice X n H),(15,iv (n:Int)),(16,iv 0)] [true] [⟨(d 0),.cells dI 30,.l,false⟩] (λk g' w' e L=>∃ j:Nat,k=n-j/\j<=n/\e=[(0,.slice X n H),(2,pt (d 0) 0),(14,.slice X n H),(15,iv (n:Int)),(16,iv (j:Int))]/\L=[⟨(d 0),.cells dI 30,.l,false⟩]/\Cg w.heap.size TR gS w g' w') (by kernel_rfl) (by kernel_rfl) (by kernel_rfl) (by kernel_rfl) n (λK=>?_) ?_))
 .exact⟨0,rfl,mV _,rfl,rfl,((c1.nil TR).n c3)⟩
 .rintro k gr wr _ zr _ ⟨j,rfl,hj,rfl,rfl,hC⟩ J hJ;refine qR [] 5 [] λh8 g4 w4 c4=>?_;by_cases h0:j<n
  .refine qI ((decide ((j:Int)<(n:Int)))) true (M' (by omega)) (qR [] 5 [] λh9 g5 w5 c5=>?_);obtain⟨b,r,I,M,N,R,Q,S,U⟩:=h.spot j h0;refine qV 0 (pt b (r+5*j)) (Zy R (n:=n) (c:=H) j h0) (qV 1 (.agg #[iv (F j).k,iv (F j).n,iv (F j).a,iv (F j).p,.slice I M N]) (k9 (x:=F j) (y:=.slice I M N) (λq u W=>(((Cg.af (((hC).n c4).n c5) (λ_ _=>ND))).cell (p:=⟨b,r+5*j+q,none⟩) Q).trans (S q u W))) (qR [] 6 [0,0,1,0,1] λi0 g7 w7 c7=>?_));have a1:=(Cg.af ((((hC).n c4).n c5).n c7) (λ_ _=>ND));refine qC 1 (RB (x:=F j) (y:=⟨I,M,N⟩) (a9 j h0) (EW (x:=⟨I,M,N⟩) U) (tw.af a1) (tb.af a1)) ?_;rintro e' w8 ⟨rfl,b8⟩;refine⟨_,rfl,b8,?_⟩;have c8:=Cg.eb (B:=w.heap.size) (T:=[]) (g:=g7) b8;refine qR [] 7 [] λi1 g9 w9 c9=>qR [] 4 [] λd0 e2 f7 b2=>qV 0 (iv ((j:Int)+1)) (AO 16 (j:Int) underlying3 (by omega)) (qR [] 2 [] λd1 e3 f8 b3=>qB [true,false] λz K0 K=>hJ (n-(j+1)) _ _ _ z _ (by omega) ⟨j+1,rfl,by omega,rfl,rfl,((((((((hC).n c4).n c5).n c7).n c8).n c9).n b2).n b3)⟩ K)
  .refine qI ((decide ((j:Int)<(n:Int)))) false (E' (by omega)) ?_;obtain rfl:j=n:=by omega
   refine qR [] 3 [] λd2 e4 f9 b4=>Af λK=>qG 0 [.n 70 0] [true] (LC K.new) ?_;rintro e' g0 ⟨mb,V,ob,nb,b6,rfl,a6,s⟩;refine⟨_,b6,rfl,s,a6.new,?_⟩;replace s:=s.ret (B:=w.heap.size);refine qR [] 10 [] λd3 e5 g2 a2=>Ca 40 [(2,pt (d 0) 0),(7,pt mb 0),(28,.slice X j H),(29,iv (j:Int)),(30,iv 0)] [true] [⟨(d 0),.cells dI 30,.l,false⟩] (λk g' w' e L=>∃ (i:Nat) (A:Meet),k=j-i/\i<=j/\e=[(2,pt (d 0) 0),(7,pt mb 0),(28,.slice X j H),(29,iv (j:Int)),(30,iv (i:Int))]/\L=[⟨(d 0),.cells dI 30,.l,false⟩]/\MS mb V ob nb g' w' A/\(G.drop i).foldl Meet.act A=AI.fa G/\MOk i A/\Cg w.heap.size TR gS w g' w') (by kernel_rfl) (by kernel_rfl) (by kernel_rfl) (by kernel_rfl) j (λK=>?_) ?_
   .exact⟨0,AI,rfl,mV _,rfl,rfl,(a6.rA a2 K.new),rfl,MOk.zero,(((((hC).n c4).n b4).trans (s.mono (by simp[TR]))).n a2)⟩
   .rintro k gq wq _ zq _ ⟨i,A,rfl,hi,rfl,rfl,hM,hI2,hA,hC2⟩ J2 hJ2;refine qR [] 5 [] λd4 e6 g6 m=>?_;by_cases h3:i<j
    .refine qI ((decide ((i:Int)<(j:Int)))) true (M' (by omega)) ?_;rw[<- E,bD h3,E,qL]at hI2
     have a8:LacOk (F i):=a9 i h3;refine qR [] 5 [] λd5 e7 g8 o=>?_;obtain⟨b,r,I,M,N,R,Q,S,U⟩:=h.spot i h3;refine qV 0 (pt b (r+5*i)) (Zy R (n:=j) (c:=H) i h3) (qV 1 (.agg #[iv (F i).k,iv (F i).n,iv (F i).a,iv (F i).p,.slice I M N]) (k9 (x:=F i) (y:=.slice I M N) (λq u W=>(((Cg.af (((hC2).n m).n o) (λ_ _=>ND))).cell (p:=⟨b,r+5*i+q,none⟩) Q).trans (S q u W))) (qR [] 6 [0,0,1,0,1] λd6 b7 c6 C=>Af λK=>?_));have NM:MS mb V ob nb b7 c6 A:=(hM.rA ((m.trans o).trans C) K.new);have b1:=(Cg.af ((((hC2).n m).n o).n C) (λ_ _=>ND));refine qG 2 TM [true,true] (gV NM ((Base.self w).ch ((((hC2).n m).n o).n C) j3) hT (F i) ⟨I,M,N⟩ (U.af b1) a8 hA (by omega)) ?_;rintro e' h1 ⟨b9,rfl,Y,D⟩;refine⟨_,b9,rfl,D,Y.new,?_⟩;replace D:=D.ret (B:=w.heap.size);refine qR [] 3 [] λd7 e8 h2 a3=>qV 0 (iv ((i:Int)+1)) (AO 30 (i:Int) underlying3 (by omega)) (qR [] 2 [] λd8 e9 h4 a4=>qB [true,false] λz K0 K=>hJ2 (j-(i+1)) _ _ _ z _ (by omega) ⟨i+1,A.act (F i),rfl,by omega,rfl,rfl,(Y.rA (a3.trans a4) K0.new),hI2,hA.act (by omega) a8,(((((((hC2).n m).n o).n C).trans (D.mono j0)).n a3).n a4)⟩ K)
    .refine qI ((decide ((i:Int)<(j:Int)))) false (E' (by omega)) ?_;obtain rfl:i=j:=by omega
     rw[nr (by omega)]at hI2
     replace hI2:A=AI.fa G:=hI2;subst hI2;refine qR [] 4 [] λd9 P b0 O=>Af λK=>?_;have NM:MS mb V ob nb P b0 (AI.fa G):=(hM.rA (m.trans O) K.new);have f6:=hA.wt;have f5:=hA.ed;have c0:∀ b,b0.heap.size<=b->P.t b=.z:=λb hb=>(K.new b hb).1;have a0:=(Cg.af (((hC2).n m).n O) (λ_ _=>ND));refine qC 1 (QB NM (λq W=>⟨(hA.ae q W).dn,(hA.ae q W).ag⟩) (by omega) (by omega)) ?_;rintro e' h5 ⟨ly,tv,ys,rfl,c2,a7,Z⟩;refine⟨_,rfl,Z,?_⟩;have b5:=Cg.eb (B:=w.heap.size) (T:=[]) (g:=P) Z;refine qR [] 3 [0,0] λe0 f0 h6 a5=>qE2 2 3 30 0 (d 0) (Hd (AI.fa G) ly tv) (iv 0) λK=>⟨(Cg.af (((((hC2).n m).n O).n b5).n a5) (λ_ _=>ND)),ly,tv,ys,rfl,(c2.ch a7 c0 a5),a7.mono a0.size⟩
theorem tbA(h:Tabs w0)(C:Cg w0.heap.size TQ gS w0 g w):Tabs w:=⟨h.t.af (CgQ.af C),h.n.af (CgQ.af C),h.q.af h.q.pos (CgQ.af C)⟩
def UZ(w:World):Prop:=Tabs w/\LWTab w/\LBTab w
theorem tb5(h:UZ w0)(C:Cg w0.heap.size TQ gS w0 g w):UZ w:=⟨tbA h.1 C,h.2.1.af (CgQ.af C),h.2.2.af (CgQ.af C)⟩
theorem GR{f:α->List Value}(d:∀ a,(f a).length=sz)(l:List α){i j:Nat}{a:α}{u:Value}(b:l[i]?=some a)(e:(f a)[j]?=some u):(l.flatMap f)[sz*i+j]?=some u:=by
 have g:j<sz:=by rw[<- d a];exact(V'.1 e).1
 induction l generalizing i with
 | nil=>cases b
 | cons c l ih =>
  rw[oI];cases i with
  | zero =>
   simp only[nJ,Y']at b;subst b;rw[mK (by rw[d];omega),Nat.mul_zero,na];exact e
  | succ i =>
   rw[mM (by rw[d,Nat.mul_succ];omega),d,show sz*(i+1)+j-sz=sz*i+j by rw[Nat.mul_succ];omega];exact ih (by simpa using b)
theorem Eu{f:α->List Value}(b:∀ a,(f a).length=sz)(l:List α):(l.flatMap f).length=l.length*sz:=by
 induction l with
 | nil=>simp
 | cons c l ih=>rw[oI,H',b,ih,mY,pJ];omega
theorem gM{l:List Cmd}(h:RdV w x 5 (cmL l)):x.n=l.length:=h.rc.len
def grV(g:Gr):List Value:=[iv g.k,iv g.a,iv g.b,iv g.c,iv g.d]
def grL(l:List Gr):List Value:=l.flatMap grV
structure GrOk(g:Gr):Prop where
 k:I64 g.k
 a:I64 g.a
 b:I64 g.b
 c:I64 g.c
 d:I64 g.d
def acV(l:List (Lac × S3)):List Value:=l.flatMap λp=>laV p.1 p.2.v
theorem Eo(l:List (Lac × S3))(x:Lac)(y:S3):acV (l++[(x,y)])=acV l++laV x y.v:=by simp[acV]
theorem K8(l:List (Lac × S3)):(acV l).length=l.length*5:=Eu (f:=λp:Lac × S3=>laV p.1 p.2.v) (λ_=>rfl) l
theorem TL(l:List (Lac × S3)):∀ u∈acV l,u.oneCell'=true:=by
 intro u b;obtain⟨p,_,a⟩:=pg.1 b;simp[laV]at a
 rcases a with rfl|rfl|rfl|rfl|rfl<;>rfl
def Dat(g:Gh)(w:World)(l:List (Lac × S3)):Prop:=∀ p∈l,FSl g w p.2 p.1.d
theorem Dat.ch(h:Dat g w l)(c:Cg B T g w g' w')(b:Tg.z∉T:=by simp):Dat g' w' l:=λp a=>(h p a).ch c b
theorem Dat.snoc(h:Dat g w l){x:Lac}{y:S3}(k:FSl g w y x.d):Dat g w (l++[(x,y)]):=λp a=>(P'.1 a).elim (h p) λe=>by rw[D'.1 e];exact k
theorem Dat.app{m:List (Lac × S3)}(h:Dat g w l)(k:Dat g w m):Dat g w (l++m):=λp a=>(P'.1 a).elim (h p) (k p)
def Fa.ac(x:S3)(l:List (Lac × S3)):Fa:=⟨none,λg w=>FzV g w x 5 (acV l)/\Dat g w l,λhz _ c h=>⟨h.1.ch c hz,h.2.ch c hz⟩⟩
def Fa.oa(r:Nat)(x:S3)(l:List (Lac × S3)):Fa:=⟨some r,λg w=>OwnS g w (.n 60 r) true 57 5 x (acV l)/\Dat g w l,λhz hr c h=>⟨h.1.ch c (hr r rfl) (by simp),h.2.ch c hz⟩⟩
def Fa.dt(l:List (Lac × S3)):Fa:=⟨none,λg w=>Dat g w l,λhz _ c h=>h.ch c hz⟩
structure AcR(w:World)(x:S3)(L:List Lac)(l:List (Lac × S3)):Prop where
 e:l.map (·.1)=L
 r:RdV w x 5 (acV l)
 d:∀ p∈l,Sl w p.2.v p.1.d
theorem AcR.of(h:(Fa.ac x l).p g w){L:List Lac}(e:l.map (·.1)=L):AcR w x L l:=⟨e,h.1.rd,λp a=>(h.2 p a).s⟩
theorem AcR.oo(h:(Fa.oa r x l).p g w){L:List Lac}(e:l.map (·.1)=L):AcR w x L l:=⟨e,h.1.rv,λp a=>(h.2 p a).s⟩
theorem AcR.n(h:AcR w x L l):x.n=L.length:=by
 have:=h.r.len;rw[K8]at this
 rw[<- h.e,mO];omega
theorem AcR.sk(h:AcR w x L l)(q:L.length<=1000000):Sk w x.v (laF L) L.length:=by
 have o:=h.n;refine⟨⟨x.a,x.c,by rw[<- o],?_⟩,by omega⟩;rcases h.r.ex with h1|⟨b,off,h1,h2,h3⟩
 .exact .inl (by omega)
 .refine .inr ⟨b,off,h1,h2,λi k=>?_⟩;have g:i<l.length:=by rw[<- h.e,mO]at k;exact k
  refine⟨l[i].2.v,λj u m=>?_,?_⟩
  .rw[nB];refine h3 _ u (GR (f:=λp:Lac × S3=>laV p.1 p.2.v) (λ_=>rfl) l (G' g) ?_);have:laF L i=l[i].1:=by rw[OS k];simp[<- h.e]
   rw[this]at m;exact m
  .have:laF L i=l[i].1:=by rw[OS k];simp[<- h.e]
   rw[this];exact h.d _ (m7 g)
theorem AcR.spot(h:AcR w x L l){i:Nat}{a:Lac}(g:L[i]?=some a):∃ b off y,x.a=some ⟨b,off,none⟩/\w.rangeAt b (off+5*i) (laV a (S3.v y))/\Sl w y.v a.d/\i<x.n:=by
 have t:=h.n;have k:=(V'.1 g).1;have c:i<l.length:=by rw[<- h.e,mO]at k;exact k
 have e:l[i].1=a:=by
  have:=(V'.1 g).2;rw[<- this];simp[<- h.e]
 obtain⟨b,off,m,s,o⟩:=h.r.spot (i:=i) (by omega);refine⟨b,off,l[i].2,m,λj u q=>?_,?_,by omega⟩
 .refine o j u (GR (f:=λp:Lac × S3=>laV p.1 p.2.v) (λ_=>rfl) l (G' c) ?_);rw[e];exact q
 .rw[<- e];exact h.d _ (m7 c)
structure AcN(B:Nat)(w:World)(x:S3)(l:List (Lac × S3)):Prop where
 o:OwN B w 57 5 x (acV l)
 d:∀ p∈l,Sl w p.2.v p.1.d/\Nb B p.2 p.1.d
 ne:∀ p∈l,p.1.d≠[]->∀ a b,p.2.a=some a->x.a=some b->a.block≠b.block
theorem AcN.ac(h:AcN B w x l)(G:∀ b,B<=b->g.t b=.z):(Fa.ac x l).p g w:=⟨h.o.fz G,λp a=>Ct (h.d p a).1 (h.d p a).2 G⟩
theorem AcN.of(h:(Fa.oa r x l).p g w)(C:Cg w0.heap.size TQ gS w0 g w)(n:∀ p∈l,Nb w0.heap.size p.2 p.1.d):AcN w0.heap.size w x l :=
 ⟨h.1.own C,λp i=>⟨(h.2 p i).s,n p i⟩,λp i m a b k f e=>by
  have j:=(h.2 p i).z m a k;rcases h.1.ex with⟨k1,_⟩|⟨c,cur,k1,_,_,_,_,_,k7,_⟩
  .rw[k1]at f;cases f
  .rw[k1]at f;cases f
   rw[e,k7]at j;cases j⟩
theorem Xd(L:List Lac):IW (laF L) L.length=L:=by
 apply oS
 .simp[IW]
 .intro i h1 h2;simp[IW,OS h2]
def Meet.log(M:Meet)(j:Nat):List Cmd:=(M.ae j).ab.take (M.ae j).done
structure OutF(g:Gh)(w:World)(ly tv:S3)(ys:Nat->S3)(M:Meet):Prop where
 rL:FzV g w ly 1 [S3.v (ys 0),S3.v (ys 1),S3.v (ys 2),S3.v (ys 3),S3.v (ys 4)]
 log:∀ j,j<5->FzV g w (ys j) 5 (cmL (M.log j))
 ed:FzV g w tv 5 (M.ed.flatMap Eg)
theorem OutF.ch(h:OutF g w ly tv ys M)(c:Cg B T g w g' w')(a:Tg.z∉T:=by simp):OutF g' w' ly tv ys M:=⟨h.rL.ch c a,λj b=>(h.log j b).ch c a,h.ed.ch c a⟩
def Fa.ot(ly tv:S3)(ys:Nat->S3)(M:Meet):Fa:=⟨none,λg w=>OutF g w ly tv ys M,λhz _ c h=>h.ch c hz⟩
theorem Uz(h:OutW w M ly tv ys)(n:OutN B M ly tv ys)(G:∀ b,B<=b->g.t b=.z):OutF g w ly tv ys M :=
 ⟨⟨h.rL,λ_ a c=>G _ (n.rL a c)⟩,λj e=>⟨(h.log j e).rv,λd a c=>G _ (n.log j e d a c)⟩,⟨h.ed,λd a c=>G _ (n.ed d a c)⟩⟩
theorem OutW.n5(h:OutW w M ly tv ys):ly.n=5:=by have:=h.rL.len;simp at this;omega
end
section
variable{n tc tr tu k c s m v:Int}(h:paE n tc tr tu k c s m v=0)
include h
end
section
variable{G:List Gr}{L:List Lac}{M:Meet}{W w:World}{a:Lac}{b i j k off:Nat}{cr:Bool}{g:Gh}{l:List (Lac × S3)}{ly tv x:S3}{n:Int}{ys:Nat->S3}
theorem LH{a b d k c s m v:Int}(h:paE n a b d k c s m v=0):(paL n a b d k c s m v).length=63:=by
 rw[Zl h,mY,EI,H8]
theorem mi(x:S3)(k:Nat)(f:k<=x.c)(d:∃ b off,x.a=some ⟨b,off,none⟩):(Instr.sliceAt 52 x.v none (some (iv (k:Int))) none).run prog W=.ok (S3.v ⟨x.a,k,x.c⟩) W:=by
 obtain⟨b,off,d⟩:=d;obtain⟨h,i,g⟩:=x;simp only at d f;subst d;have e:prog.elem 52=5:=by kernel_rfl
 rw[run_sliceAt_slice _ _ _ _ _ _ TD,run_slice_h (P:=prog) (w:=W) _ _ _ _ TD .i64 k (by omega) (by show(k:Int)<=((g:Nat):Int);omega),e,FO];simp[Result.andThen,sliced,Addr.add]
theorem FSl.take{l:List Int}(h:FSl g w x l)(k:Nat)(y:k<=l.length):FSl g w ⟨x.a,k,x.c⟩ (l.take k):=by
 have f:=EW h.s;obtain⟨⟨⟨a,m,j,v,f,d⟩,u,n⟩,o⟩:=h;simp only[Value.slice.injEq]at j;obtain⟨rfl,r,rfl⟩:=j;refine⟨⟨⟨_,_,by simp only[Value.slice.injEq,and_true,true_and,X'];omega,by rw[X'];omega,f,?_⟩,by rw[X'];omega,λz t=>n z (mL t)⟩,λq=>o λe=>q (by rw[e];simp)⟩;rcases d with d|⟨b,off,ha,hbs,hcell⟩
 .exact .inl (by rw[d];simp)
 .refine .inr ⟨b,off,ha,hbs,λi p=>?_⟩;rw[X']at p
  rw[show(l.take k).getD i 0=l.getD i 0 by simp[List.getD,show i<k by omega]];exact hcell i (by omega)
theorem FSl.addr{l:List Int}(h:FSl g w x l)(j:l≠[]):(∃ b off,x.a=some ⟨b,off,none⟩)/\l.length<=x.c:=by
 obtain⟨⟨⟨a,f,e,i,p,d⟩,m,n⟩,o⟩:=h;simp only[Value.slice.injEq]at e;obtain⟨rfl,k,rfl⟩:=e;rcases d with d|⟨b,off,ha,_⟩
 .exact absurd d j
 .exact⟨⟨b,off,ha⟩,i⟩
theorem Wa{g:Gr}(h:GrOk g)(hT:Tabs w) :
  Calls prog 16 #[.agg #[iv g.k,iv g.a,iv g.b,iv g.c,iv g.d]] w λe w'=>∃ y:S3,e=.returned y.v/\Sl w' y.v (pkB g)/\Nb w.heap.size y (pkB g)/\Bw w w':=by
 have A:(pkP g).length=63:=LH (Zr g);have r4:=Bp g.c 4 (by omega);refine tIn [] func16 trivial (tR 18 [0,0,0,0,0,0,0] λr _ _=>tC1 11 (λF C=>Rw h.b h.c h.d h.a h.d) λ_=>tR 16 [0,0,1,0,1,1,0,2,0,0] λi _ _=>tC1 2 (λF C=>Ci h.d 17) λ_=>tR 1 [] λa1 _ _=>Ig 56 (λZ X q=>∃ (E G:Int),Z=[(1,pt (r 0) 0),(3,pt (i 0) 0),(4,pt (i 1) 0)]/\X=[⟨(r 0),.cells #[iv g.k,iv g.a,iv g.b,iv g.c,iv g.d] 60,.z,false⟩,⟨(i 0),.cells #[iv (wK g.b),iv (pick g.c 4),iv (pick g.d 6),iv (pick g.a 4),iv (wV g.b g.d)] 51,.z,false⟩,⟨(i 1),.cells #[iv E,iv G,iv 60] 81,.l,false⟩]/\q=[]/\E=pkT g/\G=pkR g) (λJ I=>?_) ?_)
 .refine tR 6 [] λa2 _ _=>?_;by_cases f:pick g.d 17=15
  .refine tI (((pick g.d 17)==15)) true (by simpa using f) (tR 5 [2,0] λa3 _ _=>tD I [true,true,true] ⟨pick g.c 4,0,rfl,rfl,rfl,(if_neg (by omega)).symm,(if_pos f).symm⟩ (λF=>trivial))
  .refine tI (((pick g.d 17)==15)) false (by simpa using f) (tR 5 [] λa4 _ _=>?_);by_cases u:pick g.d 17=16
   .refine tI (((pick g.d 17)==16)) true (by simpa using u) (tR 3 [2] λa5 _ _=>tV 2 (iv (pick g.c 4+1)) (λF C=>(AO 31 (pick g.c 4) underlying3 (by omega))) (tV 3 (iv ((pick g.c 4+1)%4)) (λF C=>(ZB (x:=(.tmp 32)) (y:=(.const (iv 4))) (pick g.c 4+1) 4 underlying3 (by omega) (by omega) (by decide) (by decide))) (tR 4 [2,0] λO _ _=>tD I [true,true,true] ⟨(pick g.c 4+1)%4,7,rfl,rfl,rfl,(if_pos u).symm,(if_neg f).symm⟩ (λF=>trivial))))
   .refine tI (((pick g.d 17)==16)) false (by simpa using u) (tR 2 [] λP _ _=>tD I [true,true,true] ⟨pick g.c 4,7,rfl,rfl,rfl,(if_neg u).symm,(if_neg f).symm⟩ (λF=>trivial))
 rintro _ _ _ ⟨E,G,rfl,rfl,rfl,o,p⟩ _ _ _;refine tR 6 [11,0,2,0,6,2,8,1] λQ _ _=>tC1 2 (λF C=>Ci h.a 1000) λ_=>tF λ_ W=>?_;have j:=W.size;have M:=Zr g;rw[<- o,<- p]at M
 have N:pkP g=paL (pick g.a 1000) E G 60 (wK g.b) (pick g.c 4) (pick g.d 6) (pick g.a 4) (wV g.b g.d):=by rw[o,p];rfl
 refine tC 5 (λF C=>dM M (tbA hT C)) λY=>?_;rintro _ _ ⟨y,rfl,K,D,H⟩;refine⟨_,Fa.sl y (pkP g)::_,rfl,H,λF=>⟨(by rw[N];exact Ct K D Y),F⟩,?_⟩;rw[<- N]at K D
 have a0:=EW K;refine tR 11 [12,14,16,18,20,0] λR _ _=>tC1 2 (λF C=>Ci h.d 23) λ_=>?_;by_cases f:pick g.d 23=22
 .refine tV 3 (.bool true) (λF C=>(D0 (t:=3) (m:=pick g.d 23) (n:=22) (x:=(.tmp 46)) (y:=(.const (iv 22))) (by simpa using f))) (tR 6 [] λS _ _=>tI ((decide (30<(y.n:Int)))) true (M' (by omega)) (tR 2 [] λT _ _=>tF λF _=>?_));have L:=FSl.addr F.1 (λe=>by rw[e]at A;cases A);refine tV 1 (S3.v ⟨y.a,30,y.c⟩) (λF C=>(mi y 30 (by omega) L.1)) (tR 7 [] λU _ _=>?_);rw[show pkB g=_ from if_pos ⟨f,by omega⟩];exact tE (S3.v ⟨y.a,30,y.c⟩) λF B=>⟨⟨y.a,30,y.c⟩,rfl,(F.1.take 30 (by omega)).s,λ_ a ha=>D.mono j (λe=>by rw[e]at A;cases A) a ha,B⟩
 .refine tV 3 (.bool false) (λF C=>(D0 (t:=3) (m:=pick g.d 23) (n:=22) (x:=(.tmp 46)) (y:=(.const (iv 22))) (by simpa using f))) (tR 13 [] λV _ _=>?_);rw[show pkB g=_ from if_neg (λe=>f e.1)];exact tE (S3.v y) λF B=>⟨y,rfl,F.1.s,D.mono j,B⟩
theorem gi{g:Gr}(h:GrOk g)(hT:Tabs w){x:Lac}(i:ON g cr=x) :
  Calls prog 10 #[.agg #[iv g.k,iv g.a,iv g.b,iv g.c,iv g.d],.bool cr] w λe w'=>∃ y:S3,e=.returned (.agg #[iv x.k,iv x.n,iv x.a,iv x.p,y.v])/\Sl w' y.v x.d/\Nb w.heap.size y x.d/\Bw w w':=by
 refine tIn [] func10 trivial (tR 9 [0,0,1,0,0] λj _ _=>tC1 2 (λF C=>Ci h.a 5) λ_=>tR 7 [0] λa0 _ _=>tC1 2 (λF C=>Ci h.k 24) λ_=>?_);unfold ON at i;refine tR 9 [] λa1 _ _=>?_;by_cases f:pick g.k 24<3
 .refine tI ((decide ((pick g.k 24)<3))) true (by simpa using f) ?_;rw[if_pos f]at i
  refine tR 4 [0] λa2 _ _=>tF λ_ Cs=>?_;have o:=Cs.size;refine tC 2 (λF C=>Wa h (tbA hT C)) λNz=>?_;rintro _ _ ⟨y,rfl,hy,q,b8⟩;refine⟨_,Fa.sl y (pkB g)::_,rfl,b8,λF=>⟨Ct hy q Nz,F⟩,?_⟩;refine tR 3 [1,0] λa3 _ _=>?_;subst i;exact tX λF C=>qE1 4 57 1 (j 1) #[iv 1,iv (pick g.a 5),iv 0,iv 0,S3.v y] λ_=>⟨y,rfl,F.1.s,q.mono o,CgQ.af C⟩
 .refine tI ((decide ((pick g.k 24)<3))) false (by simpa using f) ?_;rw[if_neg f]at i
  refine tR 6 [] λr _ _=>?_;by_cases f:pick g.k 24<5
  .refine tI ((decide ((pick g.k 24)<5))) true (by simpa using f) ?_;rw[if_pos f]at i
   refine tR 6 [1,0] λu _ _=>?_;subst i;exact tX λF C=>qE1 4 57 1 (j 1) #[iv 2,iv (pick g.a 5),iv 0,iv 0,S3.v s30] λ_=>⟨s30,rfl,EB _,λe=>absurd rfl e,CgQ.af C⟩
  .refine tI ((decide ((pick g.k 24)<5))) false (by simpa using f) ?_;rw[if_neg f]at i
   refine tR 6 [] λz _ _=>?_;by_cases f:pick g.k 24<14
   .refine tI ((decide ((pick g.k 24)<14))) true (by simpa using f) ?_;rw[if_pos f]at i
    refine tR 6 [1,0] λA _ _=>?_;subst i;exact tX λF C=>qE1 4 57 1 (j 1) #[iv 3,iv (pick g.a 5),iv 0,iv 0,S3.v s30] λ_=>⟨s30,rfl,EB _,λe=>absurd rfl e,CgQ.af C⟩
   .refine tI ((decide ((pick g.k 24)<14))) false (by simpa using f) ?_;rw[if_neg f]at i
    refine tR 6 [] λB _ _=>?_;by_cases f:pick g.k 24=14
    .refine tI (((pick g.k 24)==14)) true (by simpa using f) ?_;rw[if_pos f]at i
     refine tR 4 [0] λD _ _=>tC1 2 (λF C=>Ci h.c 20) λ_=>tR 3 [1,0] λE _ _=>?_;subst i;exact tX λF C=>qE1 4 57 1 (j 1) #[iv 4,iv 0,iv (pick g.c 20),iv 0,S3.v s30] λ_=>⟨s30,rfl,EB _,λe=>absurd rfl e,CgQ.af C⟩
    .refine tI (((pick g.k 24)==14)) false (by simpa using f) ?_;rw[if_neg f]at i
     refine tR 6 [] λG _ _=>?_;by_cases f:pick g.k 24=15
     .refine tI (((pick g.k 24)==15)) true (by simpa using f) ?_;rw[if_pos f]at i
      refine tR 4 [0] λH _ _=>tC1 2 (λF C=>Ci h.c 20) λ_=>tR 3 [1,0] λI _ _=>?_;subst i;exact tX λF C=>qE1 4 57 1 (j 1) #[iv 5,iv 0,iv (pick g.c 20),iv 0,S3.v s30] λ_=>⟨s30,rfl,EB _,λe=>absurd rfl e,CgQ.af C⟩
     .refine tI (((pick g.k 24)==15)) false (by simpa using f) ?_;rw[if_neg f]at i
      refine tR 6 [] λJ _ _=>?_;by_cases f:pick g.k 24=16
      .refine tI (((pick g.k 24)==16)) true (by simpa using f) ?_;rw[if_pos f]at i
       refine tR 4 [0] λK _ _=>tC1 2 (λF C=>Ci h.c 20) λ_=>tR 3 [1,0] λL _ _=>?_;subst i;exact tX λF C=>qE1 4 57 1 (j 1) #[iv 6,iv 0,iv (pick g.c 20),iv 0,S3.v s30] λ_=>⟨s30,rfl,EB _,λe=>absurd rfl e,CgQ.af C⟩
      .refine tI (((pick g.k 24)==16)) false (by simpa using f) ?_;rw[if_neg f]at i
       refine tR 3 [] λM _ _=>?_;by_cases f:pick g.k 24=17
       .refine tV 1 (.bool true) (λF C=>(D0 (t:=3) (m:=pick g.k 24) (n:=17) (x:=(.tmp 52)) (y:=(.const (iv 17))) (by simpa using f))) (tR 5 [] λN _ _=>?_);by_cases l:cr=true
        .refine tI (cr) true l ?_;rw[if_pos ⟨f,l⟩]at i
         refine tR 5 [0] λO _ _=>tC1 3 (λF C=>Ci h.c 90) λ_=>tR 3 [1,0] λP _ _=>?_;subst i;exact tX λF C=>qE1 4 57 1 (j 1) #[iv 8,iv (pick g.a 5),iv 0,iv (pick g.c 90),S3.v s30] λ_=>⟨s30,rfl,EB _,λe=>absurd rfl e,CgQ.af C⟩
        .refine tI (cr) false (by simpa using l) ?_;rw[if_neg (λe=>l e.2)]at i
         refine tR 3 [] λQ _ _=>?_;by_cases f:pick g.k 24=18
         .refine tV 1 (.bool true) (λF C=>(D0 (t:=3) (m:=pick g.k 24) (n:=18) (x:=(.tmp 63)) (y:=(.const (iv 18))) (by simpa using f))) (tR 5 [] λR _ _=>?_);by_cases l:cr=true
          .refine tI (cr) true l ?_;rw[if_pos ⟨f,l⟩]at i
           refine tR 6 [1,0] λS _ _=>?_;subst i;exact tX λF C=>qE1 4 57 1 (j 1) #[iv 9,iv (pick g.a 5),iv 0,iv 0,S3.v s30] λ_=>⟨s30,rfl,EB _,λe=>absurd rfl e,CgQ.af C⟩
          .refine tI (cr) false (by simpa using l) ?_;rw[if_neg (λe=>l e.2)]at i
           refine tR 7 [1,0] λT _ _=>?_;subst i;exact tX λF C=>qE1 4 57 1 (j 1) #[iv 7,iv 0,iv 0,iv 0,S3.v s30] λ_=>⟨s30,rfl,EB _,λe=>absurd rfl e,CgQ.af C⟩
         .refine tV 1 (.bool false) (λF C=>(D0 (t:=3) (m:=pick g.k 24) (n:=18) (x:=(.tmp 63)) (y:=(.const (iv 18))) (by simpa using f))) ?_;rw[if_neg (λe=>f e.1)]at i
          refine tR 13 [1,0] λU _ _=>?_;subst i;exact tX λF C=>qE1 4 57 1 (j 1) #[iv 7,iv 0,iv 0,iv 0,S3.v s30] λ_=>⟨s30,rfl,EB _,λe=>absurd rfl e,CgQ.af C⟩
       .refine tV 1 (.bool false) (λF C=>(D0 (t:=3) (m:=pick g.k 24) (n:=17) (x:=(.tmp 52)) (y:=(.const (iv 17))) (by simpa using f))) ?_;rw[if_neg (λe=>f e.1)]at i
        refine tR 9 [] λV _ _=>?_;by_cases f:pick g.k 24=18
        .refine tV 1 (.bool true) (λF C=>(D0 (t:=3) (m:=pick g.k 24) (n:=18) (x:=(.tmp 63)) (y:=(.const (iv 18))) (by simpa using f))) (tR 5 [] λW _ _=>?_);by_cases l:cr=true
         .refine tI (cr) true l ?_;rw[if_pos ⟨f,l⟩]at i
          refine tR 6 [1,0] λX _ _=>?_;subst i;exact tX λF C=>qE1 4 57 1 (j 1) #[iv 9,iv (pick g.a 5),iv 0,iv 0,S3.v s30] λ_=>⟨s30,rfl,EB _,λe=>absurd rfl e,CgQ.af C⟩
         .refine tI (cr) false (by simpa using l) ?_;rw[if_neg (λe=>l e.2)]at i
          refine tR 7 [1,0] λY _ _=>?_;subst i;exact tX λF C=>qE1 4 57 1 (j 1) #[iv 7,iv 0,iv 0,iv 0,S3.v s30] λ_=>⟨s30,rfl,EB _,λe=>absurd rfl e,CgQ.af C⟩
        .refine tV 1 (.bool false) (λF C=>(D0 (t:=3) (m:=pick g.k 24) (n:=18) (x:=(.tmp 63)) (y:=(.const (iv 18))) (by simpa using f))) ?_;rw[if_neg (λe=>f e.1)]at i
         refine tR 13 [1,0] λZ _ _=>?_;subst i;exact tX λF C=>qE1 4 57 1 (j 1) #[iv 7,iv 0,iv 0,iv 0,S3.v s30] λ_=>⟨s30,rfl,EB _,λe=>absurd rfl e,CgQ.af C⟩
theorem lZ(g:Gr)(h:∀ j u,(grV g)[j]?=some u->W.cell? ⟨b,k+j,none⟩=some u):(Instr.loadAt 60 (pt b k)).run prog W=.ok (.agg #[iv g.k,iv g.a,iv g.b,iv g.c,iv g.d]) W:=by
 have e:=run_loadVar_mid (P:=prog) W b k 60 (grV g) _ h underlying60 rfl (by kernel_rfl);simp only[Instr.loadAt,Instr.sureAddr,Sem.run_bind,Sem.run_pure,Result.andThen_ok];exact e
theorem kx(c:x.a=some ⟨b,off,none⟩)(j:Nat)(d:j<x.n):(Instr.indexAt 22 x.v (iv (j:Int))).run prog W=.ok (pt b (off+5*j)) W:=by
 obtain⟨f,h,g⟩:=x;simp only at c d;subst c;exact Kv (P:=prog) (e:=60) (z:=5) underlying22 (by kernel_rfl) (by kernel_rfl) d _ rfl
theorem jT{l:S3}{g:Gr}(h:RdV w l 5 (grL G))(m:l.a=some ⟨b,off,none⟩)(d:G[i]?=some g){j:Nat}{u:Value}(o:(grV g)[j]?=some u):w.cell? ⟨b,off+5*i+j,none⟩=some u:=by
 have p:l.n=G.length:=by have:=h.len;rw[show(grL G).length=G.length*5 from Eu (f:=grV) (λ_=>rfl) G]at this;omega
 obtain⟨q,e,c,_,k⟩:=h.spot (i:=i) (by rw[p];exact(V'.1 d).1);rw[m]at c
 cases c;exact k j u (GR (f:=grV) (λ_=>rfl) G d o)
theorem Ww{l:S3}{most:Nat}(h:RdV w l 5 (grL G))(hG:∀ g∈G,GrOk g)(hm:most<=100)(hT:Tabs w) :
  Calls prog 4 #[l.v,iv (most:Int),.bool cr] w λe w'=>∃ (y:S3) (P:List (Lac × S3)),e=.returned y.v/\P.map (·.1)=scr G most cr/\AcN w.heap.size w' y P/\Bw w w':=by
 have a9:l.n=G.length:=by have:=h.len;rw[show(grL G).length=G.length*5 from Eu (f:=grV) (λ_=>rfl) G]at this;omega
 refine tIn [Fa.zv l 5 (grL G)] func4 ⟨h.fz,trivial⟩ (tR 18 [] λb5 _ _=>D1 41 [(0,S3.v l),(1,iv (most:Int)),(2,.bool cr),(7,sn),(8,iv 0),(9,iv 0)] [] [] [Fa.zv l 5 (grL G),Fa.oa 0 s30 []] (λkk ee LL M=>∃ (i s:Nat) (y:S3) (P:List (Lac × S3)),kk=min G.length most-i/\ee=[(0,S3.v l),(1,iv (most:Int)),(2,.bool cr),(7,S3.v y),(8,iv (s:Int)),(9,iv (i:Int))]/\LL=[]/\M=[Fa.zv l 5 (grL G),Fa.oa 0 y P]/\i<=min G.length most/\y.n=i/\s<=i/\scr G most cr=P.map (·.1)++LZ cr s ((G.take most).drop i)/\(∀ p∈P,Nb w.heap.size p.2 p.1.d)) (min G.length most) ⟨0,0,s30,[],rfl,rfl,rfl,rfl,by omega,rfl,by omega,rfl,λp q=>by cases q⟩ (λF=>⟨F.1,⟨OwnS.nil _ _ _ _ _ _,λp q=>by cases q⟩,trivial⟩) ?_);rintro k _ _ _ ⟨i,s,y,P,rfl,rfl,rfl,rfl,R,b1,b0,o,E⟩ _ _ _ J N;refine tR 6 [] λb6 _ _=>?_;by_cases h1:i<G.length
 .refine tV 3 (.bool true) (λF C=>(rLt (t:=3) (m:=(i:Int)) (n:=(l.n:Int)) (x:=(.tmp 11)) (y:=(.tmp 13)) (M' (by omega)))) (tR 6 [] λb7 _ _=>?_);by_cases h2:i<most
  .refine tI ((decide ((i:Int)<(most:Int)))) true (M' (by omega)) ?_;have R:i<(G.take most).length:=by rw[X'];omega
   obtain⟨g,O⟩:∃ g,(G.take most)[i]?=some g:=⟨_,G' R⟩;have H:G[i]?=some g:=by rw[nz,if_pos h2]at O;exact O
   have Q:=hG g (mP H);rw[nv R,show(G.take most)[i]=g from(V'.1 O).2,LZ]at o
   refine tF λF _=>?_;obtain⟨b,T,I,_,a8⟩:=F.1.rd.spot (i:=i) (by omega);refine tR 7 [] λb9 _ _=>tV 2 (pt b (T+5*i)) (λF C=>(kx I i (by omega))) (tV 3 (.agg #[iv g.k,iv g.a,iv g.b,iv g.c,iv g.d]) (λF C=>(lZ g λj u hj=>jT F.1.rd I H hj)) (tR 1 [] λc0 _ _=>?_));obtain⟨x,X⟩:∃ x,ON g cr=x:=⟨_,rfl⟩;refine tF λ_ Cs=>?_;have L:=Cs.size;refine tC 5 (λF C=>gi Q (tbA hT C) X) λNz=>?_;rintro _ _ ⟨d,rfl,hd,S,b8⟩;refine⟨_,Fa.sl d x.d::_,rfl,b8,λF=>⟨Ct hd S Nz,F⟩,?_⟩;rw[X]at o
   refine tR 10 [1,0,0,0,0] λc1 _ _=>?_;by_cases D:x.k=1
   .refine tI ((x.k==1)) true (by simpa using D) (tR 3 [] λY _ _=>tV 1 (iv ((s:Int)+1)) (λF C=>(AO 31 (s:Int) underlying3 (by omega))) (tR 7 [] λZ _ _=>?_));rw[show eA s x=s+1 from if_pos D]at o
    by_cases h4:6<s+1
    .refine tI ((decide (6<((s:Int)+1)))) true (M' (by omega)) ?_;rw[show Wv s x=acN 7 0 from if_pos ⟨D,by omega⟩]at o
     refine tR 8 [0,0,0,0,0] λr _ _=>Mh 3 0 (x:=y) 23 23 57 5 56 zLa ⟨(r 0),0,none⟩ 1 1 [iv 7,iv 0,iv 0,iv 0,sn] (λF=>F.2.2.1.1) [Fa.zv l 5 (grL G),Fa.dt (P++[(acN 7 0,s30)])] (λF=>⟨F.2.1,Dat.snoc F.2.2.1.2 (Sg _ _),trivial⟩) rfl (by simp[TQ]) rfl (by simp[Value.oneCell']) (λF K=>Cu K 1 (r 0) [iv 7,iv 0,iv 0,iv 0,sn] 57 .z true (by kernel_rfl)) (by unfold maxLen;omega) (by omega) λU _ _ b2=>tR 5 [] λa0 _ _=>tV 1 (iv ((i:Int)+1)) (λF C=>(AO 20 (i:Int) underlying3 (by omega))) (tR 2 [] λa1 _ _=>tB N (min G.length most-(i+1)) (by omega) [false,false] ⟨i+1,(s+1),U,P++[(acN 7 0,s30)],rfl,rfl,rfl,rfl,by omega,by omega,by omega,(by rw[o,mS,mA];rfl),λp q=>(P'.1 q).elim (E p) λe=>by rw[D'.1 e];exact λe=>absurd rfl e⟩ (λF=>⟨F.2.1,⟨(by rw[Eo];exact F.1),F.2.2.1⟩,trivial⟩))
    .refine tI ((decide (6<((s:Int)+1)))) false (E' (by omega)) ?_;rw[show Wv s x=x from if_neg (λe=>h4 (by omega))]at o
     refine tR 5 [0,0,0] λA _ _=>Mh 3 0 (x:=y) 23 23 57 5 56 zLa ⟨(A 0),0,none⟩ 1 1 [iv x.k,iv x.n,iv x.a,iv x.p,S3.v d] (λF=>F.2.2.1.1) [Fa.zv l 5 (grL G),Fa.dt (P++[(x,d)])] (λF=>⟨F.2.1,Dat.snoc F.2.2.1.2 (F.1),trivial⟩) rfl (by simp[TQ]) rfl (by simp[Value.oneCell']) (λF K=>Cu K 1 (A 0) [iv x.k,iv x.n,iv x.a,iv x.p,S3.v d] 57 .z true (by kernel_rfl)) (by unfold maxLen;omega) (by omega) λV _ _ b3=>tR 5 [] λa2 _ _=>tV 1 (iv ((i:Int)+1)) (λF C=>(AO 20 (i:Int) underlying3 (by omega))) (tR 2 [] λa3 _ _=>tB N (min G.length most-(i+1)) (by omega) [false,false] ⟨i+1,(s+1),V,P++[(x,d)],rfl,rfl,rfl,rfl,by omega,by omega,by omega,(by rw[o,mS,mA];rfl),λp q=>(P'.1 q).elim (E p) λe=>by rw[D'.1 e];exact S.mono L⟩ (λF=>⟨F.2.1,⟨(by rw[Eo];exact F.1),F.2.2.1⟩,trivial⟩))
   .refine tI ((x.k==1)) false (by simpa using D) ?_;rw[show eA s x=s from if_neg D,show Wv s x=x from if_neg (λe=>D e.1)]at o
    refine tR 5 [0,0,0] λB _ _=>Mh 3 0 (x:=y) 23 23 57 5 56 zLa ⟨(B 0),0,none⟩ 1 1 [iv x.k,iv x.n,iv x.a,iv x.p,S3.v d] (λF=>F.2.2.1.1) [Fa.zv l 5 (grL G),Fa.dt (P++[(x,d)])] (λF=>⟨F.2.1,Dat.snoc F.2.2.1.2 (F.1),trivial⟩) rfl (by simp[TQ]) rfl (by simp[Value.oneCell']) (λF K=>Cu K 1 (B 0) [iv x.k,iv x.n,iv x.a,iv x.p,S3.v d] 57 .z true (by kernel_rfl)) (by unfold maxLen;omega) (by omega) λW _ _ b4=>tR 5 [] λa4 _ _=>tV 1 (iv ((i:Int)+1)) (λF C=>(AO 20 (i:Int) underlying3 (by omega))) (tR 2 [] λa5 _ _=>tB N (min G.length most-(i+1)) (by omega) [false,false] ⟨i+1,s,W,P++[(x,d)],rfl,rfl,rfl,rfl,by omega,by omega,by omega,(by rw[o,mS,mA];rfl),λp q=>(P'.1 q).elim (E p) λe=>by rw[D'.1 e];exact S.mono L⟩ (λF=>⟨F.2.1,⟨(by rw[Eo];exact F.1),F.2.2.1⟩,trivial⟩))
  .refine tI ((decide ((i:Int)<(most:Int)))) false (E' (by omega)) (tR 6 [] λa6 _ _=>?_);rw[nr (by rw[X'];omega),LZ,mT]at o
   exact tX λF C=>qE (S3.v y) λ_=>⟨y,P,rfl,o.symm,AcN.of F.2.1 C E,CgQ.af C⟩
 .refine tV 3 (.bool false) (λF C=>(rLt (t:=3) (m:=(i:Int)) (n:=(l.n:Int)) (x:=(.tmp 11)) (y:=(.tmp 13)) (E' (by omega)))) (tR 13 [] λa7 _ _=>?_);rw[nr (by rw[X'];omega),LZ,mT]at o
  exact tX λF C=>qE (S3.v y) λ_=>⟨y,P,rfl,o.symm,AcN.of F.2.1 C E,CgQ.af C⟩
def rnP(l:List Lac):List (Lac × S3):=l.map λa=>(a,s30)
theorem ei(l:List Lac):(rnP l).map (·.1)=l:=by simp[rnP,Function.comp_def]
theorem Pi(g:Gh)(w:World){l:List Lac}(h:∀ a∈l,a.d=[]):Dat g w (rnP l):=by
 intro p c;obtain⟨a,b,rfl⟩:=mQ.1 c;show FSl g w s30 a.d;rw[h a b];exact Sg g w
theorem IF(l:List Lac)(a:Lac):rnP (l++[a])=rnP l++[(a,s30)]:=by simp[rnP]
theorem UB(l m:List Lac):rnP (l++m)=rnP l++rnP m:=by simp[rnP]
theorem KF(l:List Lac):(rnP l).length=l.length:=by simp[rnP]
theorem Hz(m:Nat):(Ak m).length=6*m:=by
 induction m with
 | zero=>rfl
 | succ m ih=>rw[Ak,H',ih];show _+6=_;omega
def AD(k:Int)(j:Nat):List Lac:=(List.range j).map λn:Nat=>acN k (n:Int)
theorem BR(k:Int)(j:Nat):AD k (j+1)=AD k j++[acN k (j:Int)]:=by simp[AD,List.range_succ]
theorem Y7(k:Int)(j:Nat):(AD k j).length=j:=by simp[AD]
theorem Oh{many:Nat}(h:RdV w x 5 (acV l))(P:∀ p∈l,Sl w p.2.v p.1.d)(hm:l.length+6*many<=1000000) :
  Calls prog 12 #[x.v,iv (many:Int)] w λe w'=>∃ y:S3,e=.returned y.v/\OwN w.heap.size w' 57 5 y (acV (l++rnP (Dk many)))/\Bw w w':=by
 have t:x.n=l.length:=by have:=h.len;rw[K8]at this;omega
 refine tIn [Fa.ac x l] func12 ⟨⟨h.fz,λp R=>⟨P p R,λ_ _ _=>rfl⟩⟩,trivial⟩ (tR 7 [] λV _ _=>fY 1 0 x (acV l) 23 23 57 5 56 zLa (λF=>F.1.1.rd) [Fa.dt l] (λF=>⟨F.1.2,trivial⟩) rfl (by simp[TQ]) (TL l) (by rw[t];unfold maxLen;omega) (by omega) λu _ _ n0=>tR 8 [] λW _ _=>D1 39 [(1,iv (many:Int)),(5,S3.v u),(6,iv 0)] [] [] [Fa.oa 0 u (l++rnP (AD 9 0))] (λo g f a=>∃ (j:Nat) (y:S3),o=5-j/\g=[(1,iv (many:Int)),(5,S3.v y),(6,iv (j:Int))]/\f=[]/\a=[Fa.oa 0 y (l++rnP (AD 9 j))]/\j<=5/\y.n=l.length+j) (5) ⟨0,u,rfl,rfl,rfl,rfl,by omega,by omega⟩ (λF=>⟨by rw[show rnP (AD 9 0)=[]from rfl,mT];exact⟨F.1,F.2.1⟩,trivial⟩) ?_);rintro k _ _ _ ⟨j,y,rfl,rfl,rfl,rfl,Q,m⟩ _ _ _ J O;refine tR 6 [] λX _ _=>?_;by_cases h1:j<5
 .refine tI ((decide ((j:Int)<5))) true (M' (by omega)) (tR 8 [0,0] λq _ _=>Mh 4 0 (x:=y) 23 23 57 5 56 zLa ⟨(q 0),0,none⟩ 1 1 [iv 9,iv (j:Int),iv 0,iv 0,sn] (λF=>F.1.1) [Fa.dt ((l++rnP (AD 9 j))++[(acN 9 (j:Int),s30)])] (λF=>⟨Dat.snoc F.1.2 (Sg _ _),trivial⟩) rfl (by simp[TQ]) rfl (by simp[Value.oneCell']) (λF K=>Cu K 0 (q 0) [iv 9,iv (j:Int),iv 0,iv 0,sn] 57 .z true (by kernel_rfl)) (by unfold maxLen;omega) (by omega) λU _ _ n6=>tR 5 [] λY _ _=>tV 1 (iv ((j:Int)+1)) (λF C=>(AO 13 (j:Int) underlying3 (by omega))) (tR 2 [] λZ _ _=>tB O (5-(j+1)) (by omega) [false] ⟨j+1,U,rfl,rfl,rfl,rfl,by omega,by omega⟩ (λF=>by rw[BR,IF,<- mA];exact⟨⟨(by rw[Eo];exact F.1),F.2.1⟩,trivial⟩)))
 .refine tI ((decide ((j:Int)<5))) false (E' (by omega)) ?_;obtain rfl:j=5:=by omega
  refine tR 7 [] λa0 _ _=>D1 39 [(1,iv (many:Int)),(5,S3.v y),(7,iv 0)] [] [] [Fa.oa 0 y (l++rnP (Ay++Ak 0))] (λo g f a=>∃ (i:Nat) (y:S3),o=many-i/\g=[(1,iv (many:Int)),(5,S3.v y),(7,iv (i:Int))]/\f=[]/\a=[Fa.oa 0 y (l++rnP (Ay++Ak i))]/\i<=many/\y.n=l.length+(5+6*i)) (many) ⟨0,y,rfl,rfl,rfl,rfl,by omega,by omega⟩ (λF=>⟨F.1,trivial⟩) ?_;rintro k _ _ _ ⟨i,y,rfl,rfl,rfl,rfl,hi,m⟩ _ _ _ Jb r;refine tR 7 [] λD _ _=>?_;by_cases h2:i<many
  .refine tI ((decide ((i:Int)<(many:Int)))) true (M' (by omega)) (tR 9 [] λE _ _=>D1 39 [(1,iv (many:Int)),(5,S3.v y),(7,iv (i:Int)),(8,iv 0)] [] [] [Fa.oa 0 y (l++rnP (Ay++Ak i++AD 3 0))] (λo g f a=>∃ (j:Nat) (y:S3),o=5-j/\g=[(1,iv (many:Int)),(5,S3.v y),(7,iv (i:Int)),(8,iv (j:Int))]/\f=[]/\a=[Fa.oa 0 y (l++rnP (Ay++Ak i++AD 3 j))]/\j<=5/\y.n=l.length+(5+6*i+j)) (5) ⟨0,y,rfl,rfl,rfl,rfl,by omega,by omega⟩ (λF=>⟨by rw[show AD 3 0=[]from rfl,mT];exact F.1,trivial⟩) ?_);rintro k _ _ _ ⟨j,y,rfl,rfl,rfl,rfl,Q,m⟩ _ _ _ Jc s;refine tR 6 [] λG _ _=>?_;by_cases h3:j<5
   .refine tI ((decide ((j:Int)<5))) true (M' (by omega)) (tR 8 [0,0] λb _ _=>Mh 4 0 (x:=y) 23 23 57 5 56 zLa ⟨(b 0),0,none⟩ 1 1 [iv 3,iv (j:Int),iv 0,iv 0,sn] (λF=>F.1.1) [Fa.dt ((l++rnP (Ay++Ak i++AD 3 j))++[(acN 3 (j:Int),s30)])] (λF=>⟨Dat.snoc F.1.2 (Sg _ _),trivial⟩) rfl (by simp[TQ]) rfl (by simp[Value.oneCell']) (λF K=>Cu K 0 (b 0) [iv 3,iv (j:Int),iv 0,iv 0,sn] 57 .z true (by kernel_rfl)) (by unfold maxLen;omega) (by omega) λA _ _ S=>tR 5 [] λH _ _=>tV 1 (iv ((j:Int)+1)) (λF C=>(AO 27 (j:Int) underlying3 (by omega))) (tR 2 [] λI _ _=>tB s (5-(j+1)) (by omega) [false] ⟨j+1,A,rfl,rfl,rfl,rfl,by omega,by omega⟩ (λF=>by rw[BR,<- mA (Ay++Ak i),IF,<- mA l];exact⟨⟨(by rw[Eo];exact F.1),F.2.1⟩,trivial⟩)))
   .refine tI ((decide ((j:Int)<5))) false (E' (by omega)) ?_;obtain rfl:j=5:=by omega
    refine tR 5 [0,0] λc _ _=>Mh 3 0 (x:=y) 23 23 57 5 56 zLa ⟨(c 0),0,none⟩ 1 1 [iv 7,iv 0,iv 0,iv 0,sn] (λF=>F.1.1) [Fa.dt ((l++rnP (Ay++Ak i++AD 3 5))++[(acN 7 0,s30)])] (λF=>⟨Dat.snoc F.1.2 (Sg _ _),trivial⟩) rfl (by simp[TQ]) rfl (by simp[Value.oneCell']) (λF K=>Cu K 0 (c 0) [iv 7,iv 0,iv 0,iv 0,sn] 57 .z true (by kernel_rfl)) (by unfold maxLen;omega) (by omega) λB _ _ T=>tR 5 [] λL _ _=>tV 1 (iv ((i:Int)+1)) (λF C=>(AO 23 (i:Int) underlying3 (by omega))) (tR 2 [] λM _ _=>tB r (many-(i+1)) (by omega) [false] ⟨i+1,B,rfl,rfl,rfl,rfl,by omega,by omega⟩ (λF=>by rw[show Ay++Ak (i+1)=Ay++Ak i++AD 3 5++[acN 7 0]by rw[Ak,<- mA,mA _ (AD 3 5)];rfl,IF,<- mA l];exact⟨⟨(by rw[Eo];exact F.1),F.2.1⟩,trivial⟩))
  .refine tI ((decide ((i:Int)<(many:Int)))) false (E' (by omega)) ?_;obtain rfl:i=many:=by omega
   refine tR 6 [] λN _ _=>tX λF C=>qE (S3.v y) λ_=>⟨y,rfl,F.1.1.own C,CgQ.af C⟩
theorem Y6(k:Int)(j:Nat):∀ a∈AD k j,a.d=[]:=by
 intro a b;obtain⟨n,_,rfl⟩:=mQ.1 b;rfl
theorem Yd(m:Nat):∀ a∈Ak m,a.d=[]:=by
 induction m with
 | zero=>intro a b;cases b
 | succ m ih =>
  intro a b;rcases P'.1 b with h|h
  .exact ih a h
  .rcases P'.1 h with h|h
   .exact Y6 3 5 a h
   .rw[D'.1 h];rfl
theorem ZG(m:Nat):∀ a∈Dk m,a.d=[]:=by
 intro a b;rcases P'.1 b with h|h
 .exact Y6 9 5 a h
 .exact Yd m a h
theorem G0(m:Nat):(Dk m).length=5+6*m:=by unfold Dk;rw[H',Hz];rfl
theorem lL(h:AcR w x L l)(g:x.a=some ⟨b,off,none⟩)(f:L[i]?=some a):w.cell? ⟨b,off+5*i,none⟩=some (iv a.k):=by
 obtain⟨j,d,y,c,e,_,_⟩:=h.spot f;rw[g]at c
 cases c;exact e 0 _ rfl
theorem VL(h:L[i]?=some a):Fh (L.take (i+1))=if hvy a then Fh (L.take i)+20 else Fh (L.take i):=by
 unfold Fh;rw[oq,h,oc];cases hh:hvy a<;>simp[hh];omega
theorem Ut(L:List Lac):Fh L<=100+20*L.length:=by
 unfold Fh;have:=o8 hvy L;omega
theorem Ys(m:Nat)(n:Int):(Cr m n).length=11+6*m:=by unfold Cr;rw[H',H',G0,G0,ny];omega
theorem Ty(h:AcR w x L l)(hm:L.length<=2000) :
  Calls prog 6 #[x.v,iv n] w λe w'=>∃ y:S3,e=.returned y.v/\OwN w.heap.size w' 57 5 y (acV (l++rnP (FN L n)))/\Bw w w':=by
 have U:x.n=L.length:=h.n;have c4:l.length=L.length:=by rw[<- h.e,mO]
 refine tIn [Fa.ac x l] func6 ⟨⟨h.r.fz,λp hp=>⟨h.d p hp,λ_ _ _=>rfl⟩⟩,trivial⟩ (tR 14 [] λc6 _ _=>D1 44 [(0,S3.v x),(1,iv n),(5,iv 100),(6,iv 0)] [] [] [Fa.ac x l] (λV D B f=>∃ (i m:Nat),V=L.length-i/\D=[(0,S3.v x),(1,iv n),(5,iv (m:Int)),(6,iv (i:Int))]/\B=[]/\f=[Fa.ac x l]/\i<=L.length/\m=Fh (L.take i)) (L.length) ⟨0,100,rfl,rfl,rfl,rfl,by omega,rfl⟩ (λF=>⟨F.1,trivial⟩) ?_);rintro k _ _ _ ⟨i,m,rfl,rfl,rfl,rfl,hi,g⟩ _ _ _ J o;refine tR 8 [] λc7 _ _=>?_;by_cases h1:i<L.length
 .refine tI ((decide ((i:Int)<(x.n:Int)))) true (M' (by omega)) ?_;have s:=Ut (L.take i);rw[<- g,X']at s
  obtain⟨a,S⟩:∃ a,L[i]?=some a:=⟨_,G' (by omega)⟩;refine tF λF _=>?_;obtain⟨b,W,yd,I,_,_,hin⟩:=(AcR.of F.1 h.e).spot S;refine tR 7 [] λc8 _ _=>tV 2 (pt b (W+5*i)) (λF C=>(Zy (c:=x.c) I i hin)) (tR 1 [] λc9 _ _=>tV 4 (iv a.k) (λF C=>(Dj underlying3 rfl (lL (AcR.of F.1 h.e) I S))) (tR 1 [] λd0 _ _=>Ig 44 (λD B f=>∃ (N:Nat),D=[(0,S3.v x),(1,iv n),(5,iv (N:Int)),(6,iv (i:Int))]/\B=[]/\f=[Fa.ac x l]/\N=(if hvy a then m+20 else m)) (λJ o=>?_) ?_))
  .refine tR 7 [] λd1 _ _=>?_;by_cases A:a.k=1
   .refine tI ((a.k==1)) true (by simpa using A) (tR 1 [] λd2 _ _=>tI ((a.k==1)) true (by simpa using A) (tR 2 [] λd3 _ _=>tV 1 (iv ((m:Int)+20)) (λF C=>(LR (x:=(.tmp 25)) (y:=(.const (iv 20))) (m:Int) 20 underlying3 (by omega))) (tR 3 [] λd4 _ _=>tD o [] ⟨m+20,rfl,rfl,rfl,(if_pos (by simp[hvy,A])).symm⟩ (λF=>⟨F.1,trivial⟩))))
   .refine tI ((a.k==1)) false (by simpa using A) (tR 5 [] λa1 _ _=>?_);by_cases E:a.k=2
    .refine tI ((a.k==2)) true (by simpa using E) (tR 1 [] λa2 _ _=>tI ((a.k==2)) true (by simpa using E) (tR 2 [] λa3 _ _=>tV 1 (iv ((m:Int)+20)) (λF C=>(LR (x:=(.tmp 25)) (y:=(.const (iv 20))) (m:Int) 20 underlying3 (by omega))) (tR 3 [] λa4 _ _=>tD o [] ⟨m+20,rfl,rfl,rfl,(if_pos (by simp[hvy,E])).symm⟩ (λF=>⟨F.1,trivial⟩))))
    .refine tI ((a.k==2)) false (by simpa using E) (tR 5 [] λa5 _ _=>?_);by_cases G:a.k=6
     .refine tI ((a.k==6)) true (by simpa using G) (tR 1 [] λa6 _ _=>tI ((a.k==6)) true (by simpa using G) (tR 2 [] λa7 _ _=>tV 1 (iv ((m:Int)+20)) (λF C=>(LR (x:=(.tmp 25)) (y:=(.const (iv 20))) (m:Int) 20 underlying3 (by omega))) (tR 3 [] λa8 _ _=>tD o [] ⟨m+20,rfl,rfl,rfl,(if_pos (by simp[hvy,G])).symm⟩ (λF=>⟨F.1,trivial⟩))))
     .refine tI ((a.k==6)) false (by simpa using G) (tR 4 [] λa9 _ _=>?_);by_cases M:a.k=8
      .refine tI ((a.k==8)) true (by simpa using M) (tR 2 [] λb0 _ _=>tV 1 (iv ((m:Int)+20)) (λF C=>(LR (x:=(.tmp 25)) (y:=(.const (iv 20))) (m:Int) 20 underlying3 (by omega))) (tR 3 [] λb1 _ _=>tD o [] ⟨m+20,rfl,rfl,rfl,(if_pos (by simp[hvy,M])).symm⟩ (λF=>⟨F.1,trivial⟩)))
      .refine tI ((a.k==8)) false (by simpa using M) (tR 2 [] λb2 _ _=>tD o [] ⟨m,rfl,rfl,rfl,(if_neg (by simp[hvy,A,E,G,M])).symm⟩ (λF=>⟨F.1,trivial⟩))
  rintro _ _ _ ⟨N,rfl,rfl,rfl,T⟩ _ _ _;refine tR 3 [] λb3 _ _=>tV 1 (iv ((i:Int)+1)) (λF C=>(AO 13 (i:Int) underlying3 (by omega))) (tR 2 [] λb4 _ _=>tB o (L.length-(i+1)) (by omega) [] ⟨i+1,N,rfl,rfl,rfl,rfl,by omega,(by rw[T,VL S,<- g])⟩ (λF=>⟨F.1,trivial⟩))
 .refine tI ((decide ((i:Int)<(x.n:Int)))) false (E' (by omega)) ?_;rw[show L.take i=L from mJ (by omega)]at g
  have s:=Ut L;rw[<- g]at s
  refine tR 4 [] λb5 _ _=>fY 1 0 x (acV l) 23 23 57 5 56 zLa (λF=>F.1.1.rd) [Fa.dt l] (λF=>⟨F.1.2,trivial⟩) rfl (by simp[TQ]) (TL l) (by rw[U];unfold maxLen;omega) (by omega) λZ _ _ n0=>tR 8 [] λb6 _ _=>D1 44 [(1,iv n),(5,iv (m:Int)),(7,S3.v Z),(8,iv 0)] [] [] [Fa.oa 0 Z (l++rnP [])] (λV D B f=>∃ (j:Nat) (y:S3) (Q:List Lac),V=2-j/\D=[(1,iv n),(5,iv (m:Int)),(7,S3.v y),(8,iv (j:Int))]/\B=[]/\f=[Fa.oa 0 y (l++rnP Q)]/\j<=2/\Q.length<=j*300000/\Q=(List.replicate j (Cr m n)).flatten) (2) ⟨0,Z,[],rfl,rfl,rfl,rfl,by omega,by simp,by simp⟩ (λF=>⟨by rw[show rnP []=[]from rfl,mT];exact⟨F.1,F.2.1⟩,trivial⟩) ?_;rintro k _ _ _ ⟨j,y,Q,rfl,rfl,rfl,rfl,hj,c3,hQ⟩ _ _ _ J o;refine tR 6 [] λb7 _ _=>?_;by_cases A:j<2
  .refine tI ((decide ((j:Int)<2))) true (M' (by omega)) (tR 6 [] λb8 _ _=>tG 1 [] 0 (λF C=>Oh (many:=0) (AcR.oo F.1 rfl).r (AcR.oo F.1 rfl).d (by rw[H',KF];omega)) λNz=>?_);rintro _ _ ⟨X,rfl,H,O⟩;have t:X.n=((l++rnP Q)++rnP (Dk 0)).length:=by have:=H.len;rw[K8]at this;omega
   simp only[H',KF,G0]at t;refine⟨_,[Fa.oa 0 X ((l++rnP Q)++rnP (Dk 0))],_,_,_,_,rfl,O,H,λ_=>⟨λF R _=>⟨⟨R,Dat.app F.1.2 (Pi _ _ (ZG _))⟩,trivial⟩,?_⟩⟩;refine tR 8 [0,0] λq _ _=>Mh 4 0 (x:=X) 23 23 57 5 56 zLa ⟨(q 0),0,none⟩ 1 1 [iv 2,iv n,iv 0,iv 0,sn] (λF=>F.1.1) [Fa.dt ((l++rnP Q++rnP (Dk 0))++[(acN 2 n,s30)])] (λF=>⟨Dat.snoc F.1.2 (Sg _ _),trivial⟩) rfl (by simp[TQ]) rfl (by simp[Value.oneCell']) (λF K=>Cu K 0 (q 0) [iv 2,iv n,iv 0,iv 0,sn] 57 .z true (by kernel_rfl)) (by unfold maxLen;omega) (by omega) λa0 _ _ c5=>tCv [Fa.oa 0 a0 (l++rnP (Q++Dk 0++[acN 2 n]))] (λF=>by rw[IF,UB,<- mA l,<- mA l];exact⟨⟨(by rw[Eo];exact F.1),F.2.1⟩,trivial⟩) (tR 5 [] λb9 _ _=>tG 2 [false] 0 (λF C=>Oh (many:=m) (AcR.oo F.1 rfl).r (AcR.oo F.1 rfl).d (by rw[H',KF,H',H',G0,ny];omega)) λNz=>?_);rintro _ _ ⟨Y,rfl,H,P⟩;have u:Y.n=((l++rnP (Q++Dk 0++[acN 2 n]))++rnP (Dk m)).length:=by have:=H.len;rw[K8]at this;omega
   simp only[H',KF,G0,ny]at u;refine⟨_,[Fa.oa 0 Y ((l++rnP (Q++Dk 0++[acN 2 n]))++rnP (Dk m))],_,_,_,_,rfl,P,H,λ_=>⟨λF R _=>⟨⟨R,Dat.app F.1.2 (Pi _ _ (ZG _))⟩,trivial⟩,?_⟩⟩;refine tR 5 [] λc0 _ _=>tV 1 (iv ((j:Int)+1)) (λF C=>(AO 31 (j:Int) underlying3 (by omega))) (tR 2 [] λc1 _ _=>?_);exact tB o (2-(j+1)) (by omega) [] ⟨j+1,Y,Q++Cr m n,rfl,rfl,rfl,rfl,by omega,(by rw[H',Ys];omega),(by rw[hQ];rcases(show j=0\/j=1 by omega)with rfl|rfl<;>simp)⟩ (λF=>by rw[show Q++Cr m n=Q++Dk 0++[acN 2 n]++Dk m by simp[Cr,List.append_assoc],UB _ (Dk m),<- mA l];exact F)
  .refine tI ((decide ((j:Int)<2))) false (E' (by omega)) ?_;obtain rfl:j=2:=by omega
   refine tR 6 [] λc2 _ _=>?_;have hS:Q=FN L n:=by rw[hQ,g];simp[FN]
   rw[<- hS];exact tX λF C=>qE (S3.v y) λ_=>⟨y,rfl,F.1.1.own C,CgQ.af C⟩
theorem U0(h:OutF g w ly tv ys M):OutW w M ly tv ys:=⟨h.rL.rd,λj a=>(h.log j a).rd.rc,h.ed.rd⟩
theorem ja(h:Sk w x.v (laF L) L.length)(m:∀ a∈L,LacOk a)(l:L.length<=100000)(b:UZ w){M:Meet}(j:AI.fa L=M) :
  Calls prog 11 #[x.v] w λe w'=>∃ (ly tv:S3) (ys:Nat->S3),e=.returned (.tuple #[.agg (Hd M ly tv),iv 0])/\OutW w' M ly tv ys/\OutN w.heap.size M ly tv ys/\Bw w w':=by
 subst j;refine(eq h (λi c=>by rw[OS c];exact m _ (m7 c)) l b.1 b.2.1 b.2.2).mono ?_;rw[Xd];rintro e w' ⟨k,ly,tv,ys,d,f,g⟩;exact⟨ly,tv,ys,d,f,g,k⟩
theorem iV(h:Sk w x.v (laF L) L.length)(y:∀ a∈L,LacOk a)(t:L.length<=100000)(s:UZ w){M:Meet}(r:AI.fa L=M) :
  Calls prog 5 #[x.v] w λe w'=>∃ (ly tv:S3) (ys:Nat->S3),e=.returned (.tuple #[.agg (Hd M ly tv),.bool true])/\OutW w' M ly tv ys/\OutN w.heap.size M ly tv ys/\Bw w w':=by
 refine tIn [] func5 trivial (tR 8 [1,0] λb _ _=>tF λ_ k=>?_);have d:=k.size;refine tC 1 (λF C=>ja (h.af (CgQ.af C)) y t (tb5 s C) r) λo=>?_;rintro _ _ ⟨ly,tv,ys,rfl,j,i,p⟩;refine⟨_,Fa.ot ly tv ys M::_,rfl,p,λF=>⟨Uz j i o,F⟩,?_⟩;refine tR 14 [0,0,1,0,9,0,1,2,4,6,8] λf _ _=>Ig 20 (λq m c=>∃ (_:Unit),q=[(2,pt (b 0) 0),(3,.bool ((ly.n:Int)==5))]/\m=[⟨(b 0),.cells (Hd M ly tv) 30,.l,false⟩,⟨(f 0),.cells (Hd M ly tv) 30,.z,false⟩]/\c=[Fa.ot ly tv ys M]) (λJ g=>?_) ?_
 .refine Ih 5 9 ?_ ?_
  .refine tR 7 [1,12,14,16,19,0,0,20] λA _ _=>tD g [true,true] ⟨(),rfl,rfl,rfl⟩ (λF=>⟨F.1,trivial⟩)
  .refine tR 7 [0,0,11,1,12,14,16,20] λB _ _=>tD g [true,true] ⟨(),rfl,rfl,rfl⟩ (λF=>⟨F.1,trivial⟩)
 rintro _ _ _ ⟨_,rfl,rfl,rfl⟩ _ _ _;have u:(((ly.n:Nat):Int)==5)=true:=by rw[j.n5];rfl
 exact tX λF C=>qE2 2 3 30 0 (b 0) (Hd M ly tv) (.bool ((ly.n:Int)==5)) λ_=>⟨ly,tv,ys,by rw[u],U0 F.1,i.mono d,CgQ.af C⟩
theorem iU(h:AcR w x L l)(f:∀ a∈L,LacOk a)(d:L.length<=100000)(c:UZ w){M:Meet}(b:AI.fa L=M) :
  Calls prog 5 #[x.v] w λe w'=>∃ (ly tv:S3) (ys:Nat->S3),e=.returned (.tuple #[.agg (Hd M ly tv),.bool true])/\OutW w' M ly tv ys/\OutN w.heap.size M ly tv ys/\Bw w w':=iV (h.sk (by omega)) f d c b
def lgN(M:Meet):Nat->Option Nat
 | 0=>none
 | n+1=>if(((lgN M n).map M.log).getD []).length<(M.log n).length then some n else lgN M n
def lgY(ys:Nat->S3)(o:Option Nat):S3:=(o.map ys).getD s30
theorem YJ{n:Nat}(h:lgN M n=some j):j<n:=by
 induction n with
 | zero=>cases h
 | succ n ih =>
  rw[lgN]at h
  split at h
  .cases h;omega
  .have:=ih h;omega
theorem YK(h:OutF g w ly tv ys M){n:Nat}(a:n<=5):FzV g w (lgY ys (lgN M n)) 5 (cmL (((lgN M n).map M.log).getD [])):=by
 cases hh:lgN M n with
 | none=>exact⟨⟨rfl,A' _,λ_=>rfl,.inl rfl⟩,λe=>absurd rfl e⟩
 | some j=>exact h.log j (Z' (YJ hh) a)
theorem fS(c:x.a=some ⟨b,off,none⟩)(j:Nat)(d:j<x.n):(Instr.indexAt 26 x.v (iv (j:Int))).run prog W=.ok (pt b (off+j)) W:=by
 obtain⟨f,h,g⟩:=x;simp only at c d;subst c;exact Kv (P:=prog) (e:=35) (z:=1) underlying26 (by kernel_rfl) (by kernel_rfl) d _ (by rw[qQ])
theorem Ur(h:RdV w ly 1 [S3.v (ys 0),S3.v (ys 1),S3.v (ys 2),S3.v (ys 3),S3.v (ys 4)])(c:ly.a=some ⟨b,off,none⟩)(d:j<5):w.cell? ⟨b,off+j,none⟩=some (S3.v (ys j)):=by
 rcases h.ex with h1|⟨b',off',h1,h2,h3⟩
 .have:=h.len;simp at this;omega
 .rw[c]at h1;cases h1
  refine h3 j _ ?_;rcases ri d with rfl|rfl|rfl|rfl|rfl<;>rfl
theorem ga{l:List Tol}(h:RdV w x 5 (l.flatMap Eg)):x.n=l.length:=by
 have:=h.len;rw[Eu (f:=Eg) (sz:=5) (λ_=>rfl)]at this
 omega
theorem SG(h:OutW w M ly tv ys) :
  Calls prog 8 #[.agg (Hd M ly tv)] w λe w'=>e=.returned (S3.v (lgY ys (lgN M 5)))/\Bw w w':=by
 have L:=h.n5;refine tIn [Fa.ot ly tv ys M] func8 ⟨⟨h.rL.fz,λj t=>(h.log j t).rv.fz,h.ed.fz⟩,trivial⟩ (tR 15 [0,0] λc _ _=>D1 27 [(1,pt (c 0) 0),(3,sn),(4,iv 0)] [true] [⟨(c 0),.cells #[iv (M.br.length:Int),.bool (M.ae 0).up,.bool (M.ae 1).up,.bool (M.ae 2).up,.bool (M.ae 3).up,.bool (M.ae 4).up,S3.v ly,iv ((M.ae 0).bad:Int),iv ((M.ae 1).bad:Int),iv ((M.ae 2).bad:Int),iv ((M.ae 3).bad:Int),iv ((M.ae 4).bad:Int),S3.v tv] 30,.z,false⟩] [Fa.ot ly tv ys M] (λu q p f=>∃ (i:Nat),u=5-i/\q=[(1,pt (c 0) 0),(3,S3.v (lgY ys (lgN M i))),(4,iv (i:Int))]/\p=[⟨(c 0),.cells (Hd M ly tv) 30,.z,false⟩]/\f=[Fa.ot ly tv ys M]/\i<=5) (5) ⟨0,rfl,rfl,rfl,rfl,by omega⟩ (λF=>F) ?_);rintro k _ _ _ ⟨i,rfl,rfl,rfl,rfl,K⟩ _ _ _ J g;refine tR 9 [0] λx _ _=>?_;by_cases H:i<5
 .refine tI ((decide ((i:Int)<(ly.n:Int)))) true (M' (by omega)) (tF λF _=>?_);obtain⟨b,d,a,_⟩:=F.1.rL.rd.spot (i:=i) (by omega);have r:=gM (F.1.log i (by omega)).rd;have s:=gM (YK F.1 (n:=i) (by omega)).rd;refine tR 8 [0] λy _ _=>tV 3 (pt b (d+i)) (λF C=>(fS a i (by omega))) (tV 4 (S3.v (ys i)) (λF C=>(Dj underlying35 rfl (Ur F.1.rL.rd a (by omega)))) (tR 5 [] λA _ _=>?_));by_cases I:(((lgN M i).map M.log).getD []).length<(M.log i).length
  .refine tI ((decide (((lgY ys (lgN M i)).n:Int)<((ys i).n:Int)))) true (M' (by omega)) (tR 4 [0] λD _ _=>tV 3 (pt b (d+i)) (λF C=>(fS a i (by omega))) (tV 4 (S3.v (ys i)) (λF C=>(Dj underlying35 rfl (Ur F.1.rL.rd a (by omega)))) (tR 5 [] λE _ _=>tV 1 (iv ((i:Int)+1)) (λF C=>(AO 10 (i:Int) underlying3 (by omega))) (tR 2 [] λG _ _=>tB g (5-(i+1)) (by omega) [true] ⟨i+1,rfl,(by rw[show lgN M (i+1)=some i from if_pos (by omega)]),rfl,rfl,by omega⟩ (λF=>F)))))
  .refine tI ((decide (((lgY ys (lgN M i)).n:Int)<((ys i).n:Int)))) false (E' (by omega)) (tR 4 [] λl _ _=>tV 1 (iv ((i:Int)+1)) (λF C=>(AO 10 (i:Int) underlying3 (by omega))) (tR 2 [] λm _ _=>tB g (5-(i+1)) (by omega) [true] ⟨i+1,rfl,(by rw[show lgN M (i+1)=lgN M i from if_neg (by omega)]),rfl,rfl,by omega⟩ (λF=>F)))
 .refine tI ((decide ((i:Int)<(ly.n:Int)))) false (E' (by omega)) (tR 6 [] λo _ _=>?_);obtain rfl:i=5:=by omega
  exact tE (S3.v (lgY ys (lgN M 5))) λ_ B=>⟨rfl,B⟩
theorem kz(c:x.a=some ⟨b,off,none⟩)(j:Nat)(d:j<x.n):(Instr.indexAt 28 x.v (iv (j:Int))).run prog W=.ok (pt b (off+5*j)) W:=by
 obtain⟨f,h,g⟩:=x;simp only at c d;subst c;exact Kv (P:=prog) (e:=49) (z:=5) underlying28 (by kernel_rfl) (by kernel_rfl) d _ rfl
theorem ma(t:Tol)(h:∀ j u,(Eg t)[j]?=some u->W.cell? ⟨b,k+j,none⟩=some u):(Instr.loadAt 49 (pt b k)).run prog W=.ok (.agg #[iv (t.n:Int),iv t.c,iv t.s,iv t.e,iv t.a]) W:=by
 have d:=run_loadVar_mid (P:=prog) W b k 49 (Eg t) _ h underlying49 rfl (by kernel_rfl);simp only[Instr.loadAt,Instr.sureAddr,Sem.run_bind,Sem.run_pure,Result.andThen_ok];exact d
theorem jo{l:List Tol}(h:RdV w x 5 (l.flatMap Eg)){i b c:Nat}(n:x.a=some ⟨b,c,none⟩){t:Tol}(e:l[i]?=some t){j:Nat}{u:Value}(m:(Eg t)[j]?=some u):w.cell? ⟨b,c+5*i+j,none⟩=some u:=by
 have q:=ga h;have p:=(V'.1 e).1;obtain⟨o,g,d,_,k⟩:=h.spot (i:=i) (by omega);rw[n]at d;cases d
 exact k j u (GR (f:=Eg) (sz:=5) (λ_=>rfl) l e m)
end
end Go.Proofs.YtcjcngceghfoeaaGreatDoor
