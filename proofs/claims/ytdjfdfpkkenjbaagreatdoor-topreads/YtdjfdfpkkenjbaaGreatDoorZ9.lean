/- Part 9 of the walk. -/
import Derived.LoopN
import Derived.Lib.SmallJoins
import Derived.Test.YtdjfdfpkkenjbaaGreatDoorZ8
set_option maxRecDepth 100000
set_option maxHeartbeats 4000000
open Go.Proofs.Tryz
set_option linter.unusedVariables false
namespace Go.Proofs.YtdjfdfpkkenjbaaGreatDoor
section
open Go.RowKit
section
variable{P:Program}{fn:Func}{R:Ending->World->Prop}{B:Nat}{T:List Tg}{g:Gh}{w:World}
theorem bJ{s:Xs}(k n:Nat)(a:List (Nat × Value))(m:List Bool)(i:List Sh)(l:QL s.K=true)(o:s.f.n=n)(v:a.map (λp=>lk s.f.z s.f.e p.1)=a.map (·.2))(r:Bp (AA m s.L)=i)
  (h:∀ J:Nat->Act->World->Prop,(∀ (m:Nat) (e:List (Nat × Value)) (z:Nat->Value) (L:List Sh) (g:Gh) (w:World),GG P fn R B T (aw s n (J m) e z L) g w->Kn B g w L->J (m+1) (⟨n,e,z⟩:Fm).act w)->∀ z,GG P fn R B T (aw s n (J k) a z i) g w):GG P fn R B T s g w:=by
 refine gFm a v λz=>?_;obtain⟨K,f,L⟩:=s;simp only at o;subst o;have j:Bp (AA m L)=i:=r;have u:GG P fn R B T ⟨K,⟨f.n,a,z⟩,Bp (AA m L)⟩ g w->GG P fn R B T ⟨K,⟨f.n,a,z⟩,L⟩ g w:=λh=>⟨λd=>h.ex (d.sub (CZ m L)).nw⟩;refine u ?_;rw[j];cases K with
 | nil=>cases l
 | cons t K =>
  cases t with
  | c x =>
   cases x with
   | loop b =>
    refine⟨λd=>?_⟩;exact wp_loop_rounds (k+1) ((h (Code.rounds P b (Kq P (bodyPost P fn R) K)) (λm e z L g w q d=>q.ex d) z).ex d)
   | _=>cases l
  | _=>cases l
end
section
variable{W w w0:World}{b1 b2 i k nb ob:Nat}{d:List Int}{g:Gh}{ls:List Let}{p:Nod}{s:Int}{ts:List Tol}{vs:List Value}{x:S3}
theorem LO{v:Vt}(h:NS i nb ob g w p ls ts)(E:Base w0 g w)(F:Tabs w0)(I:i<5)(G:ls.length<90000000)(q:Box g w b1 #[pt nb 0] 89)(t:Box g w b2 #[iv v.au,iv v.b.r,iv v.b.n,iv v.w.k,iv v.w.c,iv v.w.s,iv v.w.n,iv v.w.v] 156)(l:p.ae.length<=40) :
  Calls prog 117 #[pt b1 0,pt b2 0] w (NP i nb ob g w (.tuple #[]) (p.count i v) (ls++BM i { Cn 3 with cn:=v } 5) ts):=by
 obtain⟨x,lt,V,u,y,H⟩:=h;refine gI (fn:=f117) (TN i) g func117 H (qN u (qO y (BJ ⟨b1,.cells #[pt nb 0] 89,.z,false⟩ (λ_=>⟨q.r,q.z,λh=>(by cases h),λh=>absurd rfl h⟩) (by kernel_rfl) ?_)));refine BJ ⟨b2,.cells #[iv v.au,iv v.b.r,iv v.b.n,iv v.w.k,iv v.w.c,iv v.w.s,iv v.w.n,iv v.w.v] 156,.z,false⟩ (λ_=>⟨t.r,t.z,λh=>(by cases h),λh=>absurd rfl h⟩) (by kernel_rfl) ?_;refine qR [] 8 [6,0,2,2,2,4,6,8,0,10,3] λS N W c1=>qS 6 [false,false,true,true] u y c1 (λA=>Mm A (E.ch (c1.nil (TN i)) (AZ i)) F i I v l) λO X x2 J L a e C=>qR [] 5 [0,1] λT P Y m=>qS 3 [true,true,false,false] a e m (λB=>DN B G { Cn 3 with cn:=v } s30 s30 ⟨Sv.nil _,λh=>absurd rfl h⟩ (Rc.nil _ _)) λQ Z x5 K M d j D=>qR [] 1 [] λU R w7 o=>qF d j o (((((c1.nil (TN i)).trans (C)).n m).trans (D)).n o)
theorem QS{b:Bal}{u:List Vt}{e:S3}(h:NS i nb ob g w p ls ts)(J:Base w0 g w)(K:Tabs w0)(N:i<5)(L:ls.length<90000000){j:Nat}(a:Box g w b1 #[pt nb 0] 89)(C:Box g w b2 #[iv b.r,iv b.n] 94)(D:Box g w j #[S3.v e] 95)(O:FSv g w e u)(t:(p.bw.br i).vs.length<100000000) :
  Calls prog 66 #[pt b1 0,pt b2 0,pt j 0] w (NP i nb ob g w (.tuple #[]) (if p.vo.p≠b then p else{ p with bw:=p.bw.mE i u }) (if p.vo.p≠b then ls else(ls++BM i { Cn 0 with lr:=b } 5)) ts):=by
 obtain⟨x,lt,tl,k,o,M⟩:=h;refine gI (fn:=f66) (TN i) g func66 M (qN k (qO o (BJ ⟨b1,.cells #[pt nb 0] 89,.z,false⟩ (λ_=>⟨a.r,a.z,λh=>(by cases h),λh=>absurd rfl h⟩) (by kernel_rfl) ?_)));refine BJ ⟨b2,.cells #[iv b.r,iv b.n] 94,.z,false⟩ (λ_=>⟨C.r,C.z,λh=>(by cases h),λh=>absurd rfl h⟩) (by kernel_rfl) ?_;refine BJ ⟨j,.cells #[S3.v e] 95,.z,false⟩ (λ_=>⟨D.r,D.z,λh=>(by cases h),λh=>absurd rfl h⟩) (by kernel_rfl) ?_;refine qR [] 10 [8,0,2,2,4,6,8,10,0,12,3] λs1 U w1 c1=>?_;by_cases a:p.vo.p≠b
 .refine qT 7 (.bool true) (λ_=>(Hv (x:=(.tmp 8)) (y:=(.tmp 9)) p.vo.p b a)) (qR [] 2 [] λs2 V w2 A=>?_);rw[if_pos a,if_pos a];exact qF k o (c1.n A) ((c1.nil (TN i)).n A)
 .have h10:p.vo.p=b:=by simpa using a
  refine qT 7 (.bool false) (λ_=>(Hu (x:=(.tmp 8)) (y:=(.tmp 9)) p.vo.p b h10)) ?_;rw[if_neg a,if_neg a];refine qR [] 14 [9,0,2,2,4,6,8,2,10,12,14,0,16,4] λs4 W w4 d=>qS 9 [false,false,true,true,true] k o (c1.n d) (λE=>OL E (J.ch ((c1.nil (TN i)).n d) (AZ i)) K i N u e (O.ch ((c1.nil (TN i)).n d) (AZ i)) t) λX w5 x5 P R l q G=>qR [] 5 [0,1] λs7 Y w7 B=>qS 3 [true,true,true,false,false] l q B (λF=>DN F L { Cn 0 with lr:=b } s30 s30 ⟨Sv.nil _,λh=>absurd rfl h⟩ (Rc.nil _ _)) λZ w8 x8 lt8 S m s H=>qR [] 1 [] λQ I T c=>qF m s c ((((((c1.nil (TN i)).n d).trans (G)).n B).trans (H)).n c)
def Nod.mm(p:Nod)(i:Nat):Pend->Nod
 | .began b vs=>if p.vo.p≠b then p else{ p with bw:=p.bw.mE i vs }
 | .prop v=>p.count i v
 | _=>p
def Nod.mx(p:Nod)(i:Nat):Pend->List Let
 | .began b vs=>if p.vo.p≠b then[]else BM i { Cn 0 with lr:=b } 5
 | .prom to b vs=>[{ Cn 1 with lr:=b,kc:=vs,fa:=p.ae,src:=i,dst:=to }]
 | .voted to v=>[{ Cn 4 with cn:=v,src:=i,dst:=to }]
 | .ln to b=>[{ Cn 2 with lr:=b,src:=i,dst:=to }]
 | .prop v=>BM i { Cn 3 with cn:=v } 5
 | .askNews to=>[{ Cn 6 with au:=p.ae.length,src:=i,dst:=to }]
 | .start=>BM i (Cn 6) 5
 | .tell to au=>[{ Cn 5 with src:=i,dst:=to,au:=au,fa:=p.ae.drop au }]
def PW(p:Nod)(i:Nat):Pend->Prop
 | .began _ _=>(p.bw.br i).vs.length<100000000
 | .prop _=>p.ae.length<=40
 | .tell _ au=>au<=p.ae.length
 | _=>True
theorem bF{P:Program}{s:Xs}{S:Sem Next}{r:Result Next}(h:CP s i=some S)(a:S.run P W=r):Cy P s i W=some r:=by
 unfold Cy;unfold CP at h;cases hx:opN s i with
 | none=>rw[hx]at h;cases h
 | some x =>
  rw[hx]at h
  simp only[i8,V']at h ⊢;rw[h,a]
theorem Gc(h:NS i nb ob g w p ls ts)(s:Base w0 g w)(t:Tabs w0)(y:i<5)(f:ls.length<90000000){v:Value}(q:Pend)(o:PW p i q)(j:JX g w nb v q) :
  ∃ (F:FuncId) (cs:Array Value),v=.func (.func F) #[] cs/\(∀ W,(Go.callFunc F (#[]++cs)).run prog W=.ok (.enter F cs) W)/\Calls prog F cs w (NP i nb ob g w (.tuple #[]) (p.mm i q) (ls++p.mx i q) ts):=by
 cases q with
 | began b vs =>
  obtain⟨k,b2,b3,x,e,a,c,d,n⟩:=j;refine⟨_,_,e,λW=>by kernel_rfl,?_⟩;have:=QS h s t y f a c d n o;unfold Nod.mm Nod.mx;by_cases m:p.vo.p≠b
  .rw[if_pos m,if_pos m]at this;simp only[if_pos m,iZ];exact this
  .rw[if_neg m,if_neg m]at this;simp only[if_neg m];exact this
 | prom to b vs =>
  obtain⟨k,b2,b3,x,r,l,e,a,c,d,n,z,rfl,rfl⟩:=j;exact⟨_,_,e,λW=>(by kernel_rfl),Gp h f a c d z n⟩
 | voted to u =>
  obtain⟨k,b2,r,l,e,a,c,d,rfl,rfl⟩:=j;exact⟨_,_,e,λW=>(by kernel_rfl),GR (b3:=0) h f a c d⟩
 | ln to b =>
  obtain⟨k,b2,b3,e,a,c,d⟩:=j;exact⟨_,_,e,λW=>(by kernel_rfl),NG h f a c d⟩
 | prop u =>
  obtain⟨k,b2,e,a,c⟩:=j;exact⟨_,_,e,λW=>(by kernel_rfl),LO h s t y f a c o⟩
 | askNews to =>
  obtain⟨k,b2,r,l,e,a,c,d,rfl⟩:=j;exact⟨_,_,e,λW=>(by kernel_rfl),Ll (b3:=0) h f a c d⟩
 | start =>
  obtain⟨k,e,a⟩:=j;exact⟨_,_,e,λW=>(by kernel_rfl),P9 (b2:=0) (b3:=0) h f a⟩
 | tell to au =>
  obtain⟨k,b2,r,l,e,a,c,d,rfl,rfl⟩:=j;exact⟨_,_,e,λW=>(by kernel_rfl),IF (b3:=0) h f a c d o⟩
theorem VY(s:Int){n:Nat}(h:Sl w x.v d)(a:n<=d.length){N:Int}(b:(n:Int)=N) :
  Calls prog 120 #[.agg #[x.v,iv s],iv N] w λe w'=>∃ y:S3,e=.returned (.agg #[y.v,iv N])/\Sl w' y.v (d.take n)/\Nb w.heap.size y (d.take n)/\Bw w w':=by
 subst b;refine(IQ x.v d s n w h a).mono ?_;rintro e w' ⟨y,rfl,f,c⟩;obtain⟨y,rfl,i,g⟩:=Ro (l:=d.take n) (by rw[X',jw a];exact f) (by rw[X'];have:=h.len;omega) (λz j=>h.byte z (iJ j));exact⟨y,rfl,i,g,c⟩
theorem WO(s:Int)(h:Sl w x.v d){t:Bool}(a:decide (Br d s)=t) :
  Calls prog 119 #[.agg #[x.v,iv s]] w λe w'=>e=.returned (.bool t)/\Bw w w':=by
 subst a;exact KB x.v d s w h
theorem aM(h:Sl w x.v d) :
  Calls prog 118 #[.agg #[x.v,iv s]] w λe w'=>∃ y:S3,e=.returned (.tuple #[.agg #[y.v,iv (LX d s)],iv (Dc d s)])/\Sl w' y.v (Lf d s)/\Nb w.heap.size y (Lf d s)/\Bw w w':=by
 refine kIn func118 (kR 10 [0,0,1,0,0] λb H g=>?_);obtain⟨t,j⟩:∃ t,decide (Br d s)=t:=⟨_,rfl⟩;refine kC 1 (WO s (h.ab g) j) ?_;rintro _ I ⟨rfl,i⟩;refine⟨_,rfl,i,?_⟩;refine kR 2 [] λC J k=>?_;by_cases a:Br d s
 .refine kI ((!t)) false (by rw[<- j,I' a];rfl) ?_;rw[show Dc d s=0 from if_pos a,show Lf d s=d from if_pos a,show LX d s=(d.length:Int)from if_pos a];have m:=ID h;have A:d.take d.length=d:=ko;refine kR 7 [0,0] λD L r=>?_;have f:=(btr (btr (btr g i) k) r);refine kC 4 (VY s (n:=d.length) (N:=(x.n:Int)) (h.ab f) (A' _) (by rw[m])) ?_;rintro _ M ⟨y,rfl,p,o,l⟩;refine⟨_,rfl,l,?_⟩;rw[A]at p o
  rw[<- m];refine kF 3 [1,0] λE O u B=>?_;have q:=((btr f l).trans u);exact qE2 2 3 107 1 (b 1) #[S3.v y,iv (x.n:Int)] (iv 0) λK=>⟨y,rfl,(p.kept B),o.mono f.size,q⟩
 .refine kI ((!t)) true (by rw[<- j,D' a];rfl) ?_;rw[show Dc d s=5 from if_neg a,show Lf d s=[]from if_neg a,show LX d s=0 from if_neg a];refine kF 6 [1,0] λF P z G=>?_;have c:=((btr (btr g i) k).trans z);exact qE2 2 3 107 1 (b 1) #[S3.v s30,iv 0] (iv 5) λK=>⟨s30,rfl,DV _,λh=>absurd rfl h,c⟩
theorem Vx{k:Int}(h:Sl w x.v d)(L:-9223372036854775808<=k)(M:k<=9223372036854775807) :
  Calls prog 76 #[.agg #[x.v,iv s],iv k] w λe w'=>∃ y:S3,e=.returned (.tuple #[.agg #[y.v,iv (Ju d s k)],iv (Gg d s k)])/\Sl w' y.v (Jt d s k)/\Nb w.heap.size y (Jt d s k)/\Bw w w':=by
 refine kIn func76 (kR 10 [0,0,1,0,0] λf w1 j=>?_);obtain⟨t,A⟩:∃ t,decide (Br d s)=t:=⟨_,rfl⟩;refine kC 1 (WO s (h.ab j) A) ?_;rintro _ w2 ⟨rfl,l⟩;refine⟨_,rfl,l,?_⟩;refine kR 2 [] λT w3 u=>?_;by_cases c:Br d s
 .refine kI ((!t)) false (by rw[<- A,I' c];rfl) (kR 7 [] λU w4 C=>?_);by_cases m:k<0
  .refine kI ((decide (k<0))) true (I' m) ?_;have a:Gg d s k=2:=(if_neg (λg=>g c)).trans (if_pos m);rw[show Jt d s k=[]from if_neg (by rw[a];decide),show Ju d s k=0 from if_neg (by rw[a];decide),a];refine kF 6 [1,0] λV w5 H q5=>?_;have G:=((btr (btr (btr j l) u) C).trans H);exact qE2 4 5 107 1 (f 1) #[S3.v s30,iv 0] (iv 2) λK=>⟨s30,rfl,DV _,λh=>absurd rfl h,G⟩
  .refine kI ((decide (k<0))) false (D' m) ?_;have a:Gg d s k=0:=(if_neg (λg=>g c)).trans (if_neg m);rw[show Jt d s k=d.take (Fv d s k).toNat from if_pos a,show Ju d s k=Fv d s k from if_pos a,a];have Z:=ID h;have Y:=h.len;have X:0<=s/\s<=(d.length:Int):=⟨c.2.1,c.2.2⟩;obtain⟨n,D⟩:∃ n:Nat,(n:Int)=s+min k ((x.n:Int)-s):=⟨(s+min k ((x.n:Int)-s)).toNat,by omega⟩;have J:Fv d s k=(n:Int):=by unfold Fv;split<;>omega
   have z:n<=d.length:=by omega
   rw[J,jm,D];refine kR 12 [0,0,0,0] λW w7 I=>kV 9 (iv ((x.n:Int)-s)) (gh (x:=(.tmp 19)) (y:=(.tmp 21)) (x.n:Int) s underlying3 (by omega)) (kV 10 (iv (min k ((x.n:Int)-s))) (dV #[3,3] 3 k ((x.n:Int)-s)) (kV 11 (iv (s+min k ((x.n:Int)-s))) (KS (x:=(.tmp 15)) (y:=(.tmp 23)) s (min k ((x.n:Int)-s)) underlying3 (by omega)) ?_));have b:=(btr (btr (btr (btr j l) u) C) I);refine kC 12 (VY s (n:=n) (h.ab b) z D) ?_;rintro _ Q ⟨y,rfl,O,N,i⟩;refine⟨_,rfl,i,?_⟩;refine kF 3 [1,0] λE R q B=>?_;have o:=((btr b i).trans q);exact qE2 4 5 107 1 (f 1) #[S3.v y,iv (s+min k ((x.n:Int)-s))] (iv 0) λK=>⟨y,rfl,(O.kept B),N.mono b.size,o⟩
 .refine kI ((!t)) true (by rw[<- A,D' c];rfl) ?_;have a:Gg d s k=5:=if_pos c;rw[show Jt d s k=[]from if_neg (by rw[a];decide),show Ju d s k=0 from if_neg (by rw[a];decide),a];refine kF 6 [1,0] λF S r P=>?_;have p:=((btr (btr j l) u).trans r);exact qE2 4 5 107 1 (f 1) #[S3.v s30,iv 0] (iv 5) λK=>⟨s30,rfl,DV _,λh=>absurd rfl h,p⟩
structure FzL(g:Gh)(w:World)(x:S3)(vs:List Value):Prop where
 n:x.n=vs.length
 at_:∀ j u,vs[j]?=some u->∃ b,x.a=some ⟨b,0,none⟩/\b<w.heap.size/\j<g.k b/\w.cell? ⟨b,j,none⟩=some u
theorem OwnS.fz{τ:Tg}{e:TypeId}(h:OwnS g w τ true e 1 x vs):FzL g w x vs:=by
 refine⟨by have:=h.len;omega,λj u d=>?_⟩;obtain⟨b,a,f,i⟩:=h.cell d;have c:j<vs.length:=(O'.1 d).1;refine⟨b,a,f,?_,i⟩;rcases h.ex with⟨h4,_⟩|⟨b',cur,h4,_,_,_,_,_,_,h8⟩
 .rw[h4]at a;cases a
 .rw[a]at h4
  simp only[V',Addr.mk.injEq,and_true]at h4;subst h4;rw[h8,if_pos rfl];exact c
theorem FzL.ch{B:Nat}{T:List Tg}{d:Gh}{f:World}(h:FzL g w x vs)(c:Cg B T g w d f):FzL d f x vs :=
 ⟨h.n,λj u m=>by
  obtain⟨b,i,a,e,k⟩:=h.at_ j u m;exact⟨b,i,Y' a c.size,Y' e (c.mR b a),(c.mS b a j e).trans k⟩⟩
theorem bR{b c:Nat}(d:x.a=some ⟨b,c,none⟩)(j:Nat)(f:j<x.n):(Instr.indexAt 98 x.v (iv (j:Int))).run prog W=.ok (pt b (c+1*j)) W:=by
 unfold S3.v;rw[d];exact KT (P:=prog) (e:=1) (z:=1) underlying98 (by kernel_rfl) (by kernel_rfl) f _ rfl
def mi(i:Nat):List Pend->Nod->List Let->Nod × List Let
 | [],p,ls=>(p,ls)
 | q::l,p,ls=>mi i l (p.mm i q) (ls++p.mx i q)
def FQ(i:Nat):List Pend->Nod->List Let->Prop
 | [],_,_=>True
 | q::l,p,ls=>PW p i q/\ls.length<90000000/\FQ i l (p.mm i q) (ls++p.mx i q)
def Nod.mJ(p:Nod):Nod:=if p.sy<(p.d.length:Int)then{ p with d:=Lf p.d p.sy,sy:=LX p.d p.sy }else p
theorem O7{l:List Pend}{j:Nat}{c:Pend}(h:l[j]?=some c):l.drop j=c::l.drop (j+1):=by
 obtain⟨a,b⟩:=O'.1 h;rw[<- b];exact jc a
theorem aN(h:NS i nb ob g w p ls ts)(hB:Base w0 g w)(hT:Tabs w0)(hi:i<5)(Y:FQ i p.bt { p.mJ with bt:=[] } ls)(f5:p.bt.length<100000000) :
  Calls prog 72 #[pt nb 0] w (NP i nb ob g w (.tuple #[]) (if p.sy<(p.d.length:Int)/\Dc p.d p.sy≠0 then(p,ls)else mi i p.bt { p.mJ with bt:=[] } ls).1 (if p.sy<(p.d.length:Int)/\Dc p.d p.sy≠0 then(p,ls)else mi i p.bt { p.mJ with bt:=[] } ls).2 ts):=by
 obtain⟨x,lt,tl,m,hO,hg⟩:=h;have f7:x.tape.n=p.d.length:=by obtain⟨a,e6,hh⟩:=m.tape.s.mw;have:=m.tape.s.len;simp only[S3.v,Value.slice.injEq]at hh;exact hh.2.1
 refine gI (fn:=f72) (TN i) g func72 hg (qN m (qO hO ?_));obtain⟨pv,hP,I⟩:=m.bt;have hF:=hP.fz;have f6:x.synced.n=p.bt.length:=by rw[hF.n];exact I.len
 refine qR [] 16 [12,0,2,4,6,8,0,10,12,14,16,18,0,20,22] λs1 g1 w1 c1=>?_;by_cases h1:p.sy<(x.tape.n:Int)
 .refine qI ((decide (p.sy<(x.tape.n:Int)))) true (I' (by omega)) (qR [] 6 [0] λs2 g2 w2 c2=>Ae λKq=>?_);have hS:=(m.tape.ch (c1.trans c2)).s;have hG:∀ z,w2.heap.size<=z->g2.t z=.z:=λz hz=>(Kq.new z hz).1;refine qC 4 (aM (s:=p.sy) hS) ?_;rintro e' w3 ⟨tz,rfl,b4,d6,b3⟩;refine⟨_,rfl,b3,?_⟩;have c3:=Cg.bu (B:=w.heap.size) (T:=[]) (g:=g2) b3;have f8:=ID b4;have d7:FSl _ _ tz _:=⟨b4,λhl a ha=>hG _ (d6 hl a ha)⟩;refine qR [] 13 [0,0,2,0] λs4 g4 w4 c4=>?_;by_cases E:Dc p.d p.sy≠0
  .refine qI (((Dc p.d p.sy) != 0)) true (by simpa using E) (qE (.tuple #[]) λK=>?_);rw[if_pos ⟨by omega,E⟩];exact⟨_,rfl,(nsC m hO (((c1.n c2).n c3).n c4) K),((((c1.nil (TN i)).n c2).n c3).n c4)⟩
  .refine qI (((Dc p.d p.sy) != 0)) false (by simpa using E) ?_;have O:p.mJ={ p with d:=Lf p.d p.sy,sy:=LX p.d p.sy }:=if_pos (by omega);rw[show(if p.sy<(p.d.length:Int)/\Dc p.d p.sy≠0 then(p,ls)else mi i p.bt { p.mJ with bt:=[] } ls)=mi i p.bt ({ p with d:=Lf p.d p.sy,sy:=LX p.d p.sy,bt:=[] }:Nod) ls from by rw[if_neg (by rintro⟨_,h⟩;exact E h),O]];rw[show{ p.mJ with bt:=[] }=({ p with d:=Lf p.d p.sy,sy:=LX p.d p.sy,bt:=[] }:Nod)from by rw[O]]at Y
   refine qR [.n 0 i] 32 [2,0,1,0,0,1] λs7 g7 w7 c7=>Hg [true,true,false] ?_;refine BD 51 [(42,S3.v x.synced),(43,iv (x.synced.n:Int)),(44,iv 0)] [false,false] [] (λk g' w' e L=>∃ (j:Nat) (q:Nod) (l2:List Let),k=p.bt.length-j/\j<=p.bt.length/\e=[(42,S3.v x.synced),(43,iv (x.synced.n:Int)),(44,iv (j:Int))]/\L=[]/\NS i nb ob g' w' q l2 ts/\mi i (p.bt.drop j) q l2=mi i p.bt ({ p with d:=Lf p.d p.sy,sy:=LX p.d p.sy,bt:=[] }:Nod) ls/\FQ i (p.bt.drop j) q l2/\Cg w.heap.size (TN i) g w g' w') (by kernel_rfl) (by kernel_rfl) (by kernel_rfl) (by kernel_rfl) p.bt.length (λK=>?_) ?_
   .have C8:=((((c1.nil ([.n 0 i]:List Tg)).n c2).n c3).n c4).trans (c7);have Z8:Tg.z∉([.n 0 i]:List Tg):=by simp
    exact⟨0,({ p with d:=Lf p.d p.sy,sy:=LX p.d p.sy,bt:=[] }:Nod),ls,rfl,by omega,rfl,rfl,⟨({ x with tape:=tz,synced:=s30 }:NX),lt,tl,K.nd 0 ((d7.ch c4).ch c7) (m.kc.ch C8 Z8) (Bf m.br C8 Z8) ⟨[],OwnS.nil _ _ _ _ _ _,⟨rfl,λk v q h=>by cases h⟩⟩ (m.dW.ch C8) (m.ae.ch C8) (m.an.ch C8) (m.cl.ch C8) m.mT,hO.ch C8 Z8 (by simp<;>omega),K.new⟩,rfl,Y,(((((c1.nil (TN i)).n c2).n c3).n c4).trans (c7.mono (by simp[TN])))⟩
   .rintro k gr wr _ zr _ ⟨j,q,l2,rfl,hj,rfl,rfl,hM,hI,hK,hC⟩ J hJ;obtain⟨xr,d8,d9,o,r,d4⟩:=id hM;refine qN o (qO r (qR [] 5 [] λs9 g9 w9 Q=>?_));by_cases h5:j<p.bt.length
    .refine qI ((decide ((j:Int)<(x.synced.n:Int)))) true (I' (by omega)) ?_;obtain⟨D,N⟩:∃ D,p.bt[j]?=some D:=⟨_,E' h5⟩;obtain⟨v,hv⟩:∃ v,pv[j]?=some v:=⟨_,E' (by rw[I.len];exact h5)⟩;rw[O7 N]at hI hK
     obtain⟨G,H,a1⟩:=hK;have F:=hF.ch hC;obtain⟨bx,P,d2,d5,d3⟩:=F.at_ j v hv;have M:=(I.at_ j v D hv N).ch hC (AZ i);refine qR [] 5 [] λf9 c0 e0 u=>qV 0 (pt bx (0+1*j)) (bR P j (by omega)) (Ae λK=>?_);have b5:NS i nb ob c0 e0 q l2 ts:=(nsC o r (Q.n u) K);obtain⟨Z,A,e2,a2,_⟩:=Gc b5 (hB.ch (((hC.n Q).n u)) (AZ i)) hT hi H D G (M.ch ((Q.nil (TN i)).n u) (AZ i));subst e2;have a0:=F.ch (Q.trans u);refine qV 1 (.func (.func Z) #[] A) (Ci (ty:=1) (b:=bx) (k:=0+1*j) (v:=.func (.func Z) #[] A) underlying1 rfl (by rw[i5,ma];obtain⟨b2,E,_,_,h4⟩:=a0.at_ j _ hv;rw[P]at E;simp only[V',Addr.mk.injEq,and_true]at E;subst E;exact h4)) (qR [] 4 [] λg0 c5 e1 S=>Ae λK=>?_);have b6:NS i nb ob c5 e1 q l2 ts:=(nsC o r ((Q.n u).n S) K);obtain⟨F3,b9,e3,_,C⟩:=Gc b6 (hB.ch ((((hC.n Q).n u).n S)) (AZ i)) hT hi H D G (M.ch (((Q.nil (TN i)).n u).n S) (AZ i));simp only[Value.func.injEq,Fn.func.injEq,true_and]at e3;obtain⟨rfl,rfl⟩:=e3;refine Q9 1 Z A (TN i) [false,false] (λW=>bF (by kernel_rfl) (a2 W)) (by kernel_rfl) (by kernel_rfl) (by kernel_rfl) C ?_;rintro e' i0 ⟨c6,rfl,a3,U⟩;refine⟨_,c6,rfl,U,a3.new,?_⟩;replace U:=U.ret (B:=w.heap.size);refine qR [] 3 [] λg3 e7 i1 a5=>qV 0 (iv ((j:Int)+1)) (AD 44 (j:Int) underlying3 (by omega)) (qR [] 2 [] λg5 e8 i2 a6=>qB [] λz K0 K=>hJ (p.bt.length-(j+1)) _ _ _ z _ (by omega) ⟨j+1,q.mm i D,l2++q.mx i D,rfl,by omega,rfl,rfl,NS.mr a3 (a5.trans a6) K0.new,hI,a1,((((((hC.n Q).n u).n S).trans U).n a5).n a6)⟩ K)
    .refine qI ((decide ((j:Int)<(x.synced.n:Int)))) false (D' (by omega)) (qR [] 1 [] λg6 e9 i3 a7=>?_);obtain rfl:j=p.bt.length:=by omega
     rw[jM]at hI
     rw[<- hI];exact qF o r (Q.n a7) ((hC.n Q).n a7)
 .refine qI ((decide (p.sy<(x.tape.n:Int)))) false (D' (by omega)) ?_;have O:p.mJ=p:=if_neg (by omega);rw[show(if p.sy<(p.d.length:Int)/\Dc p.d p.sy≠0 then(p,ls)else mi i p.bt { p.mJ with bt:=[] } ls)=mi i p.bt ({ p with bt:=[] }:Nod) ls from by rw[if_neg (by rintro⟨h,_⟩;omega),O]];rw[show{ p.mJ with bt:=[] }=({ p with bt:=[] }:Nod)from by rw[O]]at Y
  refine qR [.n 0 i] 25 [0,0,1] λg8 f0 i4 a8=>BD 51 [(42,S3.v x.synced),(43,iv (x.synced.n:Int)),(44,iv 0)] [false,false] [] (λk g' w' e L=>∃ (j:Nat) (q:Nod) (l2:List Let),k=p.bt.length-j/\j<=p.bt.length/\e=[(42,S3.v x.synced),(43,iv (x.synced.n:Int)),(44,iv (j:Int))]/\L=[]/\NS i nb ob g' w' q l2 ts/\mi i (p.bt.drop j) q l2=mi i p.bt ({ p with bt:=[] }:Nod) ls/\FQ i (p.bt.drop j) q l2/\Cg w.heap.size (TN i) g w g' w') (by kernel_rfl) (by kernel_rfl) (by kernel_rfl) (by kernel_rfl) p.bt.length (λK=>?_) ?_
  .have C22:=(c1.nil ([.n 0 i]:List Tg)).trans (a8);have R:Tg.z∉([.n 0 i]:List Tg):=by simp
   exact⟨0,({ p with bt:=[] }:Nod),ls,rfl,by omega,rfl,rfl,⟨({ x with synced:=s30 }:NX),lt,tl,K.nd 0 (m.tape.ch C22 R) (m.kc.ch C22 R) (Bf m.br C22 R) ⟨[],OwnS.nil _ _ _ _ _ _,⟨rfl,λk v q h=>by cases h⟩⟩ (m.dW.ch C22) (m.ae.ch C22) (m.an.ch C22) (m.cl.ch C22) m.mT,hO.ch C22 R (by simp<;>omega),K.new⟩,rfl,Y,((c1.nil (TN i)).trans (a8.mono (by simp[TN])))⟩
  .rintro k gr wr _ zr _ ⟨j,q,l2,rfl,hj,rfl,rfl,hM,hI,hK,hC⟩ J hJ;obtain⟨xr,d8,d9,o,r,d4⟩:=id hM;refine qN o (qO r (qR [] 5 [] λh0 f1 i6 c=>?_));by_cases h5:j<p.bt.length
   .refine qI ((decide ((j:Int)<(x.synced.n:Int)))) true (I' (by omega)) ?_;obtain⟨D,N⟩:∃ D,p.bt[j]?=some D:=⟨_,E' h5⟩;obtain⟨v,hv⟩:∃ v,pv[j]?=some v:=⟨_,E' (by rw[I.len];exact h5)⟩;rw[O7 N]at hI hK
    obtain⟨G,H,a1⟩:=hK;have F:=hF.ch hC;obtain⟨bx,P,d2,d5,d3⟩:=F.at_ j v hv;have M:=(I.at_ j v D hv N).ch hC (AZ i);refine qR [] 5 [] λh3 c8 e4 y=>qV 0 (pt bx (0+1*j)) (bR P j (by omega)) (Ae λK=>?_);have b7:NS i nb ob c8 e4 q l2 ts:=(nsC o r (c.n y) K);obtain⟨Z,A,e2,a2,_⟩:=Gc b7 (hB.ch (((hC.n c).n y)) (AZ i)) hT hi H D G (M.ch ((c.nil (TN i)).n y) (AZ i));subst e2;have a0:=F.ch (c.trans y);refine qV 1 (.func (.func Z) #[] A) (Ci (ty:=1) (b:=bx) (k:=0+1*j) (v:=.func (.func Z) #[] A) underlying1 rfl (by rw[i5,ma];obtain⟨b2,E,_,_,h4⟩:=a0.at_ j _ hv;rw[P]at E;simp only[V',Addr.mk.injEq,and_true]at E;subst E;exact h4)) (qR [] 4 [] λh6 d0 e5 V=>Ae λK=>?_);have b8:NS i nb ob d0 e5 q l2 ts:=(nsC o r ((c.n y).n V) K);obtain⟨F3,b9,e3,_,C⟩:=Gc b8 (hB.ch ((((hC.n c).n y).n V)) (AZ i)) hT hi H D G (M.ch (((c.nil (TN i)).n y).n V) (AZ i));simp only[Value.func.injEq,Fn.func.injEq,true_and]at e3;obtain⟨rfl,rfl⟩:=e3;refine Q9 1 Z A (TN i) [false,false] (λW=>bF (by kernel_rfl) (a2 W)) (by kernel_rfl) (by kernel_rfl) (by kernel_rfl) C ?_;rintro e' i7 ⟨d1,rfl,a4,X⟩;refine⟨_,d1,rfl,X,a4.new,?_⟩;replace X:=X.ret (B:=w.heap.size);refine qR [] 3 [] λh7 f2 i8 a9=>qV 0 (iv ((j:Int)+1)) (AD 44 (j:Int) underlying3 (by omega)) (qR [] 2 [] λh8 f3 i9 b0=>qB [] λz K0 K=>hJ (p.bt.length-(j+1)) _ _ _ z _ (by omega) ⟨j+1,q.mm i D,l2++q.mx i D,rfl,by omega,rfl,rfl,NS.mr a4 (a9.trans b0) K0.new,hI,a1,((((((hC.n c).n y).n V).trans X).n a9).n b0)⟩ K)
   .refine qI ((decide ((j:Int)<(x.synced.n:Int)))) false (D' (by omega)) (qR [] 1 [] λh9 f4 j0 b1=>?_);obtain rfl:j=p.bt.length:=by omega
    rw[jM]at hI
    rw[<- hI];exact qF o r (c.n b1) ((hC.n c).n b1)
def RN(p:Nod)(i j:Nat):Bool:=decide (j≠i/\p.bw.cF j<p.ae.length)
def JB(p:Nod)(i k:Nat):Nat->Nat:=λj=>if decide (j<k)&&RN p i j then p.ae.length else p.bw.cF j
def Id(p:Nod)(i k:Nat):Nod:={ p with bw:={ p.bw with cF:=JB p i k } }
def DQ(p:Nod)(i:Nat):Nat->List Let
 | 0=>[]
 | k+1=>DQ p i k++(if RN p i k then[{ Cn 5 with src:=i,dst:=k,au:=p.bw.cF k,fa:=p.ae.drop (p.bw.cF k) }]else[])
theorem SQ(p:Nod)(i k:Nat):(DQ p i k).length<=k:=by
 induction k with
 | zero=>exact A' _
 | succ k ih=>unfold DQ;rw[G'];split<;>simp<;>omega
theorem UD(p:Nod)(i:Nat):Id p i 0=p:=by unfold Id JB;simp
theorem SR(h:RN p i k=false):JB p i (k+1)=JB p i k:=by
 funext j
 unfold JB;by_cases e:j=k
 .subst e;simp[h]
 .rw[show decide (j<k+1)=decide (j<k)from jf.2 (by omega)]
theorem Yf(h:RN p i k=true):upN (JB p i k) k p.ae.length=JB p i (k+1):=by
 funext j
 unfold upN JB;by_cases e:j=k
 .subst e;simp[h]
 .rw[if_neg e,show decide (j<k+1)=decide (j<k)from jf.2 (by omega)]
theorem UE(h:NS i nb ob g w p ls ts)(hb:ls.length<90000000) :
  Calls prog 73 #[pt nb 0] w (NP i nb ob g w (.tuple #[]) (if p.leads then Id p i 5 else p) (if p.leads then ls++DQ p i 5 else ls) ts):=by
 obtain⟨x,lt,tl,R,S,hg⟩:=h;refine gI (fn:=f73) (TN i) g func73 hg (qN R (qO S (qR [] 4 [] λs1 X w1 c1=>?_)));by_cases h1:p.leads=false
 .refine Ae λK=>?_;have N3:NS i nb ob X w1 p ls ts:=(nsC R S c1 K);refine qC 1 (E4 N3 h1) ?_;rintro e' w4 ⟨rfl,b4⟩;refine⟨_,rfl,b4,?_⟩;have c4:=Cg.bu (B:=w.heap.size) (T:=[]) (g:=X) b4;refine qR [] 3 [] λs5 g5 w5 c5=>qE (.tuple #[]) λK=>?_;rw[h1,if_neg (by simp),if_neg (by simp)];exact⟨_,rfl,(nsC R S ((c1.n c4).n c5) K),(((c1.nil (TN i)).n c4).n c5)⟩
 .have h10:p.leads=true:=by simpa using h1
  refine Ae λK=>?_;have N8:NS i nb ob X w1 p ls ts:=(nsC R S c1 K);refine qC 1 (E4 N8 h10) ?_;rintro e' w9 ⟨rfl,b9⟩;refine⟨_,rfl,b9,?_⟩;have c9:=Cg.bu (B:=w.heap.size) (T:=[]) (g:=X) b9;rw[if_pos h10,if_pos h10];refine qR [] 15 [0] λd1 a5 e7 D=>BD 51 [(0,pt nb 0),(12,.agg #[iv (p.bw.cF 0:Int),iv (p.bw.cF 1:Int),iv (p.bw.cF 2:Int),iv (p.bw.cF 3:Int),iv (p.bw.cF 4:Int)]),(13,iv 0)] [false,false] [] (λk W Y e L=>∃ k0:Nat,k=5-k0/\k0<=5/\e=[(0,pt nb 0),(12,.agg #[iv (p.bw.cF 0:Int),iv (p.bw.cF 1:Int),iv (p.bw.cF 2:Int),iv (p.bw.cF 3:Int),iv (p.bw.cF 4:Int)]),(13,iv (k0:Int))]/\L=[]/\NS i nb ob W Y (Id p i k0) (ls++DQ p i k0) ts/\Cg w.heap.size (TN i) g w W Y) (by kernel_rfl) (by kernel_rfl) (by kernel_rfl) (by kernel_rfl) 5 (λK=>?_) ?_
  .have C11:=(c1.n c9).n D;exact⟨0,rfl,by omega,rfl,rfl,(by rw[UD,show ls++DQ p i 0=ls from iZ _];exact(nsC R S C11 K)),(((c1.nil (TN i)).n c9).n D)⟩
  .rintro k gr wr _ zr _ ⟨k0,rfl,hk0,rfl,rfl,hM,hC⟩ J hJ;obtain⟨Z,d0,e6,d,j,c7⟩:=hM;have c8:=SQ p i k0;refine qN d (qO j ?_);have c6:Z.ae.n=p.ae.length:=d.ae.num;refine qR [] 5 [] λd2 a6 e8 a=>?_;by_cases h2:k0<5
   .refine qI ((decide ((k0:Int)<5))) true (I' (by omega)) (qR [] 6 [] λd3 a7 e9 b=>?_);refine Zf 1 (iv (p.bw.cF k0:Int)) (λK=>(by rcases mj h2 with rfl|rfl|rfl|rfl|rfl<;>kernel_rfl)) (by kernel_rfl) ?_;refine qR [] 10 [0] λd4 a8 f0 c=>?_;by_cases h3:k0≠i
    .refine qV 5 (.bool true) (DL (t:=3) (m:=(k0:Int)) (n:=(i:Int)) (x:=(.tmp 17)) (y:=(.tmp 21)) (by simp;omega)) (qR [] 11 [0] λd5 a9 f1 q=>?_);by_cases h4:(p.bw.cF k0:Int)<(Z.ae.n:Int)
     .have hx:RN p i k0=true:=I' ⟨by omega,by omega⟩;refine qI ((decide ((p.bw.cF k0:Int)<(Z.ae.n:Int)))) true (I' (by omega)) (qR [] 5 [] λd6 b0 f2 E=>qS 3 [false,false] d j ((((a.n b).n c).n q).n E) (λa0=>Ie a0 (by rw[G'];omega) k0 (p.bw.cF k0) (by show _<=p.ae.length;omega)) λb1 f3 o s u r U a1=>qR [] 14 [13,0,2,4,6,8,10,12,0,14,16,18,20,22] λd7 a3 a4 F=>?_);have V:o.ae.n=p.ae.length:=r.ae.num;refine BK 51 (λW Y e L=>e=[(0,pt nb 0),(12,.agg #[iv (p.bw.cF 0:Int),iv (p.bw.cF 1:Int),iv (p.bw.cF 2:Int),iv (p.bw.cF 3:Int),iv (p.bw.cF 4:Int)]),(13,iv (k0:Int))]/\L=[⟨nb,.cells (Az i ob ({ p with bw:={ p.bw with cF:=upN (JB p i k0) k0 o.ae.n } }) o) 109,.n 0 i,false⟩,⟨ob,.cells #[S3.v s,S3.v u] 86,.n 50 0,false⟩]/\True/\Cg w.heap.size ([.n 0 i]:List Tg) a3 a4 W Y) (by kernel_rfl) ?_ ?_
      .intro J hJ;rcases mj h2 with rfl|rfl|rfl|rfl|rfl <;>
       (refine qR [.n 0 i] 3 [24,27,0,1] λd8 b3 f5 a2=>?_;exact qB [true,true] λz A K=>hJ _ _ _ z _ ⟨rfl,rfl,trivial,a2⟩ K)
      rintro b2 f4 _ g4 _ ⟨rfl,rfl,_,G⟩;refine qR [] 2 [] λd9 b5 f6 H=>qV 0 (iv ((k0:Int)+1)) (AD 13 (k0:Int) underlying3 (by omega)) (qR [] 2 [] λe0 b6 f7 I=>qB [false,false] λz A K=>hJ (5-(k0+1)) _ _ _ z _ (by omega) ⟨k0+1,rfl,by omega,rfl,rfl,?_,((((((((((hC.n a).n b).n c).n q).n E).trans a1).n F).trans (G.mono (by simp[TN]))).n H).n I)⟩ K);have C:=(((F.nil ([.n 0 i]:List Tg)).trans (G)).n H).n I;rw[show Id p i (k0+1)={ p with bw:={ p.bw with cF:=upN (JB p i k0) k0 o.ae.n } }from by unfold Id;rw[<- Yf hx,V],show ls++DQ p i (k0+1)=(ls++DQ p i k0++[{ Cn 5 with src:=i,dst:=k0,au:=p.bw.cF k0,fa:=p.ae.drop (p.bw.cF k0) }])from by show ls++(DQ p i k0++_)=_;rw[hx,if_pos rfl,iB]];exact⟨o,s,u,A.ny 0 r C,U.ch C (hn:=by simp<;>omega),A.new⟩
     .have hx:RN p i k0=false:=D' (λh=>h4 (by omega));refine qI ((decide ((p.bw.cF k0:Int)<(Z.ae.n:Int)))) false (D' (by omega)) (qR [] 3 [] λe1 b7 f8 M=>qV 0 (iv ((k0:Int)+1)) (AD 13 (k0:Int) underlying3 (by omega)) (qR [] 2 [] λe2 b8 f9 N=>qB [false,false] λz A K=>hJ (5-(k0+1)) _ _ _ z _ (by omega) ⟨k0+1,rfl,by omega,rfl,rfl,?_,((((((hC.n a).n b).n c).n q).n M).n N)⟩ K));rw[show Id p i (k0+1)={ p with bw:={ p.bw with cF:=JB p i k0 } }from by unfold Id;rw[SR hx],show ls++DQ p i (k0+1)=ls++DQ p i k0 from by show ls++(DQ p i k0++_)=_;rw[hx];simp];exact(nsC d j (((((a.n b).n c).n q).n M).n N) A)
    .have hx:RN p i k0=false:=D' (λh=>h.1 (by omega));refine qV 5 (.bool false) (DL (t:=3) (m:=(k0:Int)) (n:=(i:Int)) (x:=(.tmp 17)) (y:=(.tmp 21)) (by simp;omega)) (qR [] 15 [] λe3 c0 g0 O=>qV 0 (iv ((k0:Int)+1)) (AD 13 (k0:Int) underlying3 (by omega)) (qR [] 2 [] λe4 c2 g2 P=>qB [false,false] λz A K=>hJ (5-(k0+1)) _ _ _ z _ (by omega) ⟨k0+1,rfl,by omega,rfl,rfl,?_,(((((hC.n a).n b).n c).n O).n P)⟩ K));rw[show Id p i (k0+1)={ p with bw:={ p.bw with cF:=JB p i k0 } }from by unfold Id;rw[SR hx],show ls++DQ p i (k0+1)=ls++DQ p i k0 from by show ls++(DQ p i k0++_)=_;rw[hx];simp];exact(nsC d j ((((a.n b).n c).n O).n P) A)
   .refine qI ((decide ((k0:Int)<5))) false (D' (by omega)) (qR [] 1 [] λe5 c3 g3 Q=>?_);obtain rfl:k0=5:=by omega
    exact qF d j (a.n Q) ((hC.n a).n Q)
end
end
section
section
def Bu(l:List Vt):Prop:=B2 l/\∀ v∈l,0<=v.au/\v.au<=39
theorem Xz(l:List Vt)(a:Int)(h:B2 l)(b:∀ v∈l,a<=v.au/\v.au<=39):l.length<=(40-a).toNat:=by
 induction l generalizing a with
 | nil=>exact iR _
 | cons u l ih =>
  obtain⟨d,e⟩:=h;have f:=b u U';have:=ih (u.au+1) e λv c=>⟨by have:=d v c;omega,(b v (Q' _ c)).2⟩;rw[iX];omega
variable{a:Acc}{b:Bal}{l:List Vt}{v:Vt}
theorem Bu.len(h:Bu l):l.length<=40:=Xz l 0 h.1 h.2
theorem Bu.nil:Bu []:=⟨trivial,λv h=>by cases h⟩
theorem BI(h:Bb a v=0):Ak a/\Ai v/\¬ v.b.lt a.p:=by
 unfold Bb at h;by_cases c:Ak a
 .rw[if_neg (λg=>g c)]at h
  by_cases d:Ai v
  .rw[if_neg (λg=>g d)]at h
   by_cases e:v.b.lt a.p
   .rw[if_pos e]at h;cases h
   .exact⟨c,d,e⟩
  .rw[if_pos d]at h;cases h
 .rw[if_pos c]at h;cases h
theorem Gd(h:BY a b=0):Ak a/\Ad b/\¬ b.lt a.p:=by
 unfold BY at h;by_cases c:Ak a
 .rw[if_neg (λg=>g c)]at h
  by_cases d:Ad b
  .rw[if_neg (λg=>g d)]at h
   by_cases e:b.lt a.p
   .rw[if_pos e]at h;cases h
   .exact⟨c,d,e⟩
  .rw[if_pos d]at h;cases h
 .rw[if_pos c]at h;cases h
theorem F1(h:Bu l)(b:Ai v):Bu (Ba l v) :=
 ⟨Iw v h.1,λu a=>by
  rcases(DF h.1).1 a with rfl|⟨h2,_⟩
  .exact b.1
  .exact h.2 u h2⟩
theorem T9(a:Acc)(l:List Vt)(h:Bu a.vs):Bu (Gw a l).vs:=by
 induction l generalizing a with
 | nil=>exact h
 | cons v l ih =>
  rw[Gw];refine ih _ ?_;by_cases b:Bb a v=0
  .rw[if_pos b];show Bu (Ck a v);rw[(Lt b).2];exact F1 h (BI b).2.1
  .rw[if_neg b];exact h
def POk(k:Nat):Pend->Prop
 | .began b vs=>Bu vs
 | .prom to b vs=>to<5/\AL b/\Bu vs
 | .voted to v=>to<5
 | .ln to b=>to<5/\AL b
 | .prop v=>True
 | .askNews to=>to<5
 | .start=>True
 | .tell to au=>to<5/\au<=k
theorem POk.mono{k m:Nat}{q:Pend}(h:POk k q)(a:k<=m):POk m q:=by
 cases q<;>first|exact h|exact⟨h.1,iy h.2 a⟩
def Pend.wt:Pend->Nat
 | .began _ _=>4
 | .prop _=>4
 | .start=>4
 | _=>1
def At:List Pend->Nat
 | []=>0
 | q::l=>q.wt+At l
theorem EW(l:List Pend)(q:Pend):At (l++[q])=At l+q.wt:=by
 induction l with
 | nil=>simp[At]
 | cons x l ih=>simp only[List.cons_append,At,ih];omega
theorem D5(l:List Pend):l.length<=At l:=by
 induction l with
 | nil=>exact A' _
 | cons x l ih =>
  rw[At,iX];have:1<=x.wt:=by cases x<;>simp[Pend.wt]
  omega
structure NOk(n:Nat)(p:Nod):Prop where
 ag:p.ae.length<=40
 dn:p.done<=p.ae.length
 qu:p.bw.dW.length<=40
 wa:p.an.length<=n
 ask:∀ c,(p.cl c).isSome=true->c∈p.an
 ro:0<=p.dT/\p.dT<=65536
 vp:AL p.vo.p
 vs:Bu p.vo.vs
 he:∀ j,Bu (p.bw.br j).vs
 pe:∀ q∈p.bt,POk p.ae.length q
structure LOk(l:Let):Prop where
 kd:l.kind<7
 src:l.src<5
 dst:l.dst<5
 lr:AL l.lr
 vs:Bu l.kc
 wh:l.fa.length<=40
 sl:l.kind=5->l.au+l.fa.length<=40
theorem AL.b0:AL Bm:=.inr ⟨rfl,rfl⟩
theorem AL.nR(h:AL b):0<=b.r/\b.r<=65536/\0<=b.n/\b.n<=4:=by
 rcases h with⟨h1,h2⟩|⟨h1,h2⟩<;>omega
end
section
variable{n:Nat}{p:Nod}
theorem NOk.wait(h:NOk n p){q:Pend}(b:POk p.ae.length q):NOk n (p.wait q) :=
 { h with pe:=λr c=>(P'.1 c).elim (h.pe r) λa=>(N'.1 a)▸b }
theorem NOk.bn(h:NOk n p)(b:Bal):NOk n (p.bn b).1/\(p.bn b).1.bt=p.bt/\(p.bn b).1.ae=p.ae/\Bu (p.bn b).2.1/\((p.bn b).2.2=0->Ad b):=by
 unfold Nod.bn;by_cases a:BY p.vo b≠0
 .rw[if_pos a];exact⟨h,rfl,rfl,Bu.nil,λg=>absurd g a⟩
 .rw[if_neg a];have c:=Gd (jn a);by_cases f:b=p.vo.p
  .rw[if_pos f];exact⟨{ h with vp:=.inl c.2.1,vs:=h.vs },rfl,rfl,h.vs,λ_=>c.2.1⟩
  .rw[if_neg f];by_cases e:CT p.d p.sy (Ad b) (Bh b)≠0
   .rw[if_pos e];exact⟨h,rfl,rfl,Bu.nil,λg=>absurd g e⟩
   .rw[if_neg e];exact⟨{ h with vp:=.inl c.2.1,vs:=h.vs },rfl,rfl,h.vs,λ_=>c.2.1⟩
theorem NOk.cn(h:NOk n p)(v:Vt):NOk n (p.cn v).1/\(p.cn v).1.bt=p.bt/\(p.cn v).1.ae=p.ae/\(p.cn v).1.bw=p.bw:=by
 unfold Nod.cn;by_cases b:Bb p.vo v≠0
 .rw[if_pos b];exact⟨h,rfl,rfl,rfl⟩
 .rw[if_neg b];have a:=BI (jn b);by_cases c:v∈p.vo.vs
  .rw[if_pos c];exact⟨{ h with vp:=.inl a.2.1.2.1,vs:=F1 h.vs a.2.1 },rfl,rfl,rfl⟩
  .rw[if_neg c];by_cases e:CT p.d p.sy (Ai v) (AX v)≠0
   .rw[if_pos e];exact⟨h,rfl,rfl,rfl⟩
   .rw[if_neg e];exact⟨{ h with vp:=.inl a.2.1.2.1,vs:=F1 h.vs a.2.1 },rfl,rfl,rfl⟩
theorem NOk.ln(h:NOk n p){a:Nat}(b:a<5)(e:Int):NOk n (p.ln a e)/\(p.ln a e).ae=p.ae/\At (p.ln a e).bt<=At p.bt+1:=by
 unfold Nod.ln;split
 .exact⟨h.wait ⟨b,h.vp⟩,rfl,by show At (p.bt++[_])<=_;rw[EW];exact A' _⟩
 .exact⟨h,rfl,jr _⟩
theorem ZC(k:Nat)(r:Rnd)(l:List Cmd)(h:l.length<=40):(K8 k r l).length<=40/\l.length<=(K8 k r l).length:=by
 induction k generalizing l with
 | zero=>exact⟨h,A' _⟩
 | succ k ih =>
  rw[K8];split
  .rename_i h1
   have a:=Vr h1;have:=ih (l++[CE r.me (l.length:Int)]) (by simp;omega);simp at this;exact⟨this.1,by omega⟩
  .exact⟨h,A' _⟩
theorem NOk.grow(h:NOk n p){l:List Cmd}(b:l.length<=40)(a:p.ae.length<=l.length):NOk n { p with ae:=l } :=
 { h with ag:=b,dn:=iy h.dn a,pe:=λq c=>(h.pe q c).mono a }
theorem NOk.ml(h:NOk n p):NOk n p.ml/\p.ml.bt=p.bt/\p.ae.length<=p.ml.ae.length :=
 have:=ZC 41 p.bw p.ae h.ag
 ⟨h.grow this.1 this.2,rfl,this.2⟩
theorem NOk.hZ(h:NOk n p){au:Nat}{fa:List Cmd}(a:au<=p.ae.length)(b:au+fa.length<=40):NOk n (p.hZ au fa)/\(p.hZ au fa).bt=p.bt/\p.ae.length<=(p.hZ au fa).ae.length:=by
 have c:=h.ag;refine⟨h.grow ?_ ?_,rfl,?_⟩
 .rw[G',iA];omega
 .rw[G'];omega
 .show _<=(p.ae++_).length;rw[G'];omega
theorem Yj{α:Type}{f:Nat->α}{P:α->Prop}(h:∀ j,P (f j))(i:Nat){x:α}(a:P x):∀ j,P (upN f i x j):=by
 intro j;unfold upN;split
 .exact a
 .exact h j
theorem NOk.mE(h:NOk n p)(j:Nat){vs:List Vt}(b:Bu vs):NOk n { p with bw:=p.bw.mE j vs } :=
 { h with qu:=h.qu,he:=Yj (P:=λa:Acc=>Bu a.vs) h.he j (T9 _ _ b) }
theorem NOk.count(h:NOk n p)(j:Nat)(v:Vt):NOk n (p.count j v)/\(p.count j v).bt=p.bt/\p.ae.length<=(p.count j v).ae.length:=by
 unfold Nod.count;by_cases d:v.b≠p.bw.lr
 .rw[if_pos d];exact⟨h,rfl,A' _⟩
 .rw[if_neg d];by_cases c:Bb (p.bw.br j) v≠0
  .rw[if_pos c];exact⟨h,rfl,A' _⟩
  .rw[if_neg c];have e:=jn c;have:NOk n { p with bw:={ p.bw with br:=upN p.bw.br j ⟨BU (p.bw.br j) v,Ck (p.bw.br j) v⟩ } } :=
    { h with qu:=h.qu,he:=Yj (P:=λa:Acc=>Bu a.vs) h.he j (by show Bu (Ck _ v);rw[(Lt e).2];exact F1 (h.he j) (BI e).2.1) }
   exact this.ml
theorem NOk.gC(h:NOk n p)(l:List Cmd):NOk n (p.gC l)/\(p.gC l).bt=p.bt/\(p.gC l).ae=p.ae:=by
 unfold Nod.gC;split
 .exact⟨{ h with qu:=YT _ _ h.qu,he:=h.he },rfl,rfl⟩
 .exact⟨h,rfl,rfl⟩
theorem NOk.take(h:NOk n p){l:Let}(a:LOk l):NOk n (p.take l)/\At (p.take l).bt<=At p.bt+1/\p.ae.length<=(p.take l).ae.length:=by
 have g:=h.ag;unfold Nod.take;have b:∀ {P:Nod} {q:Pend},P.bt=p.bt->q.wt=1->At (P.wait q).bt<=At p.bt+1:=λ{P q} e d=>by
  show At (P.bt++[q])<=_;rw[EW,e,d];exact A' _
 split
 .have hp:=h.bn l.lr;split
  .have:=h.ln a.src (p.bn l.lr).2.2;exact⟨this.1,this.2.2,by rw[this.2.1];exact A' _⟩
  .rename_i h1
   exact⟨hp.1.wait ⟨a.src,.inl (hp.2.2.2.2 (jn h1)),hp.2.2.2.1⟩,b hp.2.1 rfl,by show _<=(p.bn l.lr).1.ae.length;rw[hp.2.2.1];exact A' _⟩
 .have hk:=h.hZ (au:=0) (fa:=l.fa) (iR _) (by have:=a.wh;omega);simp only;split
  .exact⟨hk.1,by rw[hk.2.1];omega,hk.2.2⟩
  .have h2:=hk.1.mE l.src (vs:=l.kc) a.vs;have f:NOk n { p.hZ 0 l.fa with bw:={ (p.hZ 0 l.fa).bw.mE l.src l.kc with cF:=upN (p.hZ 0 l.fa).bw.cF l.src l.fa.length } }:={ h2 with qu:=h2.qu,he:=h2.he };have c:=f.ml;exact⟨c.1,by rw[c.2.1];show At (p.hZ 0 l.fa).bt<=_;rw[hk.2.1];omega,iy hk.2.2 c.2.2⟩
 .have hr:=h.ro;have i:=a.lr.nR;exact⟨{ h with ro:=by show 0<=max p.dT l.lr.r/\max p.dT l.lr.r<=65536;omega },jr _,A' _⟩
 .have hp:=h.cn l.cn;split
  .have:=h.ln a.src (p.cn l.cn).2;exact⟨this.1,this.2.2,by rw[this.2.1];exact A' _⟩
  .exact⟨hp.1.wait a.src,b hp.2.1 rfl,by show _<=(p.cn l.cn).1.ae.length;rw[hp.2.2.1];exact A' _⟩
 .have:=h.count l.src l.cn;exact⟨this.1,by rw[this.2.1];omega,this.2.2⟩
 .rename_i hk
  split
  .exact⟨h.wait a.src,b rfl rfl,A' _⟩
  .have:=h.hZ (au:=l.au) (fa:=l.fa) (by omega) (a.sl hk);exact⟨this.1,by rw[this.2.1];omega,this.2.2⟩
 .have he:=h.gC l.fa;simp only;split
  .rename_i h1
   exact⟨he.1.wait ⟨a.src,jZ h1⟩,b he.2.1 rfl,by show _<=(p.gC l.fa).ae.length;rw[he.2.2];exact A' _⟩
  .exact⟨he.1,by rw[he.2.1];omega,by rw[he.2.2];exact A' _⟩
 .exact⟨h,jr _,A' _⟩
end
end
section
open Go.RowKit
section
def Fz(l:List Int)(n:Nat):List Int:=l++List.replicate (n-l.length) 0
def Hi(l:List Int):List Int:=if 64<l.length then dig l else l
def fk(l:List Int):List Int:=Fz (Hi l) 64
def AY(k:List Int)(m:Int):List Int:=k.map λx=>bits .xor .u8 x m
def DR(key b:List Int):List Int:=dig (AY (fk key) 92++dig (AY (fk key) 54++b))
theorem LF(l:List Int)(n:Nat)(h:l.length<=n):(Fz l n).length=n:=by simp[Fz];omega
variable{l:List Int}{n:Nat}{w:World}
theorem OB(h:∀ x∈l,0<=x/\x<256)(n:Nat):∀ x∈Fz l n,0<=x/\x<256:=by
 intro x a;rcases P'.1 a with h1|h1
 .exact h x h1
 .rw[List.eq_of_mem_replicate h1];omega
theorem Nq(l:List Int):(Hi l).length<=64:=by
 unfold Hi;split
 .rw[Ao];omega
 .omega
theorem QO(h:∀ x∈l,0<=x/\x<256):∀ x∈Hi l,0<=x/\x<256:=by
 unfold Hi;split
 .exact CG l
 .exact h
theorem Ez(l:List Int):(fk l).length=64:=LF _ _ (Nq l)
theorem YY(h:∀ x∈l,0<=x/\x<256):∀ x∈fk l,0<=x/\x<256:=OB (QO h) 64
theorem EO(l:List Int)(m:Int):(AY l m).length=l.length:=by simp[AY]
theorem K9(h:∀ x∈l,0<=x/\x<256){m:Int}(b:0<=m/\m<256):∀ x∈AY l m,0<=x/\x<256:=by
 intro x c;obtain⟨y,d,rfl⟩:=i7.1 c;have a:=h y d;rw[u8_xor _ _ a.1 a.2 b.1 b.2];have:y.toNat ^^^ m.toNat<256:=kt (n:=8) (by omega) (by omega);omega
theorem Dl(k b:List Int):(DR k b).length=32:=rfl
theorem M0(k b:List Int):∀ x∈DR k b,0<=x/\x<256:=CG _
theorem Mu:(prog.info? 5).map (·.size)=some 1:=by kernel_rfl
theorem Jk(l:List Int):splice ((List.replicate 64 (0:Int)).map (Value.int .u8)) 0 (l.map (Value.int .u8))=(Fz l 64).map (Value.int .u8):=by
 have e:(List.replicate 64 (0:Int)).map (Value.int .u8)=List.replicate 64 (Value.int .u8 0):=ku;rw[e];simp only[splice,Fz,jB,jJ,iQ,i5,List.drop_replicate,iL,ku]
theorem Ik{P:Program}{e:Array Oper}{b:List Oper}{o:Oper}{a:Act}{Q:Exit->Act->World->Prop}(i:o.guard=none)(j:TypeId)(x y:Operand)(q:o.op=.store j x y)(g:Nat)(cells:Array Value)(r:a.eval x=.pointer (some ⟨g,0,none⟩))(s:a.eval y=.agg cells)(t:TypeId)(c:Array Value)(k:w.heap[g]?=some (.cells c t (0,0)))(p:(P.info? j).map (·.size)=some cells.size)(d:c.size=cells.size)(m:cells.all (·.oneCell')=true)(B:Nat)(l:World)(n:Below B l w)(f:B<=g)(h:∀ w',w'.heap[g]?=some (.cells cells t (0,0))->Below B l w'->wpList P e Q b (a.put o.dst undef) w'):wpList P e Q (o::b) a w :=
 wpList_store_row i j x y q g cells r s t c k p d m (h _ (setRow_heap w g _ _ t _ k) (Bv n f _))
theorem Sl.mW{i:Option Addr}{c:Nat}(h:Sl w (.slice i n c) l)(q:0<l.length):∃ ad,i=some ad/\∀ (j:Nat) (v:Value),(l.map (Value.int .u8))[j]?=some v->w.cell? (ad.add j)=some v:=by
 obtain⟨⟨a,k,e,r,s,m⟩,p,o⟩:=h;simp only[Value.slice.injEq]at e;obtain⟨rfl,rfl,rfl⟩:=e;rcases m with rfl|⟨b,off,rfl,_,hcell⟩
 .simp at q
 .refine⟨_,rfl,λj v g=>?_⟩;have d:j<l.length:=by
   have:=(O'.1 g).1;simpa using this
  have f:(⟨b,off,none⟩:Addr).add j=⟨b,off+j,none⟩:=by unfold Addr.add;split<;>simp_all
  rw[f,hcell j d];simp[List.getElem?_eq_getElem d]at g
  rw[AN d,g]
theorem OD(v:Value)(l:List Int)(w:World)(h:Sl w v l)(K:l.length<=100000)(N:Av w) :
  Calls prog 156 #[v] w λe w'=>e=.returned (.agg (AK (fk l)))/\Bw w w':=by
 have F:=h;obtain⟨⟨a,H,rfl,Q,R,D⟩,L,z⟩:=h;have P:Hid _:=D;have c:(prog.info? 245).map (·.size)=some (AK (fk l)).size:=by rw[Ay,Ez];kernel_rfl
 clear D z;by_cases E:64<l.length
 .have ek:Hi l=dig l:=by unfold Hi;rw[if_pos E]
  have y:Hid (fk l=Fz (dig l) 64):=by unfold Hid fk;rw[ek]
  clear ek;go_enter func156,ntmps156
  go_wp2_with fail
  generalize i:w.alloc _=W0;have d:Bw w W0:=by rw[<- i];exact(Below.refl _ _).alloc (A' _) _
  have u:W0.heap[w.heap.size]?=some (.cells (AK (List.replicate 64 0)) 245 (0,0)):=by rw[<- i];exact heap_alloc_new _ _
  have C:W0.heap.size=w.heap.size+1:=by rw[<- i];simp
  clear i;refine(DD _ l W0 (F.ab d) K (N.ab d)).mono ?_;rintro e j ⟨S,rfl,o,m⟩;obtain⟨I,c1,O,A,B,J,n,_⟩:=DJ o (ER (Ao l));subst O;have p:j.heap[w.heap.size]?=some (.cells (AK (List.replicate 64 0)) 245 (0,0)):=(m.block _ (by omega)).trans u;have t:Bw w j:=d.trans (m.mono d.size);have x:w.heap.size<j.heap.size:=(H'.1 p).1;have G:Sl j (.slice (some ⟨I,0,none⟩) (dig l).length c1) (dig l):=Sl.jv o (by rw[Ao];omega) (CG l);go_wp2_with (refine wpList_copy_splice rfl _ _ 50 50 rfl 5 underlying50 Mu _ _ _ _ _ _ rfl rfl j.heap.size 0 ((List.replicate 64 (0:Int)).map (Value.int .u8)) 245 (heap_alloc_new _ _) ((dig l).map (Value.int .u8)) (by rw[iQ,Ao];rfl) (λ_=>⟨rfl,(G.ab ((Below.refl _ _).alloc (A' _) _)).mW (by rw[Ao];omega)⟩) (by rw[iQ,Ao];simp) (E3 _) j.heap.size _ (Below.refl _ _) (A' _) ?_)
  intro g r b;have q:g.heap[j.heap.size]?=some (.cells (AK (fk l)) 245 (0,0)):=by
   have s:g.heap[j.heap.size]?=some (.cells (splice ((List.replicate 64 (0:Int)).map (Value.int .u8)) 0 ((dig l).map (Value.int .u8))).toArray 245 (0,0)):=r.out;rw[Jk]at s
   rw[y.out];exact s
  have k:Bw w g:=(t.alloc t.size _).trans (b.mono (by omega));have f:g.heap[w.heap.size]?=some (.cells (AK (List.replicate 64 0)) 245 (0,0)):=by
   rw[b.block _ x,heap_alloc_old _ _ x];exact p
  clear r b p u C d m n o G B A;go_wp2_with (first|(refine wpList_load_row rfl 245 _ rfl j.heap.size rfl 245 _ (0,0) _ q underlying245 rfl c ?_)|(refine wpList_store_row rfl 245 _ _ rfl w.heap.size _ rfl rfl 245 _ f c (by rw[Ay,Ay,Ez];rfl) (Ka _) ?_))
  refine bodyPost_ret (v:=.agg (AK (fk l))) (results_cell_row rfl _ _ w.heap.size 245 _ (0,0) _ rfl (setRow_heap g w.heap.size _ _ 245 _ f) underlying245 rfl c) rfl ⟨rfl,Bv k (A' _) _⟩
 .have ek:Hi l=l:=by unfold Hi;rw[if_neg E]
  have y:Hid (fk l=Fz l 64):=by unfold Hid fk;rw[ek]
  clear ek;go_enter func156,ntmps156
  go_wp2_with (refine wpList_copy_splice rfl _ _ 50 50 rfl 5 underlying50 Mu _ _ _ _ _ _ rfl rfl (w.heap.size+1) 0 ((List.replicate 64 (0:Int)).map (Value.int .u8)) 245 (heap_alloc2_new _ _ _) (l.map (Value.int .u8)) (by rw[iQ];exact(jw (show l.length<=64 by omega)).symm) (λM=>⟨rfl,(F.ab (((Below.refl _ _).alloc (A' _) _).alloc (by simp) _)).mW (by simpa using M)⟩) (by rw[iQ,iQ,jI];omega) (E3 _) (w.heap.size+1) _ (Below.refl _ _) (A' _) ?_)
  intro g r b;have q:g.heap[w.heap.size+1]?=some (.cells (AK (fk l)) 245 (0,0)):=by
   have s:g.heap[w.heap.size+1]?=some (.cells (splice ((List.replicate 64 (0:Int)).map (Value.int .u8)) 0 (l.map (Value.int .u8))).toArray 245 (0,0)):=r.out;rw[Jk]at s
   rw[y.out];exact s
  have k:Bw w g:=(((Below.refl _ _).alloc (A' _) _).alloc (by simp) _).trans (b.mono (by omega));have f:g.heap[w.heap.size]?=some (.cells (AK (List.replicate 64 0)) 245 (0,0)):=by
   rw[b.block _ (by omega)];exact heap_alloc2_old _ _ _
  clear r b;go_wp2_with (first|(refine wpList_load_row rfl 245 _ rfl (w.heap.size+1) rfl 245 _ (0,0) _ q underlying245 rfl c ?_)|(refine wpList_store_row rfl 245 _ _ rfl w.heap.size _ rfl rfl 245 _ f c (by rw[Ay,Ay,Ez];rfl) (Ka _) ?_))
  refine bodyPost_ret (v:=.agg (AK (fk l))) (results_cell_row rfl _ _ w.heap.size 245 _ (0,0) _ rfl (setRow_heap g w.heap.size _ _ 245 _ f) underlying245 rfl c) rfl ⟨rfl,Bv k (A' _) _⟩
theorem Zp(l:List Int)(d:l.length=64)(j:Nat)(c:j<64):∀ w,(Instr.index 245 (.agg (AK l)) (.int .i64 (j:Int))).run prog w=.ok (.int .u8 (l.getD j 0)) w:=by
 intro w;have b:(AK l)[j]?=some (.int .u8 (l.getD j 0)):=by
  simp[AK,List.getElem?_eq_getElem (show j<l.length by omega),List.getD]
 have a:(0:Int)<=j/\(j:Int)<64:=by omega
 simp[Instr.index,run_underlying underlying245,asIntOf,a,part,b];intro h;omega
theorem KA(k:List Int)(m:Int)(w:World)(q:k.length=64)(I:0<=m/\m<256)(K:∀ x∈k,0<=x/\x<256) :
  Calls prog 157 #[.agg (AK k),.int .u8 m] w λe w'=>∃ v',e=.returned v'/\w'.ownsRow w.heap.size 5 1 v' (AY k m).length ((AY k m).map (Value.int .u8))/\Bw w w':=by
 obtain⟨M,L,C,D,E⟩:=info_parts Aq;have B:(prog.info? 245).map (·.size)=some (AK k).size:=by rw[Ay,q];kernel_rfl
 have u:Hid (k.length=64):=q;clear q;go_enter func157,ntmps157
 go_wp2_with (at_make;refine wpList_make_own _ rfl _ _ 50 rfl w.heap.size 5 M (.int .u8 0) 1 underlying50 L C D _ _ _ 64 rfl rfl (by omega) (by rw[E];omega) (by unfold maxLen;omega) (by simp) ?_)
 intro F t h;have o:Bw w F:=((Below.refl _ _).alloc (A' _) _).grown h (by simp) (by simp);have g:F.heap[w.heap.size]?=some (.cells (AK k) 245 (0,0)):=by
  rw[h.block w.heap.size (by simp) (by simp)];exact heap_alloc_new _ _
 have f:F.ownsRow w.heap.size 5 1 (.slice (some ⟨w.heap.size+1,0,none⟩) 0 64) (AY (k.take 0) m).length ((AY (k.take 0) m).map (Value.int .u8)):=t;clear t h;go_wp2_with (refine wpList_load_row rfl 245 _ rfl w.heap.size rfl 245 _ (0,0) _ g underlying245 rfl B ?_)
 go_loopw [5,10] (λv i wr=>∃ j:Nat,j<=64/\i=.int .i64 j/\wr.ownsRow w.heap.size 5 1 v (AY (k.take j) m).length ((AY (k.take j) m).map (Value.int .u8))/\Bw w wr) (λ_ i _=>64-(intOf i).toNat)
 case atStart=>exact⟨0,by omega,rfl,f,o⟩
 case round =>
  clear f o g;obtain⟨j,N,rfl,a,b⟩:=hrel;have s:=a.lt;by_cases d:j<64
  .have hix:=Zp k u.out j d;have r:(AY (k.take j) m).length<=64:=by rw[EO,X'];omega
   have y:Hid (AY (k.take (j+1)) m=AY (k.take j) m++[bits .xor .u8 (k.getD j 0) m]):=by
    unfold Hid;have p:j<k.length:=by rw[u.out];exact d
    rw[iI p,AN p,AY,iL];rfl
   have c:=Ag K j;have l:0<=bits .xor .u8 (k.getD j 0) m/\bits .xor .u8 (k.getD j 0) m<256:=by
    rw[u8_xor _ _ c.1 c.2 I.1 I.2];have:(k.getD j 0).toNat ^^^ m.toNat<256:=kt (n:=8) (by omega) (by omega);omega
   have G:Hid (0<=bits .xor .u8 (k.getD j 0) m/\bits .xor .u8 (k.getD j 0) m<256):=l;generalize AY (k.take j) m=pre at a y r;generalize k.getD j 0=x at hix y c l G;clear l c;go_wp2_with (at_builtin;refine Aa _ rfl _ _ 50 rfl w.heap.size 5 underlying50 Aq _ _ rfl rfl pre _ (a.alloc _) (Sl.one _ _ _ rfl G.out) (by simp;omega) (by have:=b.size;simp;omega) ?_)
   intro v' w' J H;have A:w'.ownsRow w.heap.size 5 1 v' (pre++[bits .xor .u8 x m]).length ((pre++[bits .xor .u8 x m]).map (Value.int .u8)):=by simpa using J
   have z:Bw w w':=(b.alloc b.size _).grown H (by have:=b.size;simp;omega) (λk q=>(s k q).1);clear J H a s b;go_wp2
   go_roundw
   case rel=>exact⟨j+1,by omega,by go_num,by rw[y.out];exact A,z⟩
   case measure=>simp[intOf];omega
  .have HJ:Hid (k.take j=k):=by unfold Hid;exact iE (by rw[u.out];omega)
   go_wp2
   go_ret;refine⟨u5,rfl,?_,b⟩;rw[HJ.out]at a
   exact a
theorem Nu(vk vb:Value)(k b:List Int)(w:World)(C:Sl w vk k)(hb:Sl w vb b)(Z:k.length<=100000)(a3:b.length<=90000)(ht:Av w) :
  Calls prog 129 #[vk,vb] w λe w'=>∃ v',e=.returned v'/\Fresh w w' v' (DR k b):=by
 have n:(prog.info? 245).map (·.size)=some (AK (fk k)).size:=by rw[Ay,Ez];kernel_rfl
 have d:=YY C.byte;have c:=Ez k;have F:Hid (DR k b=dig (AY (fk k) 92++dig (AY (fk k) 54++b))):=rfl;go_enter func129,ntmps129
 go_wp2_with fail
 refine(OD vk k w C Z ht).mono ?_;rintro e R ⟨rfl,v⟩;generalize fk k=K at n d c F ⊢;go_wp2_with (refine Ik rfl 245 _ _ rfl R.heap.size _ rfl rfl 245 _ (heap_alloc_new _ _) n (by rw[Ay,c];rfl) (Ka _) w.heap.size w (v.alloc v.size _) v.size ?_)
 intro E g a;have hz:R.heap.size<E.heap.size:=(H'.1 g).1;go_wp2_with (refine wpList_load_row rfl 245 _ rfl R.heap.size rfl 245 _ (0,0) _ g underlying245 rfl n ?_)
 refine(KA K 54 E c (by omega) d).mono ?_;rintro e w3 ⟨v3,rfl,z,j⟩;have U:Bw w w3:=a.trans (j.mono a.size);have p:=z.lt;have s:(AY K 54).length=64:=by rw[EO,c]
 have t:(AY K 92).length=64:=by rw[EO,c]
 have G:=K9 d (m:=54) (by omega);have H:=K9 d (m:=92) (by omega);go_wp2_with (at_builtin;refine Aa _ rfl _ _ 50 rfl E.heap.size 5 underlying50 Aq _ _ rfl rfl (AY K 54) b z (hb.ab U) (by omega) j.size ?_)
 intro v4 S O M;have y:Bw E S:=j.grown M j.size (λk C=>(p k C).1);have V:Bw w S:=a.trans (y.mono a.size);have f:S.ownsRow E.heap.size 5 1 v4 (AY K 54++b).length ((AY K 54++b).map (Value.int .u8)):=by simpa[s]using O
 have I:∀ x∈AY K 54++b,0<=x/\x<256:=λx hx=>by
  rcases P'.1 hx with h|h
  .exact G x h
  .exact hb.byte x h
 have a1:(AY K 54++b).length<=91000:=by rw[G',s];omega
 clear O M z p;generalize AY K 54++b=L4 at f I a1 F;go_wp2_with fail
 refine(DD v4 L4 S (Sl.jv f (by omega) I) (by omega) (ht.ab V)).mono ?_;rintro e u ⟨v5,rfl,P,W⟩;have o:Bw E u:=y.trans (W.mono y.size);have s5:Sl u v5 (dig L4):=Sl.jv P (by rw[Ao];omega) (CG L4);have l5:=Ao L4;have y5:=CG L4;generalize dig L4=D at s5 F l5 y5;have B:u.heap[R.heap.size]?=some (.cells (AK K) 245 (0,0)):=(o.block _ hz).trans g;clear f P;go_wp2_with (refine wpList_load_row rfl 245 _ rfl R.heap.size rfl 245 _ (0,0) _ B underlying245 rfl n ?_)
 refine(KA K 92 u c (by omega) d).mono ?_;rintro e w6 ⟨v6,rfl,A,l⟩;have q:=A.lt;go_wp2_with (at_builtin;refine Aa _ rfl _ _ 50 rfl u.heap.size 5 underlying50 Aq _ _ rfl rfl (AY K 92) D A (s5.ab l) (by omega) l.size ?_)
 intro v7 T Q N;have X:Bw u T:=l.grown N l.size (λk C=>(q k C).1);have L:Bw w u:=a.trans (o.mono a.size);have i:Bw w T:=L.trans (X.mono L.size);have r:T.ownsRow u.heap.size 5 1 v7 (AY K 92++D).length ((AY K 92++D).map (Value.int .u8)):=by simpa[t,l5]using Q
 have J:∀ x∈AY K 92++D,0<=x/\x<256:=λx hx=>by
  rcases P'.1 hx with h|h
  .exact H x h
  .exact y5 x h
 have a2:(AY K 92++D).length<=96:=by rw[G',t];omega
 clear Q N A q;generalize AY K 92++D=L7 at r J a2 F;go_wp2_with fail
 refine(DD v7 L7 T (Sl.jv r (by omega) J) (by omega) (ht.ab i)).mono ?_;rintro e w8 ⟨v8,rfl,a0,Y⟩;go_wp2
 go_ret;refine⟨v8,rfl,?_⟩;rw[F.out];exact Fresh.jv (AH a0 i.size) (ER (Ao L7)) (by rw[Ao];omega) (CG L7) (i.trans (Y.mono i.size))
theorem co(m l:Value)(k b:List Int)(w:World)(i:Sl w m k)(h:Sl w l b)(q:k.length<=256)(o:b.length<=2000)(t:Av w) :
  Calls prog 127 #[m,l] w λe w'=>∃ v',e=.returned (.tuple #[v',.int .i64 0])/\Fresh w w' v' (DR k b):=by
 have s:=i;have f:=h;obtain⟨⟨a,n,rfl,_,_,_⟩,r,d⟩:=i;obtain⟨⟨v,g,rfl,_,_,_⟩,j,c⟩:=h;clear d c;go_enter func127,ntmps127
 go_wp2_with fail
 refine(Nu _ _ k b w s f (by omega) (by omega) t).mono ?_;rintro e x ⟨u,rfl,p⟩;go_wp2
 go_ret2
 exact⟨u,rfl,p⟩
theorem Ny(L M:Value)(a i:List Int)(c:Int)(w:World)(H:Sl w L a)(I:Sl w M i)(S:a.length<=1000)(U:i.length<=1000)(T:0<=c/\c<256) :
  Calls prog 155 #[L,M,.int .u8 c] w λe w'=>∃ v',e=.returned v'/\w'.ownsRow w.heap.size 5 1 v' (a++i++[c]).length ((a++i++[c]).map (Value.int .u8))/\Bw w w':=by
 obtain⟨X,A,D,E,F⟩:=info_parts Aq;have W:=H;have C:=I;obtain⟨⟨aa,R,rfl,_,_,_⟩,V,z⟩:=H;obtain⟨⟨a2,G,rfl,_,_,_⟩,J,n⟩:=I;clear z n;go_enter func155,ntmps155
 go_wp2_with (at_make;refine wpList_make_own _ rfl _ _ 50 rfl w.heap.size 5 X (.int .u8 0) 1 underlying50 A D E _ _ _ (a.length+i.length+1) rfl rfl (by omega) (by rw[F];omega) (by unfold maxLen;omega) (A' _) ?_)
 intro N s o;have b:Bw w N:=(Below.refl _ _).grown o (A' _) (by simp);have m:N.ownsRow w.heap.size 5 1 (.slice (some ⟨w.heap.size,0,none⟩) 0 (a.length+i.length+1)) ([]:List Int).length (([]:List Int).map (Value.int .u8)):=s;clear s o;go_wp2_with (at_builtin;refine Aa _ rfl _ _ 50 rfl w.heap.size 5 underlying50 Aq _ _ rfl rfl [] a m (W.ab b) (by simp;omega) b.size ?_)
 intro Y O t p;have g:O.ownsRow w.heap.size 5 1 Y a.length (a.map (Value.int .u8)):=by simpa using t
 have d:Bw w O:=b.grown p b.size (by simp[Value.ownBlock]);have j:=g.lt;clear m p b t;go_wp2_with (at_builtin;refine Aa _ rfl _ _ 50 rfl w.heap.size 5 underlying50 Aq _ _ rfl rfl a i g (C.ab d) (by omega) d.size ?_)
 intro Z P u q;have h:P.ownsRow w.heap.size 5 1 Z (a++i).length ((a++i).map (Value.int .u8)):=by simpa using u
 have f:Bw w P:=d.grown q d.size (λk B=>(j k B).1);have l:=h.lt;clear g q d u j;go_wp2_with (at_builtin;refine Aa _ rfl _ _ 50 rfl w.heap.size 5 underlying50 Aq _ _ rfl rfl (a++i) [c] (h.alloc _) (Sl.one _ _ _ rfl T) (by simp;omega) (by have:=f.size;simp;omega) ?_)
 intro K Q v r;have x:Q.ownsRow w.heap.size 5 1 K (a++i++[c]).length ((a++i++[c]).map (Value.int .u8)):=by simpa using v
 have y:Bw w Q:=(f.alloc f.size _).grown r (by have:=f.size;simp;omega) (λk B=>(l k B).1);clear h r f v l;go_wp2
 go_ret;exact⟨K,rfl,x,y⟩
theorem Sl.grown{m:World}{b c d:Nat}{row:Option Nat}(h:Sl w (.slice (some ⟨b,c,none⟩) n d) l)(k:w.grownBy m row)(j:some b≠row):Sl m (.slice (some ⟨b,c,none⟩) n d) l:=by
 obtain⟨⟨a,f,e,q,s,g⟩,o,p⟩:=h;refine⟨⟨a,f,e,q,s,?_⟩,o,p⟩;simp only[Value.slice.injEq]at e;obtain⟨rfl,_,_⟩:=e;rcases g with g|⟨b',off',e',hbs,hcell⟩
 .exact .inl g
 .simp only[V',Addr.mk.injEq,and_true]at e';obtain⟨rfl,rfl⟩:=e';refine .inr ⟨b,c,rfl,Y' hbs k.size,λi r=>?_⟩;rw[<- hcell i r];exact World.cell?_of_block (w:=w) (k.block b hbs j)
def blk(key info:List Int):Nat->List Int
 | 0=>[]
 | i+1=>DR key (blk key info i++info++[(i:Int)+1])
def AW(key info:List Int):Nat->List Int
 | 0=>[]
 | i+1=>AW key info i++blk key info (i+1)
def Fx(key info:List Int)(n:Nat):List Int:=(AW key info 16).take n
theorem GA(key a:List Int)(i:Nat):(blk key a (i+1)).length=32:=Dl _ _
theorem Vg(key a:List Int)(i:Nat):∀ x∈blk key a i,0<=x/\x<256:=by
 cases i with
 | zero=>intro x b;cases b
 | succ i=>exact M0 _ _
theorem cP(key a:List Int)(i:Nat):(blk key a i).length<=32:=by
 cases i with
 | zero=>simp[blk]
 | succ i=>rw[GA];omega
theorem Cp(key a:List Int)(i:Nat):(AW key a i).length=32*i:=by
 induction i with
 | zero=>rfl
 | succ i ih=>rw[AW,G',ih,GA];omega
theorem PC(key a:List Int)(i:Nat):∀ x∈AW key a i,0<=x/\x<256:=by
 induction i with
 | zero=>intro x b;cases b
 | succ i ih =>
  intro x b;rcases P'.1 b with h|h
  .exact ih x h
  .exact Vg key a (i+1) x h
theorem PD(key a:List Int)(n i j:Nat)(b:n<=32*i):(AW key a (i+j)).take n=(AW key a i).take n:=by
 induction j with
 | zero=>rfl
 | succ j ih=>rw[<- jg,AW,iY (by rw[Cp];omega),ih]
theorem Tu(key a:List Int)(n i:Nat):(AW key a (i+1)).take n=(AW key a i).take n++(blk key a (i+1)).take (n-32*i):=by
 rw[AW,List.take_append,Cp]
theorem Q5(vk vi:Value)(k i:List Int)(n:Nat)(w:World)(hk:Sl w vk k)(hi:Sl w vi i)(a9:k.length<=1000)(a8:i.length<=900)(hn:n<=512)(ht:Av w) :
  Calls prog 128 #[vk,vi,.int .i64 n] w λe w'=>∃ v',e=.returned v'/\w'.ownsRow w.heap.size 5 1 v' (Fx k i n).length ((Fx k i n).map (Value.int .u8))/\Bw w w':=by
 obtain⟨i0,Z,a2,a3,a4⟩:=info_parts Aq;go_enter func128,ntmps128
 go_wp2_with (at_make;refine wpList_make_own _ rfl _ _ 50 rfl w.heap.size 5 i0 (.int .u8 0) 1 underlying50 Z a2 a3 _ _ _ n rfl rfl (by omega) (by rw[a4];omega) (by unfold maxLen;omega) (A' _) ?_)
 intro w1 J I;have H:Bw w w1:=(Below.refl _ _).grown I (A' _) (by simp);have y:w1.ownsRow w.heap.size 5 1 (.slice (some ⟨w.heap.size,0,none⟩) 0 n) ((AW k i 0).take n).length (((AW k i 0).take n).map (Value.int .u8)):=by simpa[AW]using J
 clear J I;go_wp2_with fail
 go_loopw [7,8,9] (λv b c wr=>∃ j:Nat,j<=16/\c=.int .u8 ((j:Int)+1)/\(∃ m z,v=.slice (some ⟨m,0,none⟩) (min (32*j) n) z)/\Sl wr b (blk k i j)/\wr.ownsRow w.heap.size 5 1 v ((AW k i j).take n).length (((AW k i j).take n).map (Value.int .u8))/\Bw w wr) (λ_ _ c _=>(17-intOf c).toNat)
 case atStart=>exact⟨0,by omega,rfl,⟨w.heap.size,n,by simp⟩,Sl.nil _ _,y,H⟩
 case round =>
  clear y H;obtain⟨j,hj,rfl,⟨m,z,rfl⟩,sb,f,V⟩:=hrel;have B:=f.lt;by_cases hc:32*j<n
  .have d:min (32*j) n=32*j:=by omega
   rw[d]at f B ⊢
   have a0:m<wr.heap.size:=(B m rfl).2;have l:((AW k i j).take n).length=32*j:=by rw[X',Cp];omega
   have a7:=cP k i j;have a5:j<=15:=by omega
   have HB:Hid (blk k i (j+1)=DR k (blk k i j++i++[(j:Int)+1])):=rfl;have HS:=Tu k i n j;have E:Hid _:=HS;have yb:∀ x∈blk k i j++i++[(j:Int)+1],0<=x/\x<256:=λx hx=>by
    rcases P'.1 hx with h|h
    .rcases P'.1 h with h|h
     .exact sb.byte x h
     .exact hi.byte x h
    .obtain rfl:x=(j:Int)+1:=by simpa using h
     omega
   clear HS d;go_wp2_with fail
   refine(Ny _ vi (blk k i j) i ((j:Int)+1) wr sb (hi.ab V) (by omega) (by omega) (by omega)).mono ?_;rintro e w2 ⟨v2,rfl,K,a⟩;have s:Bw w w2:=V.trans (a.mono V.size);have l2:(blk k i j++i++[(j:Int)+1]).length<=2000:=by simp;omega
   have s2:=Sl.jv K (by omega) yb;go_wp2_with fail
   refine(Nu vk v2 k _ w2 (hk.ab s) s2 (by omega) (by omega) (ht.ab s)).mono ?_;rintro e R ⟨v3,rfl,F⟩;rw[<- HB.out]at F
   obtain⟨T,S,N,_,Y⟩:=F.shape;have s3:=F.sl;have o:=F.mu;have l3:=GA k i j;rw[l3]at N Y
   subst N;clear HB F s2 K l2 yb sb;have a1:=f;have g:R.ownsRow w.heap.size 5 1 (.slice (some ⟨m,0,none⟩) (32*j) z) ((AW k i j).take n).length (((AW k i j).take n).map (Value.int .u8)):=by
    refine f.kept (row:=none) ⟨(a.trans (o.mono a.size)).os,(a.trans (o.mono a.size)).tape,(a.trans (o.mono a.size)).output,(a.trans (o.mono a.size)).size,λq hq _=>(a.trans (o.mono a.size)).block q hq⟩ (.inr (by simp[Value.ownBlock]))
   have t:Bw w R:=s.trans (o.mono s.size);have p:=g.lt;have C:Hid ((AW k i (j+1)).take n=(AW k i j).take n++(blk k i (j+1)).take (n-32*j)):=E.out;clear E a1 f B;have U:((blk k i (j+1)).take (n-32*j)).length=min (n-32*j) 32:=by rw[X',l3]
   have sM:Sl R (.slice (some ⟨T,0,none⟩) (min (n-32*j) 32) S) ((blk k i (j+1)).take (n-32*j)):=by
    by_cases hq:n-32*j<=32
    .rw[jw hq];exact s3.take (n-32*j) (by omega)
    .rw[Nat.min_eq_right (by omega),iE (by omega)];exact s3
   have HN:=s3;have u:((AW k i (j+1)).take n).length=min (32*(j+1)) n:=by rw[X',Cp];omega
   have D:Hid (((AW k i (j+1)).take n).length=min (32*(j+1)) n):=u;clear HN u;generalize (blk k i (j+1)).take (n-32*j)=M at sM U C;generalize (AW k i j).take n=P at g p l C;have SB:Sl R (.slice (some ⟨T,0,none⟩) 32 S) (blk k i (j+1)):=s3;clear s3;have d:(min (32:Int) ((n:Int)-32*(j:Int))).toNat=min (n-32*j) 32:=by omega
   have Q:Sl R (.slice (some ⟨T,0,none⟩) (min (32:Int) ((n:Int)-32*(j:Int))).toNat S) M:=by rw[d];exact sM
   have a6:m<w2.heap.size:=Y' a0 a.size;clear d sM;go_wp2_with (at_builtin;refine Aa _ rfl _ _ 50 rfl w.heap.size 5 underlying50 Aq _ _ rfl rfl P M g Q (by omega) t.size ?_)
   intro v4 w4 L A;have r:w4.ownsRow w.heap.size 5 1 v4 (P++M).length ((P++M).map (Value.int .u8)):=by simpa[l,U]using L
   have X:Bw w w4:=t.grown A t.size (λk hk=>(p k hk).1);have W:Sl w4 (.slice (some ⟨T,0,none⟩) 32 S) (blk k i (j+1)):=SB.grown A (by simp[Value.ownBlock];omega);obtain⟨g4,c4,O,_,_,_,_,_⟩:=DJ r (by intro e;have:=congrArg List.length e;rw[G',l,U]at this;simp at this;omega);have G:(P++M).length=min (32*(j+1)) n:=by rw[<- C.out];exact D.out
   rw[<- C.out]at r
   rw[G]at O
   subst O;clear L A g p t SB Q U C D G l;go_wp2
   go_roundw
   case rel=>exact⟨j+1,by omega,by go_num,⟨g4,c4,rfl⟩,W,r,X⟩
   case measure=>simp[intOf];omega
  .have d:min (32*j) n=n:=by omega
   rw[d]at f ⊢
   have HQ:Hid (Fx k i n=(AW k i j).take n):=by
    unfold Hid Fx;have:=PD k i n j (16-j) (by omega);rw[show j+(16-j)=16 by omega]at this
    exact this
   go_wp2
   go_ret;refine⟨_,rfl,?_,V⟩;rw[HQ.out];exact f
theorem Hc(k i:List Int)(n:Nat)(h:n<=512):(Fx k i n).length=n:=by
 unfold Fx;rw[X',Cp];omega
theorem Km(k i:List Int)(n:Nat):∀ x∈Fx k i n,0<=x/\x<256:=λx a=>PC k i 16 x (iJ a)
theorem RT(o f g:Value)(a b d:List Int)(n:Nat)(w:World)(j:Sl w o a)(k:Sl w f b)(l:Sl w g d)(p:a.length<=256)(q:b.length<=256)(r:d.length<=256)(s:n<=512)(m:Av w) :
  Calls prog 92 #[o,f,g,.int .i64 n] w λe w'=>∃ v',e=.returned (.tuple #[v',.int .i64 0])/\w'.ownsRow w.heap.size 5 1 v' (Fx (DR b a) d n).length ((Fx (DR b a) d n).map (Value.int .u8))/\Bw w w':=by
 have s0:=j;have t:=k;have u:=l;obtain⟨⟨a0,c0,rfl,_,_,_⟩,_,_⟩:=j;obtain⟨⟨x,c1,rfl,_,_,_⟩,_,_⟩:=k;obtain⟨⟨y,z,rfl,_,_,_⟩,_,_⟩:=l;have A:decide ((256:Int)<(a.length:Int))=false:=by simp;omega
 have B:decide ((256:Int)<(b.length:Int))=false:=by simp;omega
 have C:decide ((256:Int)<(d.length:Int))=false:=by simp;omega
 have D:decide ((n:Int)<0)=false:=by simp
 have E:decide ((512:Int)<(n:Int))=false:=by simp;omega
 go_enter func92,ntmps92
 go_wp2_with fail
 refine(Nu _ _ b a w t s0 (by omega) (by omega) m).mono ?_;rintro e v ⟨f,rfl,c⟩;have F:=Dl b a;go_wp2_with fail
 refine(Q5 f _ (DR b a) d n v c.sl (u.ab c.mu) (by omega) (by omega) s (m.ab c.mu)).mono ?_;rintro e G ⟨g,rfl,i,h⟩;go_wp2
 go_ret2
 exact⟨g,rfl,AH i c.mu.size,c.mu.trans (h.mono c.mu.size)⟩
def Gk(c:Int):List Int:=Fx (DR [99,108,105,101,110,116] [c]) [] 32
def Gj:List Int:=Fx (DR [105,115,115,117,101,114] [255]) [] 32
theorem F4(c:Int):(Gk c).length=32:=Hc _ _ 32 (by omega)
theorem IU:Gj.length=32:=Hc _ _ 32 (by omega)
theorem TG(c:Int):∀ x∈Gk c,0<=x/\x<256:=Km _ _ _
theorem TC:∀ x∈Gj,0<=x/\x<256:=Km _ _ _
theorem Sl.nO(w:World)(l:List Int)(e:TypeId)(fr:Nat × Nat){g:Nat}(b:g=w.heap.size)(d:l.length=6)(a:∀ x∈l,0<=x/\x<256):Sl (w.alloc (.cells (l.map (Value.int .u8)).toArray e fr)) (.slice (some ⟨g,0,none⟩) 6 6) l:=by
 subst b;refine⟨⟨_,6,by rw[d],by omega,by simp,.inr ⟨w.heap.size,0,rfl,by simp,λi c=>?_⟩⟩,by omega,a⟩;rw[cell_of_row _ _ (0+i) _ _ _ (heap_alloc_new w _)];simp[List.getElem?_eq_getElem c,List.getD]
end
end
end Go.Proofs.YtdjfdfpkkenjbaaGreatDoor
