/- Part 7 of the walk. -/
import Derived.LoopN
import Derived.Lib.SmallJoins
import Derived.Test.YtgbabbapcibnlabGreatDoorZ6
set_option maxRecDepth 100000
set_option maxHeartbeats 4000000
open Go.Proofs.Tryz
set_option linter.unusedVariables false
namespace Go.Proofs.YtgbabbapcibnlabGreatDoor
section
open Go.RowKit
section
variable{P:Program}{fn:Func}{R:Ending->World->Prop}{B:Nat}{T:List Tg}{g:Gh}{w:World}
theorem fh{s:Xs}(k n:Nat)(a:List (Nat × Value))(m:List Bool)(i:List Sh)(o:Sn s.K=true)(q:s.f.n=n)(y:a.map (λp=>lk s.f.z s.f.e p.1)=a.map (·.2))(u:BM (AF m s.L)=i)
  (h:∀ J:Nat->Act->World->Prop,(∀ (m:Nat) (e:List (Nat × Value)) (z:Nat->Value) (L:List Sh) (g:Gh) (w:World),GG P fn R B T (dS s n (J m) e z L) g w->Kn B g w L->J (m+1) (⟨n,e,z⟩:Fm).act w)->∀ z,GG P fn R B T (dS s n (J k) a z i) g w):GG P fn R B T s g w:=by
 refine gFm a y λz=>?_;obtain⟨K,f,L⟩:=s;simp only at q;subst q;have j:BM (AF m L)=i:=u;have v:GG P fn R B T ⟨K,⟨f.n,a,z⟩,BM (AF m L)⟩ g w->GG P fn R B T ⟨K,⟨f.n,a,z⟩,L⟩ g w:=λh=>⟨λd=>h.ex (d.sub (CA m L)).sh⟩;refine v ?_;rw[j];cases K with
 | nil=>cases o
 | cons t K =>
  cases t with
  | c x =>
   cases x with
   | loop b =>
    refine⟨λd=>?_⟩;exact wp_loop_rounds (k+1) ((h (Code.rounds P b (Kq P (bodyPost P fn R) K)) (λm e z L g w r d=>r.ex d) z).ex d)
   | _=>cases o
  | _=>cases o
end
section
variable{W w:World}{d:List Int}{g:Gh}{i k nb ob:Nat}{ls:List Let}{p:Nod}{s:Int}{ts:List Tol}{vs:List Value}{x:S3}
theorem MR{v:Vt}(h:NS i nb ob g w p ls ts){D:World}(I:Base D g w)(J:Tabs D)(M:i<5)(K:ls.length<90000000){a d:Nat}(y:Box g w a #[pt nb 0] 70)(A:Box g w d #[iv v.bt,iv v.b.r,iv v.b.n,iv v.w.k,iv v.w.c,iv v.w.s,iv v.w.n,iv v.w.v] 140)(q:p.ae.length<=40) :
  Calls prog 106 #[pt a 0,pt d 0] w (NP i nb ob g w (.tuple #[]) (p.count i v) (ls++BT i { BC 3 with cl:=v } 5) ts):=by
 obtain⟨x,lt,Z,B,C,L⟩:=h;refine gI (fn:=f106) (TN i) g func106 L (qN B (qO C (Cl ⟨a,.cells #[pt nb 0] 70,.z,false⟩ (λ_=>⟨y.r,y.z,λh=>(by cases h),λh=>absurd rfl h⟩) (by kernel_rfl) ?_)));refine Cl ⟨d,.cells #[iv v.bt,iv v.b.r,iv v.b.n,iv v.w.k,iv v.w.c,iv v.w.s,iv v.w.n,iv v.w.v] 140,.z,false⟩ (λ_=>⟨A.r,A.z,λh=>(by cases h),λh=>absurd rfl h⟩) (by kernel_rfl) ?_;refine qR [] 8 [6,0,2,2,2,4,6,8,0,10,3] λW R w1 e=>qS 6 [false,false,true,true] B C e (λE=>Nr E (I.ch (e.nil (TN i)) (Bx i)) J i M v q) λS w2 x2 N P j m G=>qR [] 5 [0,1] λX T w4 t=>qS 3 [true,true,false,false] j m t (λF=>Eq F K { BC 3 with cl:=v } s30 s30 ⟨Sv.nil _,λh=>absurd rfl h⟩ (Rc.nil _ _)) λU w5 x5 O Q l o H=>qR [] 1 [] λY V w7 u=>qF l o u (((((e.nil (TN i)).trans (G)).n t).trans (H)).n u)
theorem Sw{b:Bal}{C:List Vt}{j:S3}(h:NS i nb ob g w p ls ts){H:World}(N:Base H g w)(O:Tabs H)(R:i<5)(P:ls.length<90000000){k l m:Nat}(a:Box g w k #[pt nb 0] 70)(F:Box g w l #[iv b.r,iv b.n] 75)(G:Box g w m #[S3.v j] 76)(S:FSv g w j C)(B:(p.av.an i).vs.length<100000000) :
  Calls prog 58 #[pt k 0,pt l 0,pt m 0] w (NP i nb ob g w (.tuple #[]) (if p.vo.p≠b then p else{ p with av:=p.av.qJ i C }) (if p.vo.p≠b then ls else(ls++BT i { BC 0 with fv:=b } 5)) ts):=by
 obtain⟨x,lt,tl,o,t,Q⟩:=h;refine gI (fn:=f58) (TN i) g func58 Q (qN o (qO t (Cl ⟨k,.cells #[pt nb 0] 70,.z,false⟩ (λ_=>⟨a.r,a.z,λh=>(by cases h),λh=>absurd rfl h⟩) (by kernel_rfl) ?_)));refine Cl ⟨l,.cells #[iv b.r,iv b.n] 75,.z,false⟩ (λ_=>⟨F.r,F.z,λh=>(by cases h),λh=>absurd rfl h⟩) (by kernel_rfl) ?_;refine Cl ⟨m,.cells #[S3.v j] 76,.z,false⟩ (λ_=>⟨G.r,G.z,λh=>(by cases h),λh=>absurd rfl h⟩) (by kernel_rfl) ?_;refine qR [] 10 [8,0,2,2,4,6,8,10,0,12,3] λs1 Y w1 c=>?_;by_cases a:p.vo.p≠b
 .refine qT 7 (.bool true) (λ_=>(I9 (x:=(.tmp 8)) (y:=(.tmp 9)) p.vo.p b a)) (qR [] 2 [] λs2 Z w2 D=>?_);rw[if_pos a,if_pos a];exact qF o t (c.n D) ((c.nil (TN i)).n D)
 .have h10:p.vo.p=b:=by simpa using a
  refine qT 7 (.bool false) (λ_=>(I8 (x:=(.tmp 8)) (y:=(.tmp 9)) p.vo.p b h10)) ?_;rw[if_neg a,if_neg a];refine qR [] 14 [9,0,2,2,4,6,8,2,10,12,14,0,16,4] λs4 g4 w4 e=>qS 9 [false,false,true,true,true] o t (c.n e) (λI=>Qd I (N.ch ((c.nil (TN i)).n e) (Bx i)) O i R C j (S.ch ((c.nil (TN i)).n e) (Bx i)) B) λg5 w5 x5 T V q u K=>qR [] 5 [0,1] λs7 g7 w7 E=>qS 3 [true,true,true,false,false] q u E (λJ=>Eq J P { BC 0 with fv:=b } s30 s30 ⟨Sv.nil _,λh=>absurd rfl h⟩ (Rc.nil _ _)) λg8 w8 x8 lt8 W s A L=>qR [] 1 [] λU M X d=>qF s A d ((((((c.nil (TN i)).n e).trans (K)).n E).trans (L)).n d)
def Nod.ln(p:Nod)(i:Nat):Pend->Nod
 | .began b vs=>if p.vo.p≠b then p else{ p with av:=p.av.qJ i vs }
 | .prop v=>p.count i v
 | _=>p
def Nod.qt(p:Nod)(i:Nat):Pend->List Let
 | .began b vs=>if p.vo.p≠b then[]else BT i { BC 0 with fv:=b } 5
 | .prom to b vs=>[{ BC 1 with fv:=b,lp:=vs,fa:=p.ae,src:=i,dst:=to }]
 | .voted to v=>[{ BC 4 with cl:=v,src:=i,dst:=to }]
 | .ed to b=>[{ BC 2 with fv:=b,src:=i,dst:=to }]
 | .prop v=>BT i { BC 3 with cl:=v } 5
 | .askNews to=>[{ BC 6 with bt:=p.ae.length,src:=i,dst:=to }]
 | .start=>BT i (BC 6) 5
 | .tell to bt=>[{ BC 5 with src:=i,dst:=to,bt:=bt,fa:=p.ae.drop bt }]
def Ro(p:Nod)(i:Nat):Pend->Prop
 | .began _ _=>(p.av.an i).vs.length<100000000
 | .prop _=>p.ae.length<=40
 | .tell _ bt=>bt<=p.ae.length
 | _=>True
theorem fe{P:Program}{s:Xs}{S:Sem Next}{r:Result Next}(h:Dw s i=some S)(a:S.run P W=r):Dc P s i W=some r:=by
 unfold Dc;unfold Dw at h;cases hx:opN s i with
 | none=>rw[hx]at h;cases h
 | some x =>
  rw[hx]at h
  simp only[mZ,Y']at h ⊢;rw[h,a]
theorem GO(h:NS i nb ob g w p ls ts){z:World}(s:Base z g w)(t:Tabs z)(y:i<5)(f:ls.length<90000000){v:Value}(q:Pend)(o:Ro p i q)(j:KK g w nb v q) :
  ∃ (F:FuncId) (cs:Array Value),v=.func (.func F) #[] cs/\(∀ W,(Go.callFunc F (#[]++cs)).run prog W=.ok (.enter F cs) W)/\Calls prog F cs w (NP i nb ob g w (.tuple #[]) (p.ln i q) (ls++p.qt i q) ts):=by
 cases q with
 | began b vs =>
  obtain⟨k,b2,b3,x,e,a,c,d,n⟩:=j;refine⟨_,_,e,λW=>by kernel_rfl,?_⟩;have:=Sw h s t y f a c d n o;unfold Nod.ln Nod.qt;by_cases m:p.vo.p≠b
  .rw[if_pos m,if_pos m]at this;simp only[if_pos m,mz];exact this
  .rw[if_neg m,if_neg m]at this;simp only[if_neg m];exact this
 | prom to b vs =>
  obtain⟨k,b2,b3,x,r,l,e,a,c,d,n,A,rfl,rfl⟩:=j;exact⟨_,_,e,λW=>(by kernel_rfl),GZ h f a c d A n⟩
 | voted to u =>
  obtain⟨k,b2,r,l,e,a,c,d,rfl,rfl⟩:=j;exact⟨_,_,e,λW=>(by kernel_rfl),Id (b3:=0) h f a c d⟩
 | ed to b =>
  obtain⟨k,b2,b3,e,a,c,d⟩:=j;exact⟨_,_,e,λW=>(by kernel_rfl),Pb h f a c d⟩
 | prop u =>
  obtain⟨k,b2,e,a,c⟩:=j;exact⟨_,_,e,λW=>(by kernel_rfl),MR h s t y f a c o⟩
 | askNews to =>
  obtain⟨k,b2,r,l,e,a,c,d,rfl⟩:=j;exact⟨_,_,e,λW=>(by kernel_rfl),Mh (b3:=0) h f a c d⟩
 | start =>
  obtain⟨k,e,a⟩:=j;exact⟨_,_,e,λW=>(by kernel_rfl),QP (b2:=0) (b3:=0) h f a⟩
 | tell to bt =>
  obtain⟨k,b2,r,l,e,a,c,d,rfl,rfl⟩:=j;exact⟨_,_,e,λW=>(by kernel_rfl),Jz (b3:=0) h f a c d o⟩
theorem Yc(s:Int){n:Nat}{w:World}(h:Sl w x.v d)(a:n<=d.length){N:Int}(b:(n:Int)=N) :
  Calls prog 109 #[.agg #[x.v,iv s],iv N] w λe w'=>∃ y:S3,e=.returned (.agg #[y.v,iv N])/\Sl w' y.v (d.take n)/\Nb w.heap.size y (d.take n)/\Bw w w':=by
 subst b;refine(JE x.v d s n w h a).mono ?_;rintro e w' ⟨y,rfl,f,c⟩;obtain⟨y,rfl,i,g⟩:=Jo (l:=d.take n) (by rw[X',nm a];exact f) (by rw[X'];have:=h.len;omega) (λz j=>h.byte z (mr j));exact⟨y,rfl,i,g,c⟩
theorem YL(s:Int){w:World}(h:Sl w x.v d){t:Bool}(a:decide (AP d s)=t) :
  Calls prog 108 #[.agg #[x.v,iv s]] w λe w'=>e=.returned (.bool t)/\Bw w w':=by
 subst a;exact L2 x.v d s w h
theorem er(h:Sl w x.v d) :
  Calls prog 107 #[.agg #[x.v,iv s]] w λe w'=>∃ y:S3,e=.returned (.tuple #[.agg #[y.v,iv (Ic d s)],iv (CY d s)])/\Sl w' y.v (GY d s)/\Nb w.heap.size y (GY d s)/\Bw w w':=by
 refine kIn func107 (kR 10 [0,0,1,0,0] λb H g=>?_);obtain⟨t,j⟩:∃ t,decide (AP d s)=t:=⟨_,rfl⟩;refine kC 1 (YL s (h.af g) j) ?_;rintro _ I ⟨rfl,i⟩;refine⟨_,rfl,i,?_⟩;refine kR 2 [] λC J k=>?_;by_cases a:AP d s
 .refine kI ((!t)) false (by rw[<- j,O' a];rfl) ?_;rw[show CY d s=0 from if_pos a,show GY d s=d from if_pos a,show Ic d s=(d.length:Int)from if_pos a];have m:=EO h;have A:d.take d.length=d:=nD;refine kR 7 [0,0] λD L r=>?_;have f:=(btr (btr (btr g i) k) r);refine kC 4 (Yc s (n:=d.length) (N:=(x.n:Int)) (h.af f) (A' _) (by rw[m])) ?_;rintro _ M ⟨y,rfl,p,o,l⟩;refine⟨_,rfl,l,?_⟩;rw[A]at p o
  rw[<- m];refine kF 3 [1,0] λE O u B=>?_;have q:=((btr f l).trans u);exact qE2 2 3 95 1 (b 1) #[S3.v y,iv (x.n:Int)] (iv 0) λK=>⟨y,rfl,(p.kept B),o.mono f.size,q⟩
 .refine kI ((!t)) true (by rw[<- j,E' a];rfl) ?_;rw[show CY d s=5 from if_neg a,show GY d s=[]from if_neg a,show Ic d s=0 from if_neg a];refine kF 6 [1,0] λF P z G=>?_;have c:=((btr (btr g i) k).trans z);exact qE2 2 3 95 1 (b 1) #[S3.v s30,iv 0] (iv 5) λK=>⟨s30,rfl,Ez _,λh=>absurd rfl h,c⟩
theorem X8{k:Int}(h:Sl w x.v d)(L:-9223372036854775808<=k)(M:k<=9223372036854775807) :
  Calls prog 68 #[.agg #[x.v,iv s],iv k] w λe w'=>∃ y:S3,e=.returned (.tuple #[.agg #[y.v,iv (Kg d s k)],iv (Gd d s k)])/\Sl w' y.v (Kf d s k)/\Nb w.heap.size y (Kf d s k)/\Bw w w':=by
 refine kIn func68 (kR 10 [0,0,1,0,0] λf w1 j=>?_);obtain⟨t,A⟩:∃ t,decide (AP d s)=t:=⟨_,rfl⟩;refine kC 1 (YL s (h.af j) A) ?_;rintro _ w2 ⟨rfl,l⟩;refine⟨_,rfl,l,?_⟩;refine kR 2 [] λT w3 u=>?_;by_cases c:AP d s
 .refine kI ((!t)) false (by rw[<- A,O' c];rfl) (kR 7 [] λU w4 C=>?_);by_cases m:k<0
  .refine kI ((decide (k<0))) true (O' m) ?_;have a:Gd d s k=2:=(if_neg (λg=>g c)).trans (if_pos m);rw[show Kf d s k=[]from if_neg (by rw[a];decide),show Kg d s k=0 from if_neg (by rw[a];decide),a];refine kF 6 [1,0] λV w5 H q5=>?_;have G:=((btr (btr (btr j l) u) C).trans H);exact qE2 4 5 95 1 (f 1) #[S3.v s30,iv 0] (iv 2) λK=>⟨s30,rfl,Ez _,λh=>absurd rfl h,G⟩
  .refine kI ((decide (k<0))) false (E' m) ?_;have a:Gd d s k=0:=(if_neg (λg=>g c)).trans (if_neg m);rw[show Kf d s k=d.take (Ge d s k).toNat from if_pos a,show Kg d s k=Ge d s k from if_pos a,a];have Z:=EO h;have Y:=h.len;have X:0<=s/\s<=(d.length:Int):=⟨c.2.1,c.2.2⟩;obtain⟨n,D⟩:∃ n:Nat,(n:Int)=s+min k ((x.n:Int)-s):=⟨(s+min k ((x.n:Int)-s)).toNat,by omega⟩;have J:Ge d s k=(n:Int):=by unfold Ge;split<;>omega
   have z:n<=d.length:=by omega
   rw[J,mW,D];refine kR 12 [0,0,0,0] λW w7 I=>kV 9 (iv ((x.n:Int)-s)) (Zt (x:=(.tmp 19)) (y:=(.tmp 21)) (x.n:Int) s underlying3 (by omega)) (kV 10 (iv (min k ((x.n:Int)-s))) (i9 #[3,3] 3 k ((x.n:Int)-s)) (kV 11 (iv (s+min k ((x.n:Int)-s))) (Kp (x:=(.tmp 15)) (y:=(.tmp 23)) s (min k ((x.n:Int)-s)) underlying3 (by omega)) ?_));have b:=(btr (btr (btr (btr j l) u) C) I);refine kC 12 (Yc s (n:=n) (h.af b) z D) ?_;rintro _ Q ⟨y,rfl,O,N,i⟩;refine⟨_,rfl,i,?_⟩;refine kF 3 [1,0] λE R q B=>?_;have o:=((btr b i).trans q);exact qE2 4 5 95 1 (f 1) #[S3.v y,iv (s+min k ((x.n:Int)-s))] (iv 0) λK=>⟨y,rfl,(O.kept B),N.mono b.size,o⟩
 .refine kI ((!t)) true (by rw[<- A,E' c];rfl) ?_;have a:Gd d s k=5:=if_pos c;rw[show Kf d s k=[]from if_neg (by rw[a];decide),show Kg d s k=0 from if_neg (by rw[a];decide),a];refine kF 6 [1,0] λF S r P=>?_;have p:=((btr (btr j l) u).trans r);exact qE2 4 5 95 1 (f 1) #[S3.v s30,iv 0] (iv 5) λK=>⟨s30,rfl,Ez _,λh=>absurd rfl h,p⟩
structure FzL(g:Gh)(w:World)(x:S3)(vs:List Value):Prop where
 n:x.n=vs.length
 at_:∀ j u,vs[j]?=some u->∃ b,x.a=some ⟨b,0,none⟩/\b<w.heap.size/\j<g.k b/\w.cell? ⟨b,j,none⟩=some u
theorem OwnS.fz{τ:Tg}{e:TypeId}(h:OwnS g w τ true e 1 x vs):FzL g w x vs:=by
 refine⟨by have:=h.len;omega,λj u d=>?_⟩;obtain⟨b,a,f,i⟩:=h.cell d;have c:j<vs.length:=(V'.1 d).1;refine⟨b,a,f,?_,i⟩;rcases h.ex with⟨h4,_⟩|⟨b',cur,h4,_,_,_,_,_,_,h8⟩
 .rw[h4]at a;cases a
 .rw[a]at h4
  simp only[Y',Addr.mk.injEq,and_true]at h4;subst h4;rw[h8,if_pos rfl];exact c
theorem FzL.ch{B:Nat}{T:List Tg}{d:Gh}{f:World}(h:FzL g w x vs)(c:Cg B T g w d f):FzL d f x vs :=
 ⟨h.n,λj u m=>by
  obtain⟨b,i,a,e,k⟩:=h.at_ j u m;exact⟨b,i,j' a c.size,j' e (c.rp b a),(c.ry b a j e).trans k⟩⟩
theorem fA{b c:Nat}(d:x.a=some ⟨b,c,none⟩)(j:Nat)(f:j<x.n):(Instr.indexAt 79 x.v (iv (j:Int))).run prog W=.ok (pt b (c+1*j)) W:=by
 unfold S3.v;rw[d];exact MV (P:=prog) (e:=1) (z:=1) underlying79 (by kernel_rfl) (by kernel_rfl) f _ rfl
def nn(i:Nat):List Pend->Nod->List Let->Nod × List Let
 | [],p,ls=>(p,ls)
 | q::l,p,ls=>nn i l (p.ln i q) (ls++p.qt i q)
def GC(i:Nat):List Pend->Nod->List Let->Prop
 | [],_,_=>True
 | q::l,p,ls=>Ro p i q/\ls.length<90000000/\GC i l (p.ln i q) (ls++p.qt i q)
def Nod.qA(p:Nod):Nod:=if p.sy<(p.d.length:Int)then{ p with d:=GY p.d p.sy,sy:=Ic p.d p.sy }else p
theorem PN{l:List Pend}{j:Nat}{c:Pend}(h:l[j]?=some c):l.drop j=c::l.drop (j+1):=by
 obtain⟨a,b⟩:=V'.1 h;rw[<- b];exact mQ a
theorem ey(h:NS i nb ob g w p ls ts){w0:World}(hB:Base w0 g w)(hT:Tabs w0)(hi:i<5)(Y:GC i p.bu { p.qA with bu:=[] } ls)(f5:p.bu.length<100000000) :
  Calls prog 64 #[pt nb 0] w (NP i nb ob g w (.tuple #[]) (if p.sy<(p.d.length:Int)/\CY p.d p.sy≠0 then(p,ls)else nn i p.bu { p.qA with bu:=[] } ls).1 (if p.sy<(p.d.length:Int)/\CY p.d p.sy≠0 then(p,ls)else nn i p.bu { p.qA with bu:=[] } ls).2 ts):=by
 obtain⟨x,lt,tl,m,hO,hg⟩:=h;have f7:x.tape.n=p.d.length:=by obtain⟨a,e6,hh⟩:=m.tape.s.qK;have:=m.tape.s.len;simp only[S3.v,Value.slice.injEq]at hh;exact hh.2.1
 refine gI (fn:=f64) (TN i) g func64 hg (qN m (qO hO ?_));obtain⟨pv,hP,I⟩:=m.bu;have hF:=hP.fz;have f6:x.synced.n=p.bu.length:=by rw[hF.n];exact I.len
 refine qR [] 16 [12,0,2,4,6,8,0,10,12,14,16,18,0,20,22] λs1 g1 w1 c1=>?_;by_cases h1:p.sy<(x.tape.n:Int)
 .refine qI ((decide (p.sy<(x.tape.n:Int)))) true (O' (by omega)) (qR [] 6 [0] λs2 g2 w2 c2=>Ag λKq=>?_);have hS:=(m.tape.ch (c1.trans c2)).s;have hG:∀ z,w2.heap.size<=z->g2.t z=.z:=λz hz=>(Kq.new z hz).1;refine qC 4 (er (s:=p.sy) hS) ?_;rintro e' w3 ⟨tz,rfl,b4,d6,b3⟩;refine⟨_,rfl,b3,?_⟩;have c3:=Cg.eb (B:=w.heap.size) (T:=[]) (g:=g2) b3;have f8:=EO b4;have d7:FSl _ _ tz _:=⟨b4,λhl a ha=>hG _ (d6 hl a ha)⟩;refine qR [] 13 [0,0,2,0] λs4 g4 w4 c4=>?_;by_cases E:CY p.d p.sy≠0
  .refine qI (((CY p.d p.sy) != 0)) true (by simpa using E) (qE (.tuple #[]) λK=>?_);rw[if_pos ⟨by omega,E⟩];exact⟨_,rfl,(nsC m hO (((c1.n c2).n c3).n c4) K),((((c1.nil (TN i)).n c2).n c3).n c4)⟩
  .refine qI (((CY p.d p.sy) != 0)) false (by simpa using E) ?_;have O:p.qA={ p with d:=GY p.d p.sy,sy:=Ic p.d p.sy }:=if_pos (by omega);rw[show(if p.sy<(p.d.length:Int)/\CY p.d p.sy≠0 then(p,ls)else nn i p.bu { p.qA with bu:=[] } ls)=nn i p.bu ({ p with d:=GY p.d p.sy,sy:=Ic p.d p.sy,bu:=[] }:Nod) ls from by rw[if_neg (by rintro⟨_,h⟩;exact E h),O]];rw[show{ p.qA with bu:=[] }=({ p with d:=GY p.d p.sy,sy:=Ic p.d p.sy,bu:=[] }:Nod)from by rw[O]]at Y
   refine qR [.n 0 i] 32 [2,0,1,0,0,1] λs7 g7 w7 c7=>Ir [true,true,false] ?_;refine BY 51 [(42,S3.v x.synced),(43,iv (x.synced.n:Int)),(44,iv 0)] [false,false] [] (λk g' w' e L=>∃ (j:Nat) (q:Nod) (l2:List Let),k=p.bu.length-j/\j<=p.bu.length/\e=[(42,S3.v x.synced),(43,iv (x.synced.n:Int)),(44,iv (j:Int))]/\L=[]/\NS i nb ob g' w' q l2 ts/\nn i (p.bu.drop j) q l2=nn i p.bu ({ p with d:=GY p.d p.sy,sy:=Ic p.d p.sy,bu:=[] }:Nod) ls/\GC i (p.bu.drop j) q l2/\Cg w.heap.size (TN i) g w g' w') (by kernel_rfl) (by kernel_rfl) (by kernel_rfl) (by kernel_rfl) p.bu.length (λK=>?_) ?_
   .have C8:=((((c1.nil ([.n 0 i]:List Tg)).n c2).n c3).n c4).trans (c7);have Z8:Tg.z∉([.n 0 i]:List Tg):=by simp
    exact⟨0,({ p with d:=GY p.d p.sy,sy:=Ic p.d p.sy,bu:=[] }:Nod),ls,rfl,by omega,rfl,rfl,⟨({ x with tape:=tz,synced:=s30 }:NX),lt,tl,K.nd 0 ((d7.ch c4).ch c7) (m.lp.ch C8 Z8) (BA m.an C8 Z8) ⟨[],OwnS.nil _ _ _ _ _ _,⟨rfl,λk v q h=>by cases h⟩⟩ (m.ew.ch C8) (m.ae.ch C8) (m.bn.ch C8) (m.bN.ch C8) m.rz,hO.ch C8 Z8 (by simp<;>omega),K.new⟩,rfl,Y,(((((c1.nil (TN i)).n c2).n c3).n c4).trans (c7.mono (by simp[TN])))⟩
   .rintro k gr wr _ zr _ ⟨j,q,l2,rfl,hj,rfl,rfl,hM,hI,hK,hC⟩ J hJ;obtain⟨xr,d8,d9,o,r,d4⟩:=id hM;refine qN o (qO r (qR [] 5 [] λs9 g9 w9 Q=>?_));by_cases h5:j<p.bu.length
    .refine qI ((decide ((j:Int)<(x.synced.n:Int)))) true (O' (by omega)) ?_;obtain⟨D,N⟩:∃ D,p.bu[j]?=some D:=⟨_,G' h5⟩;obtain⟨v,hv⟩:∃ v,pv[j]?=some v:=⟨_,G' (by rw[I.len];exact h5)⟩;rw[PN N]at hI hK
     obtain⟨G,H,a1⟩:=hK;have F:=hF.ch hC;obtain⟨bx,P,d2,d5,d3⟩:=F.at_ j v hv;have M:=(I.at_ j v D hv N).ch hC (Bx i);refine qR [] 5 [] λf9 c0 e0 u=>qV 0 (pt bx (0+1*j)) (fA P j (by omega)) (Ag λK=>?_);have b5:NS i nb ob c0 e0 q l2 ts:=(nsC o r (Q.n u) K);obtain⟨Z,A,e2,a2,_⟩:=GO b5 (hB.ch (((hC.n Q).n u)) (Bx i)) hT hi H D G (M.ch ((Q.nil (TN i)).n u) (Bx i));subst e2;have a0:=F.ch (Q.trans u);refine qV 1 (.func (.func Z) #[] A) (CP (ty:=1) (b:=bx) (k:=0+1*j) (v:=.func (.func Z) #[] A) underlying1 rfl (by rw[mT,ql];obtain⟨b2,E,_,_,h4⟩:=a0.at_ j _ hv;rw[P]at E;simp only[Y',Addr.mk.injEq,and_true]at E;subst E;exact h4)) (qR [] 4 [] λg0 c5 e1 S=>Ag λK=>?_);have b6:NS i nb ob c5 e1 q l2 ts:=(nsC o r ((Q.n u).n S) K);obtain⟨F3,b9,e3,_,C⟩:=GO b6 (hB.ch ((((hC.n Q).n u).n S)) (Bx i)) hT hi H D G (M.ch (((Q.nil (TN i)).n u).n S) (Bx i));simp only[Value.func.injEq,Fn.func.injEq,true_and]at e3;obtain⟨rfl,rfl⟩:=e3;refine RX 1 Z A (TN i) [false,false] (λW=>fe (by kernel_rfl) (a2 W)) (by kernel_rfl) (by kernel_rfl) (by kernel_rfl) C ?_;rintro e' i0 ⟨c6,rfl,a3,U⟩;refine⟨_,c6,rfl,U,a3.new,?_⟩;replace U:=U.ret (B:=w.heap.size);refine qR [] 3 [] λg3 e7 i1 a5=>qV 0 (iv ((j:Int)+1)) (AK 44 (j:Int) underlying3 (by omega)) (qR [] 2 [] λg5 e8 i2 a6=>qB [] λz K0 K=>hJ (p.bu.length-(j+1)) _ _ _ z _ (by omega) ⟨j+1,q.ln i D,l2++q.qt i D,rfl,by omega,rfl,rfl,NS.qH a3 (a5.trans a6) K0.new,hI,a1,((((((hC.n Q).n u).n S).trans U).n a5).n a6)⟩ K)
    .refine qI ((decide ((j:Int)<(x.synced.n:Int)))) false (E' (by omega)) (qR [] 1 [] λg6 e9 i3 a7=>?_);obtain rfl:j=p.bu.length:=by omega
     rw[nN]at hI
     rw[<- hI];exact qF o r (Q.n a7) ((hC.n Q).n a7)
 .refine qI ((decide (p.sy<(x.tape.n:Int)))) false (E' (by omega)) ?_;have O:p.qA=p:=if_neg (by omega);rw[show(if p.sy<(p.d.length:Int)/\CY p.d p.sy≠0 then(p,ls)else nn i p.bu { p.qA with bu:=[] } ls)=nn i p.bu ({ p with bu:=[] }:Nod) ls from by rw[if_neg (by rintro⟨h,_⟩;omega),O]];rw[show{ p.qA with bu:=[] }=({ p with bu:=[] }:Nod)from by rw[O]]at Y
  refine qR [.n 0 i] 25 [0,0,1] λg8 f0 i4 a8=>BY 51 [(42,S3.v x.synced),(43,iv (x.synced.n:Int)),(44,iv 0)] [false,false] [] (λk g' w' e L=>∃ (j:Nat) (q:Nod) (l2:List Let),k=p.bu.length-j/\j<=p.bu.length/\e=[(42,S3.v x.synced),(43,iv (x.synced.n:Int)),(44,iv (j:Int))]/\L=[]/\NS i nb ob g' w' q l2 ts/\nn i (p.bu.drop j) q l2=nn i p.bu ({ p with bu:=[] }:Nod) ls/\GC i (p.bu.drop j) q l2/\Cg w.heap.size (TN i) g w g' w') (by kernel_rfl) (by kernel_rfl) (by kernel_rfl) (by kernel_rfl) p.bu.length (λK=>?_) ?_
  .have C22:=(c1.nil ([.n 0 i]:List Tg)).trans (a8);have R:Tg.z∉([.n 0 i]:List Tg):=by simp
   exact⟨0,({ p with bu:=[] }:Nod),ls,rfl,by omega,rfl,rfl,⟨({ x with synced:=s30 }:NX),lt,tl,K.nd 0 (m.tape.ch C22 R) (m.lp.ch C22 R) (BA m.an C22 R) ⟨[],OwnS.nil _ _ _ _ _ _,⟨rfl,λk v q h=>by cases h⟩⟩ (m.ew.ch C22) (m.ae.ch C22) (m.bn.ch C22) (m.bN.ch C22) m.rz,hO.ch C22 R (by simp<;>omega),K.new⟩,rfl,Y,((c1.nil (TN i)).trans (a8.mono (by simp[TN])))⟩
  .rintro k gr wr _ zr _ ⟨j,q,l2,rfl,hj,rfl,rfl,hM,hI,hK,hC⟩ J hJ;obtain⟨xr,d8,d9,o,r,d4⟩:=id hM;refine qN o (qO r (qR [] 5 [] λh0 f1 i5 c=>?_));by_cases h5:j<p.bu.length
   .refine qI ((decide ((j:Int)<(x.synced.n:Int)))) true (O' (by omega)) ?_;obtain⟨D,N⟩:∃ D,p.bu[j]?=some D:=⟨_,G' h5⟩;obtain⟨v,hv⟩:∃ v,pv[j]?=some v:=⟨_,G' (by rw[I.len];exact h5)⟩;rw[PN N]at hI hK
    obtain⟨G,H,a1⟩:=hK;have F:=hF.ch hC;obtain⟨bx,P,d2,d5,d3⟩:=F.at_ j v hv;have M:=(I.at_ j v D hv N).ch hC (Bx i);refine qR [] 5 [] λh3 c8 e4 y=>qV 0 (pt bx (0+1*j)) (fA P j (by omega)) (Ag λK=>?_);have b7:NS i nb ob c8 e4 q l2 ts:=(nsC o r (c.n y) K);obtain⟨Z,A,e2,a2,_⟩:=GO b7 (hB.ch (((hC.n c).n y)) (Bx i)) hT hi H D G (M.ch ((c.nil (TN i)).n y) (Bx i));subst e2;have a0:=F.ch (c.trans y);refine qV 1 (.func (.func Z) #[] A) (CP (ty:=1) (b:=bx) (k:=0+1*j) (v:=.func (.func Z) #[] A) underlying1 rfl (by rw[mT,ql];obtain⟨b2,E,_,_,h4⟩:=a0.at_ j _ hv;rw[P]at E;simp only[Y',Addr.mk.injEq,and_true]at E;subst E;exact h4)) (qR [] 4 [] λh6 d0 e5 V=>Ag λK=>?_);have b8:NS i nb ob d0 e5 q l2 ts:=(nsC o r ((c.n y).n V) K);obtain⟨F3,b9,e3,_,C⟩:=GO b8 (hB.ch ((((hC.n c).n y).n V)) (Bx i)) hT hi H D G (M.ch (((c.nil (TN i)).n y).n V) (Bx i));simp only[Value.func.injEq,Fn.func.injEq,true_and]at e3;obtain⟨rfl,rfl⟩:=e3;refine RX 1 Z A (TN i) [false,false] (λW=>fe (by kernel_rfl) (a2 W)) (by kernel_rfl) (by kernel_rfl) (by kernel_rfl) C ?_;rintro e' i6 ⟨d1,rfl,a4,X⟩;refine⟨_,d1,rfl,X,a4.new,?_⟩;replace X:=X.ret (B:=w.heap.size);refine qR [] 3 [] λh7 f2 i7 a9=>qV 0 (iv ((j:Int)+1)) (AK 44 (j:Int) underlying3 (by omega)) (qR [] 2 [] λh8 f3 i8 b0=>qB [] λz K0 K=>hJ (p.bu.length-(j+1)) _ _ _ z _ (by omega) ⟨j+1,q.ln i D,l2++q.qt i D,rfl,by omega,rfl,rfl,NS.qH a4 (a9.trans b0) K0.new,hI,a1,((((((hC.n c).n y).n V).trans X).n a9).n b0)⟩ K)
   .refine qI ((decide ((j:Int)<(x.synced.n:Int)))) false (E' (by omega)) (qR [] 1 [] λh9 f4 i9 b1=>?_);obtain rfl:j=p.bu.length:=by omega
    rw[nN]at hI
    rw[<- hI];exact qF o r (c.n b1) ((hC.n c).n b1)
def Mk(p:Nod)(i j:Nat):Bool:=decide (j≠i/\p.av.bw j<p.ae.length)
def Ky(p:Nod)(i k:Nat):Nat->Nat:=λj=>if decide (j<k)&&Mk p i j then p.ae.length else p.av.bw j
def Eu(p:Nod)(i k:Nat):Nod:={ p with av:={ p.av with bw:=Ky p i k } }
def Dl(p:Nod)(i:Nat):Nat->List Let
 | 0=>[]
 | k+1=>Dl p i k++(if Mk p i k then[{ BC 5 with src:=i,dst:=k,bt:=p.av.bw k,fa:=p.ae.drop (p.av.bw k) }]else[])
theorem U0(p:Nod)(i k:Nat):(Dl p i k).length<=k:=by
 induction k with
 | zero=>exact A' _
 | succ k ih=>unfold Dl;rw[H'];split<;>simp<;>omega
theorem WD(p:Nod)(i:Nat):Eu p i 0=p:=by unfold Eu Ky;simp
theorem U5(h:Mk p i k=false):Ky p i (k+1)=Ky p i k:=by
 funext j
 unfold Ky;by_cases e:j=k
 .subst e;simp[h]
 .rw[show decide (j<k+1)=decide (j<k)from m9.2 (by omega)]
theorem aK(h:Mk p i k=true):upN (Ky p i k) k p.ae.length=Ky p i (k+1):=by
 funext j
 unfold upN Ky;by_cases e:j=k
 .subst e;simp[h]
 .rw[if_neg e,show decide (j<k+1)=decide (j<k)from m9.2 (by omega)]
theorem WE(h:NS i nb ob g w p ls ts)(hb:ls.length<90000000) :
  Calls prog 65 #[pt nb 0] w (NP i nb ob g w (.tuple #[]) (if p.leads then Eu p i 5 else p) (if p.leads then ls++Dl p i 5 else ls) ts):=by
 obtain⟨x,lt,tl,S,U,hg⟩:=h;refine gI (fn:=f65) (TN i) g func65 hg (qN S (qO U (qR [] 4 [] λs1 Y w1 C=>?_)));by_cases h1:p.leads=false
 .refine Ag λK=>?_;have N3:NS i nb ob Y w1 p ls ts:=(nsC S U C K);refine qC 1 (EZ N3 h1) ?_;rintro e' w4 ⟨rfl,b4⟩;refine⟨_,rfl,b4,?_⟩;have c4:=Cg.eb (B:=w.heap.size) (T:=[]) (g:=Y) b4;refine qR [] 3 [] λs5 g5 w5 c5=>qE (.tuple #[]) λK=>?_;rw[h1,if_neg (by simp),if_neg (by simp)];exact⟨_,rfl,(nsC S U ((C.n c4).n c5) K),(((C.nil (TN i)).n c4).n c5)⟩
 .have h10:p.leads=true:=by simpa using h1
  refine Ag λK=>?_;have N8:NS i nb ob Y w1 p ls ts:=(nsC S U C K);refine qC 1 (EZ N8 h10) ?_;rintro e' w9 ⟨rfl,b9⟩;refine⟨_,rfl,b9,?_⟩;have c9:=Cg.eb (B:=w.heap.size) (T:=[]) (g:=Y) b9;rw[if_pos h10,if_pos h10];refine qR [] 15 [0] λd1 a5 e7 E=>BY 51 [(0,pt nb 0),(12,.agg #[iv (p.av.bw 0:Int),iv (p.av.bw 1:Int),iv (p.av.bw 2:Int),iv (p.av.bw 3:Int),iv (p.av.bw 4:Int)]),(13,iv 0)] [false,false] [] (λk X Z e L=>∃ k0:Nat,k=5-k0/\k0<=5/\e=[(0,pt nb 0),(12,.agg #[iv (p.av.bw 0:Int),iv (p.av.bw 1:Int),iv (p.av.bw 2:Int),iv (p.av.bw 3:Int),iv (p.av.bw 4:Int)]),(13,iv (k0:Int))]/\L=[]/\NS i nb ob X Z (Eu p i k0) (ls++Dl p i k0) ts/\Cg w.heap.size (TN i) g w X Z) (by kernel_rfl) (by kernel_rfl) (by kernel_rfl) (by kernel_rfl) 5 (λK=>?_) ?_
  .have C11:=(C.n c9).n E;exact⟨0,rfl,by omega,rfl,rfl,(by rw[WD,show ls++Dl p i 0=ls from mz _];exact(nsC S U C11 K)),(((C.nil (TN i)).n c9).n E)⟩
  .rintro k gr wr _ zr _ ⟨k0,rfl,hk0,rfl,rfl,hM,hC⟩ J hJ;obtain⟨xr,d0,e6,d,j,c7⟩:=hM;have c8:=U0 p i k0;refine qN d (qO j ?_);have c6:xr.ae.n=p.ae.length:=d.ae.num;refine qR [] 5 [] λd2 a6 e8 a=>?_;by_cases h2:k0<5
   .refine qI ((decide ((k0:Int)<5))) true (O' (by omega)) (qR [] 6 [] λd3 a7 e9 b=>?_);refine cH 1 (iv (p.av.bw k0:Int)) (λK=>(by rcases qq h2 with rfl|rfl|rfl|rfl|rfl<;>kernel_rfl)) (by kernel_rfl) ?_;refine qR [] 10 [0] λd4 a8 f0 c=>?_;by_cases h3:k0≠i
    .refine qV 5 (.bool true) (H6 (t:=3) (m:=(k0:Int)) (n:=(i:Int)) (x:=(.tmp 17)) (y:=(.tmp 21)) (by simp;omega)) (qR [] 11 [0] λd5 a9 f1 q=>?_);by_cases h4:(p.av.bw k0:Int)<(xr.ae.n:Int)
     .have hx:Mk p i k0=true:=O' ⟨by omega,by omega⟩;refine qI ((decide ((p.av.bw k0:Int)<(xr.ae.n:Int)))) true (O' (by omega)) (qR [] 5 [] λd6 b0 f2 F=>qS 3 [false,false] d j ((((a.n b).n c).n q).n F) (λa0=>IK a0 (by rw[H'];omega) k0 (p.av.bw k0) (by show _<=p.ae.length;omega)) λb1 f3 o s u r V a1=>qR [] 14 [13,0,2,4,6,8,10,12,0,14,16,18,20,22] λd7 a3 a4 G=>?_);have W:o.ae.n=p.ae.length:=r.ae.num;refine Cn 51 (λX Z e L=>e=[(0,pt nb 0),(12,.agg #[iv (p.av.bw 0:Int),iv (p.av.bw 1:Int),iv (p.av.bw 2:Int),iv (p.av.bw 3:Int),iv (p.av.bw 4:Int)]),(13,iv (k0:Int))]/\L=[⟨nb,.cells (AI i ob ({ p with av:={ p.av with bw:=upN (Ky p i k0) k0 o.ae.n } }) o) 97,.n 0 i,false⟩,⟨ob,.cells #[S3.v s,S3.v u] 67,.n 50 0,false⟩]/\True/\Cg w.heap.size ([.n 0 i]:List Tg) a3 a4 X Z) (by kernel_rfl) ?_ ?_
      .intro J hJ;rcases qq h2 with rfl|rfl|rfl|rfl|rfl <;>
       (refine qR [.n 0 i] 3 [24,27,0,1] λd8 b3 f5 a2=>?_;exact qB [true,true] λz A K=>hJ _ _ _ z _ ⟨rfl,rfl,trivial,a2⟩ K)
      rintro b2 f4 _ g4 _ ⟨rfl,rfl,_,H⟩;refine qR [] 2 [] λd9 b5 f6 I=>qV 0 (iv ((k0:Int)+1)) (AK 13 (k0:Int) underlying3 (by omega)) (qR [] 2 [] λe0 b6 f7 M=>qB [false,false] λz A K=>hJ (5-(k0+1)) _ _ _ z _ (by omega) ⟨k0+1,rfl,by omega,rfl,rfl,?_,((((((((((hC.n a).n b).n c).n q).n F).trans a1).n G).trans (H.mono (by simp[TN]))).n I).n M)⟩ K);have D:=(((G.nil ([.n 0 i]:List Tg)).trans (H)).n I).n M;rw[show Eu p i (k0+1)={ p with av:={ p.av with bw:=upN (Ky p i k0) k0 o.ae.n } }from by unfold Eu;rw[<- aK hx,W],show ls++Dl p i (k0+1)=(ls++Dl p i k0++[{ BC 5 with src:=i,dst:=k0,bt:=p.av.bw k0,fa:=p.ae.drop (p.av.bw k0) }])from by show ls++(Dl p i k0++_)=_;rw[hx,if_pos rfl,mf]];exact⟨o,s,u,A.si 0 r D,V.ch D (hn:=by simp<;>omega),A.new⟩
     .have hx:Mk p i k0=false:=E' (λh=>h4 (by omega));refine qI ((decide ((p.av.bw k0:Int)<(xr.ae.n:Int)))) false (E' (by omega)) (qR [] 3 [] λe1 b7 f8 N=>qV 0 (iv ((k0:Int)+1)) (AK 13 (k0:Int) underlying3 (by omega)) (qR [] 2 [] λe2 b8 f9 O=>qB [false,false] λz A K=>hJ (5-(k0+1)) _ _ _ z _ (by omega) ⟨k0+1,rfl,by omega,rfl,rfl,?_,((((((hC.n a).n b).n c).n q).n N).n O)⟩ K));rw[show Eu p i (k0+1)={ p with av:={ p.av with bw:=Ky p i k0 } }from by unfold Eu;rw[U5 hx],show ls++Dl p i (k0+1)=ls++Dl p i k0 from by show ls++(Dl p i k0++_)=_;rw[hx];simp];exact(nsC d j (((((a.n b).n c).n q).n N).n O) A)
    .have hx:Mk p i k0=false:=E' (λh=>h.1 (by omega));refine qV 5 (.bool false) (H6 (t:=3) (m:=(k0:Int)) (n:=(i:Int)) (x:=(.tmp 17)) (y:=(.tmp 21)) (by simp;omega)) (qR [] 15 [] λe3 c0 g0 P=>qV 0 (iv ((k0:Int)+1)) (AK 13 (k0:Int) underlying3 (by omega)) (qR [] 2 [] λe4 c2 g2 Q=>qB [false,false] λz A K=>hJ (5-(k0+1)) _ _ _ z _ (by omega) ⟨k0+1,rfl,by omega,rfl,rfl,?_,(((((hC.n a).n b).n c).n P).n Q)⟩ K));rw[show Eu p i (k0+1)={ p with av:={ p.av with bw:=Ky p i k0 } }from by unfold Eu;rw[U5 hx],show ls++Dl p i (k0+1)=ls++Dl p i k0 from by show ls++(Dl p i k0++_)=_;rw[hx];simp];exact(nsC d j ((((a.n b).n c).n P).n Q) A)
   .refine qI ((decide ((k0:Int)<5))) false (E' (by omega)) (qR [] 1 [] λe5 c3 g3 R=>?_);obtain rfl:k0=5:=by omega
    exact qF d j (a.n R) ((hC.n a).n R)
end
end
section
section
def BO(l:List Vt):Prop:=BL l/\∀ v∈l,0<=v.bt/\v.bt<=39
theorem Zx(l:List Vt)(a:Int)(h:BL l)(b:∀ v∈l,a<=v.bt/\v.bt<=39):l.length<=(40-a).toNat:=by
 induction l generalizing a with
 | nil=>exact mH _
 | cons u l ih =>
  obtain⟨d,e⟩:=h;have f:=b u M';have:=ih (u.bt+1) e λv c=>⟨by have:=d v c;omega,(b v (I' _ c)).2⟩;rw[mE];omega
variable{a:Acc}{b:Bal}{l:List Vt}{v:Vt}
theorem BO.len(h:BO l):l.length<=40:=Zx l 0 h.1 h.2
theorem BO.nil:BO []:=⟨trivial,λv h=>by cases h⟩
theorem Aq(h:AX a v=0):Ah a/\Ai v/\¬ v.b.lt a.p:=by
 unfold AX at h;by_cases c:Ah a
 .rw[if_neg (λg=>g c)]at h
  by_cases d:Ai v
  .rw[if_neg (λg=>g d)]at h
   by_cases e:v.b.lt a.p
   .rw[if_pos e]at h;cases h
   .exact⟨c,d,e⟩
  .rw[if_pos d]at h;cases h
 .rw[if_pos c]at h;cases h
theorem Ci(h:Ce a b=0):Ah a/\Ab b/\¬ b.lt a.p:=by
 unfold Ce at h;by_cases c:Ah a
 .rw[if_neg (λg=>g c)]at h
  by_cases d:Ab b
  .rw[if_neg (λg=>g d)]at h
   by_cases e:b.lt a.p
   .rw[if_pos e]at h;cases h
   .exact⟨c,d,e⟩
  .rw[if_pos d]at h;cases h
 .rw[if_pos c]at h;cases h
theorem Gl(h:BO l)(b:Ai v):BO (Bn l v) :=
 ⟨Jg v h.1,λu a=>by
  rcases(BB h.1).1 a with rfl|⟨h2,_⟩
  .exact b.1
  .exact h.2 u h2⟩
theorem Vy(a:Acc)(l:List Vt)(h:BO a.vs):BO (Dd a l).vs:=by
 induction l generalizing a with
 | nil=>exact h
 | cons v l ih =>
  rw[Dd];refine ih _ ?_;by_cases b:AX a v=0
  .rw[if_pos b];show BO (Bq a v);rw[(D8 b).2];exact Gl h (Aq b).2.1
  .rw[if_neg b];exact h
def POk(k:Nat):Pend->Prop
 | .began b vs=>BO vs
 | .prom to b vs=>to<5/\Ap b/\BO vs
 | .voted to v=>to<5
 | .ed to b=>to<5/\Ap b
 | .prop v=>True
 | .askNews to=>to<5
 | .start=>True
 | .tell to bt=>to<5/\bt<=k
theorem POk.mono{k m:Nat}{q:Pend}(h:POk k q)(a:k<=m):POk m q:=by
 cases q<;>first|exact h|exact⟨h.1,me h.2 a⟩
def Pend.wt:Pend->Nat
 | .began _ _=>4
 | .prop _=>4
 | .start=>4
 | _=>1
def Az:List Pend->Nat
 | []=>0
 | q::l=>q.wt+Az l
theorem FF(l:List Pend)(q:Pend):Az (l++[q])=Az l+q.wt:=by
 induction l with
 | nil=>simp[Az]
 | cons x l ih=>simp only[List.cons_append,Az,ih];omega
theorem Ec(l:List Pend):l.length<=Az l:=by
 induction l with
 | nil=>exact A' _
 | cons x l ih =>
  rw[Az,mE];have:1<=x.wt:=by cases x<;>simp[Pend.wt]
  omega
structure NOk(n:Nat)(p:Nod):Prop where
 ag:p.ae.length<=40
 dn:p.done<=p.ae.length
 qu:p.av.ew.length<=40
 wa:p.bn.length<=n
 ask:∀ c,(p.bN c).isSome=true->c∈p.bn
 ro:0<=p.cF/\p.cF<=65536
 vp:Ap p.vo.p
 vs:BO p.vo.vs
 he:∀ j,BO (p.av.an j).vs
 pe:∀ q∈p.bu,POk p.ae.length q
structure LOk(l:Let):Prop where
 kd:l.kind<7
 src:l.src<5
 dst:l.dst<5
 fv:Ap l.fv
 vs:BO l.lp
 wh:l.fa.length<=40
 sl:l.kind=5->l.bt+l.fa.length<=40
theorem Ap.b0:Ap Bb:=.inr ⟨rfl,rfl⟩
theorem Ap.sO(h:Ap b):0<=b.r/\b.r<=65536/\0<=b.n/\b.n<=4:=by
 rcases h with⟨h1,h2⟩|⟨h1,h2⟩<;>omega
end
section
variable{n:Nat}{p:Nod}
theorem NOk.wait(h:NOk n p){q:Pend}(b:POk p.ae.length q):NOk n (p.wait q) :=
 { h with pe:=λr c=>(P'.1 c).elim (h.pe r) λa=>(D'.1 a)▸b }
theorem NOk.au(h:NOk n p)(b:Bal):NOk n (p.au b).1/\(p.au b).1.bu=p.bu/\(p.au b).1.ae=p.ae/\BO (p.au b).2.1/\((p.au b).2.2=0->Ab b):=by
 unfold Nod.au;by_cases a:Ce p.vo b≠0
 .rw[if_pos a];exact⟨h,rfl,rfl,BO.nil,λg=>absurd g a⟩
 .rw[if_neg a];have c:=Ci (mR a);by_cases f:b=p.vo.p
  .rw[if_pos f];exact⟨{ h with vp:=.inl c.2.1,vs:=h.vs },rfl,rfl,h.vs,λ_=>c.2.1⟩
  .rw[if_neg f];by_cases e:CD p.d p.sy (Ab b) (Br b)≠0
   .rw[if_pos e];exact⟨h,rfl,rfl,BO.nil,λg=>absurd g e⟩
   .rw[if_neg e];exact⟨{ h with vp:=.inl c.2.1,vs:=h.vs },rfl,rfl,h.vs,λ_=>c.2.1⟩
theorem NOk.cl(h:NOk n p)(v:Vt):NOk n (p.cl v).1/\(p.cl v).1.bu=p.bu/\(p.cl v).1.ae=p.ae/\(p.cl v).1.av=p.av:=by
 unfold Nod.cl;by_cases b:AX p.vo v≠0
 .rw[if_pos b];exact⟨h,rfl,rfl,rfl⟩
 .rw[if_neg b];have a:=Aq (mR b);by_cases c:v∈p.vo.vs
  .rw[if_pos c];exact⟨{ h with vp:=.inl a.2.1.2.1,vs:=Gl h.vs a.2.1 },rfl,rfl,rfl⟩
  .rw[if_neg c];by_cases e:CD p.d p.sy (Ai v) (Bi v)≠0
   .rw[if_pos e];exact⟨h,rfl,rfl,rfl⟩
   .rw[if_neg e];exact⟨{ h with vp:=.inl a.2.1.2.1,vs:=Gl h.vs a.2.1 },rfl,rfl,rfl⟩
theorem NOk.ed(h:NOk n p){to:Nat}(a:to<5)(e:Int):NOk n (p.ed to e)/\(p.ed to e).ae=p.ae/\Az (p.ed to e).bu<=Az p.bu+1:=by
 unfold Nod.ed;split
 .exact⟨h.wait ⟨a,h.vp⟩,rfl,by show Az (p.bu++[_])<=_;rw[FF];exact A' _⟩
 .exact⟨h,rfl,nf _⟩
theorem de(k:Nat)(r:Rnd)(l:List Cmd)(h:l.length<=40):(F8 k r l).length<=40/\l.length<=(F8 k r l).length:=by
 induction k generalizing l with
 | zero=>exact⟨h,A' _⟩
 | succ k ih =>
  rw[F8];split
  .rename_i h1
   have a:=Xw h1;have:=ih (l++[CM r.hU (l.length:Int)]) (by simp;omega);simp at this;exact⟨this.1,by omega⟩
  .exact⟨h,A' _⟩
theorem NOk.grow(h:NOk n p){l:List Cmd}(b:l.length<=40)(a:p.ae.length<=l.length):NOk n { p with ae:=l } :=
 { h with ag:=b,dn:=me h.dn a,pe:=λq c=>(h.pe q c).mono a }
theorem NOk.qv(h:NOk n p):NOk n p.qv/\p.qv.bu=p.bu/\p.ae.length<=p.qv.ae.length :=
 have:=de 41 p.av p.ae h.ag
 ⟨h.grow this.1 this.2,rfl,this.2⟩
theorem NOk.jv(h:NOk n p){bt:Nat}{fa:List Cmd}(a:bt<=p.ae.length)(b:bt+fa.length<=40):NOk n (p.jv bt fa)/\(p.jv bt fa).bu=p.bu/\p.ae.length<=(p.jv bt fa).ae.length:=by
 have c:=h.ag;refine⟨h.grow ?_ ?_,rfl,?_⟩
 .rw[H',mm];omega
 .rw[H'];omega
 .show _<=(p.ae++_).length;rw[H'];omega
theorem aN{α:Type}{f:Nat->α}{P:α->Prop}(h:∀ j,P (f j))(i:Nat){x:α}(a:P x):∀ j,P (upN f i x j):=by
 intro j;unfold upN;split
 .exact a
 .exact h j
theorem NOk.qJ(h:NOk n p)(j:Nat){vs:List Vt}(b:BO vs):NOk n { p with av:=p.av.qJ j vs } :=
 { h with qu:=h.qu,he:=aN (P:=λa:Acc=>BO a.vs) h.he j (Vy _ _ b) }
theorem NOk.count(h:NOk n p)(j:Nat)(v:Vt):NOk n (p.count j v)/\(p.count j v).bu=p.bu/\p.ae.length<=(p.count j v).ae.length:=by
 unfold Nod.count;by_cases d:v.b≠p.av.fv
 .rw[if_pos d];exact⟨h,rfl,A' _⟩
 .rw[if_neg d];by_cases c:AX (p.av.an j) v≠0
  .rw[if_pos c];exact⟨h,rfl,A' _⟩
  .rw[if_neg c];have e:=mR c;have:NOk n { p with av:={ p.av with an:=upN p.av.an j ⟨BH (p.av.an j) v,Bq (p.av.an j) v⟩ } } :=
    { h with qu:=h.qu,he:=aN (P:=λa:Acc=>BO a.vs) h.he j (by show BO (Bq _ v);rw[(D8 e).2];exact Gl (h.he j) (Aq e).2.1) }
   exact this.qv
theorem NOk.dT(h:NOk n p)(l:List Cmd):NOk n (p.dT l)/\(p.dT l).bu=p.bu/\(p.dT l).ae=p.ae:=by
 unfold Nod.dT;split
 .exact⟨{ h with qu:=bY _ _ h.qu,he:=h.he },rfl,rfl⟩
 .exact⟨h,rfl,rfl⟩
theorem NOk.take(h:NOk n p){l:Let}(a:LOk l):NOk n (p.take l)/\Az (p.take l).bu<=Az p.bu+1/\p.ae.length<=(p.take l).ae.length:=by
 have g:=h.ag;unfold Nod.take;have b:∀ {P:Nod} {q:Pend},P.bu=p.bu->q.wt=1->Az (P.wait q).bu<=Az p.bu+1:=λ{P q} e d=>by
  show Az (P.bu++[q])<=_;rw[FF,e,d];exact A' _
 split
 .have hp:=h.au l.fv;split
  .have:=h.ed a.src (p.au l.fv).2.2;exact⟨this.1,this.2.2,by rw[this.2.1];exact A' _⟩
  .rename_i h1
   exact⟨hp.1.wait ⟨a.src,.inl (hp.2.2.2.2 (mR h1)),hp.2.2.2.1⟩,b hp.2.1 rfl,by show _<=(p.au l.fv).1.ae.length;rw[hp.2.2.1];exact A' _⟩
 .have hk:=h.jv (bt:=0) (fa:=l.fa) (mH _) (by have:=a.wh;omega);simp only;split
  .exact⟨hk.1,by rw[hk.2.1];omega,hk.2.2⟩
  .have h2:=hk.1.qJ l.src (vs:=l.lp) a.vs;have f:NOk n { p.jv 0 l.fa with av:={ (p.jv 0 l.fa).av.qJ l.src l.lp with bw:=upN (p.jv 0 l.fa).av.bw l.src l.fa.length } }:={ h2 with qu:=h2.qu,he:=h2.he };have c:=f.qv;exact⟨c.1,by rw[c.2.1];show Az (p.jv 0 l.fa).bu<=_;rw[hk.2.1];omega,me hk.2.2 c.2.2⟩
 .have hr:=h.ro;have i:=a.fv.sO;exact⟨{ h with ro:=by show 0<=max p.cF l.fv.r/\max p.cF l.fv.r<=65536;omega },nf _,A' _⟩
 .have hp:=h.cl l.cl;split
  .have:=h.ed a.src (p.cl l.cl).2;exact⟨this.1,this.2.2,by rw[this.2.1];exact A' _⟩
  .exact⟨hp.1.wait a.src,b hp.2.1 rfl,by show _<=(p.cl l.cl).1.ae.length;rw[hp.2.2.1];exact A' _⟩
 .have:=h.count l.src l.cl;exact⟨this.1,by rw[this.2.1];omega,this.2.2⟩
 .rename_i hk
  split
  .exact⟨h.wait a.src,b rfl rfl,A' _⟩
  .have:=h.jv (bt:=l.bt) (fa:=l.fa) (by omega) (a.sl hk);exact⟨this.1,by rw[this.2.1];omega,this.2.2⟩
 .have he:=h.dT l.fa;simp only;split
  .rename_i h1
   exact⟨he.1.wait ⟨a.src,om h1⟩,b he.2.1 rfl,by show _<=(p.dT l.fa).ae.length;rw[he.2.2];exact A' _⟩
  .exact⟨he.1,by rw[he.2.1];omega,by rw[he.2.2];exact A' _⟩
 .exact⟨h,nf _,A' _⟩
end
end
section
open Go.RowKit
section
def Gj(l:List Int)(n:Nat):List Int:=l++List.replicate (n-l.length) 0
def Iu(l:List Int):List Int:=if 64<l.length then dig l else l
def fk(l:List Int):List Int:=Gj (Iu l) 64
def Bv(k:List Int)(m:Int):List Int:=k.map λx=>bits .xor .u8 x m
def Ew(key b:List Int):List Int:=dig (Bv (fk key) 92++dig (Bv (fk key) 54++b))
theorem MG(l:List Int)(n:Nat)(h:l.length<=n):(Gj l n).length=n:=by simp[Gj];omega
variable{l:List Int}{n:Nat}{w:World}
theorem PU(h:∀ x∈l,0<=x/\x<256)(n:Nat):∀ x∈Gj l n,0<=x/\x<256:=by
 intro x a;rcases P'.1 a with h1|h1
 .exact h x h1
 .rw[List.eq_of_mem_replicate h1];omega
theorem OH(l:List Int):(Iu l).length<=64:=by
 unfold Iu;split
 .rw[AD];omega
 .omega
theorem Sq(h:∀ x∈l,0<=x/\x<256):∀ x∈Iu l,0<=x/\x<256:=by
 unfold Iu;split
 .exact DF l
 .exact h
theorem EX(l:List Int):(fk l).length=64:=MG _ _ (OH l)
theorem cz(h:∀ x∈l,0<=x/\x<256):∀ x∈fk l,0<=x/\x<256:=PU (Sq h) 64
theorem F9(l:List Int)(m:Int):(Bv l m).length=l.length:=by simp[Bv]
theorem Ly(h:∀ x∈l,0<=x/\x<256){m:Int}(b:0<=m/\m<256):∀ x∈Bv l m,0<=x/\x<256:=by
 intro x c;obtain⟨y,d,rfl⟩:=mA.1 c;have a:=h y d;rw[u8_xor _ _ a.1 a.2 b.1 b.2];have:y.toNat ^^^ m.toNat<256:=oW (n:=8) (by omega) (by omega);omega
theorem DJ(k b:List Int):(Ew k b).length=32:=rfl
theorem NK(k b:List Int):∀ x∈Ew k b,0<=x/\x<256:=DF _
theorem ND:(prog.info? 5).map (·.size)=some 1:=by kernel_rfl
theorem JY(l:List Int):splice ((List.replicate 64 (0:Int)).map (Value.int .u8)) 0 (l.map (Value.int .u8))=(Gj l 64).map (Value.int .u8):=by
 have e:(List.replicate 64 (0:Int)).map (Value.int .u8)=List.replicate 64 (Value.int .u8 0):=oX;rw[e];simp only[splice,Gj,nw,nC,mw,mT,List.drop_replicate,mB,oX]
theorem IR{P:Program}{e:Array Oper}{b:List Oper}{o:Oper}{a:Act}{Q:Exit->Act->World->Prop}(i:o.guard=none)(j:TypeId)(x y:Operand)(q:o.op=.store j x y)(g:Nat)(cells:Array Value)(r:a.eval x=.pointer (some ⟨g,0,none⟩))(s:a.eval y=.agg cells)(t:TypeId)(c:Array Value)(k:w.heap[g]?=some (.cells c t (0,0)))(p:(P.info? j).map (·.size)=some cells.size)(d:c.size=cells.size)(m:cells.all (·.oneCell')=true)(B:Nat)(l:World)(n:Below B l w)(f:B<=g)(h:∀ w',w'.heap[g]?=some (.cells cells t (0,0))->Below B l w'->wpList P e Q b (a.put o.dst undef) w'):wpList P e Q (o::b) a w :=
 wpList_store_row i j x y q g cells r s t c k p d m (h _ (setRow_heap w g _ _ t _ k) (BP n f _))
theorem Sl.rG{i:Option Addr}{c:Nat}(h:Sl w (.slice i n c) l)(q:0<l.length):∃ ad,i=some ad/\∀ (j:Nat) (v:Value),(l.map (Value.int .u8))[j]?=some v->w.cell? (ad.add j)=some v:=by
 obtain⟨⟨a,k,e,r,s,m⟩,p,o⟩:=h;simp only[Value.slice.injEq]at e;obtain⟨rfl,rfl,rfl⟩:=e;rcases m with rfl|⟨b,off,rfl,_,hcell⟩
 .simp at q
 .refine⟨_,rfl,λj v g=>?_⟩;have d:j<l.length:=by
   have:=(V'.1 g).1;simpa using this
  have f:(⟨b,off,none⟩:Addr).add j=⟨b,off+j,none⟩:=by unfold Addr.add;split<;>simp_all
  rw[f,hcell j d];simp[List.getElem?_eq_getElem d]at g
  rw[AY d,g]
theorem PW(v:Value)(l:List Int)(w:World)(h:Sl w v l)(L:l.length<=100000)(O:AJ w) :
  Calls prog 145 #[v] w λe w'=>e=.returned (.agg (AU (fk l)))/\Bw w w':=by
 have F:=h;obtain⟨⟨a,I,rfl,R,S,D⟩,M,z⟩:=h;have Q:Hid _:=D;have c:(prog.info? 224).map (·.size)=some (AU (fk l)).size:=by rw[AH,EX];kernel_rfl
 clear D z;by_cases E:64<l.length
 .have ek:Iu l=dig l:=by unfold Iu;rw[if_pos E]
  have y:Hid (fk l=Gj (dig l) 64):=by unfold Hid fk;rw[ek]
  clear ek;go_enter func145,ntmps145
  go_wp2_with fail
  generalize i:w.alloc _=W0;have d:Bw w W0:=by rw[<- i];exact(Below.refl _ _).alloc (A' _) _
  have u:W0.heap[w.heap.size]?=some (.cells (AU (List.replicate 64 0)) 224 (0,0)):=by rw[<- i];exact heap_alloc_new _ _
  have C:W0.heap.size=w.heap.size+1:=by rw[<- i];simp
  clear i;refine(Fy _ l W0 (F.af d) L (O.af d)).mono ?_;rintro e j ⟨T,rfl,o,m⟩;obtain⟨J,H,P,A,B,K,n,_⟩:=Em o (FC (AD l));subst P;have p:j.heap[w.heap.size]?=some (.cells (AU (List.replicate 64 0)) 224 (0,0)):=(m.block _ (by omega)).trans u;have t:Bw w j:=d.trans (m.mono d.size);have x:w.heap.size<j.heap.size:=(U'.1 p).1;have G:Sl j (.slice (some ⟨J,0,none⟩) (dig l).length H) (dig l):=Sl.pd o (by rw[AD];omega) (DF l);go_wp2_with (refine wpList_copy_splice rfl _ _ 24 24 rfl 5 underlying24 ND _ _ _ _ _ _ rfl rfl j.heap.size 0 ((List.replicate 64 (0:Int)).map (Value.int .u8)) 224 (heap_alloc_new _ _) ((dig l).map (Value.int .u8)) (by rw[mw,AD];rfl) (λ_=>⟨rfl,(G.af ((Below.refl _ _).alloc (A' _) _)).rG (by rw[AD];omega)⟩) (by rw[mw,AD];simp) (EY _) j.heap.size _ (Below.refl _ _) (A' _) ?_)
  intro g r b;have q:g.heap[j.heap.size]?=some (.cells (AU (fk l)) 224 (0,0)):=by
   have s:g.heap[j.heap.size]?=some (.cells (splice ((List.replicate 64 (0:Int)).map (Value.int .u8)) 0 ((dig l).map (Value.int .u8))).toArray 224 (0,0)):=r.out;rw[JY]at s
   rw[y.out];exact s
  have k:Bw w g:=(t.alloc t.size _).trans (b.mono (by omega));have f:g.heap[w.heap.size]?=some (.cells (AU (List.replicate 64 0)) 224 (0,0)):=by
   rw[b.block _ x,heap_alloc_old _ _ x];exact p
  clear r b p u C d m n o G B A;go_wp2_with (first|(refine wpList_load_row rfl 224 _ rfl j.heap.size rfl 224 _ (0,0) _ q underlying224 rfl c ?_)|(refine wpList_store_row rfl 224 _ _ rfl w.heap.size _ rfl rfl 224 _ f c (by rw[AH,AH,EX];rfl) (KO _) ?_))
  refine bodyPost_ret (v:=.agg (AU (fk l))) (results_cell_row rfl _ _ w.heap.size 224 _ (0,0) _ rfl (setRow_heap g w.heap.size _ _ 224 _ f) underlying224 rfl c) rfl ⟨rfl,BP k (A' _) _⟩
 .have ek:Iu l=l:=by unfold Iu;rw[if_neg E]
  have y:Hid (fk l=Gj l 64):=by unfold Hid fk;rw[ek]
  clear ek;go_enter func145,ntmps145
  go_wp2_with (refine wpList_copy_splice rfl _ _ 24 24 rfl 5 underlying24 ND _ _ _ _ _ _ rfl rfl (w.heap.size+1) 0 ((List.replicate 64 (0:Int)).map (Value.int .u8)) 224 (heap_alloc2_new _ _ _) (l.map (Value.int .u8)) (by rw[mw];exact(nm (show l.length<=64 by omega)).symm) (λN=>⟨rfl,(F.af (((Below.refl _ _).alloc (A' _) _).alloc (by simp) _)).rG (by simpa using N)⟩) (by rw[mw,mw,nB];omega) (EY _) (w.heap.size+1) _ (Below.refl _ _) (A' _) ?_)
  intro g r b;have q:g.heap[w.heap.size+1]?=some (.cells (AU (fk l)) 224 (0,0)):=by
   have s:g.heap[w.heap.size+1]?=some (.cells (splice ((List.replicate 64 (0:Int)).map (Value.int .u8)) 0 (l.map (Value.int .u8))).toArray 224 (0,0)):=r.out;rw[JY]at s
   rw[y.out];exact s
  have k:Bw w g:=(((Below.refl _ _).alloc (A' _) _).alloc (by simp) _).trans (b.mono (by omega));have f:g.heap[w.heap.size]?=some (.cells (AU (List.replicate 64 0)) 224 (0,0)):=by
   rw[b.block _ (by omega)];exact heap_alloc2_old _ _ _
  clear r b;go_wp2_with (first|(refine wpList_load_row rfl 224 _ rfl (w.heap.size+1) rfl 224 _ (0,0) _ q underlying224 rfl c ?_)|(refine wpList_store_row rfl 224 _ _ rfl w.heap.size _ rfl rfl 224 _ f c (by rw[AH,AH,EX];rfl) (KO _) ?_))
  refine bodyPost_ret (v:=.agg (AU (fk l))) (results_cell_row rfl _ _ w.heap.size 224 _ (0,0) _ rfl (setRow_heap g w.heap.size _ _ 224 _ f) underlying224 rfl c) rfl ⟨rfl,BP k (A' _) _⟩
theorem cS(l:List Int)(d:l.length=64)(j:Nat)(c:j<64):∀ w,(Instr.index 224 (.agg (AU l)) (.int .i64 (j:Int))).run prog w=.ok (.int .u8 (l.getD j 0)) w:=by
 intro w;have b:(AU l)[j]?=some (.int .u8 (l.getD j 0)):=by
  simp[AU,List.getElem?_eq_getElem (show j<l.length by omega),List.getD]
 have a:(0:Int)<=j/\(j:Int)<64:=by omega
 simp[Instr.index,run_underlying underlying224,asIntOf,a,part,b];intro h;omega
theorem Lz(k:List Int)(m:Int)(w:World)(q:k.length=64)(I:0<=m/\m<256)(K:∀ x∈k,0<=x/\x<256) :
  Calls prog 147 #[.agg (AU k),.int .u8 m] w λe w'=>∃ v',e=.returned v'/\w'.ownsRow w.heap.size 5 1 v' (Bv k m).length ((Bv k m).map (Value.int .u8))/\Bw w w':=by
 obtain⟨M,L,C,D,E⟩:=info_parts Av;have B:(prog.info? 224).map (·.size)=some (AU k).size:=by rw[AH,q];kernel_rfl
 have u:Hid (k.length=64):=q;clear q;go_enter func147,ntmps147
 go_wp2_with (at_make;refine wpList_make_own _ rfl _ _ 24 rfl w.heap.size 5 M (.int .u8 0) 1 underlying24 L C D _ _ _ 64 rfl rfl (by omega) (by rw[E];omega) (by unfold maxLen;omega) (by simp) ?_)
 intro F t h;have o:Bw w F:=((Below.refl _ _).alloc (A' _) _).grown h (by simp) (by simp);have g:F.heap[w.heap.size]?=some (.cells (AU k) 224 (0,0)):=by
  rw[h.block w.heap.size (by simp) (by simp)];exact heap_alloc_new _ _
 have f:F.ownsRow w.heap.size 5 1 (.slice (some ⟨w.heap.size+1,0,none⟩) 0 64) (Bv (k.take 0) m).length ((Bv (k.take 0) m).map (Value.int .u8)):=t;clear t h;go_wp2_with (refine wpList_load_row rfl 224 _ rfl w.heap.size rfl 224 _ (0,0) _ g underlying224 rfl B ?_)
 go_loopw [5,10] (λv i wr=>∃ j:Nat,j<=64/\i=.int .i64 j/\wr.ownsRow w.heap.size 5 1 v (Bv (k.take j) m).length ((Bv (k.take j) m).map (Value.int .u8))/\Bw w wr) (λ_ i _=>64-(intOf i).toNat)
 case atStart=>exact⟨0,by omega,rfl,f,o⟩
 case round =>
  clear f o g;obtain⟨j,N,rfl,a,b⟩:=hrel;have s:=a.lt;by_cases d:j<64
  .have hix:=cS k u.out j d;have r:(Bv (k.take j) m).length<=64:=by rw[F9,X'];omega
   have y:Hid (Bv (k.take (j+1)) m=Bv (k.take j) m++[bits .xor .u8 (k.getD j 0) m]):=by
    unfold Hid;have p:j<k.length:=by rw[u.out];exact d
    rw[my p,AY p,Bv,mB];rfl
   have c:=Al K j;have l:0<=bits .xor .u8 (k.getD j 0) m/\bits .xor .u8 (k.getD j 0) m<256:=by
    rw[u8_xor _ _ c.1 c.2 I.1 I.2];have:(k.getD j 0).toNat ^^^ m.toNat<256:=oW (n:=8) (by omega) (by omega);omega
   have G:Hid (0<=bits .xor .u8 (k.getD j 0) m/\bits .xor .u8 (k.getD j 0) m<256):=l;generalize Bv (k.take j) m=pre at a y r;generalize k.getD j 0=x at hix y c l G;clear l c;go_wp2_with (at_builtin;refine Aa _ rfl _ _ 24 rfl w.heap.size 5 underlying24 Av _ _ rfl rfl pre _ (a.alloc _) (Sl.one _ _ _ rfl G.out) (by simp;omega) (by have:=b.size;simp;omega) ?_)
   intro v' w' J H;have A:w'.ownsRow w.heap.size 5 1 v' (pre++[bits .xor .u8 x m]).length ((pre++[bits .xor .u8 x m]).map (Value.int .u8)):=by simpa using J
   have z:Bw w w':=(b.alloc b.size _).grown H (by have:=b.size;simp;omega) (λk q=>(s k q).1);clear J H a s b;go_wp2
   go_roundw
   case rel=>exact⟨j+1,by omega,by go_num,by rw[y.out];exact A,z⟩
   case measure=>simp[intOf];omega
  .have HJ:Hid (k.take j=k):=by unfold Hid;exact mq (by rw[u.out];omega)
   go_wp2
   go_ret;refine⟨u5,rfl,?_,b⟩;rw[HJ.out]at a
   exact a
theorem OL(vk vb:Value)(k b:List Int)(w:World)(C:Sl w vk k)(hb:Sl w vb b)(Z:k.length<=100000)(a3:b.length<=90000)(ht:AJ w) :
  Calls prog 114 #[vk,vb] w λe w'=>∃ v',e=.returned v'/\Fresh w w' v' (Ew k b):=by
 have n:(prog.info? 224).map (·.size)=some (AU (fk k)).size:=by rw[AH,EX];kernel_rfl
 have d:=cz C.byte;have c:=EX k;have F:Hid (Ew k b=dig (Bv (fk k) 92++dig (Bv (fk k) 54++b))):=rfl;go_enter func114,ntmps114
 go_wp2_with fail
 refine(PW vk k w C Z ht).mono ?_;rintro e R ⟨rfl,v⟩;generalize fk k=K at n d c F ⊢;go_wp2_with (refine IR rfl 224 _ _ rfl R.heap.size _ rfl rfl 224 _ (heap_alloc_new _ _) n (by rw[AH,c];rfl) (KO _) w.heap.size w (v.alloc v.size _) v.size ?_)
 intro E g a;have hz:R.heap.size<E.heap.size:=(U'.1 g).1;go_wp2_with (refine wpList_load_row rfl 224 _ rfl R.heap.size rfl 224 _ (0,0) _ g underlying224 rfl n ?_)
 refine(Lz K 54 E c (by omega) d).mono ?_;rintro e w3 ⟨v3,rfl,z,j⟩;have U:Bw w w3:=a.trans (j.mono a.size);have p:=z.lt;have s:(Bv K 54).length=64:=by rw[F9,c]
 have t:(Bv K 92).length=64:=by rw[F9,c]
 have G:=Ly d (m:=54) (by omega);have H:=Ly d (m:=92) (by omega);go_wp2_with (at_builtin;refine Aa _ rfl _ _ 24 rfl E.heap.size 5 underlying24 Av _ _ rfl rfl (Bv K 54) b z (hb.af U) (by omega) j.size ?_)
 intro v4 S O M;have y:Bw E S:=j.grown M j.size (λk C=>(p k C).1);have V:Bw w S:=a.trans (y.mono a.size);have f:S.ownsRow E.heap.size 5 1 v4 (Bv K 54++b).length ((Bv K 54++b).map (Value.int .u8)):=by simpa[s]using O
 have I:∀ x∈Bv K 54++b,0<=x/\x<256:=λx hx=>by
  rcases P'.1 hx with h|h
  .exact G x h
  .exact hb.byte x h
 have a1:(Bv K 54++b).length<=91000:=by rw[H',s];omega
 clear O M z p;generalize Bv K 54++b=L4 at f I a1 F;go_wp2_with fail
 refine(Fy v4 L4 S (Sl.pd f (by omega) I) (by omega) (ht.af V)).mono ?_;rintro e u ⟨v5,rfl,P,W⟩;have o:Bw E u:=y.trans (W.mono y.size);have s5:Sl u v5 (dig L4):=Sl.pd P (by rw[AD];omega) (DF L4);have l5:=AD L4;have y5:=DF L4;generalize dig L4=D at s5 F l5 y5;have B:u.heap[R.heap.size]?=some (.cells (AU K) 224 (0,0)):=(o.block _ hz).trans g;clear f P;go_wp2_with (refine wpList_load_row rfl 224 _ rfl R.heap.size rfl 224 _ (0,0) _ B underlying224 rfl n ?_)
 refine(Lz K 92 u c (by omega) d).mono ?_;rintro e w6 ⟨v6,rfl,A,l⟩;have q:=A.lt;go_wp2_with (at_builtin;refine Aa _ rfl _ _ 24 rfl u.heap.size 5 underlying24 Av _ _ rfl rfl (Bv K 92) D A (s5.af l) (by omega) l.size ?_)
 intro v7 T Q N;have X:Bw u T:=l.grown N l.size (λk C=>(q k C).1);have L:Bw w u:=a.trans (o.mono a.size);have i:Bw w T:=L.trans (X.mono L.size);have r:T.ownsRow u.heap.size 5 1 v7 (Bv K 92++D).length ((Bv K 92++D).map (Value.int .u8)):=by simpa[t,l5]using Q
 have J:∀ x∈Bv K 92++D,0<=x/\x<256:=λx hx=>by
  rcases P'.1 hx with h|h
  .exact H x h
  .exact y5 x h
 have a2:(Bv K 92++D).length<=96:=by rw[H',t];omega
 clear Q N A q;generalize Bv K 92++D=L7 at r J a2 F;go_wp2_with fail
 refine(Fy v7 L7 T (Sl.pd r (by omega) J) (by omega) (ht.af i)).mono ?_;rintro e w8 ⟨v8,rfl,a0,Y⟩;go_wp2
 go_ret;refine⟨v8,rfl,?_⟩;rw[F.out];exact Fresh.pd (Ca a0 i.size) (FC (AD L7)) (by rw[AD];omega) (DF L7) (i.trans (Y.mono i.size))
theorem fL(m l:Value)(k b:List Int)(w:World)(i:Sl w m k)(h:Sl w l b)(q:k.length<=256)(o:b.length<=2000)(t:AJ w) :
  Calls prog 112 #[m,l] w λe w'=>∃ v',e=.returned (.tuple #[v',.int .i64 0])/\Fresh w w' v' (Ew k b):=by
 have s:=i;have f:=h;obtain⟨⟨a,n,rfl,_,_,_⟩,r,d⟩:=i;obtain⟨⟨v,g,rfl,_,_,_⟩,j,c⟩:=h;clear d c;go_enter func112,ntmps112
 go_wp2_with fail
 refine(OL _ _ k b w s f (by omega) (by omega) t).mono ?_;rintro e x ⟨u,rfl,p⟩;go_wp2
 go_ret2
 exact⟨u,rfl,p⟩
theorem ON(L M:Value)(a i:List Int)(c:Int)(w:World)(H:Sl w L a)(I:Sl w M i)(S:a.length<=1000)(U:i.length<=1000)(T:0<=c/\c<256) :
  Calls prog 144 #[L,M,.int .u8 c] w λe w'=>∃ v',e=.returned v'/\w'.ownsRow w.heap.size 5 1 v' (a++i++[c]).length ((a++i++[c]).map (Value.int .u8))/\Bw w w':=by
 obtain⟨X,A,D,E,F⟩:=info_parts Av;have W:=H;have C:=I;obtain⟨⟨aa,R,rfl,_,_,_⟩,V,z⟩:=H;obtain⟨⟨a2,G,rfl,_,_,_⟩,J,n⟩:=I;clear z n;go_enter func144,ntmps144
 go_wp2_with (at_make;refine wpList_make_own _ rfl _ _ 24 rfl w.heap.size 5 X (.int .u8 0) 1 underlying24 A D E _ _ _ (a.length+i.length+1) rfl rfl (by omega) (by rw[F];omega) (by unfold maxLen;omega) (A' _) ?_)
 intro N s o;have b:Bw w N:=(Below.refl _ _).grown o (A' _) (by simp);have m:N.ownsRow w.heap.size 5 1 (.slice (some ⟨w.heap.size,0,none⟩) 0 (a.length+i.length+1)) ([]:List Int).length (([]:List Int).map (Value.int .u8)):=s;clear s o;go_wp2_with (at_builtin;refine Aa _ rfl _ _ 24 rfl w.heap.size 5 underlying24 Av _ _ rfl rfl [] a m (W.af b) (by simp;omega) b.size ?_)
 intro Y O t p;have g:O.ownsRow w.heap.size 5 1 Y a.length (a.map (Value.int .u8)):=by simpa using t
 have d:Bw w O:=b.grown p b.size (by simp[Value.ownBlock]);have j:=g.lt;clear m p b t;go_wp2_with (at_builtin;refine Aa _ rfl _ _ 24 rfl w.heap.size 5 underlying24 Av _ _ rfl rfl a i g (C.af d) (by omega) d.size ?_)
 intro Z P u q;have h:P.ownsRow w.heap.size 5 1 Z (a++i).length ((a++i).map (Value.int .u8)):=by simpa using u
 have f:Bw w P:=d.grown q d.size (λk B=>(j k B).1);have l:=h.lt;clear g q d u j;go_wp2_with (at_builtin;refine Aa _ rfl _ _ 24 rfl w.heap.size 5 underlying24 Av _ _ rfl rfl (a++i) [c] (h.alloc _) (Sl.one _ _ _ rfl T) (by simp;omega) (by have:=f.size;simp;omega) ?_)
 intro K Q v r;have x:Q.ownsRow w.heap.size 5 1 K (a++i++[c]).length ((a++i++[c]).map (Value.int .u8)):=by simpa using v
 have y:Bw w Q:=(f.alloc f.size _).grown r (by have:=f.size;simp;omega) (λk B=>(l k B).1);clear h r f v l;go_wp2
 go_ret;exact⟨K,rfl,x,y⟩
theorem Sl.grown{m:World}{b c d:Nat}{row:Option Nat}(h:Sl w (.slice (some ⟨b,c,none⟩) n d) l)(k:w.grownBy m row)(j:some b≠row):Sl m (.slice (some ⟨b,c,none⟩) n d) l:=by
 obtain⟨⟨a,f,e,q,s,g⟩,o,p⟩:=h;refine⟨⟨a,f,e,q,s,?_⟩,o,p⟩;simp only[Value.slice.injEq]at e;obtain⟨rfl,_,_⟩:=e;rcases g with g|⟨b',off',e',hbs,hcell⟩
 .exact .inl g
 .simp only[Y',Addr.mk.injEq,and_true]at e';obtain⟨rfl,rfl⟩:=e';refine .inr ⟨b,c,rfl,j' hbs k.size,λi r=>?_⟩;rw[<- hcell i r];exact World.cell?_of_block (w:=w) (k.block b hbs j)
def blk(key info:List Int):Nat->List Int
 | 0=>[]
 | i+1=>Ew key (blk key info i++info++[(i:Int)+1])
def Bp(key info:List Int):Nat->List Int
 | 0=>[]
 | i+1=>Bp key info i++blk key info (i+1)
def Gg(key info:List Int)(n:Nat):List Int:=(Bp key info 16).take n
theorem Hp(key a:List Int)(i:Nat):(blk key a (i+1)).length=32:=DJ _ _
theorem Xk(key a:List Int)(i:Nat):∀ x∈blk key a i,0<=x/\x<256:=by
 cases i with
 | zero=>intro x b;cases b
 | succ i=>exact NK _ _
theorem gd(key a:List Int)(i:Nat):(blk key a i).length<=32:=by
 cases i with
 | zero=>simp[blk]
 | succ i=>rw[Hp];omega
theorem CQ(key a:List Int)(i:Nat):(Bp key a i).length=32*i:=by
 induction i with
 | zero=>rfl
 | succ i ih=>rw[Bp,H',ih,Hp];omega
theorem QS(key a:List Int)(i:Nat):∀ x∈Bp key a i,0<=x/\x<256:=by
 induction i with
 | zero=>intro x b;cases b
 | succ i ih =>
  intro x b;rcases P'.1 b with h|h
  .exact ih x h
  .exact Xk key a (i+1) x h
theorem QT(key a:List Int)(n i j:Nat)(b:n<=32*i):(Bp key a (i+j)).take n=(Bp key a i).take n:=by
 induction j with
 | zero=>rfl
 | succ j ih=>rw[<- m8,Bp,mK (by rw[CQ];omega),ih]
theorem Vh(key a:List Int)(n i:Nat):(Bp key a (i+1)).take n=(Bp key a i).take n++(blk key a (i+1)).take (n-32*i):=by
 rw[Bp,List.take_append,CQ]
theorem RU(vk vi:Value)(k i:List Int)(n:Nat)(w:World)(hk:Sl w vk k)(hi:Sl w vi i)(a9:k.length<=1000)(a8:i.length<=900)(hn:n<=512)(ht:AJ w) :
  Calls prog 113 #[vk,vi,.int .i64 n] w λe w'=>∃ v',e=.returned v'/\w'.ownsRow w.heap.size 5 1 v' (Gg k i n).length ((Gg k i n).map (Value.int .u8))/\Bw w w':=by
 obtain⟨i0,Z,a2,a3,a4⟩:=info_parts Av;go_enter func113,ntmps113
 go_wp2_with (at_make;refine wpList_make_own _ rfl _ _ 24 rfl w.heap.size 5 i0 (.int .u8 0) 1 underlying24 Z a2 a3 _ _ _ n rfl rfl (by omega) (by rw[a4];omega) (by unfold maxLen;omega) (A' _) ?_)
 intro w1 J I;have H:Bw w w1:=(Below.refl _ _).grown I (A' _) (by simp);have y:w1.ownsRow w.heap.size 5 1 (.slice (some ⟨w.heap.size,0,none⟩) 0 n) ((Bp k i 0).take n).length (((Bp k i 0).take n).map (Value.int .u8)):=by simpa[Bp]using J
 clear J I;go_wp2_with fail
 go_loopw [7,8,9] (λv b c wr=>∃ j:Nat,j<=16/\c=.int .u8 ((j:Int)+1)/\(∃ m z,v=.slice (some ⟨m,0,none⟩) (min (32*j) n) z)/\Sl wr b (blk k i j)/\wr.ownsRow w.heap.size 5 1 v ((Bp k i j).take n).length (((Bp k i j).take n).map (Value.int .u8))/\Bw w wr) (λ_ _ c _=>(17-intOf c).toNat)
 case atStart=>exact⟨0,by omega,rfl,⟨w.heap.size,n,by simp⟩,Sl.nil _ _,y,H⟩
 case round =>
  clear y H;obtain⟨j,hj,rfl,⟨m,z,rfl⟩,sb,f,V⟩:=hrel;have B:=f.lt;by_cases hc:32*j<n
  .have d:min (32*j) n=32*j:=by omega
   rw[d]at f B ⊢
   have a0:m<wr.heap.size:=(B m rfl).2;have l:((Bp k i j).take n).length=32*j:=by rw[X',CQ];omega
   have a7:=gd k i j;have a5:j<=15:=by omega
   have HB:Hid (blk k i (j+1)=Ew k (blk k i j++i++[(j:Int)+1])):=rfl;have HS:=Vh k i n j;have E:Hid _:=HS;have yb:∀ x∈blk k i j++i++[(j:Int)+1],0<=x/\x<256:=λx hx=>by
    rcases P'.1 hx with h|h
    .rcases P'.1 h with h|h
     .exact sb.byte x h
     .exact hi.byte x h
    .obtain rfl:x=(j:Int)+1:=by simpa using h
     omega
   clear HS d;go_wp2_with fail
   refine(ON _ vi (blk k i j) i ((j:Int)+1) wr sb (hi.af V) (by omega) (by omega) (by omega)).mono ?_;rintro e w2 ⟨v2,rfl,K,a⟩;have s:Bw w w2:=V.trans (a.mono V.size);have l2:(blk k i j++i++[(j:Int)+1]).length<=2000:=by simp;omega
   have s2:=Sl.pd K (by omega) yb;go_wp2_with fail
   refine(OL vk v2 k _ w2 (hk.af s) s2 (by omega) (by omega) (ht.af s)).mono ?_;rintro e R ⟨v3,rfl,F⟩;rw[<- HB.out]at F
   obtain⟨T,S,N,_,Y⟩:=F.shape;have s3:=F.sl;have o:=F.rY;have l3:=Hp k i j;rw[l3]at N Y
   subst N;clear HB F s2 K l2 yb sb;have a1:=f;have g:R.ownsRow w.heap.size 5 1 (.slice (some ⟨m,0,none⟩) (32*j) z) ((Bp k i j).take n).length (((Bp k i j).take n).map (Value.int .u8)):=by
    refine f.kept (row:=none) ⟨(a.trans (o.mono a.size)).os,(a.trans (o.mono a.size)).tape,(a.trans (o.mono a.size)).output,(a.trans (o.mono a.size)).size,λq hq _=>(a.trans (o.mono a.size)).block q hq⟩ (.inr (by simp[Value.ownBlock]))
   have t:Bw w R:=s.trans (o.mono s.size);have p:=g.lt;have C:Hid ((Bp k i (j+1)).take n=(Bp k i j).take n++(blk k i (j+1)).take (n-32*j)):=E.out;clear E a1 f B;have U:((blk k i (j+1)).take (n-32*j)).length=min (n-32*j) 32:=by rw[X',l3]
   have sM:Sl R (.slice (some ⟨T,0,none⟩) (min (n-32*j) 32) S) ((blk k i (j+1)).take (n-32*j)):=by
    by_cases hq:n-32*j<=32
    .rw[nm hq];exact s3.take (n-32*j) (by omega)
    .rw[Nat.min_eq_right (by omega),mq (by omega)];exact s3
   have HN:=s3;have u:((Bp k i (j+1)).take n).length=min (32*(j+1)) n:=by rw[X',CQ];omega
   have D:Hid (((Bp k i (j+1)).take n).length=min (32*(j+1)) n):=u;clear HN u;generalize (blk k i (j+1)).take (n-32*j)=M at sM U C;generalize (Bp k i j).take n=P at g p l C;have SB:Sl R (.slice (some ⟨T,0,none⟩) 32 S) (blk k i (j+1)):=s3;clear s3;have d:(min (32:Int) ((n:Int)-32*(j:Int))).toNat=min (n-32*j) 32:=by omega
   have Q:Sl R (.slice (some ⟨T,0,none⟩) (min (32:Int) ((n:Int)-32*(j:Int))).toNat S) M:=by rw[d];exact sM
   have a6:m<w2.heap.size:=j' a0 a.size;clear d sM;go_wp2_with (at_builtin;refine Aa _ rfl _ _ 24 rfl w.heap.size 5 underlying24 Av _ _ rfl rfl P M g Q (by omega) t.size ?_)
   intro v4 w4 L A;have r:w4.ownsRow w.heap.size 5 1 v4 (P++M).length ((P++M).map (Value.int .u8)):=by simpa[l,U]using L
   have X:Bw w w4:=t.grown A t.size (λk hk=>(p k hk).1);have W:Sl w4 (.slice (some ⟨T,0,none⟩) 32 S) (blk k i (j+1)):=SB.grown A (by simp[Value.ownBlock];omega);obtain⟨g4,c4,O,_,_,_,_,_⟩:=Em r (by intro e;have:=congrArg List.length e;rw[H',l,U]at this;simp at this;omega);have G:(P++M).length=min (32*(j+1)) n:=by rw[<- C.out];exact D.out
   rw[<- C.out]at r
   rw[G]at O
   subst O;clear L A g p t SB Q U C D G l;go_wp2
   go_roundw
   case rel=>exact⟨j+1,by omega,by go_num,⟨g4,c4,rfl⟩,W,r,X⟩
   case measure=>simp[intOf];omega
  .have d:min (32*j) n=n:=by omega
   rw[d]at f ⊢
   have HQ:Hid (Gg k i n=(Bp k i j).take n):=by
    unfold Hid Gg;have:=QT k i n j (16-j) (by omega);rw[show j+(16-j)=16 by omega]at this
    exact this
   go_wp2
   go_ret;refine⟨_,rfl,?_,V⟩;rw[HQ.out];exact f
theorem In(k i:List Int)(n:Nat)(h:n<=512):(Gg k i n).length=n:=by
 unfold Gg;rw[X',CQ];omega
theorem Lc(k i:List Int)(n:Nat):∀ x∈Gg k i n,0<=x/\x<256:=λx a=>QS k i 16 x (mr a)
theorem T7(o f g:Value)(a b d:List Int)(n:Nat)(w:World)(j:Sl w o a)(k:Sl w f b)(l:Sl w g d)(p:a.length<=256)(q:b.length<=256)(r:d.length<=256)(s:n<=512)(m:AJ w) :
  Calls prog 75 #[o,f,g,.int .i64 n] w λe w'=>∃ v',e=.returned (.tuple #[v',.int .i64 0])/\w'.ownsRow w.heap.size 5 1 v' (Gg (Ew b a) d n).length ((Gg (Ew b a) d n).map (Value.int .u8))/\Bw w w':=by
 have s0:=j;have t:=k;have u:=l;obtain⟨⟨a0,z,rfl,_,_,_⟩,_,_⟩:=j;obtain⟨⟨x,A,rfl,_,_,_⟩,_,_⟩:=k;obtain⟨⟨y,B,rfl,_,_,_⟩,_,_⟩:=l;have C:decide ((256:Int)<(a.length:Int))=false:=by simp;omega
 have D:decide ((256:Int)<(b.length:Int))=false:=by simp;omega
 have E:decide ((256:Int)<(d.length:Int))=false:=by simp;omega
 have F:decide ((n:Int)<0)=false:=by simp
 have G:decide ((512:Int)<(n:Int))=false:=by simp;omega
 go_enter func75,ntmps75
 go_wp2_with fail
 refine(OL _ _ b a w t s0 (by omega) (by omega) m).mono ?_;rintro e v ⟨f,rfl,c⟩;have H:=DJ b a;go_wp2_with fail
 refine(RU f _ (Ew b a) d n v c.sl (u.af c.rY) (by omega) (by omega) s (m.af c.rY)).mono ?_;rintro e I ⟨g,rfl,i,h⟩;go_wp2
 go_ret2
 exact⟨g,rfl,Ca i c.rY.size,c.rY.trans (h.mono c.rY.size)⟩
def Ji(c:Int):List Int:=Gg (Ew [99,108,105,101,110,116] [c]) [] 32
def F6:List Int:=Gg (Ew [105,115,115,117,101,114] [255]) [] 32
theorem DI(c:Int):(Ji c).length=32:=In _ _ 32 (by omega)
theorem JI:F6.length=32:=In _ _ 32 (by omega)
theorem V3(c:Int):∀ x∈Ji c,0<=x/\x<256:=Lc _ _ _
theorem V0:∀ x∈F6,0<=x/\x<256:=Lc _ _ _
theorem Sl.sI(w:World)(l:List Int)(e:TypeId)(a:Nat × Nat){g:Nat}(c:g=w.heap.size)(f:l.length=6)(b:∀ x∈l,0<=x/\x<256):Sl (w.alloc (.cells (l.map (Value.int .u8)).toArray e a)) (.slice (some ⟨g,0,none⟩) 6 6) l:=by
 subst c;refine⟨⟨_,6,by rw[f],by omega,by simp,.inr ⟨w.heap.size,0,rfl,by simp,λi d=>?_⟩⟩,by omega,b⟩;rw[cell_of_row _ _ (0+i) _ _ _ (heap_alloc_new w _)];simp[List.getElem?_eq_getElem d,List.getD]
end
end
end Go.Proofs.YtgbabbapcibnlabGreatDoor
