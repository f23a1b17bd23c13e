/- Part 9 of the walk. -/
import Derived.LoopN
import Derived.Lib.SmallJoins
import Derived.Test.YthohlalejhgbmaaGreatDoorZ8
set_option maxRecDepth 100000
set_option maxHeartbeats 4000000
open Go.Proofs.Tryz
set_option linter.unusedVariables false
namespace Go.Proofs.YthohlalejhgbmaaGreatDoor
section
open Go.RowKit
section
variable{P:Program}{fn:Func}{R:Ending->World->Prop}{B:Nat}{T:List Tg}{g:Gh}{w:World}
theorem dx{s:Xs}(k n:Nat)(a:List (Nat × Value))(m:List Bool)(i:List Sh)(o:R4 s.K=true)(q:s.f.n=n)(y:a.map (λp=>lk s.f.z s.f.e p.1)=a.map (·.2))(u:BA (AE m s.L)=i)
  (h:∀ J:Nat->Act->World->Prop,(∀ (m:Nat) (e:List (Nat × Value)) (z:Nat->Value) (L:List Sh) (g:Gh) (w:World),GG P fn R B T (bZ s n (J m) e z L) g w->Kn B g w L->J (m+1) (⟨n,e,z⟩:Fm).act w)->∀ z,GG P fn R B T (bZ s n (J k) a z i) g w):GG P fn R B T s g w:=by
 refine gFm a y λz=>?_;obtain⟨K,f,L⟩:=s;simp only at q;subst q;have j:BA (AE m L)=i:=u;have v:GG P fn R B T ⟨K,⟨f.n,a,z⟩,BA (AE m L)⟩ g w->GG P fn R B T ⟨K,⟨f.n,a,z⟩,L⟩ g w:=λh=>⟨λd=>h.ex (d.sub (Dh m L)).pz⟩;refine v ?_;rw[j];cases K with
 | nil=>cases o
 | cons t K =>
  cases t with
  | c x =>
   cases x with
   | loop b =>
    refine⟨λd=>?_⟩;exact wp_loop_rounds (k+1) ((h (Code.rounds P b (Kq P (bodyPost P fn R) K)) (λm e z L g w r d=>r.ex d) z).ex d)
   | _=>cases o
  | _=>cases o
end
section
variable{W w:World}{d:List Int}{g:Gh}{i k nb ob:Nat}{ls:List Let}{p:Nod}{s:Int}{ts:List Tol}{vs:List Value}{x:S3}
theorem Mx{v:Vt}(h:NS i nb ob g w p ls ts){C:World}(H:Base C g w)(I:Tabs C)(L:i<5)(J:ls.length<90000000){a d:Nat}(u:Box g w a #[pt nb 0] 83)(y:Box g w d #[iv v.au,iv v.b.r,iv v.b.n,iv v.w.k,iv v.w.c,iv v.w.s,iv v.w.n,iv v.w.v] 148)(o:p.ae.length<=40) :
  Calls prog 109 #[pt a 0,pt d 0] w (NP i nb ob g w (.tuple #[]) (p.count i v) (ls++BW i { Cz 3 with bN:=v } 5) ts):=by
 obtain⟨x,lt,Y,A,B,K⟩:=h;refine gI (fn:=f109) (TN i) g func109 K (qN A (qO B (BU ⟨a,.cells #[pt nb 0] 83,.z,false⟩ (λ_=>⟨u.r,u.z,λh=>(by cases h),λh=>absurd rfl h⟩) (by kernel_rfl) ?_)));refine BU ⟨d,.cells #[iv v.au,iv v.b.r,iv v.b.n,iv v.w.k,iv v.w.c,iv v.w.s,iv v.w.n,iv v.w.v] 148,.z,false⟩ (λ_=>⟨y.r,y.z,λh=>(by cases h),λh=>absurd rfl h⟩) (by kernel_rfl) ?_;refine qR [] 8 [6,0,2,2,2,4,6,8,0,10,3] λV Q Z c1=>qS 6 [false,false,true,true] A B c1 (λD=>MR D (H.ch (c1.nil (TN i)) (Bg i)) I i L v o) λR w2 x2 M O e l F=>qR [] 5 [0,1] λW S w4 q=>qS 3 [true,true,false,false] e l q (λE=>DP E J { Cz 3 with bN:=v } s30 s30 ⟨Sv.nil _,λh=>absurd rfl h⟩ (Rc.nil _ _)) λT w5 x5 N P j m G=>qR [] 1 [] λX U w7 t=>qF j m t (((((c1.nil (TN i)).trans (F)).n q).trans (G)).n t)
theorem RB{b:Bal}{B:List Vt}{e:S3}(h:NS i nb ob g w p ls ts){G:World}(M:Base G g w)(N:Tabs G)(Q:i<5)(O:ls.length<90000000){j k l:Nat}(a:Box g w j #[pt nb 0] 83)(E:Box g w k #[iv b.r,iv b.n] 88)(F:Box g w l #[S3.v e] 89)(R:FSv g w e B)(A:(p.br.al i).vs.length<100000000) :
  Calls prog 60 #[pt j 0,pt k 0,pt l 0] w (NP i nb ob g w (.tuple #[]) (if p.vo.p≠b then p else{ p with br:=p.br.og i B }) (if p.vo.p≠b then ls else(ls++BW i { Cz 0 with fv:=b } 5)) ts):=by
 obtain⟨x,lt,tl,m,s,P⟩:=h;refine gI (fn:=f60) (TN i) g func60 P (qN m (qO s (BU ⟨j,.cells #[pt nb 0] 83,.z,false⟩ (λ_=>⟨a.r,a.z,λh=>(by cases h),λh=>absurd rfl h⟩) (by kernel_rfl) ?_)));refine BU ⟨k,.cells #[iv b.r,iv b.n] 88,.z,false⟩ (λ_=>⟨E.r,E.z,λh=>(by cases h),λh=>absurd rfl h⟩) (by kernel_rfl) ?_;refine BU ⟨l,.cells #[S3.v e] 89,.z,false⟩ (λ_=>⟨F.r,F.z,λh=>(by cases h),λh=>absurd rfl h⟩) (by kernel_rfl) ?_;refine qR [] 10 [8,0,2,2,4,6,8,10,0,12,3] λs1 X w1 c1=>?_;by_cases a:p.vo.p≠b
 .refine qT 7 (.bool true) (λ_=>(Ik (x:=(.tmp 8)) (y:=(.tmp 9)) p.vo.p b a)) (qR [] 2 [] λs2 Y w2 C=>?_);rw[if_pos a,if_pos a];exact qF m s (c1.n C) ((c1.nil (TN i)).n C)
 .have h10:p.vo.p=b:=by simpa using a
  refine qT 7 (.bool false) (λ_=>(Ij (x:=(.tmp 8)) (y:=(.tmp 9)) p.vo.p b h10)) ?_;rw[if_neg a,if_neg a];refine qR [] 14 [9,0,2,2,4,6,8,2,10,12,14,0,16,4] λs4 Z w4 d=>qS 9 [false,false,true,true,true] m s (c1.n d) (λH=>P0 H (M.ch ((c1.nil (TN i)).n d) (Bg i)) N i Q B e (R.ch ((c1.nil (TN i)).n d) (Bg i)) A) λg5 w5 x5 S U o t J=>qR [] 5 [0,1] λs7 g7 w7 D=>qS 3 [true,true,true,false,false] o t D (λI=>DP I O { Cz 0 with fv:=b } s30 s30 ⟨Sv.nil _,λh=>absurd rfl h⟩ (Rc.nil _ _)) λg8 w8 x8 lt8 V q u K=>qR [] 1 [] λT L W c=>qF q u c ((((((c1.nil (TN i)).n d).trans (J)).n D).trans (K)).n c)
def Nod.nR(p:Nod)(i:Nat):Pend->Nod
 | .began b vs=>if p.vo.p≠b then p else{ p with br:=p.br.og i vs }
 | .prop v=>p.count i v
 | _=>p
def Nod.nV(p:Nod)(i:Nat):Pend->List Let
 | .began b vs=>if p.vo.p≠b then[]else BW i { Cz 0 with fv:=b } 5
 | .prom to b vs=>[{ Cz 1 with fv:=b,ln:=vs,ed:=p.ae,src:=i,dst:=to }]
 | .voted to v=>[{ Cz 4 with bN:=v,src:=i,dst:=to }]
 | .fa to b=>[{ Cz 2 with fv:=b,src:=i,dst:=to }]
 | .prop v=>BW i { Cz 3 with bN:=v } 5
 | .askNews to=>[{ Cz 6 with au:=p.ae.length,src:=i,dst:=to }]
 | .start=>BW i (Cz 6) 5
 | .tell to au=>[{ Cz 5 with src:=i,dst:=to,au:=au,ed:=p.ae.drop au }]
def Q7(p:Nod)(i:Nat):Pend->Prop
 | .began _ _=>(p.br.al i).vs.length<100000000
 | .prop _=>p.ae.length<=40
 | .tell _ au=>au<=p.ae.length
 | _=>True
theorem dq{P:Program}{s:Xs}{S:Sem Next}{r:Result Next}(h:Dd s i=some S)(a:S.run P W=r):CR P s i W=some r:=by
 unfold CR;unfold Dd at h;cases hx:opN s i with
 | none=>rw[hx]at h;cases h
 | some x =>
  rw[hx]at h
  simp only[ku,V']at h ⊢;rw[h,a]
theorem Gu(h:NS i nb ob g w p ls ts){z:World}(s:Base z g w)(t:Tabs z)(y:i<5)(f:ls.length<90000000){v:Value}(q:Pend)(o:Q7 p i q)(j:Kz g w nb v q) :
  ∃ (F:FuncId) (cs:Array Value),v=.func (.func F) #[] cs/\(∀ W,(Go.callFunc F (#[]++cs)).run prog W=.ok (.enter F cs) W)/\Calls prog F cs w (NP i nb ob g w (.tuple #[]) (p.nR i q) (ls++p.nV i q) ts):=by
 cases q with
 | began b vs =>
  obtain⟨k,b2,b3,x,e,a,c,d,n⟩:=j;refine⟨_,_,e,λW=>by kernel_rfl,?_⟩;have:=RB h s t y f a c d n o;unfold Nod.nR Nod.nV;by_cases m:p.vo.p≠b
  .rw[if_pos m,if_pos m]at this;simp only[if_pos m,ki];exact this
  .rw[if_neg m,if_neg m]at this;simp only[if_neg m];exact this
 | prom to b vs =>
  obtain⟨k,b2,b3,x,r,l,e,a,c,d,n,A,rfl,rfl⟩:=j;exact⟨_,_,e,λW=>(by kernel_rfl),G3 h f a c d A n⟩
 | voted to u =>
  obtain⟨k,b2,r,l,e,a,c,d,rfl,rfl⟩:=j;exact⟨_,_,e,λW=>(by kernel_rfl),Hi (b3:=0) h f a c d⟩
 | fa to b =>
  obtain⟨k,b2,b3,e,a,c,d⟩:=j;exact⟨_,_,e,λW=>(by kernel_rfl),O2 h f a c d⟩
 | prop u =>
  obtain⟨k,b2,e,a,c⟩:=j;exact⟨_,_,e,λW=>(by kernel_rfl),Mx h s t y f a c o⟩
 | askNews to =>
  obtain⟨k,b2,r,l,e,a,c,d,rfl⟩:=j;exact⟨_,_,e,λW=>(by kernel_rfl),LR (b3:=0) h f a c d⟩
 | start =>
  obtain⟨k,e,a⟩:=j;exact⟨_,_,e,λW=>(by kernel_rfl),Qk (b2:=0) (b3:=0) h f a⟩
 | tell to au =>
  obtain⟨k,b2,r,l,e,a,c,d,rfl,rfl⟩:=j;exact⟨_,_,e,λW=>(by kernel_rfl),Ja (b3:=0) h f a c d o⟩
theorem WT(s:Int){n:Nat}{w:World}(h:Sl w x.v d)(a:n<=d.length){N:Int}(b:(n:Int)=N) :
  Calls prog 112 #[.agg #[x.v,iv s],iv N] w λe w'=>∃ y:S3,e=.returned (.agg #[y.v,iv N])/\Sl w' y.v (d.take n)/\Nb w.heap.size y (d.take n)/\Bw w w':=by
 subst b;refine(Jo x.v d s n w h a).mono ?_;rintro e w' ⟨y,rfl,f,c⟩;obtain⟨y,rfl,i,g⟩:=RT (l:=d.take n) (by rw[X',kQ a];exact f) (by rw[X'];have:=h.len;omega) (λz j=>h.byte z (jU j));exact⟨y,rfl,i,g,c⟩
theorem XB(s:Int){w:World}(h:Sl w x.v d){t:Bool}(a:decide (AZ d s)=t) :
  Calls prog 111 #[.agg #[x.v,iv s]] w λe w'=>e=.returned (.bool t)/\Bw w w':=by
 subst a;exact Lk x.v d s w h
theorem cK(h:Sl w x.v d) :
  Calls prog 110 #[.agg #[x.v,iv s]] w λe w'=>∃ y:S3,e=.returned (.tuple #[.agg #[y.v,iv (Iv d s)],iv (CZ d s)])/\Sl w' y.v (Hg d s)/\Nb w.heap.size y (Hg d s)/\Bw w w':=by
 refine kIn func110 (kR 10 [0,0,1,0,0] λb H g=>?_);obtain⟨t,j⟩:∃ t,decide (AZ d s)=t:=⟨_,rfl⟩;refine kC 1 (XB s (h.ab g) j) ?_;rintro _ I ⟨rfl,i⟩;refine⟨_,rfl,i,?_⟩;refine kR 2 [] λC J k=>?_;by_cases a:AZ d s
 .refine kI ((!t)) false (by rw[<- j,I' a];rfl) ?_;rw[show CZ d s=0 from if_pos a,show Hg d s=d from if_pos a,show Iv d s=(d.length:Int)from if_pos a];have m:=IY h;have A:d.take d.length=d:=lI;refine kR 7 [0,0] λD L r=>?_;have f:=(btr (btr (btr g i) k) r);refine kC 4 (WT s (n:=d.length) (N:=(x.n:Int)) (h.ab f) (A' _) (by rw[m])) ?_;rintro _ M ⟨y,rfl,p,o,l⟩;refine⟨_,rfl,l,?_⟩;rw[A]at p o
  rw[<- m];refine kF 3 [1,0] λE O u B=>?_;have q:=((btr f l).trans u);exact qE2 2 3 101 1 (b 1) #[S3.v y,iv (x.n:Int)] (iv 0) λK=>⟨y,rfl,(p.kept B),o.mono f.size,q⟩
 .refine kI ((!t)) true (by rw[<- j,D' a];rfl) ?_;rw[show CZ d s=5 from if_neg a,show Hg d s=[]from if_neg a,show Iv d s=0 from if_neg a];refine kF 6 [1,0] λF P z G=>?_;have c:=((btr (btr g i) k).trans z);exact qE2 2 3 101 1 (b 1) #[S3.v s30,iv 0] (iv 5) λK=>⟨s30,rfl,DZ _,λh=>absurd rfl h,c⟩
theorem Wl{k:Int}(h:Sl w x.v d)(L:-9223372036854775808<=k)(M:k<=9223372036854775807) :
  Calls prog 70 #[.agg #[x.v,iv s],iv k] w λe w'=>∃ y:S3,e=.returned (.tuple #[.agg #[y.v,iv (JI d s k)],iv (Gx d s k)])/\Sl w' y.v (JH d s k)/\Nb w.heap.size y (JH d s k)/\Bw w w':=by
 refine kIn func70 (kR 10 [0,0,1,0,0] λf w1 j=>?_);obtain⟨t,A⟩:∃ t,decide (AZ d s)=t:=⟨_,rfl⟩;refine kC 1 (XB s (h.ab j) A) ?_;rintro _ w2 ⟨rfl,l⟩;refine⟨_,rfl,l,?_⟩;refine kR 2 [] λT w3 u=>?_;by_cases c:AZ d s
 .refine kI ((!t)) false (by rw[<- A,I' c];rfl) (kR 7 [] λU w4 C=>?_);by_cases m:k<0
  .refine kI ((decide (k<0))) true (I' m) ?_;have a:Gx d s k=2:=(if_neg (λg=>g c)).trans (if_pos m);rw[show JH d s k=[]from if_neg (by rw[a];decide),show JI d s k=0 from if_neg (by rw[a];decide),a];refine kF 6 [1,0] λV w5 H q5=>?_;have G:=((btr (btr (btr j l) u) C).trans H);exact qE2 4 5 101 1 (f 1) #[S3.v s30,iv 0] (iv 2) λK=>⟨s30,rfl,DZ _,λh=>absurd rfl h,G⟩
  .refine kI ((decide (k<0))) false (D' m) ?_;have a:Gx d s k=0:=(if_neg (λg=>g c)).trans (if_neg m);rw[show JH d s k=d.take (FA d s k).toNat from if_pos a,show JI d s k=FA d s k from if_pos a,a];have Z:=IY h;have Y:=h.len;have X:0<=s/\s<=(d.length:Int):=⟨c.2.1,c.2.2⟩;obtain⟨n,D⟩:∃ n:Nat,(n:Int)=s+min k ((x.n:Int)-s):=⟨(s+min k ((x.n:Int)-s)).toNat,by omega⟩;have J:FA d s k=(n:Int):=by unfold FA;split<;>omega
   have z:n<=d.length:=by omega
   rw[J,kx,D];refine kR 12 [0,0,0,0] λW w7 I=>kV 9 (iv ((x.n:Int)-s)) (iQ (x:=(.tmp 19)) (y:=(.tmp 21)) (x.n:Int) s underlying3 (by omega)) (kV 10 (iv (min k ((x.n:Int)-s))) (bP #[3,3] 3 k ((x.n:Int)-s)) (kV 11 (iv (s+min k ((x.n:Int)-s))) (Sn (x:=(.tmp 15)) (y:=(.tmp 23)) s (min k ((x.n:Int)-s)) underlying3 (by omega)) ?_));have b:=(btr (btr (btr (btr j l) u) C) I);refine kC 12 (WT s (n:=n) (h.ab b) z D) ?_;rintro _ Q ⟨y,rfl,O,N,i⟩;refine⟨_,rfl,i,?_⟩;refine kF 3 [1,0] λE R q B=>?_;have o:=((btr b i).trans q);exact qE2 4 5 101 1 (f 1) #[S3.v y,iv (s+min k ((x.n:Int)-s))] (iv 0) λK=>⟨y,rfl,(O.kept B),N.mono b.size,o⟩
 .refine kI ((!t)) true (by rw[<- A,D' c];rfl) ?_;have a:Gx d s k=5:=if_pos c;rw[show JH d s k=[]from if_neg (by rw[a];decide),show JI d s k=0 from if_neg (by rw[a];decide),a];refine kF 6 [1,0] λF S r P=>?_;have p:=((btr (btr j l) u).trans r);exact qE2 4 5 101 1 (f 1) #[S3.v s30,iv 0] (iv 5) λK=>⟨s30,rfl,DZ _,λh=>absurd rfl h,p⟩
structure FzL(g:Gh)(w:World)(x:S3)(vs:List Value):Prop where
 n:x.n=vs.length
 at_:∀ j u,vs[j]?=some u->∃ b,x.a=some ⟨b,0,none⟩/\b<w.heap.size/\j<g.k b/\w.cell? ⟨b,j,none⟩=some u
theorem OwnS.fz{τ:Tg}{e:TypeId}(h:OwnS g w τ true e 1 x vs):FzL g w x vs:=by
 refine⟨by have:=h.len;omega,λj u d=>?_⟩;obtain⟨b,a,f,i⟩:=h.cell d;have c:j<vs.length:=(U'.1 d).1;refine⟨b,a,f,?_,i⟩;rcases h.ex with⟨h4,_⟩|⟨b',cur,h4,_,_,_,_,_,_,h8⟩
 .rw[h4]at a;cases a
 .rw[a]at h4
  simp only[V',Addr.mk.injEq,and_true]at h4;subst h4;rw[h8,if_pos rfl];exact c
theorem FzL.ch{B:Nat}{T:List Tg}{d:Gh}{f:World}(h:FzL g w x vs)(c:Cg B T g w d f):FzL d f x vs :=
 ⟨h.n,λj u m=>by
  obtain⟨b,i,a,e,k⟩:=h.at_ j u m;exact⟨b,i,Y' a c.size,Y' e (c.oM b a),(c.oN b a j e).trans k⟩⟩
theorem dF{b c:Nat}(d:x.a=some ⟨b,c,none⟩)(j:Nat)(f:j<x.n):(Instr.indexAt 92 x.v (iv (j:Int))).run prog W=.ok (pt b (c+1*j)) W:=by
 unfold S3.v;rw[d];exact L2 (P:=prog) (e:=1) (z:=1) underlying92 (by kernel_rfl) (by kernel_rfl) f _ rfl
def mv(i:Nat):List Pend->Nod->List Let->Nod × List Let
 | [],p,ls=>(p,ls)
 | q::l,p,ls=>mv i l (p.nR i q) (ls++p.nV i q)
def Gd(i:Nat):List Pend->Nod->List Let->Prop
 | [],_,_=>True
 | q::l,p,ls=>Q7 p i q/\ls.length<90000000/\Gd i l (p.nR i q) (ls++p.nV i q)
def Nod.ou(p:Nod):Nod:=if p.sy<(p.d.length:Int)then{ p with d:=Hg p.d p.sy,sy:=Iv p.d p.sy }else p
theorem Pm{l:List Pend}{j:Nat}{c:Pend}(h:l[j]?=some c):l.drop j=c::l.drop (j+1):=by
 obtain⟨a,b⟩:=U'.1 h;rw[<- b];exact kz a
theorem cL(h:NS i nb ob g w p ls ts){w0:World}(hB:Base w0 g w)(hT:Tabs w0)(hi:i<5)(Y:Gd i p.bn { p.ou with bn:=[] } ls)(f5:p.bn.length<100000000) :
  Calls prog 66 #[pt nb 0] w (NP i nb ob g w (.tuple #[]) (if p.sy<(p.d.length:Int)/\CZ p.d p.sy≠0 then(p,ls)else mv i p.bn { p.ou with bn:=[] } ls).1 (if p.sy<(p.d.length:Int)/\CZ p.d p.sy≠0 then(p,ls)else mv i p.bn { p.ou with bn:=[] } ls).2 ts):=by
 obtain⟨x,lt,tl,m,hO,hg⟩:=h;have f7:x.tape.n=p.d.length:=by obtain⟨a,e6,hh⟩:=m.tape.s.oc;have:=m.tape.s.len;simp only[S3.v,Value.slice.injEq]at hh;exact hh.2.1
 refine gI (fn:=f66) (TN i) g func66 hg (qN m (qO hO ?_));obtain⟨pv,hP,I⟩:=m.bn;have hF:=hP.fz;have f6:x.synced.n=p.bn.length:=by rw[hF.n];exact I.len
 refine qR [] 16 [12,0,2,4,6,8,0,10,12,14,16,18,0,20,22] λs1 g1 w1 c1=>?_;by_cases h1:p.sy<(x.tape.n:Int)
 .refine qI ((decide (p.sy<(x.tape.n:Int)))) true (I' (by omega)) (qR [] 6 [0] λs2 g2 w2 c2=>Ae λKq=>?_);have hS:=(m.tape.ch (c1.trans c2)).s;have hG:∀ z,w2.heap.size<=z->g2.t z=.z:=λz hz=>(Kq.new z hz).1;refine qC 4 (cK (s:=p.sy) hS) ?_;rintro e' w3 ⟨tz,rfl,b4,d6,b3⟩;refine⟨_,rfl,b3,?_⟩;have c3:=Cg.bu (B:=w.heap.size) (T:=[]) (g:=g2) b3;have f8:=IY b4;have d7:FSl _ _ tz _:=⟨b4,λhl a ha=>hG _ (d6 hl a ha)⟩;refine qR [] 13 [0,0,2,0] λs4 g4 w4 c4=>?_;by_cases E:CZ p.d p.sy≠0
  .refine qI (((CZ p.d p.sy) != 0)) true (by simpa using E) (qE (.tuple #[]) λK=>?_);rw[if_pos ⟨by omega,E⟩];exact⟨_,rfl,(nsC m hO (((c1.n c2).n c3).n c4) K),((((c1.nil (TN i)).n c2).n c3).n c4)⟩
  .refine qI (((CZ p.d p.sy) != 0)) false (by simpa using E) ?_;have O:p.ou={ p with d:=Hg p.d p.sy,sy:=Iv p.d p.sy }:=if_pos (by omega);rw[show(if p.sy<(p.d.length:Int)/\CZ p.d p.sy≠0 then(p,ls)else mv i p.bn { p.ou with bn:=[] } ls)=mv i p.bn ({ p with d:=Hg p.d p.sy,sy:=Iv p.d p.sy,bn:=[] }:Nod) ls from by rw[if_neg (by rintro⟨_,h⟩;exact E h),O]];rw[show{ p.ou with bn:=[] }=({ p with d:=Hg p.d p.sy,sy:=Iv p.d p.sy,bn:=[] }:Nod)from by rw[O]]at Y
   refine qR [.n 0 i] 32 [2,0,1,0,0,1] λs7 g7 w7 c7=>Hw [true,true,false] ?_;refine BL 51 [(42,S3.v x.synced),(43,iv (x.synced.n:Int)),(44,iv 0)] [false,false] [] (λk g' w' e L=>∃ (j:Nat) (q:Nod) (l2:List Let),k=p.bn.length-j/\j<=p.bn.length/\e=[(42,S3.v x.synced),(43,iv (x.synced.n:Int)),(44,iv (j:Int))]/\L=[]/\NS i nb ob g' w' q l2 ts/\mv i (p.bn.drop j) q l2=mv i p.bn ({ p with d:=Hg p.d p.sy,sy:=Iv p.d p.sy,bn:=[] }:Nod) ls/\Gd i (p.bn.drop j) q l2/\Cg w.heap.size (TN i) g w g' w') (by kernel_rfl) (by kernel_rfl) (by kernel_rfl) (by kernel_rfl) p.bn.length (λK=>?_) ?_
   .have C8:=((((c1.nil ([.n 0 i]:List Tg)).n c2).n c3).n c4).trans (c7);have Z8:Tg.z∉([.n 0 i]:List Tg):=by simp
    exact⟨0,({ p with d:=Hg p.d p.sy,sy:=Iv p.d p.sy,bn:=[] }:Nod),ls,rfl,by omega,rfl,rfl,⟨({ x with tape:=tz,synced:=s30 }:NX),lt,tl,K.nd 0 ((d7.ch c4).ch c7) (m.ln.ch C8 Z8) (Bl m.al C8 Z8) ⟨[],OwnS.nil _ _ _ _ _ _,⟨rfl,λk v q h=>by cases h⟩⟩ (m.dW.ch C8) (m.ae.ch C8) (m.an.ch C8) (m.bw.ch C8) m.oO,hO.ch C8 Z8 (by simp<;>omega),K.new⟩,rfl,Y,(((((c1.nil (TN i)).n c2).n c3).n c4).trans (c7.mono (by simp[TN])))⟩
   .rintro k gr wr _ zr _ ⟨j,q,l2,rfl,hj,rfl,rfl,hM,hI,hK,hC⟩ J hJ;obtain⟨xr,d8,d9,o,r,d4⟩:=id hM;refine qN o (qO r (qR [] 5 [] λs9 g9 w9 Q=>?_));by_cases h5:j<p.bn.length
    .refine qI ((decide ((j:Int)<(x.synced.n:Int)))) true (I' (by omega)) ?_;obtain⟨D,N⟩:∃ D,p.bn[j]?=some D:=⟨_,E' h5⟩;obtain⟨v,hv⟩:∃ v,pv[j]?=some v:=⟨_,E' (by rw[I.len];exact h5)⟩;rw[Pm N]at hI hK
     obtain⟨G,H,a1⟩:=hK;have F:=hF.ch hC;obtain⟨bx,P,d2,d5,d3⟩:=F.at_ j v hv;have M:=(I.at_ j v D hv N).ch hC (Bg i);refine qR [] 5 [] λf9 c0 e0 u=>qV 0 (pt bx (0+1*j)) (dF P j (by omega)) (Ae λK=>?_);have b5:NS i nb ob c0 e0 q l2 ts:=(nsC o r (Q.n u) K);obtain⟨Z,A,e2,a2,_⟩:=Gu b5 (hB.ch (((hC.n Q).n u)) (Bg i)) hT hi H D G (M.ch ((Q.nil (TN i)).n u) (Bg i));subst e2;have a0:=F.ch (Q.trans u);refine qV 1 (.func (.func Z) #[] A) (BX (ty:=1) (b:=bx) (k:=0+1*j) (v:=.func (.func Z) #[] A) underlying1 rfl (by rw[kl,nP];obtain⟨b2,E,_,_,h4⟩:=a0.at_ j _ hv;rw[P]at E;simp only[V',Addr.mk.injEq,and_true]at E;subst E;exact h4)) (qR [] 4 [] λg0 c5 e1 S=>Ae λK=>?_);have b6:NS i nb ob c5 e1 q l2 ts:=(nsC o r ((Q.n u).n S) K);obtain⟨F3,b9,e3,_,C⟩:=Gu b6 (hB.ch ((((hC.n Q).n u).n S)) (Bg i)) hT hi H D G (M.ch (((Q.nil (TN i)).n u).n S) (Bg i));simp only[Value.func.injEq,Fn.func.injEq,true_and]at e3;obtain⟨rfl,rfl⟩:=e3;refine Rq 1 Z A (TN i) [false,false] (λW=>dq (by kernel_rfl) (a2 W)) (by kernel_rfl) (by kernel_rfl) (by kernel_rfl) C ?_;rintro e' i0 ⟨c6,rfl,a3,U⟩;refine⟨_,c6,rfl,U,a3.new,?_⟩;replace U:=U.ret (B:=w.heap.size);refine qR [] 3 [] λg3 e7 i1 a5=>qV 0 (iv ((j:Int)+1)) (AR 44 (j:Int) underlying3 (by omega)) (qR [] 2 [] λg5 e8 i2 a6=>qB [] λz K0 K=>hJ (p.bn.length-(j+1)) _ _ _ z _ (by omega) ⟨j+1,q.nR i D,l2++q.nV i D,rfl,by omega,rfl,rfl,NS.nW a3 (a5.trans a6) K0.new,hI,a1,((((((hC.n Q).n u).n S).trans U).n a5).n a6)⟩ K)
    .refine qI ((decide ((j:Int)<(x.synced.n:Int)))) false (D' (by omega)) (qR [] 1 [] λg6 e9 i3 a7=>?_);obtain rfl:j=p.bn.length:=by omega
     rw[lH]at hI
     rw[<- hI];exact qF o r (Q.n a7) ((hC.n Q).n a7)
 .refine qI ((decide (p.sy<(x.tape.n:Int)))) false (D' (by omega)) ?_;have O:p.ou=p:=if_neg (by omega);rw[show(if p.sy<(p.d.length:Int)/\CZ p.d p.sy≠0 then(p,ls)else mv i p.bn { p.ou with bn:=[] } ls)=mv i p.bn ({ p with bn:=[] }:Nod) ls from by rw[if_neg (by rintro⟨h,_⟩;omega),O]];rw[show{ p.ou with bn:=[] }=({ p with bn:=[] }:Nod)from by rw[O]]at Y
  refine qR [.n 0 i] 25 [0,0,1] λg8 f0 i4 a8=>BL 51 [(42,S3.v x.synced),(43,iv (x.synced.n:Int)),(44,iv 0)] [false,false] [] (λk g' w' e L=>∃ (j:Nat) (q:Nod) (l2:List Let),k=p.bn.length-j/\j<=p.bn.length/\e=[(42,S3.v x.synced),(43,iv (x.synced.n:Int)),(44,iv (j:Int))]/\L=[]/\NS i nb ob g' w' q l2 ts/\mv i (p.bn.drop j) q l2=mv i p.bn ({ p with bn:=[] }:Nod) ls/\Gd i (p.bn.drop j) q l2/\Cg w.heap.size (TN i) g w g' w') (by kernel_rfl) (by kernel_rfl) (by kernel_rfl) (by kernel_rfl) p.bn.length (λK=>?_) ?_
  .have C22:=(c1.nil ([.n 0 i]:List Tg)).trans (a8);have R:Tg.z∉([.n 0 i]:List Tg):=by simp
   exact⟨0,({ p with bn:=[] }:Nod),ls,rfl,by omega,rfl,rfl,⟨({ x with synced:=s30 }:NX),lt,tl,K.nd 0 (m.tape.ch C22 R) (m.ln.ch C22 R) (Bl m.al C22 R) ⟨[],OwnS.nil _ _ _ _ _ _,⟨rfl,λk v q h=>by cases h⟩⟩ (m.dW.ch C22) (m.ae.ch C22) (m.an.ch C22) (m.bw.ch C22) m.oO,hO.ch C22 R (by simp<;>omega),K.new⟩,rfl,Y,((c1.nil (TN i)).trans (a8.mono (by simp[TN])))⟩
  .rintro k gr wr _ zr _ ⟨j,q,l2,rfl,hj,rfl,rfl,hM,hI,hK,hC⟩ J hJ;obtain⟨xr,d8,d9,o,r,d4⟩:=id hM;refine qN o (qO r (qR [] 5 [] λh0 f1 i5 c=>?_));by_cases h5:j<p.bn.length
   .refine qI ((decide ((j:Int)<(x.synced.n:Int)))) true (I' (by omega)) ?_;obtain⟨D,N⟩:∃ D,p.bn[j]?=some D:=⟨_,E' h5⟩;obtain⟨v,hv⟩:∃ v,pv[j]?=some v:=⟨_,E' (by rw[I.len];exact h5)⟩;rw[Pm N]at hI hK
    obtain⟨G,H,a1⟩:=hK;have F:=hF.ch hC;obtain⟨bx,P,d2,d5,d3⟩:=F.at_ j v hv;have M:=(I.at_ j v D hv N).ch hC (Bg i);refine qR [] 5 [] λh3 c8 e4 y=>qV 0 (pt bx (0+1*j)) (dF P j (by omega)) (Ae λK=>?_);have b7:NS i nb ob c8 e4 q l2 ts:=(nsC o r (c.n y) K);obtain⟨Z,A,e2,a2,_⟩:=Gu b7 (hB.ch (((hC.n c).n y)) (Bg i)) hT hi H D G (M.ch ((c.nil (TN i)).n y) (Bg i));subst e2;have a0:=F.ch (c.trans y);refine qV 1 (.func (.func Z) #[] A) (BX (ty:=1) (b:=bx) (k:=0+1*j) (v:=.func (.func Z) #[] A) underlying1 rfl (by rw[kl,nP];obtain⟨b2,E,_,_,h4⟩:=a0.at_ j _ hv;rw[P]at E;simp only[V',Addr.mk.injEq,and_true]at E;subst E;exact h4)) (qR [] 4 [] λh6 d0 e5 V=>Ae λK=>?_);have b8:NS i nb ob d0 e5 q l2 ts:=(nsC o r ((c.n y).n V) K);obtain⟨F3,b9,e3,_,C⟩:=Gu b8 (hB.ch ((((hC.n c).n y).n V)) (Bg i)) hT hi H D G (M.ch (((c.nil (TN i)).n y).n V) (Bg i));simp only[Value.func.injEq,Fn.func.injEq,true_and]at e3;obtain⟨rfl,rfl⟩:=e3;refine Rq 1 Z A (TN i) [false,false] (λW=>dq (by kernel_rfl) (a2 W)) (by kernel_rfl) (by kernel_rfl) (by kernel_rfl) C ?_;rintro e' i6 ⟨d1,rfl,a4,X⟩;refine⟨_,d1,rfl,X,a4.new,?_⟩;replace X:=X.ret (B:=w.heap.size);refine qR [] 3 [] λh7 f2 i7 a9=>qV 0 (iv ((j:Int)+1)) (AR 44 (j:Int) underlying3 (by omega)) (qR [] 2 [] λh8 f3 i8 b0=>qB [] λz K0 K=>hJ (p.bn.length-(j+1)) _ _ _ z _ (by omega) ⟨j+1,q.nR i D,l2++q.nV i D,rfl,by omega,rfl,rfl,NS.nW a4 (a9.trans b0) K0.new,hI,a1,((((((hC.n c).n y).n V).trans X).n a9).n b0)⟩ K)
   .refine qI ((decide ((j:Int)<(x.synced.n:Int)))) false (D' (by omega)) (qR [] 1 [] λh9 f4 i9 b1=>?_);obtain rfl:j=p.bn.length:=by omega
    rw[lH]at hI
    rw[<- hI];exact qF o r (c.n b1) ((hC.n c).n b1)
def S9(p:Nod)(i j:Nat):Bool:=decide (j≠i/\p.br.cl j<p.ae.length)
def Kc(p:Nod)(i k:Nat):Nat->Nat:=λj=>if decide (j<k)&&S9 p i j then p.ae.length else p.br.cl j
def Hj(p:Nod)(i k:Nat):Nod:={ p with br:={ p.br with cl:=Kc p i k } }
def Dv(p:Nod)(i:Nat):Nat->List Let
 | 0=>[]
 | k+1=>Dv p i k++(if S9 p i k then[{ Cz 5 with src:=i,dst:=k,au:=p.br.cl k,ed:=p.ae.drop (p.br.cl k) }]else[])
theorem T6(p:Nod)(i k:Nat):(Dv p i k).length<=k:=by
 induction k with
 | zero=>exact A' _
 | succ k ih=>unfold Dv;rw[M'];split<;>simp<;>omega
theorem V2(p:Nod)(i:Nat):Hj p i 0=p:=by unfold Hj Kc;simp
theorem T7(h:S9 p i k=false):Kc p i (k+1)=Kc p i k:=by
 funext j
 unfold Kc;by_cases e:j=k
 .subst e;simp[h]
 .rw[show decide (j<k+1)=decide (j<k)from kN.2 (by omega)]
theorem YS(h:S9 p i k=true):upN (Kc p i k) k p.ae.length=Kc p i (k+1):=by
 funext j
 unfold upN Kc;by_cases e:j=k
 .subst e;simp[h]
 .rw[if_neg e,show decide (j<k+1)=decide (j<k)from kN.2 (by omega)]
theorem V3(h:NS i nb ob g w p ls ts)(hb:ls.length<90000000) :
  Calls prog 67 #[pt nb 0] w (NP i nb ob g w (.tuple #[]) (if p.leads then Hj p i 5 else p) (if p.leads then ls++Dv p i 5 else ls) ts):=by
 obtain⟨x,lt,tl,R,S,hg⟩:=h;refine gI (fn:=f67) (TN i) g func67 hg (qN R (qO S (qR [] 4 [] λs1 X w1 c1=>?_)));by_cases h1:p.leads=false
 .refine Ae λK=>?_;have N3:NS i nb ob X w1 p ls ts:=(nsC R S c1 K);refine qC 1 (EB N3 h1) ?_;rintro e' w4 ⟨rfl,b4⟩;refine⟨_,rfl,b4,?_⟩;have c4:=Cg.bu (B:=w.heap.size) (T:=[]) (g:=X) b4;refine qR [] 3 [] λs5 g5 w5 c5=>qE (.tuple #[]) λK=>?_;rw[h1,if_neg (by simp),if_neg (by simp)];exact⟨_,rfl,(nsC R S ((c1.n c4).n c5) K),(((c1.nil (TN i)).n c4).n c5)⟩
 .have h10:p.leads=true:=by simpa using h1
  refine Ae λK=>?_;have N8:NS i nb ob X w1 p ls ts:=(nsC R S c1 K);refine qC 1 (EB N8 h10) ?_;rintro e' w9 ⟨rfl,b9⟩;refine⟨_,rfl,b9,?_⟩;have c9:=Cg.bu (B:=w.heap.size) (T:=[]) (g:=X) b9;rw[if_pos h10,if_pos h10];refine qR [] 15 [0] λd1 a5 e7 D=>BL 51 [(0,pt nb 0),(12,.agg #[iv (p.br.cl 0:Int),iv (p.br.cl 1:Int),iv (p.br.cl 2:Int),iv (p.br.cl 3:Int),iv (p.br.cl 4:Int)]),(13,iv 0)] [false,false] [] (λk W Y e L=>∃ k0:Nat,k=5-k0/\k0<=5/\e=[(0,pt nb 0),(12,.agg #[iv (p.br.cl 0:Int),iv (p.br.cl 1:Int),iv (p.br.cl 2:Int),iv (p.br.cl 3:Int),iv (p.br.cl 4:Int)]),(13,iv (k0:Int))]/\L=[]/\NS i nb ob W Y (Hj p i k0) (ls++Dv p i k0) ts/\Cg w.heap.size (TN i) g w W Y) (by kernel_rfl) (by kernel_rfl) (by kernel_rfl) (by kernel_rfl) 5 (λK=>?_) ?_
  .have C11:=(c1.n c9).n D;exact⟨0,rfl,by omega,rfl,rfl,(by rw[V2,show ls++Dv p i 0=ls from ki _];exact(nsC R S C11 K)),(((c1.nil (TN i)).n c9).n D)⟩
  .rintro k gr wr _ zr _ ⟨k0,rfl,hk0,rfl,rfl,hM,hC⟩ J hJ;obtain⟨Z,d0,e6,d,j,c7⟩:=hM;have c8:=T6 p i k0;refine qN d (qO j ?_);have c6:Z.ae.n=p.ae.length:=d.ae.num;refine qR [] 5 [] λd2 a6 e8 a=>?_;by_cases h2:k0<5
   .refine qI ((decide ((k0:Int)<5))) true (I' (by omega)) (qR [] 6 [] λd3 a7 e9 b=>?_);refine aD 1 (iv (p.br.cl k0:Int)) (λK=>(by rcases nT h2 with rfl|rfl|rfl|rfl|rfl<;>kernel_rfl)) (by kernel_rfl) ?_;refine qR [] 10 [0] λd4 a8 f0 c=>?_;by_cases h3:k0≠i
    .refine qV 5 (.bool true) (FO (t:=3) (m:=(k0:Int)) (n:=(i:Int)) (x:=(.tmp 17)) (y:=(.tmp 21)) (by simp;omega)) (qR [] 11 [0] λd5 a9 f1 q=>?_);by_cases h4:(p.br.cl k0:Int)<(Z.ae.n:Int)
     .have hx:S9 p i k0=true:=I' ⟨by omega,by omega⟩;refine qI ((decide ((p.br.cl k0:Int)<(Z.ae.n:Int)))) true (I' (by omega)) (qR [] 5 [] λd6 b0 f2 E=>qS 3 [false,false] d j ((((a.n b).n c).n q).n E) (λa0=>Iy a0 (by rw[M'];omega) k0 (p.br.cl k0) (by show _<=p.ae.length;omega)) λb1 f3 o s u r U a1=>qR [] 14 [13,0,2,4,6,8,10,12,0,14,16,18,20,22] λd7 a3 a4 F=>?_);have V:o.ae.n=p.ae.length:=r.ae.num;refine BV 51 (λW Y e L=>e=[(0,pt nb 0),(12,.agg #[iv (p.br.cl 0:Int),iv (p.br.cl 1:Int),iv (p.br.cl 2:Int),iv (p.br.cl 3:Int),iv (p.br.cl 4:Int)]),(13,iv (k0:Int))]/\L=[⟨nb,.cells (AB i ob ({ p with br:={ p.br with cl:=upN (Kc p i k0) k0 o.ae.n } }) o) 103,.n 0 i,false⟩,⟨ob,.cells #[S3.v s,S3.v u] 80,.n 50 0,false⟩]/\True/\Cg w.heap.size ([.n 0 i]:List Tg) a3 a4 W Y) (by kernel_rfl) ?_ ?_
      .intro J hJ;rcases nT h2 with rfl|rfl|rfl|rfl|rfl <;>
       (refine qR [.n 0 i] 3 [24,27,0,1] λd8 b3 f5 a2=>?_;exact qB [true,true] λz A K=>hJ _ _ _ z _ ⟨rfl,rfl,trivial,a2⟩ K)
      rintro b2 f4 _ g4 _ ⟨rfl,rfl,_,G⟩;refine qR [] 2 [] λd9 b5 f6 H=>qV 0 (iv ((k0:Int)+1)) (AR 13 (k0:Int) underlying3 (by omega)) (qR [] 2 [] λe0 b6 f7 I=>qB [false,false] λz A K=>hJ (5-(k0+1)) _ _ _ z _ (by omega) ⟨k0+1,rfl,by omega,rfl,rfl,?_,((((((((((hC.n a).n b).n c).n q).n E).trans a1).n F).trans (G.mono (by simp[TN]))).n H).n I)⟩ K);have C:=(((F.nil ([.n 0 i]:List Tg)).trans (G)).n H).n I;rw[show Hj p i (k0+1)={ p with br:={ p.br with cl:=upN (Kc p i k0) k0 o.ae.n } }from by unfold Hj;rw[<- YS hx,V],show ls++Dv p i (k0+1)=(ls++Dv p i k0++[{ Cz 5 with src:=i,dst:=k0,au:=p.br.cl k0,ed:=p.ae.drop (p.br.cl k0) }])from by show ls++(Dv p i k0++_)=_;rw[hx,if_pos rfl,jI]];exact⟨o,s,u,A.pA 0 r C,U.ch C (hn:=by simp<;>omega),A.new⟩
     .have hx:S9 p i k0=false:=D' (λh=>h4 (by omega));refine qI ((decide ((p.br.cl k0:Int)<(Z.ae.n:Int)))) false (D' (by omega)) (qR [] 3 [] λe1 b7 f8 M=>qV 0 (iv ((k0:Int)+1)) (AR 13 (k0:Int) underlying3 (by omega)) (qR [] 2 [] λe2 b8 f9 N=>qB [false,false] λz A K=>hJ (5-(k0+1)) _ _ _ z _ (by omega) ⟨k0+1,rfl,by omega,rfl,rfl,?_,((((((hC.n a).n b).n c).n q).n M).n N)⟩ K));rw[show Hj p i (k0+1)={ p with br:={ p.br with cl:=Kc p i k0 } }from by unfold Hj;rw[T7 hx],show ls++Dv p i (k0+1)=ls++Dv p i k0 from by show ls++(Dv p i k0++_)=_;rw[hx];simp];exact(nsC d j (((((a.n b).n c).n q).n M).n N) A)
    .have hx:S9 p i k0=false:=D' (λh=>h.1 (by omega));refine qV 5 (.bool false) (FO (t:=3) (m:=(k0:Int)) (n:=(i:Int)) (x:=(.tmp 17)) (y:=(.tmp 21)) (by simp;omega)) (qR [] 15 [] λe3 c0 g0 O=>qV 0 (iv ((k0:Int)+1)) (AR 13 (k0:Int) underlying3 (by omega)) (qR [] 2 [] λe4 c2 g2 P=>qB [false,false] λz A K=>hJ (5-(k0+1)) _ _ _ z _ (by omega) ⟨k0+1,rfl,by omega,rfl,rfl,?_,(((((hC.n a).n b).n c).n O).n P)⟩ K));rw[show Hj p i (k0+1)={ p with br:={ p.br with cl:=Kc p i k0 } }from by unfold Hj;rw[T7 hx],show ls++Dv p i (k0+1)=ls++Dv p i k0 from by show ls++(Dv p i k0++_)=_;rw[hx];simp];exact(nsC d j ((((a.n b).n c).n O).n P) A)
   .refine qI ((decide ((k0:Int)<5))) false (D' (by omega)) (qR [] 1 [] λe5 c3 g3 Q=>?_);obtain rfl:k0=5:=by omega
    exact qF d j (a.n Q) ((hC.n a).n Q)
end
end
section
section
def BC(l:List Vt):Prop:=B2 l/\∀ v∈l,0<=v.au/\v.au<=39
theorem Yl(l:List Vt)(a:Int)(h:B2 l)(b:∀ v∈l,a<=v.au/\v.au<=39):l.length<=(40-a).toNat:=by
 induction l generalizing a with
 | nil=>exact j' _
 | cons u l ih =>
  obtain⟨d,e⟩:=h;have f:=b u P';have:=ih (u.au+1) e λv c=>⟨by have:=d v c;omega,(b v (O' _ c)).2⟩;rw[ke];omega
variable{a:Acc}{b:Bal}{l:List Vt}{v:Vt}
theorem BC.len(h:BC l):l.length<=40:=Yl l 0 h.1 h.2
theorem BC.nil:BC []:=⟨trivial,λv h=>by cases h⟩
theorem AC(h:AV a v=0):Ah a/\Ak v/\¬ v.b.lt a.p:=by
 unfold AV at h;by_cases c:Ah a
 .rw[if_neg (λg=>g c)]at h
  by_cases d:Ak v
  .rw[if_neg (λg=>g d)]at h
   by_cases e:v.b.lt a.p
   .rw[if_pos e]at h;cases h
   .exact⟨c,d,e⟩
  .rw[if_pos d]at h;cases h
 .rw[if_pos c]at h;cases h
theorem Dj(h:Cl a b=0):Ah a/\Ad b/\¬ b.lt a.p:=by
 unfold Cl at h;by_cases c:Ah a
 .rw[if_neg (λg=>g c)]at h
  by_cases d:Ad b
  .rw[if_neg (λg=>g d)]at h
   by_cases e:b.lt a.p
   .rw[if_pos e]at h;cases h
   .exact⟨c,d,e⟩
  .rw[if_pos d]at h;cases h
 .rw[if_pos c]at h;cases h
theorem FG(h:BC l)(b:Ak v):BC (Ba l v) :=
 ⟨IF v h.1,λu a=>by
  rcases(BR h.1).1 a with rfl|⟨h2,_⟩
  .exact b.1
  .exact h.2 u h2⟩
theorem Uy(a:Acc)(l:List Vt)(h:BC a.vs):BC (CI a l).vs:=by
 induction l generalizing a with
 | nil=>exact h
 | cons v l ih =>
  rw[CI];refine ih _ ?_;by_cases b:AV a v=0
  .rw[if_pos b];show BC (Bu a v);rw[(DS b).2];exact FG h (AC b).2.1
  .rw[if_neg b];exact h
def POk(k:Nat):Pend->Prop
 | .began b vs=>BC vs
 | .prom to b vs=>to<5/\At b/\BC vs
 | .voted to v=>to<5
 | .fa to b=>to<5/\At b
 | .prop v=>True
 | .askNews to=>to<5
 | .start=>True
 | .tell to au=>to<5/\au<=k
theorem POk.mono{k m:Nat}{q:Pend}(h:POk k q)(a:k<=m):POk m q:=by
 cases q<;>first|exact h|exact⟨h.1,jG h.2 a⟩
def Pend.wt:Pend->Nat
 | .began _ _=>4
 | .prop _=>4
 | .start=>4
 | _=>1
def Av:List Pend->Nat
 | []=>0
 | q::l=>q.wt+Av l
theorem Fi(l:List Pend)(q:Pend):Av (l++[q])=Av l+q.wt:=by
 induction l with
 | nil=>simp[Av]
 | cons x l ih=>simp only[List.cons_append,Av,ih];omega
theorem DB(l:List Pend):l.length<=Av l:=by
 induction l with
 | nil=>exact A' _
 | cons x l ih =>
  rw[Av,ke];have:1<=x.wt:=by cases x<;>simp[Pend.wt]
  omega
structure NOk(n:Nat)(p:Nod):Prop where
 ag:p.ae.length<=40
 dn:p.done<=p.ae.length
 qu:p.br.dW.length<=40
 wa:p.an.length<=n
 ask:∀ c,(p.bw c).isSome=true->c∈p.an
 ro:0<=p.cn/\p.cn<=65536
 vp:At p.vo.p
 vs:BC p.vo.vs
 he:∀ j,BC (p.br.al j).vs
 pe:∀ q∈p.bn,POk p.ae.length q
structure LOk(l:Let):Prop where
 kd:l.kind<7
 src:l.src<5
 dst:l.dst<5
 fv:At l.fv
 vs:BC l.ln
 wh:l.ed.length<=40
 sl:l.kind=5->l.au+l.ed.length<=40
theorem At.b0:At Bh:=.inr ⟨rfl,rfl⟩
theorem At.pS(h:At b):0<=b.r/\b.r<=65536/\0<=b.n/\b.n<=4:=by
 rcases h with⟨h1,h2⟩|⟨h1,h2⟩<;>omega
end
section
variable{n:Nat}{p:Nod}
theorem NOk.wait(h:NOk n p){q:Pend}(b:POk p.ae.length q):NOk n (p.wait q) :=
 { h with pe:=λr c=>(Q'.1 c).elim (h.pe r) λa=>(G'.1 a)▸b }
theorem NOk.av(h:NOk n p)(b:Bal):NOk n (p.av b).1/\(p.av b).1.bn=p.bn/\(p.av b).1.ae=p.ae/\BC (p.av b).2.1/\((p.av b).2.2=0->Ad b):=by
 unfold Nod.av;by_cases a:Cl p.vo b≠0
 .rw[if_pos a];exact⟨h,rfl,rfl,BC.nil,λg=>absurd g a⟩
 .rw[if_neg a];have c:=Dj (kP a);by_cases f:b=p.vo.p
  .rw[if_pos f];exact⟨{ h with vp:=.inl c.2.1,vs:=h.vs },rfl,rfl,h.vs,λ_=>c.2.1⟩
  .rw[if_neg f];by_cases e:CQ p.d p.sy (Ad b) (Bo b)≠0
   .rw[if_pos e];exact⟨h,rfl,rfl,BC.nil,λg=>absurd g e⟩
   .rw[if_neg e];exact⟨{ h with vp:=.inl c.2.1,vs:=h.vs },rfl,rfl,h.vs,λ_=>c.2.1⟩
theorem NOk.bN(h:NOk n p)(v:Vt):NOk n (p.bN v).1/\(p.bN v).1.bn=p.bn/\(p.bN v).1.ae=p.ae/\(p.bN v).1.br=p.br:=by
 unfold Nod.bN;by_cases b:AV p.vo v≠0
 .rw[if_pos b];exact⟨h,rfl,rfl,rfl⟩
 .rw[if_neg b];have a:=AC (kP b);by_cases c:v∈p.vo.vs
  .rw[if_pos c];exact⟨{ h with vp:=.inl a.2.1.2.1,vs:=FG h.vs a.2.1 },rfl,rfl,rfl⟩
  .rw[if_neg c];by_cases e:CQ p.d p.sy (Ak v) (Bd v)≠0
   .rw[if_pos e];exact⟨h,rfl,rfl,rfl⟩
   .rw[if_neg e];exact⟨{ h with vp:=.inl a.2.1.2.1,vs:=FG h.vs a.2.1 },rfl,rfl,rfl⟩
theorem NOk.fa(h:NOk n p){a:Nat}(b:a<5)(e:Int):NOk n (p.fa a e)/\(p.fa a e).ae=p.ae/\Av (p.fa a e).bn<=Av p.bn+1:=by
 unfold Nod.fa;split
 .exact⟨h.wait ⟨b,h.vp⟩,rfl,by show Av (p.bn++[_])<=_;rw[Fi];exact A' _⟩
 .exact⟨h,rfl,kU _⟩
theorem aX(k:Nat)(r:Rnd)(l:List Cmd)(h:l.length<=40):(II k r l).length<=40/\l.length<=(II k r l).length:=by
 induction k generalizing l with
 | zero=>exact⟨h,A' _⟩
 | succ k ih =>
  rw[II];split
  .rename_i h1
   have a:=We h1;have:=ih (l++[CE r.jv (l.length:Int)]) (by simp;omega);simp at this;exact⟨this.1,by omega⟩
  .exact⟨h,A' _⟩
theorem NOk.grow(h:NOk n p){l:List Cmd}(b:l.length<=40)(a:p.ae.length<=l.length):NOk n { p with ae:=l } :=
 { h with ag:=b,dn:=jG h.dn a,pe:=λq c=>(h.pe q c).mono a }
theorem NOk.nU(h:NOk n p):NOk n p.nU/\p.nU.bn=p.bn/\p.ae.length<=p.nU.ae.length :=
 have:=aX 41 p.br p.ae h.ag
 ⟨h.grow this.1 this.2,rfl,this.2⟩
theorem NOk.gC(h:NOk n p){au:Nat}{ed:List Cmd}(a:au<=p.ae.length)(b:au+ed.length<=40):NOk n (p.gC au ed)/\(p.gC au ed).bn=p.bn/\p.ae.length<=(p.gC au ed).ae.length:=by
 have c:=h.ag;refine⟨h.grow ?_ ?_,rfl,?_⟩
 .rw[M',jL];omega
 .rw[M'];omega
 .show _<=(p.ae++_).length;rw[M'];omega
theorem YV{α:Type}{f:Nat->α}{P:α->Prop}(h:∀ j,P (f j))(i:Nat){x:α}(a:P x):∀ j,P (upN f i x j):=by
 intro j;unfold upN;split
 .exact a
 .exact h j
theorem NOk.og(h:NOk n p)(j:Nat){vs:List Vt}(b:BC vs):NOk n { p with br:=p.br.og j vs } :=
 { h with qu:=h.qu,he:=YV (P:=λa:Acc=>BC a.vs) h.he j (Uy _ _ b) }
theorem NOk.count(h:NOk n p)(j:Nat)(v:Vt):NOk n (p.count j v)/\(p.count j v).bn=p.bn/\p.ae.length<=(p.count j v).ae.length:=by
 unfold Nod.count;by_cases d:v.b≠p.br.fv
 .rw[if_pos d];exact⟨h,rfl,A' _⟩
 .rw[if_neg d];by_cases c:AV (p.br.al j) v≠0
  .rw[if_pos c];exact⟨h,rfl,A' _⟩
  .rw[if_neg c];have e:=kP c;have:NOk n { p with br:={ p.br with al:=upN p.br.al j ⟨BG (p.br.al j) v,Bu (p.br.al j) v⟩ } } :=
    { h with qu:=h.qu,he:=YV (P:=λa:Acc=>BC a.vs) h.he j (by show BC (Bu _ v);rw[(DS e).2];exact FG (h.he j) (AC e).2.1) }
   exact this.nU
theorem NOk.eo(h:NOk n p)(l:List Cmd):NOk n (p.eo l)/\(p.eo l).bn=p.bn/\(p.eo l).ae=p.ae:=by
 unfold Nod.eo;split
 .exact⟨{ h with qu:=ZX _ _ h.qu,he:=h.he },rfl,rfl⟩
 .exact⟨h,rfl,rfl⟩
theorem NOk.take(h:NOk n p){l:Let}(a:LOk l):NOk n (p.take l)/\Av (p.take l).bn<=Av p.bn+1/\p.ae.length<=(p.take l).ae.length:=by
 have g:=h.ag;unfold Nod.take;have b:∀ {P:Nod} {q:Pend},P.bn=p.bn->q.wt=1->Av (P.wait q).bn<=Av p.bn+1:=λ{P q} e d=>by
  show Av (P.bn++[q])<=_;rw[Fi,e,d];exact A' _
 split
 .have hp:=h.av l.fv;split
  .have:=h.fa a.src (p.av l.fv).2.2;exact⟨this.1,this.2.2,by rw[this.2.1];exact A' _⟩
  .rename_i h1
   exact⟨hp.1.wait ⟨a.src,.inl (hp.2.2.2.2 (kP h1)),hp.2.2.2.1⟩,b hp.2.1 rfl,by show _<=(p.av l.fv).1.ae.length;rw[hp.2.2.1];exact A' _⟩
 .have hk:=h.gC (au:=0) (ed:=l.ed) (j' _) (by have:=a.wh;omega);simp only;split
  .exact⟨hk.1,by rw[hk.2.1];omega,hk.2.2⟩
  .have h2:=hk.1.og l.src (vs:=l.ln) a.vs;have f:NOk n { p.gC 0 l.ed with br:={ (p.gC 0 l.ed).br.og l.src l.ln with cl:=upN (p.gC 0 l.ed).br.cl l.src l.ed.length } }:={ h2 with qu:=h2.qu,he:=h2.he };have c:=f.nU;exact⟨c.1,by rw[c.2.1];show Av (p.gC 0 l.ed).bn<=_;rw[hk.2.1];omega,jG hk.2.2 c.2.2⟩
 .have hr:=h.ro;have i:=a.fv.pS;exact⟨{ h with ro:=by show 0<=max p.cn l.fv.r/\max p.cn l.fv.r<=65536;omega },kU _,A' _⟩
 .have hp:=h.bN l.bN;split
  .have:=h.fa a.src (p.bN l.bN).2;exact⟨this.1,this.2.2,by rw[this.2.1];exact A' _⟩
  .exact⟨hp.1.wait a.src,b hp.2.1 rfl,by show _<=(p.bN l.bN).1.ae.length;rw[hp.2.2.1];exact A' _⟩
 .have:=h.count l.src l.bN;exact⟨this.1,by rw[this.2.1];omega,this.2.2⟩
 .rename_i hk
  split
  .exact⟨h.wait a.src,b rfl rfl,A' _⟩
  .have:=h.gC (au:=l.au) (ed:=l.ed) (by omega) (a.sl hk);exact⟨this.1,by rw[this.2.1];omega,this.2.2⟩
 .have he:=h.eo l.ed;simp only;split
  .rename_i h1
   exact⟨he.1.wait ⟨a.src,lV h1⟩,b he.2.1 rfl,by show _<=(p.eo l.ed).ae.length;rw[he.2.2];exact A' _⟩
  .exact⟨he.1,by rw[he.2.1];omega,by rw[he.2.2];exact A' _⟩
 .exact⟨h,kU _,A' _⟩
end
end
section
open Go.RowKit
section
def FE(l:List Int)(n:Nat):List Int:=l++List.replicate (n-l.length) 0
def Hz(l:List Int):List Int:=if 64<l.length then dig l else l
def fk(l:List Int):List Int:=FE (Hz l) 64
def Bf(k:List Int)(m:Int):List Int:=k.map λx=>bits .xor .u8 x m
def DV(key b:List Int):List Int:=dig (Bf (fk key) 92++dig (Bf (fk key) 54++b))
theorem Mq(l:List Int)(n:Nat)(h:l.length<=n):(FE l n).length=n:=by simp[FE];omega
variable{l:List Int}{n:Nat}{w:World}
theorem Pq(h:∀ x∈l,0<=x/\x<256)(n:Nat):∀ x∈FE l n,0<=x/\x<256:=by
 intro x a;rcases Q'.1 a with h1|h1
 .exact h x h1
 .rw[List.eq_of_mem_replicate h1];omega
theorem Oj(l:List Int):(Hz l).length<=64:=by
 unfold Hz;split
 .rw[Ao];omega
 .omega
theorem R7(h:∀ x∈l,0<=x/\x<256):∀ x∈Hz l,0<=x/\x<256:=by
 unfold Hz;split
 .exact CT l
 .exact h
theorem E8(l:List Int):(fk l).length=64:=Mq _ _ (Oj l)
theorem aq(h:∀ x∈l,0<=x/\x<256):∀ x∈fk l,0<=x/\x<256:=Pq (R7 h) 64
theorem EY(l:List Int)(m:Int):(Bf l m).length=l.length:=by simp[Bf]
theorem Li(h:∀ x∈l,0<=x/\x<256){m:Int}(b:0<=m/\m<256):∀ x∈Bf l m,0<=x/\x<256:=by
 intro x c;obtain⟨y,d,rfl⟩:=kn.1 c;have a:=h y d;rw[u8_xor _ _ a.1 a.2 b.1 b.2];have:y.toNat ^^^ m.toNat<256:=my (n:=8) (by omega) (by omega);omega
theorem Dt(k b:List Int):(DV k b).length=32:=rfl
theorem Ni(k b:List Int):∀ x∈DV k b,0<=x/\x<256:=CT _
theorem Nc:(prog.info? 5).map (·.size)=some 1:=by kernel_rfl
theorem J7(l:List Int):splice ((List.replicate 64 (0:Int)).map (Value.int .u8)) 0 (l.map (Value.int .u8))=(FE l 64).map (Value.int .u8):=by
 have e:(List.replicate 64 (0:Int)).map (Value.int .u8)=List.replicate 64 (Value.int .u8 0):=mz;rw[e];simp only[splice,FE,kZ,lE,ka,kl,List.drop_replicate,jW,mz]
theorem I3{P:Program}{e:Array Oper}{b:List Oper}{o:Oper}{a:Act}{Q:Exit->Act->World->Prop}(i:o.guard=none)(j:TypeId)(x y:Operand)(q:o.op=.store j x y)(g:Nat)(cells:Array Value)(r:a.eval x=.pointer (some ⟨g,0,none⟩))(s:a.eval y=.agg cells)(t:TypeId)(c:Array Value)(k:w.heap[g]?=some (.cells c t (0,0)))(p:(P.info? j).map (·.size)=some cells.size)(d:c.size=cells.size)(m:cells.all (·.oneCell')=true)(B:Nat)(l:World)(n:Below B l w)(f:B<=g)(h:∀ w',w'.heap[g]?=some (.cells cells t (0,0))->Below B l w'->wpList P e Q b (a.put o.dst undef) w'):wpList P e Q (o::b) a w :=
 wpList_store_row i j x y q g cells r s t c k p d m (h _ (setRow_heap w g _ _ t _ k) (BD n f _))
theorem Sl.oS{i:Option Addr}{c:Nat}(h:Sl w (.slice i n c) l)(q:0<l.length):∃ ad,i=some ad/\∀ (j:Nat) (v:Value),(l.map (Value.int .u8))[j]?=some v->w.cell? (ad.add j)=some v:=by
 obtain⟨⟨a,k,e,r,s,m⟩,p,o⟩:=h;simp only[Value.slice.injEq]at e;obtain⟨rfl,rfl,rfl⟩:=e;rcases m with rfl|⟨b,off,rfl,_,hcell⟩
 .simp at q
 .refine⟨_,rfl,λj v g=>?_⟩;have d:j<l.length:=by
   have:=(U'.1 g).1;simpa using this
  have f:(⟨b,off,none⟩:Addr).add j=⟨b,off+j,none⟩:=by unfold Addr.add;split<;>simp_all
  rw[f,hcell j d];simp[List.getElem?_eq_getElem d]at g
  rw[AO d,g]
theorem Ps(v:Value)(l:List Int)(w:World)(h:Sl w v l)(K:l.length<=100000)(N:Ax w) :
  Calls prog 170 #[v] w λe w'=>e=.returned (.agg (AM (fk l)))/\Bw w w':=by
 have F:=h;obtain⟨⟨a,H,rfl,Q,R,D⟩,L,z⟩:=h;have P:Hid _:=D;have c:(prog.info? 257).map (·.size)=some (AM (fk l)).size:=by rw[AA,E8];kernel_rfl
 clear D z;by_cases E:64<l.length
 .have ek:Hz l=dig l:=by unfold Hz;rw[if_pos E]
  have y:Hid (fk l=FE (dig l) 64):=by unfold Hid fk;rw[ek]
  clear ek;go_enter func170,ntmps170
  go_wp2_with fail
  generalize i:w.alloc _=W0;have d:Bw w W0:=by rw[<- i];exact(Below.refl _ _).alloc (A' _) _
  have u:W0.heap[w.heap.size]?=some (.cells (AM (List.replicate 64 0)) 257 (0,0)):=by rw[<- i];exact heap_alloc_new _ _
  have C:W0.heap.size=w.heap.size+1:=by rw[<- i];simp
  clear i;refine(DI _ l W0 (F.ab d) K (N.ab d)).mono ?_;rintro e j ⟨S,rfl,o,m⟩;obtain⟨I,c1,O,A,B,J,n,_⟩:=DM o (Fc (Ao l));subst O;have p:j.heap[w.heap.size]?=some (.cells (AM (List.replicate 64 0)) 257 (0,0)):=(m.block _ (by omega)).trans u;have t:Bw w j:=d.trans (m.mono d.size);have x:w.heap.size<j.heap.size:=(H'.1 p).1;have G:Sl j (.slice (some ⟨I,0,none⟩) (dig l).length c1) (dig l):=Sl.kc o (by rw[Ao];omega) (CT l);go_wp2_with (refine wpList_copy_splice rfl _ _ 48 48 rfl 5 underlying48 Nc _ _ _ _ _ _ rfl rfl j.heap.size 0 ((List.replicate 64 (0:Int)).map (Value.int .u8)) 257 (heap_alloc_new _ _) ((dig l).map (Value.int .u8)) (by rw[ka,Ao];rfl) (λ_=>⟨rfl,(G.ab ((Below.refl _ _).alloc (A' _) _)).oS (by rw[Ao];omega)⟩) (by rw[ka,Ao];simp) (EA _) j.heap.size _ (Below.refl _ _) (A' _) ?_)
  intro g r b;have q:g.heap[j.heap.size]?=some (.cells (AM (fk l)) 257 (0,0)):=by
   have s:g.heap[j.heap.size]?=some (.cells (splice ((List.replicate 64 (0:Int)).map (Value.int .u8)) 0 ((dig l).map (Value.int .u8))).toArray 257 (0,0)):=r.out;rw[J7]at s
   rw[y.out];exact s
  have k:Bw w g:=(t.alloc t.size _).trans (b.mono (by omega));have f:g.heap[w.heap.size]?=some (.cells (AM (List.replicate 64 0)) 257 (0,0)):=by
   rw[b.block _ x,heap_alloc_old _ _ x];exact p
  clear r b p u C d m n o G B A;go_wp2_with (first|(refine wpList_load_row rfl 257 _ rfl j.heap.size rfl 257 _ (0,0) _ q underlying257 rfl c ?_)|(refine wpList_store_row rfl 257 _ _ rfl w.heap.size _ rfl rfl 257 _ f c (by rw[AA,AA,E8];rfl) (K6 _) ?_))
  refine bodyPost_ret (v:=.agg (AM (fk l))) (results_cell_row rfl _ _ w.heap.size 257 _ (0,0) _ rfl (setRow_heap g w.heap.size _ _ 257 _ f) underlying257 rfl c) rfl ⟨rfl,BD k (A' _) _⟩
 .have ek:Hz l=l:=by unfold Hz;rw[if_neg E]
  have y:Hid (fk l=FE l 64):=by unfold Hid fk;rw[ek]
  clear ek;go_enter func170,ntmps170
  go_wp2_with (refine wpList_copy_splice rfl _ _ 48 48 rfl 5 underlying48 Nc _ _ _ _ _ _ rfl rfl (w.heap.size+1) 0 ((List.replicate 64 (0:Int)).map (Value.int .u8)) 257 (heap_alloc2_new _ _ _) (l.map (Value.int .u8)) (by rw[ka];exact(kQ (show l.length<=64 by omega)).symm) (λM=>⟨rfl,(F.ab (((Below.refl _ _).alloc (A' _) _).alloc (by simp) _)).oS (by simpa using M)⟩) (by rw[ka,ka,lD];omega) (EA _) (w.heap.size+1) _ (Below.refl _ _) (A' _) ?_)
  intro g r b;have q:g.heap[w.heap.size+1]?=some (.cells (AM (fk l)) 257 (0,0)):=by
   have s:g.heap[w.heap.size+1]?=some (.cells (splice ((List.replicate 64 (0:Int)).map (Value.int .u8)) 0 (l.map (Value.int .u8))).toArray 257 (0,0)):=r.out;rw[J7]at s
   rw[y.out];exact s
  have k:Bw w g:=(((Below.refl _ _).alloc (A' _) _).alloc (by simp) _).trans (b.mono (by omega));have f:g.heap[w.heap.size]?=some (.cells (AM (List.replicate 64 0)) 257 (0,0)):=by
   rw[b.block _ (by omega)];exact heap_alloc2_old _ _ _
  clear r b;go_wp2_with (first|(refine wpList_load_row rfl 257 _ rfl (w.heap.size+1) rfl 257 _ (0,0) _ q underlying257 rfl c ?_)|(refine wpList_store_row rfl 257 _ _ rfl w.heap.size _ rfl rfl 257 _ f c (by rw[AA,AA,E8];rfl) (K6 _) ?_))
  refine bodyPost_ret (v:=.agg (AM (fk l))) (results_cell_row rfl _ _ w.heap.size 257 _ (0,0) _ rfl (setRow_heap g w.heap.size _ _ 257 _ f) underlying257 rfl c) rfl ⟨rfl,BD k (A' _) _⟩
theorem aN(l:List Int)(d:l.length=64)(j:Nat)(c:j<64):∀ w,(Instr.index 257 (.agg (AM l)) (.int .i64 (j:Int))).run prog w=.ok (.int .u8 (l.getD j 0)) w:=by
 intro w;have b:(AM l)[j]?=some (.int .u8 (l.getD j 0)):=by
  simp[AM,List.getElem?_eq_getElem (show j<l.length by omega),List.getD]
 have a:(0:Int)<=j/\(j:Int)<64:=by omega
 simp[Instr.index,run_underlying underlying257,asIntOf,a,part,b];intro h;omega
theorem Lj(k:List Int)(m:Int)(w:World)(q:k.length=64)(I:0<=m/\m<256)(K:∀ x∈k,0<=x/\x<256) :
  Calls prog 171 #[.agg (AM k),.int .u8 m] w λe w'=>∃ v',e=.returned v'/\w'.ownsRow w.heap.size 5 1 v' (Bf k m).length ((Bf k m).map (Value.int .u8))/\Bw w w':=by
 obtain⟨M,L,C,D,E⟩:=info_parts Aq;have B:(prog.info? 257).map (·.size)=some (AM k).size:=by rw[AA,q];kernel_rfl
 have u:Hid (k.length=64):=q;clear q;go_enter func171,ntmps171
 go_wp2_with (at_make;refine wpList_make_own _ rfl _ _ 48 rfl w.heap.size 5 M (.int .u8 0) 1 underlying48 L C D _ _ _ 64 rfl rfl (by omega) (by rw[E];omega) (by unfold maxLen;omega) (by simp) ?_)
 intro F t h;have o:Bw w F:=((Below.refl _ _).alloc (A' _) _).grown h (by simp) (by simp);have g:F.heap[w.heap.size]?=some (.cells (AM k) 257 (0,0)):=by
  rw[h.block w.heap.size (by simp) (by simp)];exact heap_alloc_new _ _
 have f:F.ownsRow w.heap.size 5 1 (.slice (some ⟨w.heap.size+1,0,none⟩) 0 64) (Bf (k.take 0) m).length ((Bf (k.take 0) m).map (Value.int .u8)):=t;clear t h;go_wp2_with (refine wpList_load_row rfl 257 _ rfl w.heap.size rfl 257 _ (0,0) _ g underlying257 rfl B ?_)
 go_loopw [5,10] (λv i wr=>∃ j:Nat,j<=64/\i=.int .i64 j/\wr.ownsRow w.heap.size 5 1 v (Bf (k.take j) m).length ((Bf (k.take j) m).map (Value.int .u8))/\Bw w wr) (λ_ i _=>64-(intOf i).toNat)
 case atStart=>exact⟨0,by omega,rfl,f,o⟩
 case round =>
  clear f o g;obtain⟨j,N,rfl,a,b⟩:=hrel;have s:=a.lt;by_cases d:j<64
  .have hix:=aN k u.out j d;have r:(Bf (k.take j) m).length<=64:=by rw[EY,X'];omega
   have y:Hid (Bf (k.take (j+1)) m=Bf (k.take j) m++[bits .xor .u8 (k.getD j 0) m]):=by
    unfold Hid;have p:j<k.length:=by rw[u.out];exact d
    rw[jT p,AO p,Bf,jW];rfl
   have c:=Ai K j;have l:0<=bits .xor .u8 (k.getD j 0) m/\bits .xor .u8 (k.getD j 0) m<256:=by
    rw[u8_xor _ _ c.1 c.2 I.1 I.2];have:(k.getD j 0).toNat ^^^ m.toNat<256:=my (n:=8) (by omega) (by omega);omega
   have G:Hid (0<=bits .xor .u8 (k.getD j 0) m/\bits .xor .u8 (k.getD j 0) m<256):=l;generalize Bf (k.take j) m=pre at a y r;generalize k.getD j 0=x at hix y c l G;clear l c;go_wp2_with (at_builtin;refine Aa _ rfl _ _ 48 rfl w.heap.size 5 underlying48 Aq _ _ rfl rfl pre _ (a.alloc _) (Sl.one _ _ _ rfl G.out) (by simp;omega) (by have:=b.size;simp;omega) ?_)
   intro v' w' J H;have A:w'.ownsRow w.heap.size 5 1 v' (pre++[bits .xor .u8 x m]).length ((pre++[bits .xor .u8 x m]).map (Value.int .u8)):=by simpa using J
   have z:Bw w w':=(b.alloc b.size _).grown H (by have:=b.size;simp;omega) (λk q=>(s k q).1);clear J H a s b;go_wp2
   go_roundw
   case rel=>exact⟨j+1,by omega,by go_num,by rw[y.out];exact A,z⟩
   case measure=>simp[intOf];omega
  .have HJ:Hid (k.take j=k):=by unfold Hid;exact jS (by rw[u.out];omega)
   go_wp2
   go_ret;refine⟨u5,rfl,?_,b⟩;rw[HJ.out]at a
   exact a
theorem On(vk vb:Value)(k b:List Int)(w:World)(C:Sl w vk k)(hb:Sl w vb b)(Z:k.length<=100000)(a3:b.length<=90000)(ht:Ax w) :
  Calls prog 147 #[vk,vb] w λe w'=>∃ v',e=.returned v'/\Fresh w w' v' (DV k b):=by
 have n:(prog.info? 257).map (·.size)=some (AM (fk k)).size:=by rw[AA,E8];kernel_rfl
 have d:=aq C.byte;have c:=E8 k;have F:Hid (DV k b=dig (Bf (fk k) 92++dig (Bf (fk k) 54++b))):=rfl;go_enter func147,ntmps147
 go_wp2_with fail
 refine(Ps vk k w C Z ht).mono ?_;rintro e R ⟨rfl,v⟩;generalize fk k=K at n d c F ⊢;go_wp2_with (refine I3 rfl 257 _ _ rfl R.heap.size _ rfl rfl 257 _ (heap_alloc_new _ _) n (by rw[AA,c];rfl) (K6 _) w.heap.size w (v.alloc v.size _) v.size ?_)
 intro E g a;have hz:R.heap.size<E.heap.size:=(H'.1 g).1;go_wp2_with (refine wpList_load_row rfl 257 _ rfl R.heap.size rfl 257 _ (0,0) _ g underlying257 rfl n ?_)
 refine(Lj K 54 E c (by omega) d).mono ?_;rintro e w3 ⟨v3,rfl,z,j⟩;have U:Bw w w3:=a.trans (j.mono a.size);have p:=z.lt;have s:(Bf K 54).length=64:=by rw[EY,c]
 have t:(Bf K 92).length=64:=by rw[EY,c]
 have G:=Li d (m:=54) (by omega);have H:=Li d (m:=92) (by omega);go_wp2_with (at_builtin;refine Aa _ rfl _ _ 48 rfl E.heap.size 5 underlying48 Aq _ _ rfl rfl (Bf K 54) b z (hb.ab U) (by omega) j.size ?_)
 intro v4 S O M;have y:Bw E S:=j.grown M j.size (λk C=>(p k C).1);have V:Bw w S:=a.trans (y.mono a.size);have f:S.ownsRow E.heap.size 5 1 v4 (Bf K 54++b).length ((Bf K 54++b).map (Value.int .u8)):=by simpa[s]using O
 have I:∀ x∈Bf K 54++b,0<=x/\x<256:=λx hx=>by
  rcases Q'.1 hx with h|h
  .exact G x h
  .exact hb.byte x h
 have a1:(Bf K 54++b).length<=91000:=by rw[M',s];omega
 clear O M z p;generalize Bf K 54++b=L4 at f I a1 F;go_wp2_with fail
 refine(DI v4 L4 S (Sl.kc f (by omega) I) (by omega) (ht.ab V)).mono ?_;rintro e u ⟨v5,rfl,P,W⟩;have o:Bw E u:=y.trans (W.mono y.size);have s5:Sl u v5 (dig L4):=Sl.kc P (by rw[Ao];omega) (CT L4);have l5:=Ao L4;have y5:=CT L4;generalize dig L4=D at s5 F l5 y5;have B:u.heap[R.heap.size]?=some (.cells (AM K) 257 (0,0)):=(o.block _ hz).trans g;clear f P;go_wp2_with (refine wpList_load_row rfl 257 _ rfl R.heap.size rfl 257 _ (0,0) _ B underlying257 rfl n ?_)
 refine(Lj K 92 u c (by omega) d).mono ?_;rintro e w6 ⟨v6,rfl,A,l⟩;have q:=A.lt;go_wp2_with (at_builtin;refine Aa _ rfl _ _ 48 rfl u.heap.size 5 underlying48 Aq _ _ rfl rfl (Bf K 92) D A (s5.ab l) (by omega) l.size ?_)
 intro v7 T Q N;have X:Bw u T:=l.grown N l.size (λk C=>(q k C).1);have L:Bw w u:=a.trans (o.mono a.size);have i:Bw w T:=L.trans (X.mono L.size);have r:T.ownsRow u.heap.size 5 1 v7 (Bf K 92++D).length ((Bf K 92++D).map (Value.int .u8)):=by simpa[t,l5]using Q
 have J:∀ x∈Bf K 92++D,0<=x/\x<256:=λx hx=>by
  rcases Q'.1 hx with h|h
  .exact H x h
  .exact y5 x h
 have a2:(Bf K 92++D).length<=96:=by rw[M',t];omega
 clear Q N A q;generalize Bf K 92++D=L7 at r J a2 F;go_wp2_with fail
 refine(DI v7 L7 T (Sl.kc r (by omega) J) (by omega) (ht.ab i)).mono ?_;rintro e w8 ⟨v8,rfl,a0,Y⟩;go_wp2
 go_ret;refine⟨v8,rfl,?_⟩;rw[F.out];exact Fresh.kc (AJ a0 i.size) (Fc (Ao L7)) (by rw[Ao];omega) (CT L7) (i.trans (Y.mono i.size))
theorem dP(m l:Value)(k b:List Int)(w:World)(i:Sl w m k)(h:Sl w l b)(q:k.length<=256)(o:b.length<=2000)(t:Ax w) :
  Calls prog 145 #[m,l] w λe w'=>∃ v',e=.returned (.tuple #[v',.int .i64 0])/\Fresh w w' v' (DV k b):=by
 have s:=i;have f:=h;obtain⟨⟨a,n,rfl,_,_,_⟩,r,d⟩:=i;obtain⟨⟨v,g,rfl,_,_,_⟩,j,c⟩:=h;clear d c;go_enter func145,ntmps145
 go_wp2_with fail
 refine(On _ _ k b w s f (by omega) (by omega) t).mono ?_;rintro e x ⟨u,rfl,p⟩;go_wp2
 go_ret2
 exact⟨u,rfl,p⟩
theorem Ot(L M:Value)(a i:List Int)(c:Int)(w:World)(H:Sl w L a)(I:Sl w M i)(S:a.length<=1000)(U:i.length<=1000)(T:0<=c/\c<256) :
  Calls prog 169 #[L,M,.int .u8 c] w λe w'=>∃ v',e=.returned v'/\w'.ownsRow w.heap.size 5 1 v' (a++i++[c]).length ((a++i++[c]).map (Value.int .u8))/\Bw w w':=by
 obtain⟨X,A,D,E,F⟩:=info_parts Aq;have W:=H;have C:=I;obtain⟨⟨aa,R,rfl,_,_,_⟩,V,z⟩:=H;obtain⟨⟨a2,G,rfl,_,_,_⟩,J,n⟩:=I;clear z n;go_enter func169,ntmps169
 go_wp2_with (at_make;refine wpList_make_own _ rfl _ _ 48 rfl w.heap.size 5 X (.int .u8 0) 1 underlying48 A D E _ _ _ (a.length+i.length+1) rfl rfl (by omega) (by rw[F];omega) (by unfold maxLen;omega) (A' _) ?_)
 intro N s o;have b:Bw w N:=(Below.refl _ _).grown o (A' _) (by simp);have m:N.ownsRow w.heap.size 5 1 (.slice (some ⟨w.heap.size,0,none⟩) 0 (a.length+i.length+1)) ([]:List Int).length (([]:List Int).map (Value.int .u8)):=s;clear s o;go_wp2_with (at_builtin;refine Aa _ rfl _ _ 48 rfl w.heap.size 5 underlying48 Aq _ _ rfl rfl [] a m (W.ab b) (by simp;omega) b.size ?_)
 intro Y O t p;have g:O.ownsRow w.heap.size 5 1 Y a.length (a.map (Value.int .u8)):=by simpa using t
 have d:Bw w O:=b.grown p b.size (by simp[Value.ownBlock]);have j:=g.lt;clear m p b t;go_wp2_with (at_builtin;refine Aa _ rfl _ _ 48 rfl w.heap.size 5 underlying48 Aq _ _ rfl rfl a i g (C.ab d) (by omega) d.size ?_)
 intro Z P u q;have h:P.ownsRow w.heap.size 5 1 Z (a++i).length ((a++i).map (Value.int .u8)):=by simpa using u
 have f:Bw w P:=d.grown q d.size (λk B=>(j k B).1);have l:=h.lt;clear g q d u j;go_wp2_with (at_builtin;refine Aa _ rfl _ _ 48 rfl w.heap.size 5 underlying48 Aq _ _ rfl rfl (a++i) [c] (h.alloc _) (Sl.one _ _ _ rfl T) (by simp;omega) (by have:=f.size;simp;omega) ?_)
 intro K Q v r;have x:Q.ownsRow w.heap.size 5 1 K (a++i++[c]).length ((a++i++[c]).map (Value.int .u8)):=by simpa using v
 have y:Bw w Q:=(f.alloc f.size _).grown r (by have:=f.size;simp;omega) (λk B=>(l k B).1);clear h r f v l;go_wp2
 go_ret;exact⟨K,rfl,x,y⟩
theorem Sl.grown{m:World}{b c d:Nat}{row:Option Nat}(h:Sl w (.slice (some ⟨b,c,none⟩) n d) l)(k:w.grownBy m row)(j:some b≠row):Sl m (.slice (some ⟨b,c,none⟩) n d) l:=by
 obtain⟨⟨a,f,e,q,s,g⟩,o,p⟩:=h;refine⟨⟨a,f,e,q,s,?_⟩,o,p⟩;simp only[Value.slice.injEq]at e;obtain⟨rfl,_,_⟩:=e;rcases g with g|⟨b',off',e',hbs,hcell⟩
 .exact .inl g
 .simp only[V',Addr.mk.injEq,and_true]at e';obtain⟨rfl,rfl⟩:=e';refine .inr ⟨b,c,rfl,Y' hbs k.size,λi r=>?_⟩;rw[<- hcell i r];exact World.cell?_of_block (w:=w) (k.block b hbs j)
def blk(key info:List Int):Nat->List Int
 | 0=>[]
 | i+1=>DV key (blk key info i++info++[(i:Int)+1])
def Bb(key info:List Int):Nat->List Int
 | 0=>[]
 | i+1=>Bb key info i++blk key info (i+1)
def FC(key info:List Int)(n:Nat):List Int:=(Bb key info 16).take n
theorem GM(key a:List Int)(i:Nat):(blk key a (i+1)).length=32:=Dt _ _
theorem VU(key a:List Int)(i:Nat):∀ x∈blk key a i,0<=x/\x<256:=by
 cases i with
 | zero=>intro x b;cases b
 | succ i=>exact Ni _ _
theorem ew(key a:List Int)(i:Nat):(blk key a i).length<=32:=by
 cases i with
 | zero=>simp[blk]
 | succ i=>rw[GM];omega
theorem CA(key a:List Int)(i:Nat):(Bb key a i).length=32*i:=by
 induction i with
 | zero=>rfl
 | succ i ih=>rw[Bb,M',ih,GM];omega
theorem Qn(key a:List Int)(i:Nat):∀ x∈Bb key a i,0<=x/\x<256:=by
 induction i with
 | zero=>intro x b;cases b
 | succ i ih =>
  intro x b;rcases Q'.1 b with h|h
  .exact ih x h
  .exact VU key a (i+1) x h
theorem Qo(key a:List Int)(n i j:Nat)(b:n<=32*i):(Bb key a (i+j)).take n=(Bb key a i).take n:=by
 induction j with
 | zero=>rfl
 | succ j ih=>rw[<- kM,Bb,kg (by rw[CA];omega),ih]
theorem Uj(key a:List Int)(n i:Nat):(Bb key a (i+1)).take n=(Bb key a i).take n++(blk key a (i+1)).take (n-32*i):=by
 rw[Bb,List.take_append,CA]
theorem Rl(vk vi:Value)(k i:List Int)(n:Nat)(w:World)(hk:Sl w vk k)(hi:Sl w vi i)(a9:k.length<=1000)(a8:i.length<=900)(hn:n<=512)(ht:Ax w) :
  Calls prog 146 #[vk,vi,.int .i64 n] w λe w'=>∃ v',e=.returned v'/\w'.ownsRow w.heap.size 5 1 v' (FC k i n).length ((FC k i n).map (Value.int .u8))/\Bw w w':=by
 obtain⟨i0,Z,a2,a3,a4⟩:=info_parts Aq;go_enter func146,ntmps146
 go_wp2_with (at_make;refine wpList_make_own _ rfl _ _ 48 rfl w.heap.size 5 i0 (.int .u8 0) 1 underlying48 Z a2 a3 _ _ _ n rfl rfl (by omega) (by rw[a4];omega) (by unfold maxLen;omega) (A' _) ?_)
 intro w1 J I;have H:Bw w w1:=(Below.refl _ _).grown I (A' _) (by simp);have y:w1.ownsRow w.heap.size 5 1 (.slice (some ⟨w.heap.size,0,none⟩) 0 n) ((Bb k i 0).take n).length (((Bb k i 0).take n).map (Value.int .u8)):=by simpa[Bb]using J
 clear J I;go_wp2_with fail
 go_loopw [7,8,9] (λv b c wr=>∃ j:Nat,j<=16/\c=.int .u8 ((j:Int)+1)/\(∃ m z,v=.slice (some ⟨m,0,none⟩) (min (32*j) n) z)/\Sl wr b (blk k i j)/\wr.ownsRow w.heap.size 5 1 v ((Bb k i j).take n).length (((Bb k i j).take n).map (Value.int .u8))/\Bw w wr) (λ_ _ c _=>(17-intOf c).toNat)
 case atStart=>exact⟨0,by omega,rfl,⟨w.heap.size,n,by simp⟩,Sl.nil _ _,y,H⟩
 case round =>
  clear y H;obtain⟨j,hj,rfl,⟨m,z,rfl⟩,sb,f,V⟩:=hrel;have B:=f.lt;by_cases hc:32*j<n
  .have d:min (32*j) n=32*j:=by omega
   rw[d]at f B ⊢
   have a0:m<wr.heap.size:=(B m rfl).2;have l:((Bb k i j).take n).length=32*j:=by rw[X',CA];omega
   have a7:=ew k i j;have a5:j<=15:=by omega
   have HB:Hid (blk k i (j+1)=DV k (blk k i j++i++[(j:Int)+1])):=rfl;have HS:=Uj k i n j;have E:Hid _:=HS;have yb:∀ x∈blk k i j++i++[(j:Int)+1],0<=x/\x<256:=λx hx=>by
    rcases Q'.1 hx with h|h
    .rcases Q'.1 h with h|h
     .exact sb.byte x h
     .exact hi.byte x h
    .obtain rfl:x=(j:Int)+1:=by simpa using h
     omega
   clear HS d;go_wp2_with fail
   refine(Ot _ vi (blk k i j) i ((j:Int)+1) wr sb (hi.ab V) (by omega) (by omega) (by omega)).mono ?_;rintro e w2 ⟨v2,rfl,K,a⟩;have s:Bw w w2:=V.trans (a.mono V.size);have l2:(blk k i j++i++[(j:Int)+1]).length<=2000:=by simp;omega
   have s2:=Sl.kc K (by omega) yb;go_wp2_with fail
   refine(On vk v2 k _ w2 (hk.ab s) s2 (by omega) (by omega) (ht.ab s)).mono ?_;rintro e R ⟨v3,rfl,F⟩;rw[<- HB.out]at F
   obtain⟨T,S,N,_,Y⟩:=F.shape;have s3:=F.sl;have o:=F.nY;have l3:=GM k i j;rw[l3]at N Y
   subst N;clear HB F s2 K l2 yb sb;have a1:=f;have g:R.ownsRow w.heap.size 5 1 (.slice (some ⟨m,0,none⟩) (32*j) z) ((Bb k i j).take n).length (((Bb k i j).take n).map (Value.int .u8)):=by
    refine f.kept (row:=none) ⟨(a.trans (o.mono a.size)).os,(a.trans (o.mono a.size)).tape,(a.trans (o.mono a.size)).output,(a.trans (o.mono a.size)).size,λq hq _=>(a.trans (o.mono a.size)).block q hq⟩ (.inr (by simp[Value.ownBlock]))
   have t:Bw w R:=s.trans (o.mono s.size);have p:=g.lt;have C:Hid ((Bb k i (j+1)).take n=(Bb k i j).take n++(blk k i (j+1)).take (n-32*j)):=E.out;clear E a1 f B;have U:((blk k i (j+1)).take (n-32*j)).length=min (n-32*j) 32:=by rw[X',l3]
   have sM:Sl R (.slice (some ⟨T,0,none⟩) (min (n-32*j) 32) S) ((blk k i (j+1)).take (n-32*j)):=by
    by_cases hq:n-32*j<=32
    .rw[kQ hq];exact s3.take (n-32*j) (by omega)
    .rw[Nat.min_eq_right (by omega),jS (by omega)];exact s3
   have HN:=s3;have u:((Bb k i (j+1)).take n).length=min (32*(j+1)) n:=by rw[X',CA];omega
   have D:Hid (((Bb k i (j+1)).take n).length=min (32*(j+1)) n):=u;clear HN u;generalize (blk k i (j+1)).take (n-32*j)=M at sM U C;generalize (Bb k i j).take n=P at g p l C;have SB:Sl R (.slice (some ⟨T,0,none⟩) 32 S) (blk k i (j+1)):=s3;clear s3;have d:(min (32:Int) ((n:Int)-32*(j:Int))).toNat=min (n-32*j) 32:=by omega
   have Q:Sl R (.slice (some ⟨T,0,none⟩) (min (32:Int) ((n:Int)-32*(j:Int))).toNat S) M:=by rw[d];exact sM
   have a6:m<w2.heap.size:=Y' a0 a.size;clear d sM;go_wp2_with (at_builtin;refine Aa _ rfl _ _ 48 rfl w.heap.size 5 underlying48 Aq _ _ rfl rfl P M g Q (by omega) t.size ?_)
   intro v4 w4 L A;have r:w4.ownsRow w.heap.size 5 1 v4 (P++M).length ((P++M).map (Value.int .u8)):=by simpa[l,U]using L
   have X:Bw w w4:=t.grown A t.size (λk hk=>(p k hk).1);have W:Sl w4 (.slice (some ⟨T,0,none⟩) 32 S) (blk k i (j+1)):=SB.grown A (by simp[Value.ownBlock];omega);obtain⟨g4,c4,O,_,_,_,_,_⟩:=DM r (by intro e;have:=congrArg List.length e;rw[M',l,U]at this;simp at this;omega);have G:(P++M).length=min (32*(j+1)) n:=by rw[<- C.out];exact D.out
   rw[<- C.out]at r
   rw[G]at O
   subst O;clear L A g p t SB Q U C D G l;go_wp2
   go_roundw
   case rel=>exact⟨j+1,by omega,by go_num,⟨g4,c4,rfl⟩,W,r,X⟩
   case measure=>simp[intOf];omega
  .have d:min (32*j) n=n:=by omega
   rw[d]at f ⊢
   have HQ:Hid (FC k i n=(Bb k i j).take n):=by
    unfold Hid FC;have:=Qo k i n j (16-j) (by omega);rw[show j+(16-j)=16 by omega]at this
    exact this
   go_wp2
   go_ret;refine⟨_,rfl,?_,V⟩;rw[HQ.out];exact f
theorem Ht(k i:List Int)(n:Nat)(h:n<=512):(FC k i n).length=n:=by
 unfold FC;rw[X',CA];omega
theorem KL(k i:List Int)(n:Nat):∀ x∈FC k i n,0<=x/\x<256:=λx a=>Qn k i 16 x (jU a)
theorem SH(o f g:Value)(a b d:List Int)(n:Nat)(w:World)(j:Sl w o a)(k:Sl w f b)(l:Sl w g d)(p:a.length<=256)(q:b.length<=256)(r:d.length<=256)(s:n<=512)(m:Ax w) :
  Calls prog 117 #[o,f,g,.int .i64 n] w λe w'=>∃ v',e=.returned (.tuple #[v',.int .i64 0])/\w'.ownsRow w.heap.size 5 1 v' (FC (DV b a) d n).length ((FC (DV b a) d n).map (Value.int .u8))/\Bw w w':=by
 have s0:=j;have t:=k;have u:=l;obtain⟨⟨a0,c0,rfl,_,_,_⟩,_,_⟩:=j;obtain⟨⟨x,c1,rfl,_,_,_⟩,_,_⟩:=k;obtain⟨⟨y,z,rfl,_,_,_⟩,_,_⟩:=l;have A:decide ((256:Int)<(a.length:Int))=false:=by simp;omega
 have B:decide ((256:Int)<(b.length:Int))=false:=by simp;omega
 have C:decide ((256:Int)<(d.length:Int))=false:=by simp;omega
 have D:decide ((n:Int)<0)=false:=by simp
 have E:decide ((512:Int)<(n:Int))=false:=by simp;omega
 go_enter func117,ntmps117
 go_wp2_with fail
 refine(On _ _ b a w t s0 (by omega) (by omega) m).mono ?_;rintro e v ⟨f,rfl,c⟩;have F:=Dt b a;go_wp2_with fail
 refine(Rl f _ (DV b a) d n v c.sl (u.ab c.nY) (by omega) (by omega) s (m.ab c.nY)).mono ?_;rintro e G ⟨g,rfl,i,h⟩;go_wp2
 go_ret2
 exact⟨g,rfl,AJ i c.nY.size,c.nY.trans (h.mono c.nY.size)⟩
def Gz(c:Int):List Int:=FC (DV [99,108,105,101,110,116] [c]) [] 32
def Gy:List Int:=FC (DV [105,115,115,117,101,114] [255]) [] 32
theorem FH(c:Int):(Gz c).length=32:=Ht _ _ 32 (by omega)
theorem Js:Gy.length=32:=Ht _ _ 32 (by omega)
theorem U9(c:Int):∀ x∈Gz c,0<=x/\x<256:=KL _ _ _
theorem U5:∀ x∈Gy,0<=x/\x<256:=KL _ _ _
theorem Sl.pP(w:World)(l:List Int)(e:TypeId)(fr:Nat × Nat){g:Nat}(b:g=w.heap.size)(d:l.length=6)(a:∀ x∈l,0<=x/\x<256):Sl (w.alloc (.cells (l.map (Value.int .u8)).toArray e fr)) (.slice (some ⟨g,0,none⟩) 6 6) l:=by
 subst b;refine⟨⟨_,6,by rw[d],by omega,by simp,.inr ⟨w.heap.size,0,rfl,by simp,λi c=>?_⟩⟩,by omega,a⟩;rw[cell_of_row _ _ (0+i) _ _ _ (heap_alloc_new w _)];simp[List.getElem?_eq_getElem c,List.getD]
end
end
end Go.Proofs.YthohlalejhgbmaaGreatDoor
