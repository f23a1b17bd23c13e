/- Part 12 of the walk. -/
import Derived.LoopN
import Derived.Lib.SmallJoins
import Derived.Test.YtdjfdfpkkenjbabGreatDoorZ11
set_option maxRecDepth 100000
set_option maxHeartbeats 4000000
open Go.Proofs.Tryz
set_option linter.unusedVariables false
namespace Go.Proofs.YtdjfdfpkkenjbabGreatDoor
section
open Go.RowKit
section
variable{P:Program}{fn:Func}{R:Ending->World->Prop}{B:Nat}{T:List Tg}{g:Gh}{w:World}
theorem fT{s:Xs}(k n:Nat)(a:List (Nat × Value))(m:List Bool)(i:List Sh)(o:S6 s.K=true)(q:s.f.n=n)(y:a.map (λp=>lk s.f.z s.f.e p.1)=a.map (·.2))(u:B2 (AE m s.L)=i)
  (h:∀ J:Nat->Act->World->Prop,(∀ (m:Nat) (e:List (Nat × Value)) (z:Nat->Value) (L:List Sh) (g:Gh) (w:World),GG P fn R B T (eB s n (J m) e z L) g w->Kn B g w L->J (m+1) (⟨n,e,z⟩:Fm).act w)->∀ z,GG P fn R B T (eB s n (J k) a z i) g w):GG P fn R B T s g w:=by
 refine gFm a y λz=>?_;obtain⟨K,f,L⟩:=s;simp only at q;subst q;have j:B2 (AE m L)=i:=u;have v:GG P fn R B T ⟨K,⟨f.n,a,z⟩,B2 (AE m L)⟩ g w->GG P fn R B T ⟨K,⟨f.n,a,z⟩,L⟩ g w:=λh=>⟨λd=>h.ex (d.sub (Dg m L)).sw⟩;refine v ?_;rw[j];cases K with
 | nil=>cases o
 | cons t K =>
  cases t with
  | c x =>
   cases x with
   | loop b =>
    refine⟨λd=>?_⟩;exact wp_loop_rounds (k+1) ((h (Code.rounds P b (Kq P (bodyPost P fn R) K)) (λm e z L g w r d=>r.ex d) z).ex d)
   | _=>cases o
  | _=>cases o
end
section
variable{W w:World}{d:List Int}{g:Gh}{i k nb ob:Nat}{ls:List Let}{p:Nod}{s:Int}{ts:List Tol}{vs:List Value}{x:S3}
theorem MU{v:Vt}(h:NS i nb ob g w p ls ts){C:World}(H:Base C g w)(I:Tabs C)(L:i<5)(J:ls.length<90000000){a d:Nat}(u:Box g w a #[pt nb 0] 118)(y:Box g w d #[iv v.an,iv v.b.r,iv v.b.n,iv v.w.k,iv v.w.c,iv v.w.s,iv v.w.n,iv v.w.v] 184)(o:p.ae.length<=40) :
  Calls prog 143 #[pt a 0,pt d 0] w (NP i nb ob g w (.tuple #[]) (p.count i v) (ls++BV i { Cv 3 with bW:=v } 5) ts):=by
 obtain⟨x,lt,Y,A,B,K⟩:=h;refine gI (fn:=f143) (TN i) g func143 K (qN A (qO B (BS ⟨a,.cells #[pt nb 0] 118,.z,false⟩ (λ_=>⟨u.r,u.z,λh=>(by cases h),λh=>absurd rfl h⟩) (by kernel_rfl) ?_)));refine BS ⟨d,.cells #[iv v.an,iv v.b.r,iv v.b.n,iv v.w.k,iv v.w.c,iv v.w.s,iv v.w.n,iv v.w.v] 184,.z,false⟩ (λ_=>⟨y.r,y.z,λh=>(by cases h),λh=>absurd rfl h⟩) (by kernel_rfl) ?_;refine qR [] 8 [6,0,2,2,2,4,6,8,0,10,3] λV Q Z c1=>qS 6 [false,false,true,true] A B c1 (λD=>Ns D (H.ch (c1.nil (TN i)) (Bg i)) I i L v o) λR w2 x2 M O e l F=>qR [] 5 [0,1] λW S w4 q=>qS 3 [true,true,false,false] e l q (λE=>DU E J { Cv 3 with bW:=v } s30 s30 ⟨Sv.nil _,λh=>absurd rfl h⟩ (Rc.nil _ _)) λT w5 x5 N P j m G=>qR [] 1 [] λX U w7 t=>qF j m t (((((c1.nil (TN i)).trans (F)).n q).trans (G)).n t)
theorem SH{b:Bal}{B:List Vt}{e:S3}(h:NS i nb ob g w p ls ts){G:World}(M:Base G g w)(N:Tabs G)(Q:i<5)(O:ls.length<90000000){j k l:Nat}(a:Box g w j #[pt nb 0] 118)(E:Box g w k #[iv b.r,iv b.n] 123)(F:Box g w l #[S3.v e] 124)(R:FSv g w e B)(A:(p.bt.av i).vs.length<100000000) :
  Calls prog 87 #[pt j 0,pt k 0,pt l 0] w (NP i nb ob g w (.tuple #[]) (if p.vo.p≠b then p else{ p with bt:=p.bt.rC i B }) (if p.vo.p≠b then ls else(ls++BV i { Cv 0 with fw:=b } 5)) ts):=by
 obtain⟨x,lt,tl,m,s,P⟩:=h;refine gI (fn:=f87) (TN i) g func87 P (qN m (qO s (BS ⟨j,.cells #[pt nb 0] 118,.z,false⟩ (λ_=>⟨a.r,a.z,λh=>(by cases h),λh=>absurd rfl h⟩) (by kernel_rfl) ?_)));refine BS ⟨k,.cells #[iv b.r,iv b.n] 123,.z,false⟩ (λ_=>⟨E.r,E.z,λh=>(by cases h),λh=>absurd rfl h⟩) (by kernel_rfl) ?_;refine BS ⟨l,.cells #[S3.v e] 124,.z,false⟩ (λ_=>⟨F.r,F.z,λh=>(by cases h),λh=>absurd rfl h⟩) (by kernel_rfl) ?_;refine qR [] 10 [8,0,2,2,4,6,8,10,0,12,3] λs1 X w1 c1=>?_;by_cases a:p.vo.p≠b
 .refine qT 7 (.bool true) (λ_=>(I3 (x:=(.tmp 8)) (y:=(.tmp 9)) p.vo.p b a)) (qR [] 2 [] λs2 Y w2 C=>?_);rw[if_pos a,if_pos a];exact qF m s (c1.n C) ((c1.nil (TN i)).n C)
 .have h10:p.vo.p=b:=by simpa using a
  refine qT 7 (.bool false) (λ_=>(I2 (x:=(.tmp 8)) (y:=(.tmp 9)) p.vo.p b h10)) ?_;rw[if_neg a,if_neg a];refine qR [] 14 [9,0,2,2,4,6,8,2,10,12,14,0,16,4] λs4 Z w4 d=>qS 9 [false,false,true,true,true] m s (c1.n d) (λH=>Qe H (M.ch ((c1.nil (TN i)).n d) (Bg i)) N i Q B e (R.ch ((c1.nil (TN i)).n d) (Bg i)) A) λg5 w5 x5 S U o t J=>qR [] 5 [0,1] λs7 g7 w7 D=>qS 3 [true,true,true,false,false] o t D (λI=>DU I O { Cv 0 with fw:=b } s30 s30 ⟨Sv.nil _,λh=>absurd rfl h⟩ (Rc.nil _ _)) λg8 w8 x8 lt8 V q u K=>qR [] 1 [] λT L W c=>qF q u c ((((((c1.nil (TN i)).n d).trans (J)).n D).trans (K)).n c)
def Nod.qQ(p:Nod)(i:Nat):Pend->Nod
 | .began b vs=>if p.vo.p≠b then p else{ p with bt:=p.bt.rC i vs }
 | .prop v=>p.count i v
 | _=>p
def Nod.pd(p:Nod)(i:Nat):Pend->List Let
 | .began b vs=>if p.vo.p≠b then[]else BV i { Cv 0 with fw:=b } 5
 | .prom to b vs=>[{ Cv 1 with fw:=b,eA:=vs,cx:=p.ae,src:=i,dst:=to }]
 | .voted to v=>[{ Cv 4 with bW:=v,src:=i,dst:=to }]
 | .fa to b=>[{ Cv 2 with fw:=b,src:=i,dst:=to }]
 | .prop v=>BV i { Cv 3 with bW:=v } 5
 | .askNews to=>[{ Cv 6 with an:=p.ae.length,src:=i,dst:=to }]
 | .start=>BV i (Cv 6) 5
 | .tell to an=>[{ Cv 5 with src:=i,dst:=to,an:=an,cx:=p.ae.drop an }]
def Ry(p:Nod)(i:Nat):Pend->Prop
 | .began _ _=>(p.bt.av i).vs.length<100000000
 | .prop _=>p.ae.length<=40
 | .tell _ an=>an<=p.ae.length
 | _=>True
theorem fP{P:Program}{s:Xs}{S:Sem Next}{r:Result Next}(h:Dw s i=some S)(a:S.run P W=r):CO P s i W=some r:=by
 unfold CO;unfold Dw at h;cases hx:opN s i with
 | none=>rw[hx]at h;cases h
 | some x =>
  rw[hx]at h
  simp only[nA,P']at h ⊢;rw[h,a]
theorem G3(h:NS i nb ob g w p ls ts){z:World}(s:Base z g w)(t:Tabs z)(y:i<5)(f:ls.length<90000000){v:Value}(q:Pend)(o:Ry p i q)(j:KY g w nb v q) :
  ∃ (F:FuncId) (cs:Array Value),v=.func (.func F) #[] cs/\(∀ W,(Go.callFunc F (#[]++cs)).run prog W=.ok (.enter F cs) W)/\Calls prog F cs w (NP i nb ob g w (.tuple #[]) (p.qQ i q) (ls++p.pd i q) ts):=by
 cases q with
 | began b vs =>
  obtain⟨k,b2,b3,x,e,a,c,d,n⟩:=j;refine⟨_,_,e,λW=>by kernel_rfl,?_⟩;have:=SH h s t y f a c d n o;unfold Nod.qQ Nod.pd;by_cases m:p.vo.p≠b
  .rw[if_pos m,if_pos m]at this;simp only[if_pos m,nI];exact this
  .rw[if_neg m,if_neg m]at this;simp only[if_neg m];exact this
 | prom to b vs =>
  obtain⟨k,b2,b3,x,r,l,e,a,c,d,n,A,rfl,rfl⟩:=j;exact⟨_,_,e,λW=>(by kernel_rfl),GC h f a c d A n⟩
 | voted to u =>
  obtain⟨k,b2,r,l,e,a,c,d,rfl,rfl⟩:=j;exact⟨_,_,e,λW=>(by kernel_rfl),Hv (b3:=0) h f a c d⟩
 | fa to b =>
  obtain⟨k,b2,b3,e,a,c,d⟩:=j;exact⟨_,_,e,λW=>(by kernel_rfl),Pc h f a c d⟩
 | prop u =>
  obtain⟨k,b2,e,a,c⟩:=j;exact⟨_,_,e,λW=>(by kernel_rfl),MU h s t y f a c o⟩
 | askNews to =>
  obtain⟨k,b2,r,l,e,a,c,d,rfl⟩:=j;exact⟨_,_,e,λW=>(by kernel_rfl),Mq (b3:=0) h f a c d⟩
 | start =>
  obtain⟨k,e,a⟩:=j;exact⟨_,_,e,λW=>(by kernel_rfl),QZ (b2:=0) (b3:=0) h f a⟩
 | tell to an =>
  obtain⟨k,b2,r,l,e,a,c,d,rfl,rfl⟩:=j;exact⟨_,_,e,λW=>(by kernel_rfl),J5 (b3:=0) h f a c d o⟩
theorem Ys(s:Int){n:Nat}{w:World}(h:Sl w x.v d)(a:n<=d.length){N:Int}(b:(n:Int)=N) :
  Calls prog 146 #[.agg #[x.v,iv s],iv N] w λe w'=>∃ y:S3,e=.returned (.agg #[y.v,iv N])/\Sl w' y.v (d.take n)/\Nb w.heap.size y (d.take n)/\Bw w w':=by
 subst b;refine(JL x.v d s n w h a).mono ?_;rintro e w' ⟨y,rfl,f,c⟩;obtain⟨y,rfl,i,g⟩:=Tb (l:=d.take n) (by rw[mH,oF a];exact f) (by rw[mH];have:=h.len;omega) (λz j=>h.byte z (mY j));exact⟨y,rfl,i,g,c⟩
theorem Zc(s:Int){w:World}(h:Sl w x.v d){t:Bool}(a:decide (Dx d s)=t) :
  Calls prog 145 #[.agg #[x.v,iv s]] w λe w'=>e=.returned (.bool t)/\Bw w w':=by
 subst a;exact LJ x.v d s w h
theorem eT(h:Sl w x.v d) :
  Calls prog 144 #[.agg #[x.v,iv s]] w λe w'=>∃ y:S3,e=.returned (.tuple #[.agg #[y.v,iv (Pm d s)],iv (DX d s)])/\Sl w' y.v (Nf d s)/\Nb w.heap.size y (Nf d s)/\Bw w w':=by
 refine kIn func144 (kR 10 [0,0,1,0,0] λb H g=>?_);obtain⟨t,j⟩:∃ t,decide (Dx d s)=t:=⟨_,rfl⟩;refine kC 1 (Zc s (h.ab g) j) ?_;rintro _ I ⟨rfl,i⟩;refine⟨_,rfl,i,?_⟩;refine kR 2 [] λC J k=>?_;by_cases a:Dx d s
 .refine kI ((!t)) false (by rw[<- j,N' a];rfl) ?_;rw[show DX d s=0 from if_pos a,show Nf d s=d from if_pos a,show Pm d s=(d.length:Int)from if_pos a];have m:=Jv h;have A:d.take d.length=d:=oZ;refine kR 7 [0,0] λD L r=>?_;have f:=(btr (btr (btr g i) k) r);refine kC 4 (Ys s (n:=d.length) (N:=(x.n:Int)) (h.ab f) (A' _) (by rw[m])) ?_;rintro _ M ⟨y,rfl,p,o,l⟩;refine⟨_,rfl,l,?_⟩;rw[A]at p o
  rw[<- m];refine kF 3 [1,0] λE O u B=>?_;have q:=((btr f l).trans u);exact qE2 2 3 143 1 (b 1) #[S3.v y,iv (x.n:Int)] (iv 0) λK=>⟨y,rfl,(p.kept B),o.mono f.size,q⟩
 .refine kI ((!t)) true (by rw[<- j,G' a];rfl) ?_;rw[show DX d s=5 from if_neg a,show Nf d s=[]from if_neg a,show Pm d s=0 from if_neg a];refine kF 6 [1,0] λF P z G=>?_;have c:=((btr (btr g i) k).trans z);exact qE2 2 3 143 1 (b 1) #[S3.v s30,iv 0] (iv 5) λK=>⟨s30,rfl,Ec _,λh=>absurd rfl h,c⟩
theorem XQ{k:Int}(h:Sl w x.v d)(L:-9223372036854775808<=k)(M:k<=9223372036854775807) :
  Calls prog 97 #[.agg #[x.v,iv s],iv k] w λe w'=>∃ y:S3,e=.returned (.tuple #[.agg #[y.v,iv (PM d s k)],iv (MG d s k)])/\Sl w' y.v (PL d s k)/\Nb w.heap.size y (PL d s k)/\Bw w w':=by
 refine kIn func97 (kR 10 [0,0,1,0,0] λf w1 j=>?_);obtain⟨t,A⟩:∃ t,decide (Dx d s)=t:=⟨_,rfl⟩;refine kC 1 (Zc s (h.ab j) A) ?_;rintro _ w2 ⟨rfl,l⟩;refine⟨_,rfl,l,?_⟩;refine kR 2 [] λT w3 u=>?_;by_cases c:Dx d s
 .refine kI ((!t)) false (by rw[<- A,N' c];rfl) (kR 7 [] λU w4 C=>?_);by_cases m:k<0
  .refine kI ((decide (k<0))) true (N' m) ?_;have a:MG d s k=2:=(if_neg (λg=>g c)).trans (if_pos m);rw[show PL d s k=[]from if_neg (by rw[a];decide),show PM d s k=0 from if_neg (by rw[a];decide),a];refine kF 6 [1,0] λV w5 H q5=>?_;have G:=((btr (btr (btr j l) u) C).trans H);exact qE2 4 5 143 1 (f 1) #[S3.v s30,iv 0] (iv 2) λK=>⟨s30,rfl,Ec _,λh=>absurd rfl h,G⟩
  .refine kI ((decide (k<0))) false (G' m) ?_;have a:MG d s k=0:=(if_neg (λg=>g c)).trans (if_neg m);rw[show PL d s k=d.take (V4 d s k).toNat from if_pos a,show PM d s k=V4 d s k from if_pos a,a];have Z:=Jv h;have Y:=h.len;have X:0<=s/\s<=(d.length:Int):=⟨c.2.1,c.2.2⟩;obtain⟨n,D⟩:∃ n:Nat,(n:Int)=s+min k ((x.n:Int)-s):=⟨(s+min k ((x.n:Int)-s)).toNat,by omega⟩;have J:V4 d s k=(n:Int):=by unfold V4;split<;>omega
   have z:n<=d.length:=by omega
   rw[J,oK,D];refine kR 12 [0,0,0,0] λW w7 I=>kV 9 (iv ((x.n:Int)-s)) (lA (x:=(.tmp 19)) (y:=(.tmp 21)) (x.n:Int) s underlying3 (by omega)) (kV 10 (iv (min k ((x.n:Int)-s))) (iY #[3,3] 3 k ((x.n:Int)-s)) (kV 11 (iv (s+min k ((x.n:Int)-s))) (Tr (x:=(.tmp 15)) (y:=(.tmp 23)) s (min k ((x.n:Int)-s)) underlying3 (by omega)) ?_));have b:=(btr (btr (btr (btr j l) u) C) I);refine kC 12 (Ys s (n:=n) (h.ab b) z D) ?_;rintro _ Q ⟨y,rfl,O,N,i⟩;refine⟨_,rfl,i,?_⟩;refine kF 3 [1,0] λE R q B=>?_;have o:=((btr b i).trans q);exact qE2 4 5 143 1 (f 1) #[S3.v y,iv (s+min k ((x.n:Int)-s))] (iv 0) λK=>⟨y,rfl,(O.kept B),N.mono b.size,o⟩
 .refine kI ((!t)) true (by rw[<- A,G' c];rfl) ?_;have a:MG d s k=5:=if_pos c;rw[show PL d s k=[]from if_neg (by rw[a];decide),show PM d s k=0 from if_neg (by rw[a];decide),a];refine kF 6 [1,0] λF S r P=>?_;have p:=((btr (btr j l) u).trans r);exact qE2 4 5 143 1 (f 1) #[S3.v s30,iv 0] (iv 5) λK=>⟨s30,rfl,Ec _,λh=>absurd rfl h,p⟩
structure FzL(g:Gh)(w:World)(x:S3)(vs:List Value):Prop where
 n:x.n=vs.length
 at_:∀ j u,vs[j]?=some u->∃ b,x.a=some ⟨b,0,none⟩/\b<w.heap.size/\j<g.k b/\w.cell? ⟨b,j,none⟩=some u
theorem OwnS.fz{τ:Tg}{e:TypeId}(h:OwnS g w τ true e 1 x vs):FzL g w x vs:=by
 refine⟨by have:=h.len;omega,λj u d=>?_⟩;obtain⟨b,a,f,i⟩:=h.cell d;have c:j<vs.length:=(Q'.1 d).1;refine⟨b,a,f,?_,i⟩;rcases h.ex with⟨h4,_⟩|⟨b',cur,h4,_,_,_,_,_,_,h8⟩
 .rw[h4]at a;cases a
 .rw[a]at h4
  simp only[P',Addr.mk.injEq,and_true]at h4;subst h4;rw[h8,if_pos rfl];exact c
theorem FzL.ch{B:Nat}{T:List Tg}{d:Gh}{f:World}(h:FzL g w x vs)(c:Cg B T g w d f):FzL d f x vs :=
 ⟨h.n,λj u m=>by
  obtain⟨b,i,a,e,k⟩:=h.at_ j u m;exact⟨b,i,X' a c.size,X' e (c.rM b a),(c.rN b a j e).trans k⟩⟩
theorem ge{b c:Nat}(d:x.a=some ⟨b,c,none⟩)(j:Nat)(f:j<x.n):(Instr.indexAt 127 x.v (iv (j:Int))).run prog W=.ok (pt b (c+1*j)) W:=by
 unfold S3.v;rw[d];exact MX (P:=prog) (e:=1) (z:=1) underlying127 (by kernel_rfl) (by kernel_rfl) f _ rfl
def CQ(i:Nat):List Pend->Nod->List Let->Nod × List Let
 | [],p,ls=>(p,ls)
 | q::l,p,ls=>CQ i l (p.qQ i q) (ls++p.pd i q)
def Gm(i:Nat):List Pend->Nod->List Let->Prop
 | [],_,_=>True
 | q::l,p,ls=>Ry p i q/\ls.length<90000000/\Gm i l (p.qQ i q) (ls++p.pd i q)
def Nod.rH(p:Nod):Nod:=if p.sy<(p.d.length:Int)then{ p with d:=Nf p.d p.sy,sy:=Pm p.d p.sy }else p
theorem PR{l:List Pend}{j:Nat}{c:Pend}(h:l[j]?=some c):l.drop j=c::l.drop (j+1):=by
 obtain⟨a,b⟩:=Q'.1 h;rw[<- b];exact nz a
theorem eU(h:NS i nb ob g w p ls ts){w0:World}(hB:Base w0 g w)(hT:Tabs w0)(hi:i<5)(Y:Gm i p.br { p.rH with br:=[] } ls)(f5:p.br.length<100000000) :
  Calls prog 93 #[pt nb 0] w (NP i nb ob g w (.tuple #[]) (if p.sy<(p.d.length:Int)/\DX p.d p.sy≠0 then(p,ls)else CQ i p.br { p.rH with br:=[] } ls).1 (if p.sy<(p.d.length:Int)/\DX p.d p.sy≠0 then(p,ls)else CQ i p.br { p.rH with br:=[] } ls).2 ts):=by
 obtain⟨x,lt,tl,m,hO,hg⟩:=h;have f7:x.tape.n=p.d.length:=by obtain⟨a,e6,hh⟩:=m.tape.s.kn;have:=m.tape.s.len;simp only[S3.v,Value.slice.injEq]at hh;exact hh.2.1
 refine gI (fn:=f93) (TN i) g func93 hg (qN m (qO hO ?_));obtain⟨pv,hP,I⟩:=m.br;have hF:=hP.fz;have f6:x.synced.n=p.br.length:=by rw[hF.n];exact I.len
 refine qR [] 16 [12,0,2,4,6,8,0,10,12,14,16,18,0,20,22] λs1 g1 w1 c1=>?_;by_cases h1:p.sy<(x.tape.n:Int)
 .refine qI ((decide (p.sy<(x.tape.n:Int)))) true (N' (by omega)) (qR [] 6 [0] λs2 g2 w2 c2=>Ad λKq=>?_);have hS:=(m.tape.ch (c1.trans c2)).s;have hG:∀ z,w2.heap.size<=z->g2.t z=.z:=λz hz=>(Kq.new z hz).1;refine qC 4 (eT (s:=p.sy) hS) ?_;rintro e' w3 ⟨tz,rfl,b4,d6,b3⟩;refine⟨_,rfl,b3,?_⟩;have c3:=Cg.au (B:=w.heap.size) (T:=[]) (g:=g2) b3;have f8:=Jv b4;have d7:FSl _ _ tz _:=⟨b4,λhl a ha=>hG _ (d6 hl a ha)⟩;refine qR [] 13 [0,0,2,0] λs4 g4 w4 c4=>?_;by_cases E:DX p.d p.sy≠0
  .refine qI (((DX p.d p.sy) != 0)) true (by simpa using E) (qE (.tuple #[]) λK=>?_);rw[if_pos ⟨by omega,E⟩];exact⟨_,rfl,(nsC m hO (((c1.n c2).n c3).n c4) K),((((c1.nil (TN i)).n c2).n c3).n c4)⟩
  .refine qI (((DX p.d p.sy) != 0)) false (by simpa using E) ?_;have O:p.rH={ p with d:=Nf p.d p.sy,sy:=Pm p.d p.sy }:=if_pos (by omega);rw[show(if p.sy<(p.d.length:Int)/\DX p.d p.sy≠0 then(p,ls)else CQ i p.br { p.rH with br:=[] } ls)=CQ i p.br ({ p with d:=Nf p.d p.sy,sy:=Pm p.d p.sy,br:=[] }:Nod) ls from by rw[if_neg (by rintro⟨_,h⟩;exact E h),O]];rw[show{ p.rH with br:=[] }=({ p with d:=Nf p.d p.sy,sy:=Pm p.d p.sy,br:=[] }:Nod)from by rw[O]]at Y
   refine qR [.n 0 i] 32 [2,0,1,0,0,1] λs7 g7 w7 c7=>Ij [true,true,false] ?_;refine BJ 51 [(42,S3.v x.synced),(43,iv (x.synced.n:Int)),(44,iv 0)] [false,false] [] (λk g' w' e L=>∃ (j:Nat) (q:Nod) (l2:List Let),k=p.br.length-j/\j<=p.br.length/\e=[(42,S3.v x.synced),(43,iv (x.synced.n:Int)),(44,iv (j:Int))]/\L=[]/\NS i nb ob g' w' q l2 ts/\CQ i (p.br.drop j) q l2=CQ i p.br ({ p with d:=Nf p.d p.sy,sy:=Pm p.d p.sy,br:=[] }:Nod) ls/\Gm i (p.br.drop j) q l2/\Cg w.heap.size (TN i) g w g' w') (by kernel_rfl) (by kernel_rfl) (by kernel_rfl) (by kernel_rfl) p.br.length (λK=>?_) ?_
   .have C8:=((((c1.nil ([.n 0 i]:List Tg)).n c2).n c3).n c4).trans (c7);have Z8:Tg.z∉([.n 0 i]:List Tg):=by simp
    exact⟨0,({ p with d:=Nf p.d p.sy,sy:=Pm p.d p.sy,br:=[] }:Nod),ls,rfl,by omega,rfl,rfl,⟨({ x with tape:=tz,synced:=s30 }:NX),lt,tl,K.nd 0 ((d7.ch c4).ch c7) (m.eA.ch C8 Z8) (Bj m.av C8 Z8) ⟨[],OwnS.nil _ _ _ _ _ _,⟨rfl,λk v q h=>by cases h⟩⟩ (m.cn.ch C8) (m.ae.ch C8) (m.af.ch C8) (m.bu.ch C8) m.rP,hO.ch C8 Z8 (by simp<;>omega),K.new⟩,rfl,Y,(((((c1.nil (TN i)).n c2).n c3).n c4).trans (c7.mono (by simp[TN])))⟩
   .rintro k gr wr _ zr _ ⟨j,q,l2,rfl,hj,rfl,rfl,hM,hI,hK,hC⟩ J hJ;obtain⟨xr,d8,d9,o,r,d4⟩:=id hM;refine qN o (qO r (qR [] 5 [] λs9 g9 w9 Q=>?_));by_cases h5:j<p.br.length
    .refine qI ((decide ((j:Int)<(x.synced.n:Int)))) true (N' (by omega)) ?_;obtain⟨D,N⟩:∃ D,p.br[j]?=some D:=⟨_,H' h5⟩;obtain⟨v,hv⟩:∃ v,pv[j]?=some v:=⟨_,H' (by rw[I.len];exact h5)⟩;rw[PR N]at hI hK
     obtain⟨G,H,a1⟩:=hK;have F:=hF.ch hC;obtain⟨bx,P,d2,d5,d3⟩:=F.at_ j v hv;have M:=(I.at_ j v D hv N).ch hC (Bg i);refine qR [] 5 [] λf9 c0 e0 u=>qV 0 (pt bx (0+1*j)) (ge P j (by omega)) (Ad λK=>?_);have b5:NS i nb ob c0 e0 q l2 ts:=(nsC o r (Q.n u) K);obtain⟨Z,A,e2,a2,_⟩:=G3 b5 (hB.ch (((hC.n Q).n u)) (Bg i)) hT hi H D G (M.ch ((Q.nil (TN i)).n u) (Bg i));subst e2;have a0:=F.ch (Q.trans u);refine qV 1 (.func (.func Z) #[] A) (BW (ty:=1) (b:=bx) (k:=0+1*j) (v:=.func (.func Z) #[] A) underlying1 rfl (by rw[nn,qj];obtain⟨b2,E,_,_,h4⟩:=a0.at_ j _ hv;rw[P]at E;simp only[P',Addr.mk.injEq,and_true]at E;subst E;exact h4)) (qR [] 4 [] λg0 c5 e1 S=>Ad λK=>?_);have b6:NS i nb ob c5 e1 q l2 ts:=(nsC o r ((Q.n u).n S) K);obtain⟨F3,b9,e3,_,C⟩:=G3 b6 (hB.ch ((((hC.n Q).n u).n S)) (Bg i)) hT hi H D G (M.ch (((Q.nil (TN i)).n u).n S) (Bg i));simp only[Value.func.injEq,Fn.func.injEq,true_and]at e3;obtain⟨rfl,rfl⟩:=e3;refine Sm 1 Z A (TN i) [false,false] (λW=>fP (by kernel_rfl) (a2 W)) (by kernel_rfl) (by kernel_rfl) (by kernel_rfl) C ?_;rintro e' i0 ⟨c6,rfl,a3,U⟩;refine⟨_,c6,rfl,U,a3.new,?_⟩;replace U:=U.ret (B:=w.heap.size);refine qR [] 3 [] λg3 e7 i1 a5=>qV 0 (iv ((j:Int)+1)) (AZ 44 (j:Int) underlying3 (by omega)) (qR [] 2 [] λg5 e8 i2 a6=>qB [] λz K0 K=>hJ (p.br.length-(j+1)) _ _ _ z _ (by omega) ⟨j+1,q.qQ i D,l2++q.pd i D,rfl,by omega,rfl,rfl,NS.lp a3 (a5.trans a6) K0.new,hI,a1,((((((hC.n Q).n u).n S).trans U).n a5).n a6)⟩ K)
    .refine qI ((decide ((j:Int)<(x.synced.n:Int)))) false (G' (by omega)) (qR [] 1 [] λg6 e9 i3 a7=>?_);obtain rfl:j=p.br.length:=by omega
     rw[oH]at hI
     rw[<- hI];exact qF o r (Q.n a7) ((hC.n Q).n a7)
 .refine qI ((decide (p.sy<(x.tape.n:Int)))) false (G' (by omega)) ?_;have O:p.rH=p:=if_neg (by omega);rw[show(if p.sy<(p.d.length:Int)/\DX p.d p.sy≠0 then(p,ls)else CQ i p.br { p.rH with br:=[] } ls)=CQ i p.br ({ p with br:=[] }:Nod) ls from by rw[if_neg (by rintro⟨h,_⟩;omega),O]];rw[show{ p.rH with br:=[] }=({ p with br:=[] }:Nod)from by rw[O]]at Y
  refine qR [.n 0 i] 25 [0,0,1] λg8 f0 i4 a8=>BJ 51 [(42,S3.v x.synced),(43,iv (x.synced.n:Int)),(44,iv 0)] [false,false] [] (λk g' w' e L=>∃ (j:Nat) (q:Nod) (l2:List Let),k=p.br.length-j/\j<=p.br.length/\e=[(42,S3.v x.synced),(43,iv (x.synced.n:Int)),(44,iv (j:Int))]/\L=[]/\NS i nb ob g' w' q l2 ts/\CQ i (p.br.drop j) q l2=CQ i p.br ({ p with br:=[] }:Nod) ls/\Gm i (p.br.drop j) q l2/\Cg w.heap.size (TN i) g w g' w') (by kernel_rfl) (by kernel_rfl) (by kernel_rfl) (by kernel_rfl) p.br.length (λK=>?_) ?_
  .have C22:=(c1.nil ([.n 0 i]:List Tg)).trans (a8);have R:Tg.z∉([.n 0 i]:List Tg):=by simp
   exact⟨0,({ p with br:=[] }:Nod),ls,rfl,by omega,rfl,rfl,⟨({ x with synced:=s30 }:NX),lt,tl,K.nd 0 (m.tape.ch C22 R) (m.eA.ch C22 R) (Bj m.av C22 R) ⟨[],OwnS.nil _ _ _ _ _ _,⟨rfl,λk v q h=>by cases h⟩⟩ (m.cn.ch C22) (m.ae.ch C22) (m.af.ch C22) (m.bu.ch C22) m.rP,hO.ch C22 R (by simp<;>omega),K.new⟩,rfl,Y,((c1.nil (TN i)).trans (a8.mono (by simp[TN])))⟩
  .rintro k gr wr _ zr _ ⟨j,q,l2,rfl,hj,rfl,rfl,hM,hI,hK,hC⟩ J hJ;obtain⟨xr,d8,d9,o,r,d4⟩:=id hM;refine qN o (qO r (qR [] 5 [] λh0 f1 i5 c=>?_));by_cases h5:j<p.br.length
   .refine qI ((decide ((j:Int)<(x.synced.n:Int)))) true (N' (by omega)) ?_;obtain⟨D,N⟩:∃ D,p.br[j]?=some D:=⟨_,H' h5⟩;obtain⟨v,hv⟩:∃ v,pv[j]?=some v:=⟨_,H' (by rw[I.len];exact h5)⟩;rw[PR N]at hI hK
    obtain⟨G,H,a1⟩:=hK;have F:=hF.ch hC;obtain⟨bx,P,d2,d5,d3⟩:=F.at_ j v hv;have M:=(I.at_ j v D hv N).ch hC (Bg i);refine qR [] 5 [] λh3 c8 e4 y=>qV 0 (pt bx (0+1*j)) (ge P j (by omega)) (Ad λK=>?_);have b7:NS i nb ob c8 e4 q l2 ts:=(nsC o r (c.n y) K);obtain⟨Z,A,e2,a2,_⟩:=G3 b7 (hB.ch (((hC.n c).n y)) (Bg i)) hT hi H D G (M.ch ((c.nil (TN i)).n y) (Bg i));subst e2;have a0:=F.ch (c.trans y);refine qV 1 (.func (.func Z) #[] A) (BW (ty:=1) (b:=bx) (k:=0+1*j) (v:=.func (.func Z) #[] A) underlying1 rfl (by rw[nn,qj];obtain⟨b2,E,_,_,h4⟩:=a0.at_ j _ hv;rw[P]at E;simp only[P',Addr.mk.injEq,and_true]at E;subst E;exact h4)) (qR [] 4 [] λh6 d0 e5 V=>Ad λK=>?_);have b8:NS i nb ob d0 e5 q l2 ts:=(nsC o r ((c.n y).n V) K);obtain⟨F3,b9,e3,_,C⟩:=G3 b8 (hB.ch ((((hC.n c).n y).n V)) (Bg i)) hT hi H D G (M.ch (((c.nil (TN i)).n y).n V) (Bg i));simp only[Value.func.injEq,Fn.func.injEq,true_and]at e3;obtain⟨rfl,rfl⟩:=e3;refine Sm 1 Z A (TN i) [false,false] (λW=>fP (by kernel_rfl) (a2 W)) (by kernel_rfl) (by kernel_rfl) (by kernel_rfl) C ?_;rintro e' i6 ⟨d1,rfl,a4,X⟩;refine⟨_,d1,rfl,X,a4.new,?_⟩;replace X:=X.ret (B:=w.heap.size);refine qR [] 3 [] λh7 f2 i7 a9=>qV 0 (iv ((j:Int)+1)) (AZ 44 (j:Int) underlying3 (by omega)) (qR [] 2 [] λh8 f3 i8 b0=>qB [] λz K0 K=>hJ (p.br.length-(j+1)) _ _ _ z _ (by omega) ⟨j+1,q.qQ i D,l2++q.pd i D,rfl,by omega,rfl,rfl,NS.lp a4 (a9.trans b0) K0.new,hI,a1,((((((hC.n c).n y).n V).trans X).n a9).n b0)⟩ K)
   .refine qI ((decide ((j:Int)<(x.synced.n:Int)))) false (G' (by omega)) (qR [] 1 [] λh9 f4 i9 b1=>?_);obtain rfl:j=p.br.length:=by omega
    rw[oH]at hI
    rw[<- hI];exact qF o r (c.n b1) ((hC.n c).n b1)
def TX(p:Nod)(i j:Nat):Bool:=decide (j≠i/\p.bt.bw j<p.ae.length)
def KD(p:Nod)(i k:Nat):Nat->Nat:=λj=>if decide (j<k)&&TX p i j then p.ae.length else p.bt.bw j
def KC(p:Nod)(i k:Nat):Nod:={ p with bt:={ p.bt with bw:=KD p i k } }
def ET(p:Nod)(i:Nat):Nat->List Let
 | 0=>[]
 | k+1=>ET p i k++(if TX p i k then[{ Cv 5 with src:=i,dst:=k,an:=p.bt.bw k,cx:=p.ae.drop (p.bt.bw k) }]else[])
theorem UX(p:Nod)(i k:Nat):(ET p i k).length<=k:=by
 induction k with
 | zero=>exact A' _
 | succ k ih=>unfold ET;rw[I'];split<;>simp<;>omega
theorem Xf(p:Nod)(i:Nat):KC p i 0=p:=by unfold KC KD;simp
theorem UY(h:TX p i k=false):KD p i (k+1)=KD p i k:=by
 funext j
 unfold KD;by_cases e:j=k
 .subst e;simp[h]
 .rw[show decide (j<k+1)=decide (j<k)from nK.2 (by omega)]
theorem bf(h:TX p i k=true):upN (KD p i k) k p.ae.length=KD p i (k+1):=by
 funext j
 unfold upN KD;by_cases e:j=k
 .subst e;simp[h]
 .rw[if_neg e,show decide (j<k+1)=decide (j<k)from nK.2 (by omega)]
theorem Xg(h:NS i nb ob g w p ls ts)(hb:ls.length<90000000) :
  Calls prog 94 #[pt nb 0] w (NP i nb ob g w (.tuple #[]) (if p.leads then KC p i 5 else p) (if p.leads then ls++ET p i 5 else ls) ts):=by
 obtain⟨x,lt,tl,R,S,hg⟩:=h;refine gI (fn:=f94) (TN i) g func94 hg (qN R (qO S (qR [] 4 [] λs1 X w1 c1=>?_)));by_cases h1:p.leads=false
 .refine Ad λK=>?_;have N3:NS i nb ob X w1 p ls ts:=(nsC R S c1 K);refine qC 1 (EI N3 h1) ?_;rintro e' w4 ⟨rfl,b4⟩;refine⟨_,rfl,b4,?_⟩;have c4:=Cg.au (B:=w.heap.size) (T:=[]) (g:=X) b4;refine qR [] 3 [] λs5 g5 w5 c5=>qE (.tuple #[]) λK=>?_;rw[h1,if_neg (by simp),if_neg (by simp)];exact⟨_,rfl,(nsC R S ((c1.n c4).n c5) K),(((c1.nil (TN i)).n c4).n c5)⟩
 .have h10:p.leads=true:=by simpa using h1
  refine Ad λK=>?_;have N8:NS i nb ob X w1 p ls ts:=(nsC R S c1 K);refine qC 1 (EI N8 h10) ?_;rintro e' w9 ⟨rfl,b9⟩;refine⟨_,rfl,b9,?_⟩;have c9:=Cg.au (B:=w.heap.size) (T:=[]) (g:=X) b9;rw[if_pos h10,if_pos h10];refine qR [] 15 [0] λd1 a5 e7 D=>BJ 51 [(0,pt nb 0),(12,.agg #[iv (p.bt.bw 0:Int),iv (p.bt.bw 1:Int),iv (p.bt.bw 2:Int),iv (p.bt.bw 3:Int),iv (p.bt.bw 4:Int)]),(13,iv 0)] [false,false] [] (λk W Y e L=>∃ k0:Nat,k=5-k0/\k0<=5/\e=[(0,pt nb 0),(12,.agg #[iv (p.bt.bw 0:Int),iv (p.bt.bw 1:Int),iv (p.bt.bw 2:Int),iv (p.bt.bw 3:Int),iv (p.bt.bw 4:Int)]),(13,iv (k0:Int))]/\L=[]/\NS i nb ob W Y (KC p i k0) (ls++ET p i k0) ts/\Cg w.heap.size (TN i) g w W Y) (by kernel_rfl) (by kernel_rfl) (by kernel_rfl) (by kernel_rfl) 5 (λK=>?_) ?_
  .have C11:=(c1.n c9).n D;exact⟨0,rfl,by omega,rfl,rfl,(by rw[Xf,show ls++ET p i 0=ls from nI _];exact(nsC R S C11 K)),(((c1.nil (TN i)).n c9).n D)⟩
  .rintro k gr wr _ zr _ ⟨k0,rfl,hk0,rfl,rfl,hM,hC⟩ J hJ;obtain⟨Z,d0,e6,d,j,c7⟩:=hM;have c8:=UX p i k0;refine qN d (qO j ?_);have c6:Z.ae.n=p.ae.length:=d.ae.num;refine qR [] 5 [] λd2 a6 e8 a=>?_;by_cases h2:k0<5
   .refine qI ((decide ((k0:Int)<5))) true (N' (by omega)) (qR [] 6 [] λd3 a7 e9 b=>?_);refine de 1 (iv (p.bt.bw k0:Int)) (λK=>(by rcases hZ h2 with rfl|rfl|rfl|rfl|rfl<;>kernel_rfl)) (by kernel_rfl) ?_;refine qR [] 10 [0] λd4 a8 f0 c=>?_;by_cases h3:k0≠i
    .refine qV 5 (.bool true) (EP (t:=3) (m:=(k0:Int)) (n:=(i:Int)) (x:=(.tmp 17)) (y:=(.tmp 21)) (by simp;omega)) (qR [] 11 [0] λd5 a9 f1 q=>?_);by_cases h4:(p.bt.bw k0:Int)<(Z.ae.n:Int)
     .have hx:TX p i k0=true:=N' ⟨by omega,by omega⟩;refine qI ((decide ((p.bt.bw k0:Int)<(Z.ae.n:Int)))) true (N' (by omega)) (qR [] 5 [] λd6 b0 f2 E=>qS 3 [false,false] d j ((((a.n b).n c).n q).n E) (λa0=>IG a0 (by rw[I'];omega) k0 (p.bt.bw k0) (by show _<=p.ae.length;omega)) λb1 f3 o s u r U a1=>qR [] 14 [13,0,2,4,6,8,10,12,0,14,16,18,20,22] λd7 a3 a4 F=>?_);have V:o.ae.n=p.ae.length:=r.ae.num;refine BT 51 (λW Y e L=>e=[(0,pt nb 0),(12,.agg #[iv (p.bt.bw 0:Int),iv (p.bt.bw 1:Int),iv (p.bt.bw 2:Int),iv (p.bt.bw 3:Int),iv (p.bt.bw 4:Int)]),(13,iv (k0:Int))]/\L=[⟨nb,.cells (Az i ob ({ p with bt:={ p.bt with bw:=upN (KD p i k0) k0 o.ae.n } }) o) 145,.n 0 i,false⟩,⟨ob,.cells #[S3.v s,S3.v u] 115,.n 50 0,false⟩]/\True/\Cg w.heap.size ([.n 0 i]:List Tg) a3 a4 W Y) (by kernel_rfl) ?_ ?_
      .intro J hJ;rcases hZ h2 with rfl|rfl|rfl|rfl|rfl <;>
       (refine qR [.n 0 i] 3 [24,27,0,1] λd8 b3 f5 a2=>?_;exact qB [true,true] λz A K=>hJ _ _ _ z _ ⟨rfl,rfl,trivial,a2⟩ K)
      rintro b2 f4 _ g4 _ ⟨rfl,rfl,_,G⟩;refine qR [] 2 [] λd9 b5 f6 H=>qV 0 (iv ((k0:Int)+1)) (AZ 13 (k0:Int) underlying3 (by omega)) (qR [] 2 [] λe0 b6 f7 I=>qB [false,false] λz A K=>hJ (5-(k0+1)) _ _ _ z _ (by omega) ⟨k0+1,rfl,by omega,rfl,rfl,?_,((((((((((hC.n a).n b).n c).n q).n E).trans a1).n F).trans (G.mono (by simp[TN]))).n H).n I)⟩ K);have C:=(((F.nil ([.n 0 i]:List Tg)).trans (G)).n H).n I;rw[show KC p i (k0+1)={ p with bt:={ p.bt with bw:=upN (KD p i k0) k0 o.ae.n } }from by unfold KC;rw[<- bf hx,V],show ls++ET p i (k0+1)=(ls++ET p i k0++[{ Cv 5 with src:=i,dst:=k0,an:=p.bt.bw k0,cx:=p.ae.drop (p.bt.bw k0) }])from by show ls++(ET p i k0++_)=_;rw[hx,if_pos rfl,mN]];exact⟨o,s,u,A.sA 0 r C,U.ch C (hn:=by simp<;>omega),A.new⟩
     .have hx:TX p i k0=false:=G' (λh=>h4 (by omega));refine qI ((decide ((p.bt.bw k0:Int)<(Z.ae.n:Int)))) false (G' (by omega)) (qR [] 3 [] λe1 b7 f8 M=>qV 0 (iv ((k0:Int)+1)) (AZ 13 (k0:Int) underlying3 (by omega)) (qR [] 2 [] λe2 b8 f9 N=>qB [false,false] λz A K=>hJ (5-(k0+1)) _ _ _ z _ (by omega) ⟨k0+1,rfl,by omega,rfl,rfl,?_,((((((hC.n a).n b).n c).n q).n M).n N)⟩ K));rw[show KC p i (k0+1)={ p with bt:={ p.bt with bw:=KD p i k0 } }from by unfold KC;rw[UY hx],show ls++ET p i (k0+1)=ls++ET p i k0 from by show ls++(ET p i k0++_)=_;rw[hx];simp];exact(nsC d j (((((a.n b).n c).n q).n M).n N) A)
    .have hx:TX p i k0=false:=G' (λh=>h.1 (by omega));refine qV 5 (.bool false) (EP (t:=3) (m:=(k0:Int)) (n:=(i:Int)) (x:=(.tmp 17)) (y:=(.tmp 21)) (by simp;omega)) (qR [] 15 [] λe3 c0 g0 O=>qV 0 (iv ((k0:Int)+1)) (AZ 13 (k0:Int) underlying3 (by omega)) (qR [] 2 [] λe4 c2 g2 P=>qB [false,false] λz A K=>hJ (5-(k0+1)) _ _ _ z _ (by omega) ⟨k0+1,rfl,by omega,rfl,rfl,?_,(((((hC.n a).n b).n c).n O).n P)⟩ K));rw[show KC p i (k0+1)={ p with bt:={ p.bt with bw:=KD p i k0 } }from by unfold KC;rw[UY hx],show ls++ET p i (k0+1)=ls++ET p i k0 from by show ls++(ET p i k0++_)=_;rw[hx];simp];exact(nsC d j ((((a.n b).n c).n O).n P) A)
   .refine qI ((decide ((k0:Int)<5))) false (G' (by omega)) (qR [] 1 [] λe5 c3 g3 Q=>?_);obtain rfl:k0=5:=by omega
    exact qF d j (a.n Q) ((hC.n a).n Q)
end
end
section
section
def BD(l:List Vt):Prop:=BH l/\∀ v∈l,0<=v.an/\v.an<=39
theorem ZQ(l:List Vt)(a:Int)(h:BH l)(b:∀ v∈l,a<=v.an/\v.an<=39):l.length<=(40-a).toNat:=by
 induction l generalizing a with
 | nil=>exact ng _
 | cons u l ih =>
  obtain⟨d,e⟩:=h;have f:=b u j';have:=ih (u.an+1) e λv c=>⟨by have:=d v c;omega,(b v (V' _ c)).2⟩;rw[mR];omega
variable{a:Acc}{b:Bal}{l:List Vt}{v:Vt}
theorem BD.len(h:BD l):l.length<=40:=ZQ l 0 h.1 h.2
theorem BD.nil:BD []:=⟨trivial,λv h=>by cases h⟩
theorem EV(h:B1 a v=0):Av a/\Al v/\¬ v.b.lt a.p:=by
 unfold B1 at h;by_cases c:Av a
 .rw[if_neg (λg=>g c)]at h
  by_cases d:Al v
  .rw[if_neg (λg=>g d)]at h
   by_cases e:v.b.lt a.p
   .rw[if_pos e]at h;cases h
   .exact⟨c,d,e⟩
  .rw[if_pos d]at h;cases h
 .rw[if_pos c]at h;cases h
theorem NY(h:CN a b=0):Av a/\Ac b/\¬ b.lt a.p:=by
 unfold CN at h;by_cases c:Av a
 .rw[if_neg (λg=>g c)]at h
  by_cases d:Ac b
  .rw[if_neg (λg=>g d)]at h
   by_cases e:b.lt a.p
   .rw[if_pos e]at h;cases h
   .exact⟨c,d,e⟩
  .rw[if_pos d]at h;cases h
 .rw[if_pos c]at h;cases h
theorem FO(h:BD l)(b:Al v):BD (BA l v) :=
 ⟨NG v h.1,λu a=>by
  rcases(LC h.1).1 a with rfl|⟨h2,_⟩
  .exact b.1
  .exact h.2 u h2⟩
theorem VN(a:Acc)(l:List Vt)(h:BD a.vs):BD (JQ a l).vs:=by
 induction l generalizing a with
 | nil=>exact h
 | cons v l ih =>
  rw[JQ];refine ih _ ?_;by_cases b:B1 a v=0
  .rw[if_pos b];show BD (CM a v);rw[(Ua b).2];exact FO h (EV b).2.1
  .rw[if_neg b];exact h
def POk(k:Nat):Pend->Prop
 | .began b vs=>BD vs
 | .prom to b vs=>to<5/\Bq b/\BD vs
 | .voted to v=>to<5
 | .fa to b=>to<5/\Bq b
 | .prop v=>True
 | .askNews to=>to<5
 | .start=>True
 | .tell to an=>to<5/\an<=k
theorem POk.mono{k m:Nat}{q:Pend}(h:POk k q)(a:k<=m):POk m q:=by
 cases q<;>first|exact h|exact⟨h.1,mI h.2 a⟩
def Pend.wt:Pend->Nat
 | .began _ _=>4
 | .prop _=>4
 | .start=>4
 | _=>1
def At:List Pend->Nat
 | []=>0
 | q::l=>q.wt+At l
theorem Fu(l:List Pend)(q:Pend):At (l++[q])=At l+q.wt:=by
 induction l with
 | nil=>simp[At]
 | cons x l ih=>simp only[nW,At,ih];omega
theorem DH(l:List Pend):l.length<=At l:=by
 induction l with
 | nil=>exact A' _
 | cons x l ih =>
  rw[At,mR];have:1<=x.wt:=by cases x<;>simp[Pend.wt]
  omega
structure NOk(n:Nat)(p:Nod):Prop where
 ag:p.ae.length<=40
 dn:p.done<=p.ae.length
 qu:p.bt.cn.length<=40
 wa:p.af.length<=n
 ask:∀ c,(p.bu c).isSome=true->c∈p.af
 ro:0<=p.cl/\p.cl<=65536
 vp:Bq p.vo.p
 vs:BD p.vo.vs
 he:∀ j,BD (p.bt.av j).vs
 pe:∀ q∈p.br,POk p.ae.length q
structure LOk(l:Let):Prop where
 kd:l.kind<7
 src:l.src<5
 dst:l.dst<5
 fw:Bq l.fw
 vs:BD l.eA
 wh:l.cx.length<=40
 sl:l.kind=5->l.an+l.cx.length<=40
theorem Bq.b0:Bq Bv:=.inr ⟨rfl,rfl⟩
theorem Bq.sT(h:Bq b):0<=b.r/\b.r<=65536/\0<=b.n/\b.n<=4:=by
 rcases h with⟨h1,h2⟩|⟨h1,h2⟩<;>omega
end
section
variable{n:Nat}{p:Nod}
theorem NOk.wait(h:NOk n p){q:Pend}(b:POk p.ae.length q):NOk n (p.wait q) :=
 { h with pe:=λr c=>(Z'.1 c).elim (h.pe r) λa=>(U'.1 a)▸b }
theorem NOk.bn(h:NOk n p)(b:Bal):NOk n (p.bn b).1/\(p.bn b).1.br=p.br/\(p.bn b).1.ae=p.ae/\BD (p.bn b).2.1/\((p.bn b).2.2=0->Ac b):=by
 unfold Nod.bn;by_cases a:CN p.vo b≠0
 .rw[if_pos a];exact⟨h,rfl,rfl,BD.nil,λg=>absurd g a⟩
 .rw[if_neg a];have c:=NY (og a);by_cases f:b=p.vo.p
  .rw[if_pos f];exact⟨{ h with vp:=.inl c.2.1,vs:=h.vs },rfl,rfl,h.vs,λ_=>c.2.1⟩
  .rw[if_neg f];by_cases e:Dl p.d p.sy (Ac b) (BN b)≠0
   .rw[if_pos e];exact⟨h,rfl,rfl,BD.nil,λg=>absurd g e⟩
   .rw[if_neg e];exact⟨{ h with vp:=.inl c.2.1,vs:=h.vs },rfl,rfl,h.vs,λ_=>c.2.1⟩
theorem NOk.bW(h:NOk n p)(v:Vt):NOk n (p.bW v).1/\(p.bW v).1.br=p.br/\(p.bW v).1.ae=p.ae/\(p.bW v).1.bt=p.bt:=by
 unfold Nod.bW;by_cases b:B1 p.vo v≠0
 .rw[if_pos b];exact⟨h,rfl,rfl,rfl⟩
 .rw[if_neg b];have a:=EV (og b);by_cases c:v∈p.vo.vs
  .rw[if_pos c];exact⟨{ h with vp:=.inl a.2.1.2.1,vs:=FO h.vs a.2.1 },rfl,rfl,rfl⟩
  .rw[if_neg c];by_cases e:Dl p.d p.sy (Al v) (BM v)≠0
   .rw[if_pos e];exact⟨h,rfl,rfl,rfl⟩
   .rw[if_neg e];exact⟨{ h with vp:=.inl a.2.1.2.1,vs:=FO h.vs a.2.1 },rfl,rfl,rfl⟩
theorem NOk.fa(h:NOk n p){a:Nat}(b:a<5)(e:Int):NOk n (p.fa a e)/\(p.fa a e).ae=p.ae/\At (p.fa a e).br<=At p.br+1:=by
 unfold Nod.fa;split
 .exact⟨h.wait ⟨b,h.vp⟩,rfl,by show At (p.br++[_])<=_;rw[Fu];exact A' _⟩
 .exact⟨h,rfl,nU _⟩
theorem dI(k:Nat)(r:Rnd)(l:List Cmd)(h:l.length<=40):(OL k r l).length<=40/\l.length<=(OL k r l).length:=by
 induction k generalizing l with
 | zero=>exact⟨h,A' _⟩
 | succ k ih =>
  rw[OL];split
  .rename_i h1
   have a:=XK h1;have:=ih (l++[Db r.gC (l.length:Int)]) (by simp;omega);simp at this;exact⟨this.1,by omega⟩
  .exact⟨h,A' _⟩
theorem NOk.grow(h:NOk n p){l:List Cmd}(b:l.length<=40)(a:p.ae.length<=l.length):NOk n { p with ae:=l } :=
 { h with ag:=b,dn:=mI h.dn a,pe:=λq c=>(h.pe q c).mono a }
theorem NOk.lr(h:NOk n p):NOk n p.lr/\p.lr.br=p.br/\p.ae.length<=p.lr.ae.length :=
 have:=dI 41 p.bt p.ae h.ag
 ⟨h.grow this.1 this.2,rfl,this.2⟩
theorem NOk.dW(h:NOk n p){an:Nat}{cx:List Cmd}(a:an<=p.ae.length)(b:an+cx.length<=40):NOk n (p.dW an cx)/\(p.dW an cx).br=p.br/\p.ae.length<=(p.dW an cx).ae.length:=by
 have c:=h.ag;refine⟨h.grow ?_ ?_,rfl,?_⟩
 .rw[I',mJ];omega
 .rw[I'];omega
 .show _<=(p.ae++_).length;rw[I'];omega
theorem bp{α:Type}{f:Nat->α}{P:α->Prop}(h:∀ j,P (f j))(i:Nat){x:α}(a:P x):∀ j,P (upN f i x j):=by
 intro j;unfold upN;split
 .exact a
 .exact h j
theorem NOk.rC(h:NOk n p)(j:Nat){vs:List Vt}(b:BD vs):NOk n { p with bt:=p.bt.rC j vs } :=
 { h with qu:=h.qu,he:=bp (P:=λa:Acc=>BD a.vs) h.he j (VN _ _ b) }
theorem NOk.count(h:NOk n p)(j:Nat)(v:Vt):NOk n (p.count j v)/\(p.count j v).br=p.br/\p.ae.length<=(p.count j v).ae.length:=by
 unfold Nod.count;by_cases d:v.b≠p.bt.fw
 .rw[if_pos d];exact⟨h,rfl,A' _⟩
 .rw[if_neg d];by_cases c:B1 (p.bt.av j) v≠0
  .rw[if_pos c];exact⟨h,rfl,A' _⟩
  .rw[if_neg c];have e:=og c;have:NOk n { p with bt:={ p.bt with av:=upN p.bt.av j ⟨Ch (p.bt.av j) v,CM (p.bt.av j) v⟩ } } :=
    { h with qu:=h.qu,he:=bp (P:=λa:Acc=>BD a.vs) h.he j (by show BD (CM _ v);rw[(Ua e).2];exact FO (h.he j) (EV e).2.1) }
   exact this.lr
theorem NOk.eN(h:NOk n p)(l:List Cmd):NOk n (p.eN l)/\(p.eN l).br=p.br/\(p.eN l).ae=p.ae:=by
 unfold Nod.eN;split
 .exact⟨{ h with qu:=cQ _ _ h.qu,he:=h.he },rfl,rfl⟩
 .exact⟨h,rfl,rfl⟩
theorem NOk.take(h:NOk n p){l:Let}(a:LOk l):NOk n (p.take l)/\At (p.take l).br<=At p.br+1/\p.ae.length<=(p.take l).ae.length:=by
 have g:=h.ag;unfold Nod.take;have b:∀ {P:Nod} {q:Pend},P.br=p.br->q.wt=1->At (P.wait q).br<=At p.br+1:=λ{P q} e d=>by
  show At (P.br++[q])<=_;rw[Fu,e,d];exact A' _
 split
 .have hp:=h.bn l.fw;split
  .have:=h.fa a.src (p.bn l.fw).2.2;exact⟨this.1,this.2.2,by rw[this.2.1];exact A' _⟩
  .rename_i h1
   exact⟨hp.1.wait ⟨a.src,.inl (hp.2.2.2.2 (og h1)),hp.2.2.2.1⟩,b hp.2.1 rfl,by show _<=(p.bn l.fw).1.ae.length;rw[hp.2.2.1];exact A' _⟩
 .have hk:=h.dW (an:=0) (cx:=l.cx) (ng _) (by have:=a.wh;omega);simp only;split
  .exact⟨hk.1,by rw[hk.2.1];omega,hk.2.2⟩
  .have h2:=hk.1.rC l.src (vs:=l.eA) a.vs;have f:NOk n { p.dW 0 l.cx with bt:={ (p.dW 0 l.cx).bt.rC l.src l.eA with bw:=upN (p.dW 0 l.cx).bt.bw l.src l.cx.length } }:={ h2 with qu:=h2.qu,he:=h2.he };have c:=f.lr;exact⟨c.1,by rw[c.2.1];show At (p.dW 0 l.cx).br<=_;rw[hk.2.1];omega,mI hk.2.2 c.2.2⟩
 .have hr:=h.ro;have i:=a.fw.sT;exact⟨{ h with ro:=by show 0<=max p.cl l.fw.r/\max p.cl l.fw.r<=65536;omega },nU _,A' _⟩
 .have hp:=h.bW l.bW;split
  .have:=h.fa a.src (p.bW l.bW).2;exact⟨this.1,this.2.2,by rw[this.2.1];exact A' _⟩
  .exact⟨hp.1.wait a.src,b hp.2.1 rfl,by show _<=(p.bW l.bW).1.ae.length;rw[hp.2.2.1];exact A' _⟩
 .have:=h.count l.src l.bW;exact⟨this.1,by rw[this.2.1];omega,this.2.2⟩
 .rename_i hk
  split
  .exact⟨h.wait a.src,b rfl rfl,A' _⟩
  .have:=h.dW (an:=l.an) (cx:=l.cx) (by omega) (a.sl hk);exact⟨this.1,by rw[this.2.1];omega,this.2.2⟩
 .have he:=h.eN l.cx;simp only;split
  .rename_i h1
   exact⟨he.1.wait ⟨a.src,oV h1⟩,b he.2.1 rfl,by show _<=(p.eN l.cx).ae.length;rw[he.2.2];exact A' _⟩
  .exact⟨he.1,by rw[he.2.1];omega,by rw[he.2.2];exact A' _⟩
 .exact⟨h,nU _,A' _⟩
end
end
section
open Go.RowKit
section
def FM(l:List Int)(n:Nat):List Int:=l++List.replicate (n-l.length) 0
def Io(l:List Int):List Int:=if 64<l.length then dig l else l
def fk(l:List Int):List Int:=FM (Io l) 64
def Be(k:List Int)(m:Int):List Int:=k.map λx=>bits .xor .u8 x m
def DZ(key b:List Int):List Int:=dig (Be (fk key) 92++dig (Be (fk key) 54++b))
theorem MK(l:List Int)(n:Nat)(h:l.length<=n):(FM l n).length=n:=by simp[FM];omega
variable{l:List Int}{n:Nat}{w:World}
theorem PV(h:∀ x∈l,0<=x/\x<256)(n:Nat):∀ x∈FM l n,0<=x/\x<256:=by
 intro x a;rcases Z'.1 a with h1|h1
 .exact h x h1
 .rw[List.eq_of_mem_replicate h1];omega
theorem OJ(l:List Int):(Io l).length<=64:=by
 unfold Io;split
 .rw[AB];omega
 .omega
theorem S9(h:∀ x∈l,0<=x/\x<256):∀ x∈Io l,0<=x/\x<256:=by
 unfold Io;split
 .exact Dr l
 .exact h
theorem EE(l:List Int):(fk l).length=64:=MK _ _ (OJ l)
theorem cV(h:∀ x∈l,0<=x/\x<256):∀ x∈fk l,0<=x/\x<256:=PV (S9 h) 64
theorem Fl(l:List Int)(m:Int):(Be l m).length=l.length:=by simp[Be]
theorem LH(h:∀ x∈l,0<=x/\x<256){m:Int}(b:0<=m/\m<256):∀ x∈Be l m,0<=x/\x<256:=by
 intro x c;obtain⟨y,d,rfl⟩:=nG.1 c;have a:=h y d;rw[u8_xor _ _ a.1 a.2 b.1 b.2];have:y.toNat ^^^ m.toNat<256:=pC (n:=8) (by omega) (by omega);omega
theorem Du(k b:List Int):(DZ k b).length=32:=rfl
theorem NQ(k b:List Int):∀ x∈DZ k b,0<=x/\x<256:=Dr _
theorem NF:(prog.info? 5).map (·.size)=some 1:=by kernel_rfl
theorem Kf(l:List Int):splice ((List.replicate 64 (0:Int)).map (Value.int .u8)) 0 (l.map (Value.int .u8))=(FM l 64).map (Value.int .u8):=by
 have e:(List.replicate 64 (0:Int)).map (Value.int .u8)=List.replicate 64 (Value.int .u8 0):=pD;rw[e];simp only[splice,FM,nM,nF,mU,nn,List.drop_replicate,mS,pD]
theorem IN{P:Program}{d:Array Oper}{rest:List Oper}{o:Oper}{a:Act}{Q:Exit->Act->World->Prop}(f:o.guard=none)(i:TypeId)(x y:Operand)(p:o.op=.store i x y)(g:Nat)(cells:Array Value)(q:a.eval x=.pointer (some ⟨g,0,none⟩))(r:a.eval y=.agg cells)(t:TypeId)(b:Array Value)(j:w.heap[g]?=some (.cells b t (0,0)))(n:(P.info? i).map (·.size)=some cells.size)(c:b.size=cells.size)(l:cells.all (·.oneCell')=true)(B:Nat)(k:World)(m:Below B k w)(e:B<=g)(h:∀ w',w'.heap[g]?=some (.cells cells t (0,0))->Below B k w'->wpList P d Q rest (a.put o.dst undef) w'):wpList P d Q (o::rest) a w :=
 wpList_store_row f i x y p g cells q r t b j n c l (h _ (setRow_heap w g _ _ t _ j) (BE m e _))
theorem Sl.rU{i:Option Addr}{c:Nat}(h:Sl w (.slice i n c) l)(q:0<l.length):∃ ad,i=some ad/\∀ (j:Nat) (v:Value),(l.map (Value.int .u8))[j]?=some v->w.cell? (ad.add j)=some v:=by
 obtain⟨⟨a,k,e,r,s,m⟩,p,o⟩:=h;simp only[Value.slice.injEq]at e;obtain⟨rfl,rfl,rfl⟩:=e;rcases m with rfl|⟨b,off,rfl,_,hcell⟩
 .simp at q
 .refine⟨_,rfl,λj v g=>?_⟩;have d:j<l.length:=by
   have:=(Q'.1 g).1;simpa using this
  have f:(⟨b,off,none⟩:Addr).add j=⟨b,off+j,none⟩:=by unfold Addr.add;split<;>simp_all
  rw[f,hcell j d];simp[List.getElem?_eq_getElem d]at g
  rw[As d,g]
theorem PW(v:Value)(l:List Int)(w:World)(h:Sl w v l)(K:l.length<=100000)(N:AD w) :
  Calls prog 191 #[v] w λe w'=>e=.returned (.agg (AL (fk l)))/\Bw w w':=by
 have F:=h;obtain⟨⟨a,H,rfl,Q,R,D⟩,L,z⟩:=h;have P:Hid _:=D;have c:(prog.info? 280).map (·.size)=some (AL (fk l)).size:=by rw[Ay,EE];kernel_rfl
 clear D z;by_cases E:64<l.length
 .have ek:Io l=dig l:=by unfold Io;rw[if_pos E]
  have y:Hid (fk l=FM (dig l) 64):=by unfold Hid fk;rw[ek]
  clear ek;go_enter func191,ntmps191
  go_wp2_with fail
  generalize i:w.alloc _=W0;have d:Bw w W0:=by rw[<- i];exact(Below.refl _ _).alloc (A' _) _
  have u:W0.heap[w.heap.size]?=some (.cells (AL (List.replicate 64 0)) 280 (0,0)):=by rw[<- i];exact heap_alloc_new _ _
  have C:W0.heap.size=w.heap.size+1:=by rw[<- i];simp
  clear i;refine(Fh _ l W0 (F.ab d) K (N.ab d)).mono ?_;rintro e j ⟨S,rfl,o,m⟩;obtain⟨I,c1,O,A,B,J,n,_⟩:=DQ o (Fq (AB l));subst O;have p:j.heap[w.heap.size]?=some (.cells (AL (List.replicate 64 0)) 280 (0,0)):=(m.block _ (by omega)).trans u;have t:Bw w j:=d.trans (m.mono d.size);have x:w.heap.size<j.heap.size:=(D'.1 p).1;have G:Sl j (.slice (some ⟨I,0,none⟩) (dig l).length c1) (dig l):=Sl.eD o (by rw[AB];omega) (Dr l);go_wp2_with (refine wpList_copy_splice rfl _ _ 41 41 rfl 5 underlying41 NF _ _ _ _ _ _ rfl rfl j.heap.size 0 ((List.replicate 64 (0:Int)).map (Value.int .u8)) 280 (heap_alloc_new _ _) ((dig l).map (Value.int .u8)) (by rw[mU,AB];rfl) (λ_=>⟨rfl,(G.ab ((Below.refl _ _).alloc (A' _) _)).rU (by rw[AB];omega)⟩) (by rw[mU,AB];simp) (EH _) j.heap.size _ (Below.refl _ _) (A' _) ?_)
  intro g r b;have q:g.heap[j.heap.size]?=some (.cells (AL (fk l)) 280 (0,0)):=by
   have s:g.heap[j.heap.size]?=some (.cells (splice ((List.replicate 64 (0:Int)).map (Value.int .u8)) 0 ((dig l).map (Value.int .u8))).toArray 280 (0,0)):=r.out;rw[Kf]at s
   rw[y.out];exact s
  have k:Bw w g:=(t.alloc t.size _).trans (b.mono (by omega));have f:g.heap[w.heap.size]?=some (.cells (AL (List.replicate 64 0)) 280 (0,0)):=by
   rw[b.block _ x,heap_alloc_old _ _ x];exact p
  clear r b p u C d m n o G B A;go_wp2_with (first|(refine wpList_load_row rfl 280 _ rfl j.heap.size rfl 280 _ (0,0) _ q underlying280 rfl c ?_)|(refine wpList_store_row rfl 280 _ _ rfl w.heap.size _ rfl rfl 280 _ f c (by rw[Ay,Ay,EE];rfl) (Le _) ?_))
  refine bodyPost_ret (v:=.agg (AL (fk l))) (results_cell_row rfl _ _ w.heap.size 280 _ (0,0) _ rfl (setRow_heap g w.heap.size _ _ 280 _ f) underlying280 rfl c) rfl ⟨rfl,BE k (A' _) _⟩
 .have ek:Io l=l:=by unfold Io;rw[if_neg E]
  have y:Hid (fk l=FM l 64):=by unfold Hid fk;rw[ek]
  clear ek;go_enter func191,ntmps191
  go_wp2_with (refine wpList_copy_splice rfl _ _ 41 41 rfl 5 underlying41 NF _ _ _ _ _ _ rfl rfl (w.heap.size+1) 0 ((List.replicate 64 (0:Int)).map (Value.int .u8)) 280 (heap_alloc2_new _ _ _) (l.map (Value.int .u8)) (by rw[mU];exact(oF (show l.length<=64 by omega)).symm) (λM=>⟨rfl,(F.ab (((Below.refl _ _).alloc (A' _) _).alloc (by simp) _)).rU (by simpa using M)⟩) (by rw[mU,mU,oE];omega) (EH _) (w.heap.size+1) _ (Below.refl _ _) (A' _) ?_)
  intro g r b;have q:g.heap[w.heap.size+1]?=some (.cells (AL (fk l)) 280 (0,0)):=by
   have s:g.heap[w.heap.size+1]?=some (.cells (splice ((List.replicate 64 (0:Int)).map (Value.int .u8)) 0 (l.map (Value.int .u8))).toArray 280 (0,0)):=r.out;rw[Kf]at s
   rw[y.out];exact s
  have k:Bw w g:=(((Below.refl _ _).alloc (A' _) _).alloc (by simp) _).trans (b.mono (by omega));have f:g.heap[w.heap.size]?=some (.cells (AL (List.replicate 64 0)) 280 (0,0)):=by
   rw[b.block _ (by omega)];exact heap_alloc2_old _ _ _
  clear r b;go_wp2_with (first|(refine wpList_load_row rfl 280 _ rfl (w.heap.size+1) rfl 280 _ (0,0) _ q underlying280 rfl c ?_)|(refine wpList_store_row rfl 280 _ _ rfl w.heap.size _ rfl rfl 280 _ f c (by rw[Ay,Ay,EE];rfl) (Le _) ?_))
  refine bodyPost_ret (v:=.agg (AL (fk l))) (results_cell_row rfl _ _ w.heap.size 280 _ (0,0) _ rfl (setRow_heap g w.heap.size _ _ 280 _ f) underlying280 rfl c) rfl ⟨rfl,BE k (A' _) _⟩
theorem dq(l:List Int)(d:l.length=64)(j:Nat)(c:j<64):∀ w,(Instr.index 280 (.agg (AL l)) (.int .i64 (j:Int))).run prog w=.ok (.int .u8 (l.getD j 0)) w:=by
 intro w;have b:(AL l)[j]?=some (.int .u8 (l.getD j 0)):=by
  simp[AL,List.getElem?_eq_getElem (show j<l.length by omega),List.getD]
 have a:(0:Int)<=j/\(j:Int)<64:=by omega
 simp[Instr.index,run_underlying underlying280,asIntOf,a,part,b];intro h;omega
theorem LI(k:List Int)(m:Int)(w:World)(q:k.length=64)(I:0<=m/\m<256)(K:∀ x∈k,0<=x/\x<256) :
  Calls prog 193 #[.agg (AL k),.int .u8 m] w λe w'=>∃ v',e=.returned v'/\w'.ownsRow w.heap.size 5 1 v' (Be k m).length ((Be k m).map (Value.int .u8))/\Bw w w':=by
 obtain⟨M,L,C,D,E⟩:=info_parts Ap;have B:(prog.info? 280).map (·.size)=some (AL k).size:=by rw[Ay,q];kernel_rfl
 have u:Hid (k.length=64):=q;clear q;go_enter func193,ntmps193
 go_wp2_with (at_make;refine wpList_make_own _ rfl _ _ 41 rfl w.heap.size 5 M (.int .u8 0) 1 underlying41 L C D _ _ _ 64 rfl rfl (by omega) (by rw[E];omega) (by unfold maxLen;omega) (by simp) ?_)
 intro F t h;have o:Bw w F:=((Below.refl _ _).alloc (A' _) _).grown h (by simp) (by simp);have g:F.heap[w.heap.size]?=some (.cells (AL k) 280 (0,0)):=by
  rw[h.block w.heap.size (by simp) (by simp)];exact heap_alloc_new _ _
 have f:F.ownsRow w.heap.size 5 1 (.slice (some ⟨w.heap.size+1,0,none⟩) 0 64) (Be (k.take 0) m).length ((Be (k.take 0) m).map (Value.int .u8)):=t;clear t h;go_wp2_with (refine wpList_load_row rfl 280 _ rfl w.heap.size rfl 280 _ (0,0) _ g underlying280 rfl B ?_)
 go_loopw [5,10] (λv i wr=>∃ j:Nat,j<=64/\i=.int .i64 j/\wr.ownsRow w.heap.size 5 1 v (Be (k.take j) m).length ((Be (k.take j) m).map (Value.int .u8))/\Bw w wr) (λ_ i _=>64-(intOf i).toNat)
 case atStart=>exact⟨0,by omega,rfl,f,o⟩
 case round =>
  clear f o g;obtain⟨j,N,rfl,a,b⟩:=hrel;have s:=a.lt;by_cases d:j<64
  .have hix:=dq k u.out j d;have r:(Be (k.take j) m).length<=64:=by rw[Fl,mH];omega
   have y:Hid (Be (k.take (j+1)) m=Be (k.take j) m++[bits .xor .u8 (k.getD j 0) m]):=by
    unfold Hid;have p:j<k.length:=by rw[u.out];exact d
    rw[mZ p,As p,Be,mS];rfl
   have c:=Ae K j;have l:0<=bits .xor .u8 (k.getD j 0) m/\bits .xor .u8 (k.getD j 0) m<256:=by
    rw[u8_xor _ _ c.1 c.2 I.1 I.2];have:(k.getD j 0).toNat ^^^ m.toNat<256:=pC (n:=8) (by omega) (by omega);omega
   have G:Hid (0<=bits .xor .u8 (k.getD j 0) m/\bits .xor .u8 (k.getD j 0) m<256):=l;generalize Be (k.take j) m=pre at a y r;generalize k.getD j 0=x at hix y c l G;clear l c;go_wp2_with (at_builtin;refine Aa _ rfl _ _ 41 rfl w.heap.size 5 underlying41 Ap _ _ rfl rfl pre _ (a.alloc _) (Sl.one _ _ _ rfl G.out) (by simp;omega) (by have:=b.size;simp;omega) ?_)
   intro v' w' J H;have A:w'.ownsRow w.heap.size 5 1 v' (pre++[bits .xor .u8 x m]).length ((pre++[bits .xor .u8 x m]).map (Value.int .u8)):=by simpa using J
   have z:Bw w w':=(b.alloc b.size _).grown H (by have:=b.size;simp;omega) (λk q=>(s k q).1);clear J H a s b;go_wp2
   go_roundw
   case rel=>exact⟨j+1,by omega,by go_num,by rw[y.out];exact A,z⟩
   case measure=>simp[intOf];omega
  .have HJ:Hid (k.take j=k):=by unfold Hid;exact mV (by rw[u.out];omega)
   go_wp2
   go_ret;refine⟨u5,rfl,?_,b⟩;rw[HJ.out]at a
   exact a
theorem OM(vk vb:Value)(k b:List Int)(w:World)(C:Sl w vk k)(hb:Sl w vb b)(Z:k.length<=100000)(a3:b.length<=90000)(ht:AD w) :
  Calls prog 151 #[vk,vb] w λe w'=>∃ v',e=.returned v'/\Fresh w w' v' (DZ k b):=by
 have n:(prog.info? 280).map (·.size)=some (AL (fk k)).size:=by rw[Ay,EE];kernel_rfl
 have d:=cV C.byte;have c:=EE k;have F:Hid (DZ k b=dig (Be (fk k) 92++dig (Be (fk k) 54++b))):=rfl;go_enter func151,ntmps151
 go_wp2_with fail
 refine(PW vk k w C Z ht).mono ?_;rintro e R ⟨rfl,v⟩;generalize fk k=K at n d c F ⊢;go_wp2_with (refine IN rfl 280 _ _ rfl R.heap.size _ rfl rfl 280 _ (heap_alloc_new _ _) n (by rw[Ay,c];rfl) (Le _) w.heap.size w (v.alloc v.size _) v.size ?_)
 intro E g a;have hz:R.heap.size<E.heap.size:=(D'.1 g).1;go_wp2_with (refine wpList_load_row rfl 280 _ rfl R.heap.size rfl 280 _ (0,0) _ g underlying280 rfl n ?_)
 refine(LI K 54 E c (by omega) d).mono ?_;rintro e w3 ⟨v3,rfl,z,j⟩;have U:Bw w w3:=a.trans (j.mono a.size);have p:=z.lt;have s:(Be K 54).length=64:=by rw[Fl,c]
 have t:(Be K 92).length=64:=by rw[Fl,c]
 have G:=LH d (m:=54) (by omega);have H:=LH d (m:=92) (by omega);go_wp2_with (at_builtin;refine Aa _ rfl _ _ 41 rfl E.heap.size 5 underlying41 Ap _ _ rfl rfl (Be K 54) b z (hb.ab U) (by omega) j.size ?_)
 intro v4 S O M;have y:Bw E S:=j.grown M j.size (λk C=>(p k C).1);have V:Bw w S:=a.trans (y.mono a.size);have f:S.ownsRow E.heap.size 5 1 v4 (Be K 54++b).length ((Be K 54++b).map (Value.int .u8)):=by simpa[s]using O
 have I:∀ x∈Be K 54++b,0<=x/\x<256:=λx hx=>by
  rcases Z'.1 hx with h|h
  .exact G x h
  .exact hb.byte x h
 have a1:(Be K 54++b).length<=91000:=by rw[I',s];omega
 clear O M z p;generalize Be K 54++b=L4 at f I a1 F;go_wp2_with fail
 refine(Fh v4 L4 S (Sl.eD f (by omega) I) (by omega) (ht.ab V)).mono ?_;rintro e u ⟨v5,rfl,P,W⟩;have o:Bw E u:=y.trans (W.mono y.size);have s5:Sl u v5 (dig L4):=Sl.eD P (by rw[AB];omega) (Dr L4);have l5:=AB L4;have y5:=Dr L4;generalize dig L4=D at s5 F l5 y5;have B:u.heap[R.heap.size]?=some (.cells (AL K) 280 (0,0)):=(o.block _ hz).trans g;clear f P;go_wp2_with (refine wpList_load_row rfl 280 _ rfl R.heap.size rfl 280 _ (0,0) _ B underlying280 rfl n ?_)
 refine(LI K 92 u c (by omega) d).mono ?_;rintro e w6 ⟨v6,rfl,A,l⟩;have q:=A.lt;go_wp2_with (at_builtin;refine Aa _ rfl _ _ 41 rfl u.heap.size 5 underlying41 Ap _ _ rfl rfl (Be K 92) D A (s5.ab l) (by omega) l.size ?_)
 intro v7 T Q N;have X:Bw u T:=l.grown N l.size (λk C=>(q k C).1);have L:Bw w u:=a.trans (o.mono a.size);have i:Bw w T:=L.trans (X.mono L.size);have r:T.ownsRow u.heap.size 5 1 v7 (Be K 92++D).length ((Be K 92++D).map (Value.int .u8)):=by simpa[t,l5]using Q
 have J:∀ x∈Be K 92++D,0<=x/\x<256:=λx hx=>by
  rcases Z'.1 hx with h|h
  .exact H x h
  .exact y5 x h
 have a2:(Be K 92++D).length<=96:=by rw[I',t];omega
 clear Q N A q;generalize Be K 92++D=L7 at r J a2 F;go_wp2_with fail
 refine(Fh v7 L7 T (Sl.eD r (by omega) J) (by omega) (ht.ab i)).mono ?_;rintro e w8 ⟨v8,rfl,a0,Y⟩;go_wp2
 go_ret;refine⟨v8,rfl,?_⟩;rw[F.out];exact Fresh.eD (AU a0 i.size) (Fq (AB L7)) (by rw[AB];omega) (Dr L7) (i.trans (Y.mono i.size))
theorem gu(m l:Value)(k b:List Int)(w:World)(i:Sl w m k)(h:Sl w l b)(q:k.length<=256)(o:b.length<=2000)(t:AD w) :
  Calls prog 149 #[m,l] w λe w'=>∃ v',e=.returned (.tuple #[v',.int .i64 0])/\Fresh w w' v' (DZ k b):=by
 have s:=i;have f:=h;obtain⟨⟨a,n,rfl,_,_,_⟩,r,d⟩:=i;obtain⟨⟨v,g,rfl,_,_,_⟩,j,c⟩:=h;clear d c;go_enter func149,ntmps149
 go_wp2_with fail
 refine(OM _ _ k b w s f (by omega) (by omega) t).mono ?_;rintro e x ⟨u,rfl,p⟩;go_wp2
 go_ret2
 exact⟨u,rfl,p⟩
theorem OR(L M:Value)(a i:List Int)(c:Int)(w:World)(H:Sl w L a)(I:Sl w M i)(S:a.length<=1000)(U:i.length<=1000)(T:0<=c/\c<256) :
  Calls prog 190 #[L,M,.int .u8 c] w λe w'=>∃ v',e=.returned v'/\w'.ownsRow w.heap.size 5 1 v' (a++i++[c]).length ((a++i++[c]).map (Value.int .u8))/\Bw w w':=by
 obtain⟨X,A,D,E,F⟩:=info_parts Ap;have W:=H;have C:=I;obtain⟨⟨aa,R,rfl,_,_,_⟩,V,z⟩:=H;obtain⟨⟨a2,G,rfl,_,_,_⟩,J,n⟩:=I;clear z n;go_enter func190,ntmps190
 go_wp2_with (at_make;refine wpList_make_own _ rfl _ _ 41 rfl w.heap.size 5 X (.int .u8 0) 1 underlying41 A D E _ _ _ (a.length+i.length+1) rfl rfl (by omega) (by rw[F];omega) (by unfold maxLen;omega) (A' _) ?_)
 intro N s o;have b:Bw w N:=(Below.refl _ _).grown o (A' _) (by simp);have m:N.ownsRow w.heap.size 5 1 (.slice (some ⟨w.heap.size,0,none⟩) 0 (a.length+i.length+1)) ([]:List Int).length (([]:List Int).map (Value.int .u8)):=s;clear s o;go_wp2_with (at_builtin;refine Aa _ rfl _ _ 41 rfl w.heap.size 5 underlying41 Ap _ _ rfl rfl [] a m (W.ab b) (by simp;omega) b.size ?_)
 intro Y O t p;have g:O.ownsRow w.heap.size 5 1 Y a.length (a.map (Value.int .u8)):=by simpa using t
 have d:Bw w O:=b.grown p b.size (by simp[Value.ownBlock]);have j:=g.lt;clear m p b t;go_wp2_with (at_builtin;refine Aa _ rfl _ _ 41 rfl w.heap.size 5 underlying41 Ap _ _ rfl rfl a i g (C.ab d) (by omega) d.size ?_)
 intro Z P u q;have h:P.ownsRow w.heap.size 5 1 Z (a++i).length ((a++i).map (Value.int .u8)):=by simpa using u
 have f:Bw w P:=d.grown q d.size (λk B=>(j k B).1);have l:=h.lt;clear g q d u j;go_wp2_with (at_builtin;refine Aa _ rfl _ _ 41 rfl w.heap.size 5 underlying41 Ap _ _ rfl rfl (a++i) [c] (h.alloc _) (Sl.one _ _ _ rfl T) (by simp;omega) (by have:=f.size;simp;omega) ?_)
 intro K Q v r;have x:Q.ownsRow w.heap.size 5 1 K (a++i++[c]).length ((a++i++[c]).map (Value.int .u8)):=by simpa using v
 have y:Bw w Q:=(f.alloc f.size _).grown r (by have:=f.size;simp;omega) (λk B=>(l k B).1);clear h r f v l;go_wp2
 go_ret;exact⟨K,rfl,x,y⟩
theorem Sl.grown{m:World}{b c d:Nat}{row:Option Nat}(h:Sl w (.slice (some ⟨b,c,none⟩) n d) l)(k:w.grownBy m row)(j:some b≠row):Sl m (.slice (some ⟨b,c,none⟩) n d) l:=by
 obtain⟨⟨a,f,e,q,s,g⟩,o,p⟩:=h;refine⟨⟨a,f,e,q,s,?_⟩,o,p⟩;simp only[Value.slice.injEq]at e;obtain⟨rfl,_,_⟩:=e;rcases g with g|⟨b',off',e',hbs,hcell⟩
 .exact .inl g
 .simp only[P',Addr.mk.injEq,and_true]at e';obtain⟨rfl,rfl⟩:=e';refine .inr ⟨b,c,rfl,X' hbs k.size,λi r=>?_⟩;rw[<- hcell i r];exact World.cell?_of_block (w:=w) (k.block b hbs j)
def blk(key info:List Int):Nat->List Int
 | 0=>[]
 | i+1=>DZ key (blk key info i++info++[(i:Int)+1])
def Ba(key info:List Int):Nat->List Int
 | 0=>[]
 | i+1=>Ba key info i++blk key info (i+1)
def FL(key info:List Int)(n:Nat):List Int:=(Ba key info 16).take n
theorem GY(key a:List Int)(i:Nat):(blk key a (i+1)).length=32:=Du _ _
theorem X9(key a:List Int)(i:Nat):∀ x∈blk key a i,0<=x/\x<256:=by
 cases i with
 | zero=>intro x b;cases b
 | succ i=>exact NQ _ _
theorem gP(key a:List Int)(i:Nat):(blk key a i).length<=32:=by
 cases i with
 | zero=>simp[blk]
 | succ i=>rw[GY];omega
theorem Cx(key a:List Int)(i:Nat):(Ba key a i).length=32*i:=by
 induction i with
 | zero=>rfl
 | succ i ih=>rw[Ba,I',ih,GY];omega
theorem Re(key a:List Int)(i:Nat):∀ x∈Ba key a i,0<=x/\x<256:=by
 induction i with
 | zero=>intro x b;cases b
 | succ i ih =>
  intro x b;rcases Z'.1 b with h|h
  .exact ih x h
  .exact X9 key a (i+1) x h
theorem Rf(key a:List Int)(n i j:Nat)(b:n<=32*i):(Ba key a (i+j)).take n=(Ba key a i).take n:=by
 induction j with
 | zero=>rfl
 | succ j ih=>rw[<- nP,Ba,qd (by rw[Cx];omega),ih]
theorem V8(key a:List Int)(n i:Nat):(Ba key a (i+1)).take n=(Ba key a i).take n++(blk key a (i+1)).take (n-32*i):=by
 rw[Ba,List.take_append,Cx]
theorem Sc(vk vi:Value)(k i:List Int)(n:Nat)(w:World)(hk:Sl w vk k)(hi:Sl w vi i)(a9:k.length<=1000)(a8:i.length<=900)(hn:n<=512)(ht:AD w) :
  Calls prog 150 #[vk,vi,.int .i64 n] w λe w'=>∃ v',e=.returned v'/\w'.ownsRow w.heap.size 5 1 v' (FL k i n).length ((FL k i n).map (Value.int .u8))/\Bw w w':=by
 obtain⟨i0,Z,a2,a3,a4⟩:=info_parts Ap;go_enter func150,ntmps150
 go_wp2_with (at_make;refine wpList_make_own _ rfl _ _ 41 rfl w.heap.size 5 i0 (.int .u8 0) 1 underlying41 Z a2 a3 _ _ _ n rfl rfl (by omega) (by rw[a4];omega) (by unfold maxLen;omega) (A' _) ?_)
 intro w1 J I;have H:Bw w w1:=(Below.refl _ _).grown I (A' _) (by simp);have y:w1.ownsRow w.heap.size 5 1 (.slice (some ⟨w.heap.size,0,none⟩) 0 n) ((Ba k i 0).take n).length (((Ba k i 0).take n).map (Value.int .u8)):=by simpa[Ba]using J
 clear J I;go_wp2_with fail
 go_loopw [7,8,9] (λv b c wr=>∃ j:Nat,j<=16/\c=.int .u8 ((j:Int)+1)/\(∃ m z,v=.slice (some ⟨m,0,none⟩) (min (32*j) n) z)/\Sl wr b (blk k i j)/\wr.ownsRow w.heap.size 5 1 v ((Ba k i j).take n).length (((Ba k i j).take n).map (Value.int .u8))/\Bw w wr) (λ_ _ c _=>(17-intOf c).toNat)
 case atStart=>exact⟨0,by omega,rfl,⟨w.heap.size,n,by simp⟩,Sl.nil _ _,y,H⟩
 case round =>
  clear y H;obtain⟨j,hj,rfl,⟨m,z,rfl⟩,sb,f,V⟩:=hrel;have B:=f.lt;by_cases hc:32*j<n
  .have d:min (32*j) n=32*j:=by omega
   rw[d]at f B ⊢
   have a0:m<wr.heap.size:=(B m rfl).2;have l:((Ba k i j).take n).length=32*j:=by rw[mH,Cx];omega
   have a7:=gP k i j;have a5:j<=15:=by omega
   have HB:Hid (blk k i (j+1)=DZ k (blk k i j++i++[(j:Int)+1])):=rfl;have HS:=V8 k i n j;have E:Hid _:=HS;have yb:∀ x∈blk k i j++i++[(j:Int)+1],0<=x/\x<256:=λx hx=>by
    rcases Z'.1 hx with h|h
    .rcases Z'.1 h with h|h
     .exact sb.byte x h
     .exact hi.byte x h
    .obtain rfl:x=(j:Int)+1:=by simpa using h
     omega
   clear HS d;go_wp2_with fail
   refine(OR _ vi (blk k i j) i ((j:Int)+1) wr sb (hi.ab V) (by omega) (by omega) (by omega)).mono ?_;rintro e w2 ⟨v2,rfl,K,a⟩;have s:Bw w w2:=V.trans (a.mono V.size);have l2:(blk k i j++i++[(j:Int)+1]).length<=2000:=by simp;omega
   have s2:=Sl.eD K (by omega) yb;go_wp2_with fail
   refine(OM vk v2 k _ w2 (hk.ab s) s2 (by omega) (by omega) (ht.ab s)).mono ?_;rintro e R ⟨v3,rfl,F⟩;rw[<- HB.out]at F
   obtain⟨T,S,N,_,Y⟩:=F.shape;have s3:=F.sl;have o:=F.ln;have l3:=GY k i j;rw[l3]at N Y
   subst N;clear HB F s2 K l2 yb sb;have a1:=f;have g:R.ownsRow w.heap.size 5 1 (.slice (some ⟨m,0,none⟩) (32*j) z) ((Ba k i j).take n).length (((Ba k i j).take n).map (Value.int .u8)):=by
    refine f.kept (row:=none) ⟨(a.trans (o.mono a.size)).os,(a.trans (o.mono a.size)).tape,(a.trans (o.mono a.size)).output,(a.trans (o.mono a.size)).size,λq hq _=>(a.trans (o.mono a.size)).block q hq⟩ (.inr (by simp[Value.ownBlock]))
   have t:Bw w R:=s.trans (o.mono s.size);have p:=g.lt;have C:Hid ((Ba k i (j+1)).take n=(Ba k i j).take n++(blk k i (j+1)).take (n-32*j)):=E.out;clear E a1 f B;have U:((blk k i (j+1)).take (n-32*j)).length=min (n-32*j) 32:=by rw[mH,l3]
   have sM:Sl R (.slice (some ⟨T,0,none⟩) (min (n-32*j) 32) S) ((blk k i (j+1)).take (n-32*j)):=by
    by_cases hq:n-32*j<=32
    .rw[oF hq];exact s3.take (n-32*j) (by omega)
    .rw[Nat.min_eq_right (by omega),mV (by omega)];exact s3
   have HN:=s3;have u:((Ba k i (j+1)).take n).length=min (32*(j+1)) n:=by rw[mH,Cx];omega
   have D:Hid (((Ba k i (j+1)).take n).length=min (32*(j+1)) n):=u;clear HN u;generalize (blk k i (j+1)).take (n-32*j)=M at sM U C;generalize (Ba k i j).take n=P at g p l C;have SB:Sl R (.slice (some ⟨T,0,none⟩) 32 S) (blk k i (j+1)):=s3;clear s3;have d:(min (32:Int) ((n:Int)-32*(j:Int))).toNat=min (n-32*j) 32:=by omega
   have Q:Sl R (.slice (some ⟨T,0,none⟩) (min (32:Int) ((n:Int)-32*(j:Int))).toNat S) M:=by rw[d];exact sM
   have a6:m<w2.heap.size:=X' a0 a.size;clear d sM;go_wp2_with (at_builtin;refine Aa _ rfl _ _ 41 rfl w.heap.size 5 underlying41 Ap _ _ rfl rfl P M g Q (by omega) t.size ?_)
   intro v4 w4 L A;have r:w4.ownsRow w.heap.size 5 1 v4 (P++M).length ((P++M).map (Value.int .u8)):=by simpa[l,U]using L
   have X:Bw w w4:=t.grown A t.size (λk hk=>(p k hk).1);have W:Sl w4 (.slice (some ⟨T,0,none⟩) 32 S) (blk k i (j+1)):=SB.grown A (by simp[Value.ownBlock];omega);obtain⟨g4,c4,O,_,_,_,_,_⟩:=DQ r (by intro e;have:=congrArg List.length e;rw[I',l,U]at this;simp at this;omega);have G:(P++M).length=min (32*(j+1)) n:=by rw[<- C.out];exact D.out
   rw[<- C.out]at r
   rw[G]at O
   subst O;clear L A g p t SB Q U C D G l;go_wp2
   go_roundw
   case rel=>exact⟨j+1,by omega,by go_num,⟨g4,c4,rfl⟩,W,r,X⟩
   case measure=>simp[intOf];omega
  .have d:min (32*j) n=n:=by omega
   rw[d]at f ⊢
   have HQ:Hid (FL k i n=(Ba k i j).take n):=by
    unfold Hid FL;have:=Rf k i n j (16-j) (by omega);rw[show j+(16-j)=16 by omega]at this
    exact this
   go_wp2
   go_ret;refine⟨_,rfl,?_,V⟩;rw[HQ.out];exact f
theorem Ie(k i:List Int)(n:Nat)(h:n<=512):(FL k i n).length=n:=by
 unfold FL;rw[mH,Cx];omega
theorem Ls(k i:List Int)(n:Nat):∀ x∈FL k i n,0<=x/\x<256:=λx a=>Re k i 16 x (mY a)
theorem Ue(o f g:Value)(a b d:List Int)(n:Nat)(w:World)(j:Sl w o a)(k:Sl w f b)(l:Sl w g d)(p:a.length<=256)(q:b.length<=256)(r:d.length<=256)(s:n<=512)(m:AD w) :
  Calls prog 104 #[o,f,g,.int .i64 n] w λe w'=>∃ v',e=.returned (.tuple #[v',.int .i64 0])/\w'.ownsRow w.heap.size 5 1 v' (FL (DZ b a) d n).length ((FL (DZ b a) d n).map (Value.int .u8))/\Bw w w':=by
 have t:=j;have u:=k;have v:=l;obtain⟨⟨a0,c0,rfl,_,_,_⟩,_,_⟩:=j;obtain⟨⟨y,c1,rfl,_,_,_⟩,_,_⟩:=k;obtain⟨⟨z,A,rfl,_,_,_⟩,_,_⟩:=l;have B:decide ((256:Int)<(a.length:Int))=false:=by simp;omega
 have C:decide ((256:Int)<(b.length:Int))=false:=by simp;omega
 have D:decide ((256:Int)<(d.length:Int))=false:=by simp;omega
 have E:decide ((n:Int)<0)=false:=by simp
 have F:decide ((512:Int)<(n:Int))=false:=by simp;omega
 go_enter func104,ntmps104
 go_wp2_with fail
 refine(OM _ _ b a w u t (by omega) (by omega) m).mono ?_;rintro e x ⟨f,rfl,c⟩;have G:=Du b a;go_wp2_with fail
 refine(Sc f _ (DZ b a) d n x c.sl (v.ab c.ln) (by omega) (by omega) s (m.ab c.ln)).mono ?_;rintro e H ⟨g,rfl,i,h⟩;go_wp2
 go_ret2
 exact⟨g,rfl,AU i c.ln.size,c.ln.trans (h.mono c.ln.size)⟩
def G9(c:Int):List Int:=FL (DZ [99,108,105,101,110,116] [c]) [] 32
def G8:List Int:=FL (DZ [105,115,115,117,101,114] [255]) [] 32
theorem FP(c:Int):(G9 c).length=32:=Ie _ _ 32 (by omega)
theorem JR:G8.length=32:=Ie _ _ 32 (by omega)
theorem VV(c:Int):∀ x∈G9 c,0<=x/\x<256:=Ls _ _ _
theorem VR:∀ x∈G8,0<=x/\x<256:=Ls _ _ _
theorem Sl.sR(w:World)(l:List Int)(e:TypeId)(fr:Nat × Nat){g:Nat}(b:g=w.heap.size)(d:l.length=6)(a:∀ x∈l,0<=x/\x<256):Sl (w.alloc (.cells (l.map (Value.int .u8)).toArray e fr)) (.slice (some ⟨g,0,none⟩) 6 6) l:=by
 subst b;refine⟨⟨_,6,by rw[d],by omega,by simp,.inr ⟨w.heap.size,0,rfl,by simp,λi c=>?_⟩⟩,by omega,a⟩;rw[cell_of_row _ _ (0+i) _ _ _ (heap_alloc_new w _)];simp[List.getElem?_eq_getElem c,List.getD]
end
end
end Go.Proofs.YtdjfdfpkkenjbabGreatDoor
