/- Part 7 of the walk. -/
import Derived.LoopN
import Derived.Lib.SmallJoins
import Derived.Deep.OwnRows
import Derived.Test.YtogibonjmbhliabGreatDoorZ6
set_option maxRecDepth 100000
set_option maxHeartbeats 4000000
open Go.Proofs.Tryz
set_option linter.unusedVariables false
namespace Go.Proofs.YtogibonjmbhliabGreatDoor
section
open Go.RowKit
section
variable{P:Program}{fn:Func}{R:Ending->World->Prop}{B:Nat}{T:List Tg}{g:Gh}{w:World}
theorem gG{s:Xs}(k n:Nat)(a:List (Nat × Value))(m:List Bool)(i:List Sh)(l:Tf s.K=true)(o:s.f.n=n)(v:a.map (λp=>lk s.f.z s.f.e p.1)=a.map (·.2))(r:BS (AI m s.L)=i)
  (h:∀ J:Nat->Act->World->Prop,(∀ (m:Nat) (e:List (Nat × Value)) (z:Nat->Value) (L:List Sh) (g:Gh) (w:World),GG P fn R B T (fB s n (J m) e z L) g w->Kn B g w L->J (m+1) (⟨n,e,z⟩:Fm).act w)->∀ z,GG P fn R B T (fB s n (J k) a z i) g w):GG P fn R B T s g w:=by
 refine gFm a v λz=>?_;obtain⟨K,f,L⟩:=s;simp only at o;subst o;have j:BS (AI m L)=i:=r;have u:GG P fn R B T ⟨K,⟨f.n,a,z⟩,BS (AI m L)⟩ g w->GG P fn R B T ⟨K,⟨f.n,a,z⟩,L⟩ g w:=λh=>⟨λd=>h.ex (d.sub (D2 m L)).tL⟩;refine u ?_;rw[j];cases K with
 | nil=>cases l
 | cons t K =>
  cases t with
  | c x =>
   cases x with
   | loop b =>
    refine⟨λd=>?_⟩;exact wp_loop_rounds (k+1) ((h (Code.rounds P b (Kq P (bodyPost P fn R) K)) (λm e z L g w q d=>q.ex d) z).ex d)
   | _=>cases l
  | _=>cases l
end
section
variable{W w w0:World}{b1 b2 i k nb ob:Nat}{d:List Int}{g:Gh}{ls:List Let}{p:Nod}{s:Int}{ts:List Tol}{vs:List Value}{x:S3}
theorem NI{v:Vt}(h:NS i nb ob g w p ls ts)(E:Base w0 g w)(F:Tabs w0)(I:i<5)(G:ls.length<90000000)(q:Box g w b1 #[pt nb 0] 70)(t:Box g w b2 #[iv v.bu,iv v.b.r,iv v.b.n,iv v.w.k,iv v.w.c,iv v.w.s,iv v.w.n,iv v.w.v] 140)(l:p.ae.length<=40) :
  Calls prog 106 #[pt b1 0,pt b2 0] w (NP i nb ob g w (.tuple #[]) (p.count i v) (ls++BZ i { BJ 3 with cn:=v } 5) ts):=by
 obtain⟨x,lt,V,u,y,H⟩:=h;refine gI (fn:=f106) (TN i) g func106 H (qN u (qO y (Cr ⟨b1,.cells #[pt nb 0] 70,.z,false⟩ (λ_=>⟨q.r,q.z,λh=>(by cases h),λh=>absurd rfl h⟩) (by kernel_rfl) ?_)));refine Cr ⟨b2,.cells #[iv v.bu,iv v.b.r,iv v.b.n,iv v.w.k,iv v.w.c,iv v.w.s,iv v.w.n,iv v.w.v] 140,.z,false⟩ (λ_=>⟨t.r,t.z,λh=>(by cases h),λh=>absurd rfl h⟩) (by kernel_rfl) ?_;refine qR [] 8 [6,0,2,2,2,4,6,8,0,10,3] λS N W c1=>qS 6 [false,false,true,true] u y c1 (λA=>On A (E.ch (c1.nil (TN i)) (BB i)) F i I v l) λO X x2 J L a e C=>qR [] 5 [0,1] λT P Y m=>qS 3 [true,true,false,false] a e m (λB=>E2 B G { BJ 3 with cn:=v } s30 s30 ⟨Sv.nil _,λh=>absurd rfl h⟩ (Rc.nil _ _)) λQ Z x5 K M d j D=>qR [] 1 [] λU R w7 o=>qF d j o (((((c1.nil (TN i)).trans (C)).n m).trans (D)).n o)
theorem Tn{b:Bal}{u:List Vt}{e:S3}(h:NS i nb ob g w p ls ts)(J:Base w0 g w)(K:Tabs w0)(N:i<5)(L:ls.length<90000000){j:Nat}(a:Box g w b1 #[pt nb 0] 70)(C:Box g w b2 #[iv b.r,iv b.n] 75)(D:Box g w j #[S3.v e] 76)(O:FSv g w e u)(t:(p.bn.an i).vs.length<100000000) :
  Calls prog 58 #[pt b1 0,pt b2 0,pt j 0] w (NP i nb ob g w (.tuple #[]) (if p.vo.p≠b then p else{ p with bn:=p.bn.sf i u }) (if p.vo.p≠b then ls else(ls++BZ i { BJ 0 with gC:=b } 5)) ts):=by
 obtain⟨x,lt,tl,k,o,M⟩:=h;refine gI (fn:=f58) (TN i) g func58 M (qN k (qO o (Cr ⟨b1,.cells #[pt nb 0] 70,.z,false⟩ (λ_=>⟨a.r,a.z,λh=>(by cases h),λh=>absurd rfl h⟩) (by kernel_rfl) ?_)));refine Cr ⟨b2,.cells #[iv b.r,iv b.n] 75,.z,false⟩ (λ_=>⟨C.r,C.z,λh=>(by cases h),λh=>absurd rfl h⟩) (by kernel_rfl) ?_;refine Cr ⟨j,.cells #[S3.v e] 76,.z,false⟩ (λ_=>⟨D.r,D.z,λh=>(by cases h),λh=>absurd rfl h⟩) (by kernel_rfl) ?_;refine qR [] 10 [8,0,2,2,4,6,8,10,0,12,3] λs1 U w1 c1=>?_;by_cases a:p.vo.p≠b
 .refine qT 7 (.bool true) (λ_=>(Jd (x:=(.tmp 8)) (y:=(.tmp 9)) p.vo.p b a)) (qR [] 2 [] λs2 V w2 A=>?_);rw[if_pos a,if_pos a];exact qF k o (c1.n A) ((c1.nil (TN i)).n A)
 .have h10:p.vo.p=b:=by simpa using a
  refine qT 7 (.bool false) (λ_=>(Ja (x:=(.tmp 8)) (y:=(.tmp 9)) p.vo.p b h10)) ?_;rw[if_neg a,if_neg a];refine qR [] 14 [9,0,2,2,4,6,8,2,10,12,14,0,16,4] λs4 W w4 d=>qS 9 [false,false,true,true,true] k o (c1.n d) (λE=>QN E (J.ch ((c1.nil (TN i)).n d) (BB i)) K i N u e (O.ch ((c1.nil (TN i)).n d) (BB i)) t) λX w5 x5 P R l q G=>qR [] 5 [0,1] λs7 Y w7 B=>qS 3 [true,true,true,false,false] l q B (λF=>E2 F L { BJ 0 with gC:=b } s30 s30 ⟨Sv.nil _,λh=>absurd rfl h⟩ (Rc.nil _ _)) λZ w8 x8 lt8 S m s H=>qR [] 1 [] λQ I T c=>qF m s c ((((((c1.nil (TN i)).n d).trans (G)).n B).trans (H)).n c)
def Nod.lr(p:Nod)(i:Nat):Pend->Nod
 | .began b vs=>if p.vo.p≠b then p else{ p with bn:=p.bn.sf i vs }
 | .prop v=>p.count i v
 | _=>p
def Nod.rT(p:Nod)(i:Nat):Pend->List Let
 | .began b vs=>if p.vo.p≠b then[]else BZ i { BJ 0 with gC:=b } 5
 | .prom to b vs=>[{ BJ 1 with gC:=b,mv:=vs,fv:=p.ae,src:=i,dst:=to }]
 | .voted to v=>[{ BJ 4 with cn:=v,src:=i,dst:=to }]
 | .eo to b=>[{ BJ 2 with gC:=b,src:=i,dst:=to }]
 | .prop v=>BZ i { BJ 3 with cn:=v } 5
 | .askNews to=>[{ BJ 6 with bu:=p.ae.length,src:=i,dst:=to }]
 | .start=>BZ i (BJ 6) 5
 | .tell to bu=>[{ BJ 5 with src:=i,dst:=to,bu:=bu,fv:=p.ae.drop bu }]
def RY(p:Nod)(i:Nat):Pend->Prop
 | .began _ _=>(p.bn.an i).vs.length<100000000
 | .prop _=>p.ae.length<=40
 | .tell _ bu=>bu<=p.ae.length
 | _=>True
theorem gB{P:Program}{s:Xs}{S:Sem Next}{r:Result Next}(h:D7 s i=some S)(a:S.run P W=r):Df P s i W=some r:=by
 unfold Df;unfold D7 at h;cases hx:opN s i with
 | none=>rw[hx]at h;cases h
 | some x =>
  rw[hx]at h
  simp only[nZ,Y']at h ⊢;rw[h,a]
theorem Hh(h:NS i nb ob g w p ls ts)(y:Base w0 g w)(z:Tabs w0)(A:i<5)(f:ls.length<90000000){v:Value}(q:Pend)(r:RY p i q)(j:Lw g w nb v q) :
  ∃ (F:FuncId) (cs:Array Value),v=.func (.func F) #[] cs/\(∀ W,(Go.callFunc F (#[]++cs)).run prog W=.ok (.enter F cs) W)/\Calls prog F cs w (NP i nb ob g w (.tuple #[]) (p.lr i q) (ls++p.rT i q) ts):=by
 cases q with
 | began b vs =>
  obtain⟨k,m,t,x,e,a,c,d,o⟩:=j;refine⟨_,_,e,λW=>by kernel_rfl,?_⟩;have:=Tn h y z A f a c d o r;unfold Nod.lr Nod.rT;by_cases n:p.vo.p≠b
  .rw[if_pos n,if_pos n]at this;simp only[if_pos n,nA];exact this
  .rw[if_neg n,if_neg n]at this;simp only[if_neg n];exact this
 | prom to b vs =>
  obtain⟨k,m,t,x,s,l,e,a,c,d,o,B,rfl,rfl⟩:=j;exact⟨_,_,e,λW=>(by kernel_rfl),Hu h f a c d B o⟩
 | voted to u =>
  obtain⟨k,m,s,l,e,a,c,d,rfl,rfl⟩:=j;exact⟨_,_,e,λW=>(by kernel_rfl),I5 (b3:=0) h f a c d⟩
 | eo to b =>
  obtain⟨k,m,t,e,a,c,d⟩:=j;exact⟨_,_,e,λW=>(by kernel_rfl),PI h f a c d⟩
 | prop u =>
  obtain⟨k,m,e,a,c⟩:=j;exact⟨_,_,e,λW=>(by kernel_rfl),NI h y z A f a c r⟩
 | askNews to =>
  obtain⟨k,m,s,l,e,a,c,d,rfl⟩:=j;exact⟨_,_,e,λW=>(by kernel_rfl),MV (b3:=0) h f a c d⟩
 | start =>
  obtain⟨k,e,a⟩:=j;exact⟨_,_,e,λW=>(by kernel_rfl),RB (b2:=0) (b3:=0) h f a⟩
 | tell to bu =>
  obtain⟨k,m,s,l,e,a,c,d,rfl,rfl⟩:=j;exact⟨_,_,e,λW=>(by kernel_rfl),JW (b3:=0) h f a c d r⟩
theorem YU(s:Int){n:Nat}(h:Sl w x.v d)(a:n<=d.length){N:Int}(b:(n:Int)=N) :
  Calls prog 109 #[.agg #[x.v,iv s],iv N] w λe w'=>∃ y:S3,e=.returned (.agg #[y.v,iv N])/\Sl w' y.v (d.take n)/\Nb w.heap.size y (d.take n)/\Bw w w':=by
 subst b;refine(Ki x.v d s n w h a).mono ?_;rintro e w' ⟨y,rfl,f,c⟩;obtain⟨y,rfl,i,g⟩:=T9 (l:=d.take n) (by rw[X',oG a];exact f) (by rw[X'];have:=h.len;omega) (λz j=>h.byte z (nu j));exact⟨y,rfl,i,g,c⟩
theorem ZP(s:Int)(h:Sl w x.v d){t:Bool}(a:decide (AO d s)=t) :
  Calls prog 108 #[.agg #[x.v,iv s]] w λe w'=>e=.returned (.bool t)/\Bw w w':=by
 subst a;exact Mj x.v d s w h
theorem fR(h:Sl w x.v d) :
  Calls prog 107 #[.agg #[x.v,iv s]] w λe w'=>∃ y:S3,e=.returned (.tuple #[.agg #[y.v,iv (I4 d s)],iv (Db d s)])/\Sl w' y.v (Hs d s)/\Nb w.heap.size y (Hs d s)/\Bw w w':=by
 refine kIn func107 (kR 10 [0,0,1,0,0] λb H g=>?_);obtain⟨t,j⟩:∃ t,decide (AO d s)=t:=⟨_,rfl⟩;refine kC 1 (ZP s (h.af g) j) ?_;rintro _ I ⟨rfl,i⟩;refine⟨_,rfl,i,?_⟩;refine kR 2 [] λC J k=>?_;by_cases a:AO d s
 .refine kI ((!t)) false (by rw[<- j,M' a];rfl) ?_;rw[show Db d s=0 from if_pos a,show Hs d s=d from if_pos a,show I4 d s=(d.length:Int)from if_pos a];have m:=JS h;have A:d.take d.length=d:=oL;refine kR 7 [0,0] λD L r=>?_;have f:=(btr (btr (btr g i) k) r);refine kC 4 (YU s (n:=d.length) (N:=(x.n:Int)) (h.af f) (A' _) (by rw[m])) ?_;rintro _ M ⟨y,rfl,p,o,l⟩;refine⟨_,rfl,l,?_⟩;rw[A]at p o
  rw[<- m];refine kF 3 [1,0] λE O u B=>?_;have q:=((btr f l).trans u);exact qE2 2 3 95 1 (b 1) #[S3.v y,iv (x.n:Int)] (iv 0) λK=>⟨y,rfl,(p.kept B),o.mono f.size,q⟩
 .refine kI ((!t)) true (by rw[<- j,D' a];rfl) ?_;rw[show Db d s=5 from if_neg a,show Hs d s=[]from if_neg a,show I4 d s=0 from if_neg a];refine kF 6 [1,0] λF P z G=>?_;have c:=((btr (btr g i) k).trans z);exact qE2 2 3 95 1 (b 1) #[S3.v s30,iv 0] (iv 5) λK=>⟨s30,rfl,EA _,λh=>absurd rfl h,c⟩
theorem Yz{k:Int}(h:Sl w x.v d)(L:-9223372036854775808<=k)(M:k<=9223372036854775807) :
  Calls prog 68 #[.agg #[x.v,iv s],iv k] w λe w'=>∃ y:S3,e=.returned (.tuple #[.agg #[y.v,iv (KI d s k)],iv (Gq d s k)])/\Sl w' y.v (KH d s k)/\Nb w.heap.size y (KH d s k)/\Bw w w':=by
 refine kIn func68 (kR 10 [0,0,1,0,0] λf w1 j=>?_);obtain⟨t,A⟩:∃ t,decide (AO d s)=t:=⟨_,rfl⟩;refine kC 1 (ZP s (h.af j) A) ?_;rintro _ w2 ⟨rfl,l⟩;refine⟨_,rfl,l,?_⟩;refine kR 2 [] λT w3 u=>?_;by_cases c:AO d s
 .refine kI ((!t)) false (by rw[<- A,M' c];rfl) (kR 7 [] λU w4 C=>?_);by_cases m:k<0
  .refine kI ((decide (k<0))) true (M' m) ?_;have a:Gq d s k=2:=(if_neg (λg=>g c)).trans (if_pos m);rw[show KH d s k=[]from if_neg (by rw[a];decide),show KI d s k=0 from if_neg (by rw[a];decide),a];refine kF 6 [1,0] λV w5 H q5=>?_;have G:=((btr (btr (btr j l) u) C).trans H);exact qE2 4 5 95 1 (f 1) #[S3.v s30,iv 0] (iv 2) λK=>⟨s30,rfl,EA _,λh=>absurd rfl h,G⟩
  .refine kI ((decide (k<0))) false (D' m) ?_;have a:Gq d s k=0:=(if_neg (λg=>g c)).trans (if_neg m);rw[show KH d s k=d.take (Gt d s k).toNat from if_pos a,show KI d s k=Gt d s k from if_pos a,a];have Z:=JS h;have Y:=h.len;have X:0<=s/\s<=(d.length:Int):=⟨c.2.1,c.2.2⟩;obtain⟨n,D⟩:∃ n:Nat,(n:Int)=s+min k ((x.n:Int)-s):=⟨(s+min k ((x.n:Int)-s)).toNat,by omega⟩;have J:Gt d s k=(n:Int):=by unfold Gt;split<;>omega
   have z:n<=d.length:=by omega
   rw[J,nV,D];refine kR 12 [0,0,0,0] λW w7 I=>kV 9 (iv ((x.n:Int)-s)) (lO (x:=(.tmp 19)) (y:=(.tmp 21)) (x.n:Int) s underlying3 (by omega)) (kV 10 (iv (min k ((x.n:Int)-s))) (j0 #[3,3] 3 k ((x.n:Int)-s)) (kV 11 (iv (s+min k ((x.n:Int)-s))) (Mz (x:=(.tmp 15)) (y:=(.tmp 23)) s (min k ((x.n:Int)-s)) underlying3 (by omega)) ?_));have b:=(btr (btr (btr (btr j l) u) C) I);refine kC 12 (YU s (n:=n) (h.af b) z D) ?_;rintro _ Q ⟨y,rfl,O,N,i⟩;refine⟨_,rfl,i,?_⟩;refine kF 3 [1,0] λE R q B=>?_;have o:=((btr b i).trans q);exact qE2 4 5 95 1 (f 1) #[S3.v y,iv (s+min k ((x.n:Int)-s))] (iv 0) λK=>⟨y,rfl,(O.kept B),N.mono b.size,o⟩
 .refine kI ((!t)) true (by rw[<- A,D' c];rfl) ?_;have a:Gq d s k=5:=if_pos c;rw[show KH d s k=[]from if_neg (by rw[a];decide),show KI d s k=0 from if_neg (by rw[a];decide),a];refine kF 6 [1,0] λF S r P=>?_;have p:=((btr (btr j l) u).trans r);exact qE2 4 5 95 1 (f 1) #[S3.v s30,iv 0] (iv 5) λK=>⟨s30,rfl,EA _,λh=>absurd rfl h,p⟩
structure FzL(g:Gh)(w:World)(x:S3)(vs:List Value):Prop where
 n:x.n=vs.length
 at_:∀ j u,vs[j]?=some u->∃ b,x.a=some ⟨b,0,none⟩/\b<w.heap.size/\j<g.k b/\w.cell? ⟨b,j,none⟩=some u
theorem OwnS.fz{τ:Tg}{e:TypeId}(h:OwnS g w τ true e 1 x vs):FzL g w x vs:=by
 refine⟨by have:=h.len;omega,λj u d=>?_⟩;obtain⟨b,a,f,i⟩:=h.cell d;have c:j<vs.length:=(V'.1 d).1;refine⟨b,a,f,?_,i⟩;rcases h.ex with⟨h4,_⟩|⟨b',cur,h4,_,_,_,_,_,_,h8⟩
 .rw[h4]at a;cases a
 .rw[a]at h4
  simp only[Y',Addr.mk.injEq,and_true]at h4;subst h4;rw[h8,if_pos rfl];exact c
theorem FzL.ch{B:Nat}{T:List Tg}{d:Gh}{f:World}(h:FzL g w x vs)(c:Cg B T g w d f):FzL d f x vs :=
 ⟨h.n,λj u l=>by
  obtain⟨b,i,a,e,k⟩:=h.at_ j u l;exact⟨b,i,j' a c.size,j' e (c.sH b a),(c.sI b a j e).trans k⟩⟩
theorem gP{b c:Nat}(d:x.a=some ⟨b,c,none⟩)(j:Nat)(f:j<x.n):(Instr.indexAt 79 x.v (iv (j:Int))).run prog W=.ok (pt b (c+1*j)) W:=by
 unfold S3.v;rw[d];exact NL (P:=prog) (e:=1) (z:=1) underlying79 (by kernel_rfl) (by kernel_rfl) f _ rfl
def ov(i:Nat):List Pend->Nod->List Let->Nod × List Let
 | [],p,ls=>(p,ls)
 | q::l,p,ls=>ov i l (p.lr i q) (ls++p.rT i q)
def GW(i:Nat):List Pend->Nod->List Let->Prop
 | [],_,_=>True
 | q::l,p,ls=>RY p i q/\ls.length<90000000/\GW i l (p.lr i q) (ls++p.rT i q)
def Nod.rZ(p:Nod):Nod:=if p.sy<(p.d.length:Int)then{ p with d:=Hs p.d p.sy,sy:=I4 p.d p.sy }else p
theorem Q7{l:List Pend}{j:Nat}{c:Pend}(h:l[j]?=some c):l.drop j=c::l.drop (j+1):=by
 obtain⟨a,b⟩:=V'.1 h;rw[<- b];exact nO a
theorem fS(h:NS i nb ob g w p ls ts)(hB:Base w0 g w)(hT:Tabs w0)(hi:i<5)(X:GW i p.bw { p.rZ with bw:=[] } ls)(f4:p.bw.length<100000000) :
  Calls prog 64 #[pt nb 0] w (NP i nb ob g w (.tuple #[]) (if p.sy<(p.d.length:Int)/\Db p.d p.sy≠0 then(p,ls)else ov i p.bw { p.rZ with bw:=[] } ls).1 (if p.sy<(p.d.length:Int)/\Db p.d p.sy≠0 then(p,ls)else ov i p.bw { p.rZ with bw:=[] } ls).2 ts):=by
 obtain⟨x,lt,tl,l,hO,hg⟩:=h;have f6:x.tape.n=p.d.length:=by obtain⟨a,e5,hh⟩:=l.tape.s.sh;have:=l.tape.s.len;simp only[S3.v,Value.slice.injEq]at hh;exact hh.2.1
 refine gI (fn:=f64) (TN i) g func64 hg (qN l (qO hO ?_));obtain⟨pv,hP,H⟩:=l.bw;have hF:=hP.fz;have f5:x.synced.n=p.bw.length:=by rw[hF.n];exact H.len
 refine qR [] 16 [12,0,2,4,6,8,0,10,12,14,16,18,0,20,22] λs1 g1 w1 c1=>?_;by_cases h1:p.sy<(x.tape.n:Int)
 .refine qI ((decide (p.sy<(x.tape.n:Int)))) true (M' (by omega)) (qR [] 6 [0] λs2 g2 w2 c2=>Af λKq=>?_);have hS:=(l.tape.ch (c1.trans c2)).s;have hG:∀ z,w2.heap.size<=z->g2.t z=.z:=λz hz=>(Kq.new z hz).1;refine qC 4 (fR (s:=p.sy) hS) ?_;rintro e' w3 ⟨tz,rfl,b1,d5,b3⟩;refine⟨_,rfl,b3,?_⟩;have c3:=Cg.ed (B:=w.heap.size) (T:=[]) (g:=g2) b3;have f7:=JS b1;have d6:FSl _ _ tz _:=⟨b1,λhl a ha=>hG _ (d5 hl a ha)⟩;refine qR [] 13 [0,0,2,0] λs4 g4 w4 c4=>?_;by_cases D:Db p.d p.sy≠0
  .refine qI (((Db p.d p.sy) != 0)) true (by simpa using D) (qE (.tuple #[]) λK=>?_);rw[if_pos ⟨by omega,D⟩];exact⟨_,rfl,(nsC l hO (((c1.n c2).n c3).n c4) K),((((c1.nil (TN i)).n c2).n c3).n c4)⟩
  .refine qI (((Db p.d p.sy) != 0)) false (by simpa using D) ?_;have N:p.rZ={ p with d:=Hs p.d p.sy,sy:=I4 p.d p.sy }:=if_pos (by omega);rw[show(if p.sy<(p.d.length:Int)/\Db p.d p.sy≠0 then(p,ls)else ov i p.bw { p.rZ with bw:=[] } ls)=ov i p.bw ({ p with d:=Hs p.d p.sy,sy:=I4 p.d p.sy,bw:=[] }:Nod) ls from by rw[if_neg (by rintro⟨_,h⟩;exact D h),N]];rw[show{ p.rZ with bw:=[] }=({ p with d:=Hs p.d p.sy,sy:=I4 p.d p.sy,bw:=[] }:Nod)from by rw[N]]at X
   refine qR [.n 0 i] 32 [2,0,1,0,0,1] λs7 g7 w7 c7=>IJ [true,true,false] ?_;refine Ce 51 [(42,S3.v x.synced),(43,iv (x.synced.n:Int)),(44,iv 0)] [false,false] [] (λk g' w' e L=>∃ (j:Nat) (q:Nod) (l2:List Let),k=p.bw.length-j/\j<=p.bw.length/\e=[(42,S3.v x.synced),(43,iv (x.synced.n:Int)),(44,iv (j:Int))]/\L=[]/\NS i nb ob g' w' q l2 ts/\ov i (p.bw.drop j) q l2=ov i p.bw ({ p with d:=Hs p.d p.sy,sy:=I4 p.d p.sy,bw:=[] }:Nod) ls/\GW i (p.bw.drop j) q l2/\Cg w.heap.size (TN i) g w g' w') (by kernel_rfl) (by kernel_rfl) (by kernel_rfl) (by kernel_rfl) p.bw.length (λK=>?_) ?_
   .have C8:=((((c1.nil ([.n 0 i]:List Tg)).n c2).n c3).n c4).trans (c7);have Z8:Tg.z∉([.n 0 i]:List Tg):=by simp
    exact⟨0,({ p with d:=Hs p.d p.sy,sy:=I4 p.d p.sy,bw:=[] }:Nod),ls,rfl,by omega,rfl,rfl,⟨({ x with tape:=tz,synced:=s30 }:NX),lt,tl,K.nd 0 ((d6.ch c4).ch c7) (l.mv.ch C8 Z8) (BG l.an C8 Z8) ⟨[],OwnS.nil _ _ _ _ _ _,⟨rfl,λk v q h=>by cases h⟩⟩ (l.fa.ch C8) (l.ae.ch C8) (l.br.ch C8) (l.cl.ch C8) l.sJ,hO.ch C8 Z8 (by simp<;>omega),K.new⟩,rfl,X,(((((c1.nil (TN i)).n c2).n c3).n c4).trans (c7.mono (by simp[TN])))⟩
   .rintro k gr wr _ zr _ ⟨j,q,l2,rfl,hj,rfl,rfl,hM,hI,hK,hC⟩ J hJ;obtain⟨xr,d7,d8,m,o,d3⟩:=id hM;refine qN m (qO o (qR [] 5 [] λs9 g9 w9 P=>?_));by_cases h5:j<p.bw.length
    .refine qI ((decide ((j:Int)<(x.synced.n:Int)))) true (M' (by omega)) ?_;obtain⟨C,M⟩:∃ C,p.bw[j]?=some C:=⟨_,E' h5⟩;obtain⟨v,hv⟩:∃ v,pv[j]?=some v:=⟨_,E' (by rw[H.len];exact h5)⟩;rw[Q7 M]at hI hK
     obtain⟨F,G,a0⟩:=hK;have E:=hF.ch hC;obtain⟨bx,O,d1,d4,d2⟩:=E.at_ j v hv;have I:=(H.at_ j v C hv M).ch hC (BB i);refine qR [] 5 [] λf8 b9 d9 r=>qV 0 (pt bx (0+1*j)) (gP O j (by omega)) (Af λK=>?_);have b4:NS i nb ob b9 d9 q l2 ts:=(nsC m o (P.n r) K);obtain⟨Y,y,e2,a1,_⟩:=Hh b4 (hB.ch (((hC.n P).n r)) (BB i)) hT hi G C F (I.ch ((P.nil (TN i)).n r) (BB i));subst e2;have Z:=E.ch (P.trans r);refine qV 1 (.func (.func Y) #[] y) (D4 (ty:=1) (b:=bx) (k:=0+1*j) (v:=.func (.func Y) #[] y) underlying1 rfl (by rw[nS,rP];obtain⟨b2,D,_,_,h4⟩:=Z.at_ j _ hv;rw[O]at D;simp only[Y',Addr.mk.injEq,and_true]at D;subst D;exact h4)) (qR [] 4 [] λf9 c0 e0 R=>Af λK=>?_);have b5:NS i nb ob c0 e0 q l2 ts:=(nsC m o ((P.n r).n R) K);obtain⟨F3,b8,e3,_,A⟩:=Hh b5 (hB.ch ((((hC.n P).n r).n R)) (BB i)) hT hi G C F (I.ch (((P.nil (TN i)).n r).n R) (BB i));simp only[Value.func.injEq,Fn.func.injEq,true_and]at e3;obtain⟨rfl,rfl⟩:=e3;refine ST 1 Y y (TN i) [false,false] (λW=>gB (by kernel_rfl) (a1 W)) (by kernel_rfl) (by kernel_rfl) (by kernel_rfl) A ?_;rintro e' h9 ⟨c5,rfl,a2,S⟩;refine⟨_,c5,rfl,S,a2.new,?_⟩;replace S:=S.ret (B:=w.heap.size);refine qR [] 3 [] λg0 e6 i0 a4=>qV 0 (iv ((j:Int)+1)) (AU 44 (j:Int) underlying3 (by omega)) (qR [] 2 [] λg3 e7 i1 a5=>qB [] λz K0 K=>hJ (p.bw.length-(j+1)) _ _ _ z _ (by omega) ⟨j+1,q.lr i C,l2++q.rT i C,rfl,by omega,rfl,rfl,NS.sc a2 (a4.trans a5) K0.new,hI,a0,((((((hC.n P).n r).n R).trans S).n a4).n a5)⟩ K)
    .refine qI ((decide ((j:Int)<(x.synced.n:Int)))) false (D' (by omega)) (qR [] 1 [] λg5 e8 i2 a6=>?_);obtain rfl:j=p.bw.length:=by omega
     rw[oW]at hI
     rw[<- hI];exact qF m o (P.n a6) ((hC.n P).n a6)
 .refine qI ((decide (p.sy<(x.tape.n:Int)))) false (D' (by omega)) ?_;have N:p.rZ=p:=if_neg (by omega);rw[show(if p.sy<(p.d.length:Int)/\Db p.d p.sy≠0 then(p,ls)else ov i p.bw { p.rZ with bw:=[] } ls)=ov i p.bw ({ p with bw:=[] }:Nod) ls from by rw[if_neg (by rintro⟨h,_⟩;omega),N]];rw[show{ p.rZ with bw:=[] }=({ p with bw:=[] }:Nod)from by rw[N]]at X
  refine qR [.n 0 i] 25 [0,0,1] λg6 e9 i3 a7=>Ce 51 [(42,S3.v x.synced),(43,iv (x.synced.n:Int)),(44,iv 0)] [false,false] [] (λk g' w' e L=>∃ (j:Nat) (q:Nod) (l2:List Let),k=p.bw.length-j/\j<=p.bw.length/\e=[(42,S3.v x.synced),(43,iv (x.synced.n:Int)),(44,iv (j:Int))]/\L=[]/\NS i nb ob g' w' q l2 ts/\ov i (p.bw.drop j) q l2=ov i p.bw ({ p with bw:=[] }:Nod) ls/\GW i (p.bw.drop j) q l2/\Cg w.heap.size (TN i) g w g' w') (by kernel_rfl) (by kernel_rfl) (by kernel_rfl) (by kernel_rfl) p.bw.length (λK=>?_) ?_
  .have C22:=(c1.nil ([.n 0 i]:List Tg)).trans (a7);have Q:Tg.z∉([.n 0 i]:List Tg):=by simp
   exact⟨0,({ p with bw:=[] }:Nod),ls,rfl,by omega,rfl,rfl,⟨({ x with synced:=s30 }:NX),lt,tl,K.nd 0 (l.tape.ch C22 Q) (l.mv.ch C22 Q) (BG l.an C22 Q) ⟨[],OwnS.nil _ _ _ _ _ _,⟨rfl,λk v q h=>by cases h⟩⟩ (l.fa.ch C22) (l.ae.ch C22) (l.br.ch C22) (l.cl.ch C22) l.sJ,hO.ch C22 Q (by simp<;>omega),K.new⟩,rfl,X,((c1.nil (TN i)).trans (a7.mono (by simp[TN])))⟩
  .rintro k gr wr _ zr _ ⟨j,q,l2,rfl,hj,rfl,rfl,hM,hI,hK,hC⟩ J hJ;obtain⟨xr,d7,d8,m,o,d3⟩:=id hM;refine qN m (qO o (qR [] 5 [] λg8 f0 i4 c=>?_));by_cases h5:j<p.bw.length
   .refine qI ((decide ((j:Int)<(x.synced.n:Int)))) true (M' (by omega)) ?_;obtain⟨C,M⟩:∃ C,p.bw[j]?=some C:=⟨_,E' h5⟩;obtain⟨v,hv⟩:∃ v,pv[j]?=some v:=⟨_,E' (by rw[H.len];exact h5)⟩;rw[Q7 M]at hI hK
    obtain⟨F,G,a0⟩:=hK;have E:=hF.ch hC;obtain⟨bx,O,d1,d4,d2⟩:=E.at_ j v hv;have I:=(H.at_ j v C hv M).ch hC (BB i);refine qR [] 5 [] λh0 c6 e1 u=>qV 0 (pt bx (0+1*j)) (gP O j (by omega)) (Af λK=>?_);have b6:NS i nb ob c6 e1 q l2 ts:=(nsC m o (c.n u) K);obtain⟨Y,y,e2,a1,_⟩:=Hh b6 (hB.ch (((hC.n c).n u)) (BB i)) hT hi G C F (I.ch ((c.nil (TN i)).n u) (BB i));subst e2;have Z:=E.ch (c.trans u);refine qV 1 (.func (.func Y) #[] y) (D4 (ty:=1) (b:=bx) (k:=0+1*j) (v:=.func (.func Y) #[] y) underlying1 rfl (by rw[nS,rP];obtain⟨b2,D,_,_,h4⟩:=Z.at_ j _ hv;rw[O]at D;simp only[Y',Addr.mk.injEq,and_true]at D;subst D;exact h4)) (qR [] 4 [] λh3 c8 e4 U=>Af λK=>?_);have b7:NS i nb ob c8 e4 q l2 ts:=(nsC m o ((c.n u).n U) K);obtain⟨F3,b8,e3,_,A⟩:=Hh b7 (hB.ch ((((hC.n c).n u).n U)) (BB i)) hT hi G C F (I.ch (((c.nil (TN i)).n u).n U) (BB i));simp only[Value.func.injEq,Fn.func.injEq,true_and]at e3;obtain⟨rfl,rfl⟩:=e3;refine ST 1 Y y (TN i) [false,false] (λW=>gB (by kernel_rfl) (a1 W)) (by kernel_rfl) (by kernel_rfl) (by kernel_rfl) A ?_;rintro e' i5 ⟨d0,rfl,a3,V⟩;refine⟨_,d0,rfl,V,a3.new,?_⟩;replace V:=V.ret (B:=w.heap.size);refine qR [] 3 [] λh6 f1 i6 a8=>qV 0 (iv ((j:Int)+1)) (AU 44 (j:Int) underlying3 (by omega)) (qR [] 2 [] λh7 f2 i7 a9=>qB [] λz K0 K=>hJ (p.bw.length-(j+1)) _ _ _ z _ (by omega) ⟨j+1,q.lr i C,l2++q.rT i C,rfl,by omega,rfl,rfl,NS.sc a3 (a8.trans a9) K0.new,hI,a0,((((((hC.n c).n u).n U).trans V).n a8).n a9)⟩ K)
   .refine qI ((decide ((j:Int)<(x.synced.n:Int)))) false (D' (by omega)) (qR [] 1 [] λh8 f3 i8 b0=>?_);obtain rfl:j=p.bw.length:=by omega
    rw[oW]at hI
    rw[<- hI];exact qF m o (c.n b0) ((hC.n c).n b0)
def MY(p:Nod)(i j:Nat):Bool:=decide (j≠i/\p.bn.bN j<p.ae.length)
def KZ(p:Nod)(i k:Nat):Nat->Nat:=λj=>if decide (j<k)&&MY p i j then p.ae.length else p.bn.bN j
def E6(p:Nod)(i k:Nat):Nod:={ p with bn:={ p.bn with bN:=KZ p i k } }
def Dn(p:Nod)(i:Nat):Nat->List Let
 | 0=>[]
 | k+1=>Dn p i k++(if MY p i k then[{ BJ 5 with src:=i,dst:=k,bu:=p.bn.bN k,fv:=p.ae.drop (p.bn.bN k) }]else[])
theorem Vx(p:Nod)(i k:Nat):(Dn p i k).length<=k:=by
 induction k with
 | zero=>exact A' _
 | succ k ih=>unfold Dn;rw[H'];split<;>simp<;>omega
theorem X4(p:Nod)(i:Nat):E6 p i 0=p:=by unfold E6 KZ;simp
theorem Vy(h:MY p i k=false):KZ p i (k+1)=KZ p i k:=by
 funext j
 unfold KZ;by_cases e:j=k
 .subst e;simp[h]
 .rw[show decide (j<k+1)=decide (j<k)from og.2 (by omega)]
theorem cB(h:MY p i k=true):upN (KZ p i k) k p.ae.length=KZ p i (k+1):=by
 funext j
 unfold upN KZ;by_cases e:j=k
 .subst e;simp[h]
 .rw[if_neg e,show decide (j<k+1)=decide (j<k)from og.2 (by omega)]
theorem X6(h:NS i nb ob g w p ls ts)(hb:ls.length<90000000) :
  Calls prog 65 #[pt nb 0] w (NP i nb ob g w (.tuple #[]) (if p.leads then E6 p i 5 else p) (if p.leads then ls++Dn p i 5 else ls) ts):=by
 obtain⟨x,lt,tl,Q,R,hg⟩:=h;refine gI (fn:=f65) (TN i) g func65 hg (qN Q (qO R (qR [] 4 [] λs1 W w1 c1=>?_)));by_cases h1:p.leads=false
 .refine Af λK=>?_;have N3:NS i nb ob W w1 p ls ts:=(nsC Q R c1 K);refine qC 1 (Fp N3 h1) ?_;rintro e' w4 ⟨rfl,b4⟩;refine⟨_,rfl,b4,?_⟩;have c4:=Cg.ed (B:=w.heap.size) (T:=[]) (g:=W) b4;refine qR [] 3 [] λs5 g5 w5 c5=>qE (.tuple #[]) λK=>?_;rw[h1,if_neg (by simp),if_neg (by simp)];exact⟨_,rfl,(nsC Q R ((c1.n c4).n c5) K),(((c1.nil (TN i)).n c4).n c5)⟩
 .have h10:p.leads=true:=by simpa using h1
  refine Af λK=>?_;have N8:NS i nb ob W w1 p ls ts:=(nsC Q R c1 K);refine qC 1 (Fp N8 h10) ?_;rintro e' w9 ⟨rfl,b9⟩;refine⟨_,rfl,b9,?_⟩;have c9:=Cg.ed (B:=w.heap.size) (T:=[]) (g:=W) b9;rw[if_pos h10,if_pos h10];refine qR [] 15 [0] λd0 a4 e6 C=>Ce 51 [(0,pt nb 0),(12,.agg #[iv (p.bn.bN 0:Int),iv (p.bn.bN 1:Int),iv (p.bn.bN 2:Int),iv (p.bn.bN 3:Int),iv (p.bn.bN 4:Int)]),(13,iv 0)] [false,false] [] (λk V X e L=>∃ k0:Nat,k=5-k0/\k0<=5/\e=[(0,pt nb 0),(12,.agg #[iv (p.bn.bN 0:Int),iv (p.bn.bN 1:Int),iv (p.bn.bN 2:Int),iv (p.bn.bN 3:Int),iv (p.bn.bN 4:Int)]),(13,iv (k0:Int))]/\L=[]/\NS i nb ob V X (E6 p i k0) (ls++Dn p i k0) ts/\Cg w.heap.size (TN i) g w V X) (by kernel_rfl) (by kernel_rfl) (by kernel_rfl) (by kernel_rfl) 5 (λK=>?_) ?_
  .have C11:=(c1.n c9).n C;exact⟨0,rfl,by omega,rfl,rfl,(by rw[X4,show ls++Dn p i 0=ls from nA _];exact(nsC Q R C11 K)),(((c1.nil (TN i)).n c9).n C)⟩
  .rintro k gr wr _ zr _ ⟨k0,rfl,hk0,rfl,rfl,hM,hC⟩ J hJ;obtain⟨Y,c8,e5,d,j,c6⟩:=hM;have c7:=Vx p i k0;refine qN d (qO j ?_);have c3:Y.ae.n=p.ae.length:=d.ae.num;refine qR [] 5 [] λd1 a5 e7 a=>?_;by_cases h2:k0<5
   .refine qI ((decide ((k0:Int)<5))) true (M' (by omega)) (qR [] 6 [] λd2 a6 e8 b=>?_);refine dU 1 (iv (p.bn.bN k0:Int)) (λK=>(by rcases rU h2 with rfl|rfl|rfl|rfl|rfl<;>kernel_rfl)) (by kernel_rfl) ?_;refine qR [] 10 [0] λd3 a7 e9 c=>?_;by_cases h3:k0≠i
    .refine qV 5 (.bool true) (Ix (t:=3) (m:=(k0:Int)) (n:=(i:Int)) (x:=(.tmp 17)) (y:=(.tmp 21)) (by simp;omega)) (qR [] 11 [0] λd4 a8 f0 o=>?_);by_cases h4:(p.bn.bN k0:Int)<(Y.ae.n:Int)
     .have hx:MY p i k0=true:=M' ⟨by omega,by omega⟩;refine qI ((decide ((p.bn.bN k0:Int)<(Y.ae.n:Int)))) true (M' (by omega)) (qR [] 5 [] λd5 a9 f1 D=>qS 3 [false,false] d j ((((a.n b).n c).n o).n D) (λZ=>Jo Z (by rw[H'];omega) k0 (p.bn.bN k0) (by show _<=p.ae.length;omega)) λb0 f2 l r s q S a0=>qR [] 14 [13,0,2,4,6,8,10,12,0,14,16,18,20,22] λd6 a2 a3 E=>?_);have U:l.ae.n=p.ae.length:=q.ae.num;refine Ct 51 (λV X e L=>e=[(0,pt nb 0),(12,.agg #[iv (p.bn.bN 0:Int),iv (p.bn.bN 1:Int),iv (p.bn.bN 2:Int),iv (p.bn.bN 3:Int),iv (p.bn.bN 4:Int)]),(13,iv (k0:Int))]/\L=[⟨nb,.cells (AG i ob ({ p with bn:={ p.bn with bN:=upN (KZ p i k0) k0 l.ae.n } }) l) 97,.n 0 i,false⟩,⟨ob,.cells #[S3.v r,S3.v s] 67,.n 50 0,false⟩]/\True/\Cg w.heap.size ([.n 0 i]:List Tg) a2 a3 V X) (by kernel_rfl) ?_ ?_
      .intro J hJ;rcases rU h2 with rfl|rfl|rfl|rfl|rfl <;>
       (refine qR [.n 0 i] 3 [24,27,0,1] λd7 b2 f4 a1=>?_;exact qB [true,true] λz u K=>hJ _ _ _ z _ ⟨rfl,rfl,trivial,a1⟩ K)
      rintro b1 f3 _ g3 _ ⟨rfl,rfl,_,F⟩;refine qR [] 2 [] λd8 b3 f5 G=>qV 0 (iv ((k0:Int)+1)) (AU 13 (k0:Int) underlying3 (by omega)) (qR [] 2 [] λd9 b5 f6 H=>qB [false,false] λz u K=>hJ (5-(k0+1)) _ _ _ z _ (by omega) ⟨k0+1,rfl,by omega,rfl,rfl,?_,((((((((((hC.n a).n b).n c).n o).n D).trans a0).n E).trans (F.mono (by simp[TN]))).n G).n H)⟩ K);have A:=(((E.nil ([.n 0 i]:List Tg)).trans (F)).n G).n H;rw[show E6 p i (k0+1)={ p with bn:={ p.bn with bN:=upN (KZ p i k0) k0 l.ae.n } }from by unfold E6;rw[<- cB hx,U],show ls++Dn p i (k0+1)=(ls++Dn p i k0++[{ BJ 5 with src:=i,dst:=k0,bu:=p.bn.bN k0,fv:=p.ae.drop (p.bn.bN k0) }])from by show ls++(Dn p i k0++_)=_;rw[hx,if_pos rfl,mU]];exact⟨l,r,s,u.tM 0 q A,S.ch A (hn:=by simp<;>omega),u.new⟩
     .have hx:MY p i k0=false:=D' (λh=>h4 (by omega));refine qI ((decide ((p.bn.bN k0:Int)<(Y.ae.n:Int)))) false (D' (by omega)) (qR [] 3 [] λe0 b6 f7 I=>qV 0 (iv ((k0:Int)+1)) (AU 13 (k0:Int) underlying3 (by omega)) (qR [] 2 [] λe1 b7 f8 M=>qB [false,false] λz u K=>hJ (5-(k0+1)) _ _ _ z _ (by omega) ⟨k0+1,rfl,by omega,rfl,rfl,?_,((((((hC.n a).n b).n c).n o).n I).n M)⟩ K));rw[show E6 p i (k0+1)={ p with bn:={ p.bn with bN:=KZ p i k0 } }from by unfold E6;rw[Vy hx],show ls++Dn p i (k0+1)=ls++Dn p i k0 from by show ls++(Dn p i k0++_)=_;rw[hx];simp];exact(nsC d j (((((a.n b).n c).n o).n I).n M) u)
    .have hx:MY p i k0=false:=D' (λh=>h.1 (by omega));refine qV 5 (.bool false) (Ix (t:=3) (m:=(k0:Int)) (n:=(i:Int)) (x:=(.tmp 17)) (y:=(.tmp 21)) (by simp;omega)) (qR [] 15 [] λe2 b8 f9 N=>qV 0 (iv ((k0:Int)+1)) (AU 13 (k0:Int) underlying3 (by omega)) (qR [] 2 [] λe3 c0 g0 O=>qB [false,false] λz u K=>hJ (5-(k0+1)) _ _ _ z _ (by omega) ⟨k0+1,rfl,by omega,rfl,rfl,?_,(((((hC.n a).n b).n c).n N).n O)⟩ K));rw[show E6 p i (k0+1)={ p with bn:={ p.bn with bN:=KZ p i k0 } }from by unfold E6;rw[Vy hx],show ls++Dn p i (k0+1)=ls++Dn p i k0 from by show ls++(Dn p i k0++_)=_;rw[hx];simp];exact(nsC d j ((((a.n b).n c).n N).n O) u)
   .refine qI ((decide ((k0:Int)<5))) false (D' (by omega)) (qR [] 1 [] λe4 c2 g2 P=>?_);obtain rfl:k0=5:=by omega
    exact qF d j (a.n P) ((hC.n a).n P)
end
end
section
section
def BU(l:List Vt):Prop:=BR l/\∀ v∈l,0<=v.bu/\v.bu<=39
theorem aU(l:List Vt)(a:Int)(h:BR l)(b:∀ v∈l,a<=v.bu/\v.bu<=39):l.length<=(40-a).toNat:=by
 induction l generalizing a with
 | nil=>exact nB _
 | cons u l ih =>
  obtain⟨d,e⟩:=h;have f:=b u O';have:=ih (u.bu+1) e λv c=>⟨by have:=d v c;omega,(b v (I' _ c)).2⟩;rw[nD];omega
variable{a:Acc}{b:Bal}{l:List Vt}{v:Vt}
theorem BU.len(h:BU l):l.length<=40:=aU l 0 h.1 h.2
theorem BU.nil:BU []:=⟨trivial,λv h=>by cases h⟩
theorem As(h:AX a v=0):Ag a/\Ah v/\¬ v.b.lt a.p:=by
 unfold AX at h;by_cases c:Ag a
 .rw[if_neg (λg=>g c)]at h
  by_cases d:Ah v
  .rw[if_neg (λg=>g d)]at h
   by_cases e:v.b.lt a.p
   .rw[if_pos e]at h;cases h
   .exact⟨c,d,e⟩
  .rw[if_pos d]at h;cases h
 .rw[if_pos c]at h;cases h
theorem Co(h:Cl a b=0):Ag a/\Ab b/\¬ b.lt a.p:=by
 unfold Cl at h;by_cases c:Ag a
 .rw[if_neg (λg=>g c)]at h
  by_cases d:Ab b
  .rw[if_neg (λg=>g d)]at h
   by_cases e:b.lt a.p
   .rw[if_pos e]at h;cases h
   .exact⟨c,d,e⟩
  .rw[if_pos d]at h;cases h
 .rw[if_pos c]at h;cases h
theorem Gz(h:BU l)(b:Ah v):BU (Bp l v) :=
 ⟨JE v h.1,λu a=>by
  rcases(BH h.1).1 a with rfl|⟨h2,_⟩
  .exact b.1
  .exact h.2 u h2⟩
theorem Wo(a:Acc)(l:List Vt)(h:BU a.vs):BU (Dg a l).vs:=by
 induction l generalizing a with
 | nil=>exact h
 | cons v l ih =>
  rw[Dg];refine ih _ ?_;by_cases b:AX a v=0
  .rw[if_pos b];show BU (Bu a v);rw[(DB b).2];exact Gz h (As b).2.1
  .rw[if_neg b];exact h
def POk(k:Nat):Pend->Prop
 | .began b vs=>BU vs
 | .prom to b vs=>to<5/\Ar b/\BU vs
 | .voted to v=>to<5
 | .eo to b=>to<5/\Ar b
 | .prop v=>True
 | .askNews to=>to<5
 | .start=>True
 | .tell to bu=>to<5/\bu<=k
theorem POk.mono{k m:Nat}{q:Pend}(h:POk k q)(a:k<=m):POk m q:=by
 cases q<;>first|exact h|exact⟨h.1,mV h.2 a⟩
def Pend.wt:Pend->Nat
 | .began _ _=>4
 | .prop _=>4
 | .start=>4
 | _=>1
def Az:List Pend->Nat
 | []=>0
 | q::l=>q.wt+Az l
theorem FP(l:List Pend)(q:Pend):Az (l++[q])=Az l+q.wt:=by
 induction l with
 | nil=>simp[Az]
 | cons x l ih=>simp only[List.cons_append,Az,ih];omega
theorem Ei(l:List Pend):l.length<=Az l:=by
 induction l with
 | nil=>exact A' _
 | cons x l ih =>
  rw[Az,nD];have:1<=x.wt:=by cases x<;>simp[Pend.wt]
  omega
structure NOk(n:Nat)(p:Nod):Prop where
 ag:p.ae.length<=40
 dn:p.done<=p.ae.length
 qu:p.bn.fa.length<=40
 wa:p.br.length<=n
 ask:∀ c,(p.cl c).isSome=true->c∈p.br
 ro:0<=p.dT/\p.dT<=65536
 vp:Ar p.vo.p
 vs:BU p.vo.vs
 he:∀ j,BU (p.bn.an j).vs
 pe:∀ q∈p.bw,POk p.ae.length q
structure LOk(l:Let):Prop where
 kd:l.kind<7
 src:l.src<5
 dst:l.dst<5
 gC:Ar l.gC
 vs:BU l.mv
 wh:l.fv.length<=40
 sl:l.kind=5->l.bu+l.fv.length<=40
theorem Ar.b0:Ar Bb:=.inr ⟨rfl,rfl⟩
theorem Ar.um(h:Ar b):0<=b.r/\b.r<=65536/\0<=b.n/\b.n<=4:=by
 rcases h with⟨h1,h2⟩|⟨h1,h2⟩<;>omega
end
section
variable{n:Nat}{p:Nod}
theorem NOk.wait(h:NOk n p){q:Pend}(b:POk p.ae.length q):NOk n (p.wait q) :=
 { h with pe:=λr c=>(U'.1 c).elim (h.pe r) λa=>(G'.1 a)▸b }
theorem NOk.au(h:NOk n p)(b:Bal):NOk n (p.au b).1/\(p.au b).1.bw=p.bw/\(p.au b).1.ae=p.ae/\BU (p.au b).2.1/\((p.au b).2.2=0->Ab b):=by
 unfold Nod.au;by_cases a:Cl p.vo b≠0
 .rw[if_pos a];exact⟨h,rfl,rfl,BU.nil,λg=>absurd g a⟩
 .rw[if_neg a];have c:=Co (nP a);by_cases f:b=p.vo.p
  .rw[if_pos f];exact⟨{ h with vp:=.inl c.2.1,vs:=h.vs },rfl,rfl,h.vs,λ_=>c.2.1⟩
  .rw[if_neg f];by_cases e:CJ p.d p.sy (Ab b) (Bv b)≠0
   .rw[if_pos e];exact⟨h,rfl,rfl,BU.nil,λg=>absurd g e⟩
   .rw[if_neg e];exact⟨{ h with vp:=.inl c.2.1,vs:=h.vs },rfl,rfl,h.vs,λ_=>c.2.1⟩
theorem NOk.cn(h:NOk n p)(v:Vt):NOk n (p.cn v).1/\(p.cn v).1.bw=p.bw/\(p.cn v).1.ae=p.ae/\(p.cn v).1.bn=p.bn:=by
 unfold Nod.cn;by_cases b:AX p.vo v≠0
 .rw[if_pos b];exact⟨h,rfl,rfl,rfl⟩
 .rw[if_neg b];have a:=As (nP b);by_cases c:v∈p.vo.vs
  .rw[if_pos c];exact⟨{ h with vp:=.inl a.2.1.2.1,vs:=Gz h.vs a.2.1 },rfl,rfl,rfl⟩
  .rw[if_neg c];by_cases e:CJ p.d p.sy (Ah v) (Bk v)≠0
   .rw[if_pos e];exact⟨h,rfl,rfl,rfl⟩
   .rw[if_neg e];exact⟨{ h with vp:=.inl a.2.1.2.1,vs:=Gz h.vs a.2.1 },rfl,rfl,rfl⟩
theorem NOk.eo(h:NOk n p){to:Nat}(a:to<5)(e:Int):NOk n (p.eo to e)/\(p.eo to e).ae=p.ae/\Az (p.eo to e).bw<=Az p.bw+1:=by
 unfold Nod.eo;split
 .exact⟨h.wait ⟨a,h.vp⟩,rfl,by show Az (p.bw++[_])<=_;rw[FP];exact A' _⟩
 .exact⟨h,rfl,om _⟩
theorem eE(k:Nat)(r:Rnd)(l:List Cmd)(h:l.length<=40):(FG k r l).length<=40/\l.length<=(FG k r l).length:=by
 induction k generalizing l with
 | zero=>exact⟨h,A' _⟩
 | succ k ih =>
  rw[FG];split
  .rename_i h1
   have a:=Yp h1;have:=ih (l++[CQ r.jv (l.length:Int)]) (by simp;omega);simp at this;exact⟨this.1,by omega⟩
  .exact⟨h,A' _⟩
theorem NOk.grow(h:NOk n p){l:List Cmd}(b:l.length<=40)(a:p.ae.length<=l.length):NOk n { p with ae:=l } :=
 { h with ag:=b,dn:=mV h.dn a,pe:=λq c=>(h.pe q c).mono a }
theorem NOk.rV(h:NOk n p):NOk n p.rV/\p.rV.bw=p.bw/\p.ae.length<=p.rV.ae.length :=
 have:=eE 41 p.bn p.ae h.ag
 ⟨h.grow this.1 this.2,rfl,this.2⟩
theorem NOk.ln(h:NOk n p){bu:Nat}{fv:List Cmd}(a:bu<=p.ae.length)(b:bu+fv.length<=40):NOk n (p.ln bu fv)/\(p.ln bu fv).bw=p.bw/\p.ae.length<=(p.ln bu fv).ae.length:=by
 have c:=h.ag;refine⟨h.grow ?_ ?_,rfl,?_⟩
 .rw[H',nc];omega
 .rw[H'];omega
 .show _<=(p.ae++_).length;rw[H'];omega
theorem cE{α:Type}{f:Nat->α}{P:α->Prop}(h:∀ j,P (f j))(i:Nat){x:α}(a:P x):∀ j,P (upN f i x j):=by
 intro j;unfold upN;split
 .exact a
 .exact h j
theorem NOk.sf(h:NOk n p)(j:Nat){vs:List Vt}(b:BU vs):NOk n { p with bn:=p.bn.sf j vs } :=
 { h with qu:=h.qu,he:=cE (P:=λa:Acc=>BU a.vs) h.he j (Wo _ _ b) }
theorem NOk.count(h:NOk n p)(j:Nat)(v:Vt):NOk n (p.count j v)/\(p.count j v).bw=p.bw/\p.ae.length<=(p.count j v).ae.length:=by
 unfold Nod.count;by_cases d:v.b≠p.bn.gC
 .rw[if_pos d];exact⟨h,rfl,A' _⟩
 .rw[if_neg d];by_cases c:AX (p.bn.an j) v≠0
  .rw[if_pos c];exact⟨h,rfl,A' _⟩
  .rw[if_neg c];have e:=nP c;have:NOk n { p with bn:={ p.bn with an:=upN p.bn.an j ⟨BN (p.bn.an j) v,Bu (p.bn.an j) v⟩ } } :=
    { h with qu:=h.qu,he:=cE (P:=λa:Acc=>BU a.vs) h.he j (by show BU (Bu _ v);rw[(DB e).2];exact Gz (h.he j) (As e).2.1) }
   exact this.rV
theorem NOk.eb(h:NOk n p)(l:List Cmd):NOk n (p.eb l)/\(p.eb l).bw=p.bw/\(p.eb l).ae=p.ae:=by
 unfold Nod.eb;split
 .exact⟨{ h with qu:=dF _ _ h.qu,he:=h.he },rfl,rfl⟩
 .exact⟨h,rfl,rfl⟩
theorem NOk.take(h:NOk n p){l:Let}(a:LOk l):NOk n (p.take l)/\Az (p.take l).bw<=Az p.bw+1/\p.ae.length<=(p.take l).ae.length:=by
 have g:=h.ag;unfold Nod.take;have b:∀ {P:Nod} {q:Pend},P.bw=p.bw->q.wt=1->Az (P.wait q).bw<=Az p.bw+1:=λ{P q} e d=>by
  show Az (P.bw++[q])<=_;rw[FP,e,d];exact A' _
 split
 .have hp:=h.au l.gC;split
  .have:=h.eo a.src (p.au l.gC).2.2;exact⟨this.1,this.2.2,by rw[this.2.1];exact A' _⟩
  .rename_i h1
   exact⟨hp.1.wait ⟨a.src,.inl (hp.2.2.2.2 (nP h1)),hp.2.2.2.1⟩,b hp.2.1 rfl,by show _<=(p.au l.gC).1.ae.length;rw[hp.2.2.1];exact A' _⟩
 .have hk:=h.ln (bu:=0) (fv:=l.fv) (nB _) (by have:=a.wh;omega);simp only;split
  .exact⟨hk.1,by rw[hk.2.1];omega,hk.2.2⟩
  .have h2:=hk.1.sf l.src (vs:=l.mv) a.vs;have f:NOk n { p.ln 0 l.fv with bn:={ (p.ln 0 l.fv).bn.sf l.src l.mv with bN:=upN (p.ln 0 l.fv).bn.bN l.src l.fv.length } }:={ h2 with qu:=h2.qu,he:=h2.he };have c:=f.rV;exact⟨c.1,by rw[c.2.1];show Az (p.ln 0 l.fv).bw<=_;rw[hk.2.1];omega,mV hk.2.2 c.2.2⟩
 .have hr:=h.ro;have i:=a.gC.um;exact⟨{ h with ro:=by show 0<=max p.dT l.gC.r/\max p.dT l.gC.r<=65536;omega },om _,A' _⟩
 .have hp:=h.cn l.cn;split
  .have:=h.eo a.src (p.cn l.cn).2;exact⟨this.1,this.2.2,by rw[this.2.1];exact A' _⟩
  .exact⟨hp.1.wait a.src,b hp.2.1 rfl,by show _<=(p.cn l.cn).1.ae.length;rw[hp.2.2.1];exact A' _⟩
 .have:=h.count l.src l.cn;exact⟨this.1,by rw[this.2.1];omega,this.2.2⟩
 .rename_i hk
  split
  .exact⟨h.wait a.src,b rfl rfl,A' _⟩
  .have:=h.ln (bu:=l.bu) (fv:=l.fv) (by omega) (a.sl hk);exact⟨this.1,by rw[this.2.1];omega,this.2.2⟩
 .have he:=h.eb l.fv;simp only;split
  .rename_i h1
   exact⟨he.1.wait ⟨a.src,pz h1⟩,b he.2.1 rfl,by show _<=(p.eb l.fv).ae.length;rw[he.2.2];exact A' _⟩
  .exact⟨he.1,by rw[he.2.1];omega,by rw[he.2.2];exact A' _⟩
 .exact⟨h,om _,A' _⟩
end
end
section
open Go.RowKit
section
def Gx(l:List Int)(n:Nat):List Int:=l++List.replicate (n-l.length) 0
def IM(l:List Int):List Int:=if 64<l.length then dig l else l
def fk(l:List Int):List Int:=Gx (IM l) 64
def BA(k:List Int)(m:Int):List Int:=k.map λx=>bits .xor .u8 x m
def E7(key b:List Int):List Int:=dig (BA (fk key) 92++dig (BA (fk key) 54++b))
theorem N1(l:List Int)(n:Nat)(h:l.length<=n):(Gx l n).length=n:=by simp[Gx];omega
variable{P:Program}{Q:Exit->Act->World->Prop}{a:Act}{j n:Nat}{l m:List Int}{ops:Array Oper}{w:World}
theorem QE(h:∀ x∈l,0<=x/\x<256)(n:Nat):∀ x∈Gx l n,0<=x/\x<256:=by
 intro x a;rcases U'.1 a with h1|h1
 .exact h x h1
 .rw[List.eq_of_mem_replicate h1];omega
theorem Pw(l:List Int):(IM l).length<=64:=by
 unfold IM;split
 .rw[AB];omega
 .omega
theorem Tj(h:∀ x∈l,0<=x/\x<256):∀ x∈IM l,0<=x/\x<256:=by
 unfold IM;split
 .exact DJ l
 .exact h
theorem Fl(l:List Int):(fk l).length=64:=N1 _ _ (Pw l)
theorem dL(h:∀ x∈l,0<=x/\x<256):∀ x∈fk l,0<=x/\x<256:=QE (Tj h) 64
theorem FH(l:List Int)(m:Int):(BA l m).length=l.length:=by simp[BA]
theorem Mh(h:∀ x∈l,0<=x/\x<256){m:Int}(b:0<=m/\m<256):∀ x∈BA l m,0<=x/\x<256:=by
 intro x c;obtain⟨y,d,rfl⟩:=ny.1 c;have a:=h y d;rw[u8_xor _ _ a.1 a.2 b.1 b.2];have:y.toNat ^^^ m.toNat<256:=qb (n:=8) (by omega) (by omega);omega
theorem DM(k b:List Int):(E7 k b).length=32:=rfl
theorem O7(k b:List Int):∀ x∈E7 k b,0<=x/\x<256:=DJ _
theorem O0:(prog.info? 5).map (·.size)=some 1:=by kernel_rfl
theorem K9(l:List Int):splice ((List.replicate 64 (0:Int)).map (Value.int .u8)) 0 (l.map (Value.int .u8))=(Gx l 64).map (Value.int .u8):=by
 have e:(List.replicate 64 (0:Int)).map (Value.int .u8)=List.replicate 64 (Value.int .u8 0):=qd;rw[e];simp only[splice,Gx,oF,oU,nw,nS,List.drop_replicate,nE,qd]
theorem Jv{b:List Oper}{o:Oper}(f:o.guard=none)(i:TypeId)(x y:Operand)(p:o.op=.store i x y)(g:Nat)(cells:Array Value)(q:a.eval x=.pointer (some ⟨g,0,none⟩))(r:a.eval y=.agg cells)(t:TypeId)(c:Array Value)(j:w.heap[g]?=some (.cells c t (0,0)))(n:(P.info? i).map (·.size)=some cells.size)(d:c.size=cells.size)(l:cells.all (·.oneCell')=true)(B:Nat)(k:World)(m:Below B k w)(e:B<=g)(h:∀ w',w'.heap[g]?=some (.cells cells t (0,0))->Below B k w'->wpList P ops Q b (a.put o.dst undef) w'):wpList P ops Q (o::b) a w :=
 wpList_store_row f i x y p g cells q r t c j n d l (h _ (setRow_heap w g _ _ t _ j) (BV m e _))
theorem Sl.sQ{i:Option Addr}{c:Nat}(h:Sl w (.slice i n c) l)(q:0<l.length):∃ ad,i=some ad/\∀ (j:Nat) (v:Value),(l.map (Value.int .u8))[j]?=some v->w.cell? (ad.add j)=some v:=by
 obtain⟨⟨a,k,e,r,s,m⟩,p,o⟩:=h;simp only[Value.slice.injEq]at e;obtain⟨rfl,rfl,rfl⟩:=e;rcases m with rfl|⟨b,off,rfl,_,hcell⟩
 .simp at q
 .refine⟨_,rfl,λj v g=>?_⟩;have d:j<l.length:=by
   have:=(V'.1 g).1;simpa using this
  have f:(⟨b,off,none⟩:Addr).add j=⟨b,off+j,none⟩:=by unfold Addr.add;split<;>simp_all
  rw[f,hcell j d];simp[List.getElem?_eq_getElem d]at g
  rw[AY d,g]
theorem QG(v:Value)(l:List Int)(w:World)(h:Sl w v l)(K:l.length<=100000)(N:AJ w) :
  Calls prog 145 #[v] w λe w'=>e=.returned (.agg (AT (fk l)))/\Bw w w':=by
 have F:=h;obtain⟨⟨a,H,rfl,Q,R,D⟩,L,z⟩:=h;have P:Hid _:=D;have c:(prog.info? 224).map (·.size)=some (AT (fk l)).size:=by rw[AF,Fl];kernel_rfl
 clear D z;by_cases E:64<l.length
 .have ek:IM l=dig l:=by unfold IM;rw[if_pos E]
  have y:Hid (fk l=Gx (dig l) 64):=by unfold Hid fk;rw[ek]
  clear ek;go_enter func145,ntmps145
  go_wp2_with fail
  generalize i:w.alloc _=W0;have d:Bw w W0:=by rw[<- i];exact(Below.refl _ _).alloc (A' _) _
  have u:W0.heap[w.heap.size]?=some (.cells (AT (List.replicate 64 0)) 224 (0,0)):=by rw[<- i];exact heap_alloc_new _ _
  have C:W0.heap.size=w.heap.size+1:=by rw[<- i];simp
  clear i;refine(FC _ l W0 (F.af d) K (N.af d)).mono ?_;rintro e j ⟨S,rfl,o,m⟩;obtain⟨I,c1,O,A,B,J,n,_⟩:=Eu o (FK (AB l));subst O;have p:j.heap[w.heap.size]?=some (.cells (AT (List.replicate 64 0)) 224 (0,0)):=(m.block _ (by omega)).trans u;have t:Bw w j:=d.trans (m.mono d.size);have x:w.heap.size<j.heap.size:=(Q'.1 p).1;have G:Sl j (.slice (some ⟨I,0,none⟩) (dig l).length c1) (dig l):=Sl.nr o (by rw[AB];omega) (DJ l);go_wp2_with (refine wpList_copy_splice rfl _ _ 34 34 rfl 5 underlying34 O0 _ _ _ _ _ _ rfl rfl j.heap.size 0 ((List.replicate 64 (0:Int)).map (Value.int .u8)) 224 (heap_alloc_new _ _) ((dig l).map (Value.int .u8)) (by rw[nw,AB];rfl) (λ_=>⟨rfl,(G.af ((Below.refl _ _).alloc (A' _) _)).sQ (by rw[AB];omega)⟩) (by rw[nw,AB];simp) (Fo _) j.heap.size _ (Below.refl _ _) (A' _) ?_)
  intro g r b;have q:g.heap[j.heap.size]?=some (.cells (AT (fk l)) 224 (0,0)):=by
   have s:g.heap[j.heap.size]?=some (.cells (splice ((List.replicate 64 (0:Int)).map (Value.int .u8)) 0 ((dig l).map (Value.int .u8))).toArray 224 (0,0)):=r.out;rw[K9]at s
   rw[y.out];exact s
  have k:Bw w g:=(t.alloc t.size _).trans (b.mono (by omega));have f:g.heap[w.heap.size]?=some (.cells (AT (List.replicate 64 0)) 224 (0,0)):=by
   rw[b.block _ x,heap_alloc_old _ _ x];exact p
  clear r b p u C d m n o G B A;go_wp2_with (first|(refine wpList_load_row rfl 224 _ rfl j.heap.size rfl 224 _ (0,0) _ q underlying224 rfl c ?_)|(refine wpList_store_row rfl 224 _ _ rfl w.heap.size _ rfl rfl 224 _ f c (by rw[AF,AF,Fl];rfl) (L3 _) ?_))
  refine bodyPost_ret (v:=.agg (AT (fk l))) (results_cell_row rfl _ _ w.heap.size 224 _ (0,0) _ rfl (setRow_heap g w.heap.size _ _ 224 _ f) underlying224 rfl c) rfl ⟨rfl,BV k (A' _) _⟩
 .have ek:IM l=l:=by unfold IM;rw[if_neg E]
  have y:Hid (fk l=Gx l 64):=by unfold Hid fk;rw[ek]
  clear ek;go_enter func145,ntmps145
  go_wp2_with (refine wpList_copy_splice rfl _ _ 34 34 rfl 5 underlying34 O0 _ _ _ _ _ _ rfl rfl (w.heap.size+1) 0 ((List.replicate 64 (0:Int)).map (Value.int .u8)) 224 (heap_alloc2_new _ _ _) (l.map (Value.int .u8)) (by rw[nw];exact(oG (show l.length<=64 by omega)).symm) (λM=>⟨rfl,(F.af (((Below.refl _ _).alloc (A' _) _).alloc (by simp) _)).sQ (by simpa using M)⟩) (by rw[nw,nw,oT];omega) (Fo _) (w.heap.size+1) _ (Below.refl _ _) (A' _) ?_)
  intro g r b;have q:g.heap[w.heap.size+1]?=some (.cells (AT (fk l)) 224 (0,0)):=by
   have s:g.heap[w.heap.size+1]?=some (.cells (splice ((List.replicate 64 (0:Int)).map (Value.int .u8)) 0 (l.map (Value.int .u8))).toArray 224 (0,0)):=r.out;rw[K9]at s
   rw[y.out];exact s
  have k:Bw w g:=(((Below.refl _ _).alloc (A' _) _).alloc (by simp) _).trans (b.mono (by omega));have f:g.heap[w.heap.size]?=some (.cells (AT (List.replicate 64 0)) 224 (0,0)):=by
   rw[b.block _ (by omega)];exact heap_alloc2_old _ _ _
  clear r b;go_wp2_with (first|(refine wpList_load_row rfl 224 _ rfl (w.heap.size+1) rfl 224 _ (0,0) _ q underlying224 rfl c ?_)|(refine wpList_store_row rfl 224 _ _ rfl w.heap.size _ rfl rfl 224 _ f c (by rw[AF,AF,Fl];rfl) (L3 _) ?_))
  refine bodyPost_ret (v:=.agg (AT (fk l))) (results_cell_row rfl _ _ w.heap.size 224 _ (0,0) _ rfl (setRow_heap g w.heap.size _ _ 224 _ f) underlying224 rfl c) rfl ⟨rfl,BV k (A' _) _⟩
theorem ej(l:List Int)(d:l.length=64)(j:Nat)(c:j<64):∀ w,(Instr.index 224 (.agg (AT l)) (.int .i64 (j:Int))).run prog w=.ok (.int .u8 (l.getD j 0)) w:=by
 intro w;have b:(AT l)[j]?=some (.int .u8 (l.getD j 0)):=by
  simp[AT,List.getElem?_eq_getElem (show j<l.length by omega),List.getD]
 have a:(0:Int)<=j/\(j:Int)<64:=by omega
 simp[Instr.index,run_underlying underlying224,asIntOf,a,part,b];intro h;omega
theorem Mi(k:List Int)(m:Int)(w:World)(q:k.length=64)(I:0<=m/\m<256)(K:∀ x∈k,0<=x/\x<256) :
  Calls prog 147 #[.agg (AT k),.int .u8 m] w λe w'=>∃ v',e=.returned v'/\w'.ownsRow w.heap.size 5 1 v' (BA k m).length ((BA k m).map (Value.int .u8))/\Bw w w':=by
 obtain⟨M,L,C,D,E⟩:=info_parts Aw;have B:(prog.info? 224).map (·.size)=some (AT k).size:=by rw[AF,q];kernel_rfl
 have u:Hid (k.length=64):=q;clear q;go_enter func147,ntmps147
 go_wp2_with (at_make;refine wpList_make_own _ rfl _ _ 34 rfl w.heap.size 5 M (.int .u8 0) 1 underlying34 L C D _ _ _ 64 rfl rfl (by omega) (by rw[E];omega) (by unfold maxLen;omega) (by simp) ?_)
 intro F t h;have o:Bw w F:=((Below.refl _ _).alloc (A' _) _).grown h (by simp) (by simp);have g:F.heap[w.heap.size]?=some (.cells (AT k) 224 (0,0)):=by
  rw[h.block w.heap.size (by simp) (by simp)];exact heap_alloc_new _ _
 have f:F.ownsRow w.heap.size 5 1 (.slice (some ⟨w.heap.size+1,0,none⟩) 0 64) (BA (k.take 0) m).length ((BA (k.take 0) m).map (Value.int .u8)):=t;clear t h;go_wp2_with (refine wpList_load_row rfl 224 _ rfl w.heap.size rfl 224 _ (0,0) _ g underlying224 rfl B ?_)
 go_loopw [5,10] (λv i wr=>∃ j:Nat,j<=64/\i=.int .i64 j/\wr.ownsRow w.heap.size 5 1 v (BA (k.take j) m).length ((BA (k.take j) m).map (Value.int .u8))/\Bw w wr) (λ_ i _=>64-(intOf i).toNat)
 case atStart=>exact⟨0,by omega,rfl,f,o⟩
 case round =>
  clear f o g;obtain⟨j,N,rfl,a,b⟩:=hrel;have s:=a.lt;by_cases d:j<64
  .have hix:=ej k u.out j d;have r:(BA (k.take j) m).length<=64:=by rw[FH,X'];omega
   have y:Hid (BA (k.take (j+1)) m=BA (k.take j) m++[bits .xor .u8 (k.getD j 0) m]):=by
    unfold Hid;have p:j<k.length:=by rw[u.out];exact d
    rw[nv p,AY p,BA,nE];rfl
   have c:=Aj K j;have l:0<=bits .xor .u8 (k.getD j 0) m/\bits .xor .u8 (k.getD j 0) m<256:=by
    rw[u8_xor _ _ c.1 c.2 I.1 I.2];have:(k.getD j 0).toNat ^^^ m.toNat<256:=qb (n:=8) (by omega) (by omega);omega
   have G:Hid (0<=bits .xor .u8 (k.getD j 0) m/\bits .xor .u8 (k.getD j 0) m<256):=l;generalize BA (k.take j) m=pre at a y r;generalize k.getD j 0=x at hix y c l G;clear l c;go_wp2_with (at_builtin;refine Aa _ rfl _ _ 34 rfl w.heap.size 5 underlying34 Aw _ _ rfl rfl pre _ (a.alloc _) (Sl.one _ _ _ rfl G.out) (by simp;omega) (by have:=b.size;simp;omega) ?_)
   intro v' w' J H;have A:w'.ownsRow w.heap.size 5 1 v' (pre++[bits .xor .u8 x m]).length ((pre++[bits .xor .u8 x m]).map (Value.int .u8)):=by simpa using J
   have z:Bw w w':=(b.alloc b.size _).grown H (by have:=b.size;simp;omega) (λk q=>(s k q).1);clear J H a s b;go_wp2
   go_roundw
   case rel=>exact⟨j+1,by omega,by go_num,by rw[y.out];exact A,z⟩
   case measure=>simp[intOf];omega
  .have HJ:Hid (k.take j=k):=by unfold Hid;exact np (by rw[u.out];omega)
   go_wp2
   go_ret;refine⟨u5,rfl,?_,b⟩;rw[HJ.out]at a
   exact a
theorem P0(vk vb:Value)(k b:List Int)(w:World)(C:Sl w vk k)(hb:Sl w vb b)(Z:k.length<=100000)(a3:b.length<=90000)(ht:AJ w) :
  Calls prog 114 #[vk,vb] w λe w'=>∃ v',e=.returned v'/\Fresh w w' v' (E7 k b):=by
 have n:(prog.info? 224).map (·.size)=some (AT (fk k)).size:=by rw[AF,Fl];kernel_rfl
 have d:=dL C.byte;have c:=Fl k;have F:Hid (E7 k b=dig (BA (fk k) 92++dig (BA (fk k) 54++b))):=rfl;go_enter func114,ntmps114
 go_wp2_with fail
 refine(QG vk k w C Z ht).mono ?_;rintro e R ⟨rfl,v⟩;generalize fk k=K at n d c F ⊢;go_wp2_with (refine Jv rfl 224 _ _ rfl R.heap.size _ rfl rfl 224 _ (heap_alloc_new _ _) n (by rw[AF,c];rfl) (L3 _) w.heap.size w (v.alloc v.size _) v.size ?_)
 intro E g a;have hz:R.heap.size<E.heap.size:=(Q'.1 g).1;go_wp2_with (refine wpList_load_row rfl 224 _ rfl R.heap.size rfl 224 _ (0,0) _ g underlying224 rfl n ?_)
 refine(Mi K 54 E c (by omega) d).mono ?_;rintro e w3 ⟨v3,rfl,z,j⟩;have U:Bw w w3:=a.trans (j.mono a.size);have p:=z.lt;have s:(BA K 54).length=64:=by rw[FH,c]
 have t:(BA K 92).length=64:=by rw[FH,c]
 have G:=Mh d (m:=54) (by omega);have H:=Mh d (m:=92) (by omega);go_wp2_with (at_builtin;refine Aa _ rfl _ _ 34 rfl E.heap.size 5 underlying34 Aw _ _ rfl rfl (BA K 54) b z (hb.af U) (by omega) j.size ?_)
 intro v4 S O M;have y:Bw E S:=j.grown M j.size (λk C=>(p k C).1);have V:Bw w S:=a.trans (y.mono a.size);have f:S.ownsRow E.heap.size 5 1 v4 (BA K 54++b).length ((BA K 54++b).map (Value.int .u8)):=by simpa[s]using O
 have I:∀ x∈BA K 54++b,0<=x/\x<256:=λx hx=>by
  rcases U'.1 hx with h|h
  .exact G x h
  .exact hb.byte x h
 have a1:(BA K 54++b).length<=91000:=by rw[H',s];omega
 clear O M z p;generalize BA K 54++b=L4 at f I a1 F;go_wp2_with fail
 refine(FC v4 L4 S (Sl.nr f (by omega) I) (by omega) (ht.af V)).mono ?_;rintro e u ⟨v5,rfl,P,W⟩;have o:Bw E u:=y.trans (W.mono y.size);have s5:Sl u v5 (dig L4):=Sl.nr P (by rw[AB];omega) (DJ L4);have l5:=AB L4;have y5:=DJ L4;generalize dig L4=D at s5 F l5 y5;have B:u.heap[R.heap.size]?=some (.cells (AT K) 224 (0,0)):=(o.block _ hz).trans g;clear f P;go_wp2_with (refine wpList_load_row rfl 224 _ rfl R.heap.size rfl 224 _ (0,0) _ B underlying224 rfl n ?_)
 refine(Mi K 92 u c (by omega) d).mono ?_;rintro e w6 ⟨v6,rfl,A,l⟩;have q:=A.lt;go_wp2_with (at_builtin;refine Aa _ rfl _ _ 34 rfl u.heap.size 5 underlying34 Aw _ _ rfl rfl (BA K 92) D A (s5.af l) (by omega) l.size ?_)
 intro v7 T Q N;have X:Bw u T:=l.grown N l.size (λk C=>(q k C).1);have L:Bw w u:=a.trans (o.mono a.size);have i:Bw w T:=L.trans (X.mono L.size);have r:T.ownsRow u.heap.size 5 1 v7 (BA K 92++D).length ((BA K 92++D).map (Value.int .u8)):=by simpa[t,l5]using Q
 have J:∀ x∈BA K 92++D,0<=x/\x<256:=λx hx=>by
  rcases U'.1 hx with h|h
  .exact H x h
  .exact y5 x h
 have a2:(BA K 92++D).length<=96:=by rw[H',t];omega
 clear Q N A q;generalize BA K 92++D=L7 at r J a2 F;go_wp2_with fail
 refine(FC v7 L7 T (Sl.nr r (by omega) J) (by omega) (ht.af i)).mono ?_;rintro e w8 ⟨v8,rfl,a0,Y⟩;go_wp2
 go_ret;refine⟨v8,rfl,?_⟩;rw[F.out];exact Fresh.nr (Bf a0 i.size) (FK (AB L7)) (by rw[AB];omega) (DJ L7) (i.trans (Y.mono i.size))
theorem gZ(m l:Value)(k b:List Int)(w:World)(i:Sl w m k)(h:Sl w l b)(q:k.length<=256)(o:b.length<=2000)(t:AJ w) :
  Calls prog 112 #[m,l] w λe w'=>∃ v',e=.returned (.tuple #[v',.int .i64 0])/\Fresh w w' v' (E7 k b):=by
 have s:=i;have f:=h;obtain⟨⟨a,n,rfl,_,_,_⟩,r,d⟩:=i;obtain⟨⟨v,g,rfl,_,_,_⟩,j,c⟩:=h;clear d c;go_enter func112,ntmps112
 go_wp2_with fail
 refine(P0 _ _ k b w s f (by omega) (by omega) t).mono ?_;rintro e x ⟨u,rfl,p⟩;go_wp2
 go_ret2
 exact⟨u,rfl,p⟩
theorem P5(L M:Value)(a i:List Int)(c:Int)(w:World)(H:Sl w L a)(I:Sl w M i)(S:a.length<=1000)(U:i.length<=1000)(T:0<=c/\c<256) :
  Calls prog 144 #[L,M,.int .u8 c] w λe w'=>∃ v',e=.returned v'/\w'.ownsRow w.heap.size 5 1 v' (a++i++[c]).length ((a++i++[c]).map (Value.int .u8))/\Bw w w':=by
 obtain⟨X,A,D,E,F⟩:=info_parts Aw;have W:=H;have C:=I;obtain⟨⟨aa,R,rfl,_,_,_⟩,V,z⟩:=H;obtain⟨⟨a2,G,rfl,_,_,_⟩,J,n⟩:=I;clear z n;go_enter func144,ntmps144
 go_wp2_with (at_make;refine wpList_make_own _ rfl _ _ 34 rfl w.heap.size 5 X (.int .u8 0) 1 underlying34 A D E _ _ _ (a.length+i.length+1) rfl rfl (by omega) (by rw[F];omega) (by unfold maxLen;omega) (A' _) ?_)
 intro N s o;have b:Bw w N:=(Below.refl _ _).grown o (A' _) (by simp);have m:N.ownsRow w.heap.size 5 1 (.slice (some ⟨w.heap.size,0,none⟩) 0 (a.length+i.length+1)) ([]:List Int).length (([]:List Int).map (Value.int .u8)):=s;clear s o;go_wp2_with (at_builtin;refine Aa _ rfl _ _ 34 rfl w.heap.size 5 underlying34 Aw _ _ rfl rfl [] a m (W.af b) (by simp;omega) b.size ?_)
 intro Y O t p;have g:O.ownsRow w.heap.size 5 1 Y a.length (a.map (Value.int .u8)):=by simpa using t
 have d:Bw w O:=b.grown p b.size (by simp[Value.ownBlock]);have j:=g.lt;clear m p b t;go_wp2_with (at_builtin;refine Aa _ rfl _ _ 34 rfl w.heap.size 5 underlying34 Aw _ _ rfl rfl a i g (C.af d) (by omega) d.size ?_)
 intro Z P u q;have h:P.ownsRow w.heap.size 5 1 Z (a++i).length ((a++i).map (Value.int .u8)):=by simpa using u
 have f:Bw w P:=d.grown q d.size (λk B=>(j k B).1);have l:=h.lt;clear g q d u j;go_wp2_with (at_builtin;refine Aa _ rfl _ _ 34 rfl w.heap.size 5 underlying34 Aw _ _ rfl rfl (a++i) [c] (h.alloc _) (Sl.one _ _ _ rfl T) (by simp;omega) (by have:=f.size;simp;omega) ?_)
 intro K Q v r;have x:Q.ownsRow w.heap.size 5 1 K (a++i++[c]).length ((a++i++[c]).map (Value.int .u8)):=by simpa using v
 have y:Bw w Q:=(f.alloc f.size _).grown r (by have:=f.size;simp;omega) (λk B=>(l k B).1);clear h r f v l;go_wp2
 go_ret;exact⟨K,rfl,x,y⟩
theorem Sl.grown{m:World}{b c d:Nat}{row:Option Nat}(h:Sl w (.slice (some ⟨b,c,none⟩) n d) l)(k:w.grownBy m row)(j:some b≠row):Sl m (.slice (some ⟨b,c,none⟩) n d) l:=by
 obtain⟨⟨a,f,e,q,s,g⟩,o,p⟩:=h;refine⟨⟨a,f,e,q,s,?_⟩,o,p⟩;simp only[Value.slice.injEq]at e;obtain⟨rfl,_,_⟩:=e;rcases g with g|⟨b',off',e',hbs,hcell⟩
 .exact .inl g
 .simp only[Y',Addr.mk.injEq,and_true]at e';obtain⟨rfl,rfl⟩:=e';refine .inr ⟨b,c,rfl,j' hbs k.size,λi r=>?_⟩;rw[<- hcell i r];exact World.cell?_of_block (w:=w) (k.block b hbs j)
def blk(key info:List Int):Nat->List Int
 | 0=>[]
 | i+1=>E7 key (blk key info i++info++[(i:Int)+1])
def Br(key info:List Int):Nat->List Int
 | 0=>[]
 | i+1=>Br key info i++blk key info (i+1)
def Gv(key info:List Int)(n:Nat):List Int:=(Br key info 16).take n
theorem Ig(key a:List Int)(i:Nat):(blk key a (i+1)).length=32:=DM _ _
theorem Ye(key a:List Int)(i:Nat):∀ x∈blk key a i,0<=x/\x<256:=by
 cases i with
 | zero=>intro x b;cases b
 | succ i=>exact O7 _ _
theorem ix(key a:List Int)(i:Nat):(blk key a i).length<=32:=by
 cases i with
 | zero=>simp[blk]
 | succ i=>rw[Ig];omega
theorem CT(key a:List Int)(i:Nat):(Br key a i).length=32*i:=by
 induction i with
 | zero=>rfl
 | succ i ih=>rw[Br,H',ih,Ig];omega
theorem RE(key a:List Int)(i:Nat):∀ x∈Br key a i,0<=x/\x<256:=by
 induction i with
 | zero=>intro x b;cases b
 | succ i ih =>
  intro x b;rcases U'.1 b with h|h
  .exact ih x h
  .exact Ye key a (i+1) x h
theorem RF(key a:List Int)(n i j:Nat)(b:n<=32*i):(Br key a (i+j)).take n=(Br key a i).take n:=by
 induction j with
 | zero=>rfl
 | succ j ih=>rw[<- oe,Br,nJ (by rw[CT];omega),ih]
theorem VX(key a:List Int)(n i:Nat):(Br key a (i+1)).take n=(Br key a i).take n++(blk key a (i+1)).take (n-32*i):=by
 rw[Br,List.take_append,CT]
theorem SP(vk vi:Value)(k i:List Int)(n:Nat)(w:World)(hk:Sl w vk k)(hi:Sl w vi i)(a9:k.length<=1000)(a8:i.length<=900)(hn:n<=512)(ht:AJ w) :
  Calls prog 113 #[vk,vi,.int .i64 n] w λe w'=>∃ v',e=.returned v'/\w'.ownsRow w.heap.size 5 1 v' (Gv k i n).length ((Gv k i n).map (Value.int .u8))/\Bw w w':=by
 obtain⟨i0,Z,a2,a3,a4⟩:=info_parts Aw;go_enter func113,ntmps113
 go_wp2_with (at_make;refine wpList_make_own _ rfl _ _ 34 rfl w.heap.size 5 i0 (.int .u8 0) 1 underlying34 Z a2 a3 _ _ _ n rfl rfl (by omega) (by rw[a4];omega) (by unfold maxLen;omega) (A' _) ?_)
 intro w1 J I;have H:Bw w w1:=(Below.refl _ _).grown I (A' _) (by simp);have y:w1.ownsRow w.heap.size 5 1 (.slice (some ⟨w.heap.size,0,none⟩) 0 n) ((Br k i 0).take n).length (((Br k i 0).take n).map (Value.int .u8)):=by simpa[Br]using J
 clear J I;go_wp2_with fail
 go_loopw [7,8,9] (λv b c wr=>∃ j:Nat,j<=16/\c=.int .u8 ((j:Int)+1)/\(∃ m z,v=.slice (some ⟨m,0,none⟩) (min (32*j) n) z)/\Sl wr b (blk k i j)/\wr.ownsRow w.heap.size 5 1 v ((Br k i j).take n).length (((Br k i j).take n).map (Value.int .u8))/\Bw w wr) (λ_ _ c _=>(17-intOf c).toNat)
 case atStart=>exact⟨0,by omega,rfl,⟨w.heap.size,n,by simp⟩,Sl.nil _ _,y,H⟩
 case round =>
  clear y H;obtain⟨j,hj,rfl,⟨m,z,rfl⟩,sb,f,V⟩:=hrel;have B:=f.lt;by_cases hc:32*j<n
  .have d:min (32*j) n=32*j:=by omega
   rw[d]at f B ⊢
   have a0:m<wr.heap.size:=(B m rfl).2;have l:((Br k i j).take n).length=32*j:=by rw[X',CT];omega
   have a7:=ix k i j;have a5:j<=15:=by omega
   have HB:Hid (blk k i (j+1)=E7 k (blk k i j++i++[(j:Int)+1])):=rfl;have HS:=VX k i n j;have E:Hid _:=HS;have yb:∀ x∈blk k i j++i++[(j:Int)+1],0<=x/\x<256:=λx hx=>by
    rcases U'.1 hx with h|h
    .rcases U'.1 h with h|h
     .exact sb.byte x h
     .exact hi.byte x h
    .obtain rfl:x=(j:Int)+1:=by simpa using h
     omega
   clear HS d;go_wp2_with fail
   refine(P5 _ vi (blk k i j) i ((j:Int)+1) wr sb (hi.af V) (by omega) (by omega) (by omega)).mono ?_;rintro e w2 ⟨v2,rfl,K,a⟩;have s:Bw w w2:=V.trans (a.mono V.size);have l2:(blk k i j++i++[(j:Int)+1]).length<=2000:=by simp;omega
   have s2:=Sl.nr K (by omega) yb;go_wp2_with fail
   refine(P0 vk v2 k _ w2 (hk.af s) s2 (by omega) (by omega) (ht.af s)).mono ?_;rintro e R ⟨v3,rfl,F⟩;rw[<- HB.out]at F
   obtain⟨T,S,N,_,Y⟩:=F.shape;have s3:=F.sl;have o:=F.se;have l3:=Ig k i j;rw[l3]at N Y
   subst N;clear HB F s2 K l2 yb sb;have a1:=f;have g:R.ownsRow w.heap.size 5 1 (.slice (some ⟨m,0,none⟩) (32*j) z) ((Br k i j).take n).length (((Br k i j).take n).map (Value.int .u8)):=by
    refine f.kept (row:=none) ⟨(a.trans (o.mono a.size)).os,(a.trans (o.mono a.size)).tape,(a.trans (o.mono a.size)).output,(a.trans (o.mono a.size)).size,λq hq _=>(a.trans (o.mono a.size)).block q hq⟩ (.inr (by simp[Value.ownBlock]))
   have t:Bw w R:=s.trans (o.mono s.size);have p:=g.lt;have C:Hid ((Br k i (j+1)).take n=(Br k i j).take n++(blk k i (j+1)).take (n-32*j)):=E.out;clear E a1 f B;have U:((blk k i (j+1)).take (n-32*j)).length=min (n-32*j) 32:=by rw[X',l3]
   have sM:Sl R (.slice (some ⟨T,0,none⟩) (min (n-32*j) 32) S) ((blk k i (j+1)).take (n-32*j)):=by
    by_cases hq:n-32*j<=32
    .rw[oG hq];exact s3.take (n-32*j) (by omega)
    .rw[Nat.min_eq_right (by omega),np (by omega)];exact s3
   have HN:=s3;have u:((Br k i (j+1)).take n).length=min (32*(j+1)) n:=by rw[X',CT];omega
   have D:Hid (((Br k i (j+1)).take n).length=min (32*(j+1)) n):=u;clear HN u;generalize (blk k i (j+1)).take (n-32*j)=M at sM U C;generalize (Br k i j).take n=P at g p l C;have SB:Sl R (.slice (some ⟨T,0,none⟩) 32 S) (blk k i (j+1)):=s3;clear s3;have d:(min (32:Int) ((n:Int)-32*(j:Int))).toNat=min (n-32*j) 32:=by omega
   have Q:Sl R (.slice (some ⟨T,0,none⟩) (min (32:Int) ((n:Int)-32*(j:Int))).toNat S) M:=by rw[d];exact sM
   have a6:m<w2.heap.size:=j' a0 a.size;clear d sM;go_wp2_with (at_builtin;refine Aa _ rfl _ _ 34 rfl w.heap.size 5 underlying34 Aw _ _ rfl rfl P M g Q (by omega) t.size ?_)
   intro v4 w4 L A;have r:w4.ownsRow w.heap.size 5 1 v4 (P++M).length ((P++M).map (Value.int .u8)):=by simpa[l,U]using L
   have X:Bw w w4:=t.grown A t.size (λk hk=>(p k hk).1);have W:Sl w4 (.slice (some ⟨T,0,none⟩) 32 S) (blk k i (j+1)):=SB.grown A (by simp[Value.ownBlock];omega);obtain⟨g4,c4,O,_,_,_,_,_⟩:=Eu r (by intro e;have:=congrArg List.length e;rw[H',l,U]at this;simp at this;omega);have G:(P++M).length=min (32*(j+1)) n:=by rw[<- C.out];exact D.out
   rw[<- C.out]at r
   rw[G]at O
   subst O;clear L A g p t SB Q U C D G l;go_wp2
   go_roundw
   case rel=>exact⟨j+1,by omega,by go_num,⟨g4,c4,rfl⟩,W,r,X⟩
   case measure=>simp[intOf];omega
  .have d:min (32*j) n=n:=by omega
   rw[d]at f ⊢
   have HQ:Hid (Gv k i n=(Br k i j).take n):=by
    unfold Hid Gv;have:=RF k i n j (16-j) (by omega);rw[show j+(16-j)=16 by omega]at this
    exact this
   go_wp2
   go_ret;refine⟨_,rfl,?_,V⟩;rw[HQ.out];exact f
theorem IF(k i:List Int)(n:Nat)(h:n<=512):(Gv k i n).length=n:=by
 unfold Gv;rw[X',CT];omega
theorem LK(k i:List Int)(n:Nat):∀ x∈Gv k i n,0<=x/\x<256:=λx a=>RE k i 16 x (nu a)
theorem Uy(o f g:Value)(a b d:List Int)(n:Nat)(w:World)(j:Sl w o a)(k:Sl w f b)(l:Sl w g d)(p:a.length<=256)(q:b.length<=256)(r:d.length<=256)(s:n<=512)(m:AJ w) :
  Calls prog 75 #[o,f,g,.int .i64 n] w λe w'=>∃ v',e=.returned (.tuple #[v',.int .i64 0])/\w'.ownsRow w.heap.size 5 1 v' (Gv (E7 b a) d n).length ((Gv (E7 b a) d n).map (Value.int .u8))/\Bw w w':=by
 have s0:=j;have t:=k;have u:=l;obtain⟨⟨a0,c0,rfl,_,_,_⟩,_,_⟩:=j;obtain⟨⟨x,c1,rfl,_,_,_⟩,_,_⟩:=k;obtain⟨⟨y,z,rfl,_,_,_⟩,_,_⟩:=l;have A:decide ((256:Int)<(a.length:Int))=false:=by simp;omega
 have B:decide ((256:Int)<(b.length:Int))=false:=by simp;omega
 have C:decide ((256:Int)<(d.length:Int))=false:=by simp;omega
 have D:decide ((n:Int)<0)=false:=by simp
 have E:decide ((512:Int)<(n:Int))=false:=by simp;omega
 go_enter func75,ntmps75
 go_wp2_with fail
 refine(P0 _ _ b a w t s0 (by omega) (by omega) m).mono ?_;rintro e v ⟨f,rfl,c⟩;have F:=DM b a;go_wp2_with fail
 refine(SP f _ (E7 b a) d n v c.sl (u.af c.se) (by omega) (by omega) s (m.af c.se)).mono ?_;rintro e G ⟨g,rfl,i,h⟩;go_wp2
 go_ret2
 exact⟨g,rfl,Bf i c.se.size,c.se.trans (h.mono c.se.size)⟩
def Hq(c:Int):List Int:=Gv (E7 [99,108,105,101,110,116] [c]) [] 32
def Hp:List Int:=Gv (E7 [105,115,115,117,101,114] [255]) [] 32
theorem G0(c:Int):(Hq c).length=32:=IF _ _ 32 (by omega)
theorem Km:Hp.length=32:=IF _ _ 32 (by omega)
theorem Wv(c:Int):∀ x∈Hq c,0<=x/\x<256:=LK _ _ _
theorem Wr:∀ x∈Hp,0<=x/\x<256:=LK _ _ _
theorem Sl.uh(w:World)(l:List Int)(e:TypeId)(fr:Nat × Nat){g:Nat}(b:g=w.heap.size)(d:l.length=6)(a:∀ x∈l,0<=x/\x<256):Sl (w.alloc (.cells (l.map (Value.int .u8)).toArray e fr)) (.slice (some ⟨g,0,none⟩) 6 6) l:=by
 subst b;refine⟨⟨_,6,by rw[d],by omega,by simp,.inr ⟨w.heap.size,0,rfl,by simp,λi c=>?_⟩⟩,by omega,a⟩;rw[cell_of_row _ _ (0+i) _ _ _ (heap_alloc_new w _)];simp[List.getElem?_eq_getElem c,List.getD]
def GZ(t:Nat)(x:Int):Int:=if t%4=3 then x%16 else if t%4=0/\0<t then x/4*4 else x
def DP(l:List Int):List Int:=(List.range 16).map λt=>GZ t (l.getD t 0)
theorem Nv(l:List Int):(DP l).length=16:=by simp[DP]
theorem Su(l:List Int)(t:Nat)(h:t<16):(DP l).getD t 0=GZ t (l.getD t 0):=by
 simp[DP,List.getD,List.getElem?_map,List.getElem?_range h]
theorem Ph(t:Nat){x:Int}(h:0<=x/\x<256):0<=GZ t x/\GZ t x<256:=by
 unfold GZ;split
 .omega
 .split<;>omega
theorem Qu(h:∀ x∈l,0<=x/\x<256):∀ x∈DP l,0<=x/\x<256:=by
 intro x a;obtain⟨t,_,rfl⟩:=ny.1 a;exact Ph t (Aj h t)
theorem SN(h:l.length=m.length)(c:∀ t,t<l.length->l.getD t 0=m.getD t 0):l=m:=by
 apply pa h;intro t a b;have:=c t a
 rwa [AY a,AY b]at this
theorem ki(x:Int)(a:0<=x)(b:x<256):bits .and .u8 x 15=x%16:=by
 obtain⟨n,rfl⟩:=nL a;rw[show(15:Int)=((15:Nat):Int)from rfl,u8_and_nat _ _ (by omega) (by omega),show(15:Nat)=2^4-1 from rfl,qy];omega
theorem Se:∀ n:Fin 256,n.val &&& 252=n.val/4*4:=by decide +kernel
theorem il(x:Int)(a:0<=x)(b:x<256):bits .and .u8 x 252=x/4*4:=by
 obtain⟨n,rfl⟩:=nL a;have e:n &&& 252=n/4*4:=Se ⟨n,by omega⟩;rw[show(252:Int)=((252:Nat):Int)from rfl,u8_and_nat _ _ (by omega) (by omega),e];omega
structure Upper(l m:List Int)(j:Nat):Prop where
 len:m.length=16
 at_:∀ t,m.getD t 0=if t%4=3/\t<3+4*j then l.getD t 0%16 else l.getD t 0
theorem Upper.zero(h:l.length=16):Upper l l 0:=by
 refine⟨h,λt=>?_⟩;rw[if_neg (by omega)]
theorem Upper.succ(h:Upper l m j)(a:j<4):Upper l (m.set (3+4*j) (m.getD (3+4*j) 0%16)) (j+1):=by
 refine⟨by simpa using h.len,λt=>?_⟩;by_cases e:3+4*j=t
 .subst e;rw[AM (by rw[h.len];omega),h.at_,if_neg (by omega),if_pos (by omega)]
 .rw[AC e,h.at_];by_cases c:t%4=3/\t<3+4*j
  .rw[if_pos c,if_pos (by omega)]
  .rw[if_neg c,if_neg (by omega)]
structure Lower(l m:List Int)(j:Nat):Prop where
 len:m.length=16
 at_:∀ t,t<16->m.getD t 0=if t%4=3 then l.getD t 0%16 else if t%4=0/\0<t/\t<4+4*j then l.getD t 0/4*4 else l.getD t 0
theorem Upper.lower(h:Upper l m 4):Lower l m 0:=by
 refine⟨h.len,λt a=>?_⟩;rw[h.at_];by_cases c:t%4=3
 .rw[if_pos (by omega),if_pos c]
 .rw[if_neg (by omega),if_neg c,if_neg (by omega)]
theorem Lower.succ(h:Lower l m j)(b:j<3):Lower l (m.set (4+4*j) (m.getD (4+4*j) 0/4*4)) (j+1):=by
 refine⟨by simpa using h.len,λt a=>?_⟩;by_cases e:4+4*j=t
 .subst e;rw[AM (by rw[h.len];omega),h.at_ _ a,if_neg (by omega),if_neg (by omega),if_neg (by omega),if_pos (by omega)]
 .rw[AC e,h.at_ _ a];by_cases c:t%4=3
  .rw[if_pos c,if_pos c]
  .rw[if_neg c,if_neg c];by_cases d:t%4=0/\0<t/\t<4+4*j
   .rw[if_pos d,if_pos (by omega)]
   .rw[if_neg d,if_neg (by omega)]
theorem Lower.ua(h:Lower l m 3):m=DP l:=by
 refine SN (by rw[h.len,Nv]) (λt a=>?_);rw[h.len]at a
 rw[h.at_ t a,Su l t a,GZ];by_cases c:t%4=3
 .rw[if_pos c,if_pos c]
 .rw[if_neg c,if_neg c];by_cases d:t%4=0/\0<t
  .rw[if_pos d,if_pos (by omega)]
  .rw[if_neg d,if_neg (by omega)]
theorem Upper.byte(h:Upper l m j)(a:∀ x∈l,0<=x/\x<256)(t:Nat):0<=m.getD t 0/\m.getD t 0<256:=by
 have:=Aj a t;rw[h.at_];split<;>omega
theorem Lower.byte(h:Lower l m j)(a:∀ x∈l,0<=x/\x<256)(t:Nat)(b:t<16):0<=m.getD t 0/\m.getD t 0<256:=by
 have:=Aj a t;rw[h.at_ t b];split
 .omega
 .split<;>omega
theorem SQ(v:Value)(l:List Int)(w:World)(h:Sl w v l)(S:l.length=16) :
  Calls prog 192 #[v] w λe w'=>∃ r,e=.returned (.agg (Ai r))/\Lim 67108864 r/\val r%pp=leN (DP l)%pp/\Bw w w':=by
 have T:=h;obtain⟨⟨a,Y,rfl,hc,hn,Z⟩,M,A⟩:=h;have n:Hid (∀ x∈l,0<=x/\x<256):=A;clear Z A hn M;have W:Hid (l.length=16):=S;go_enter func192,ntmps192
 go_wp2_with (refine wpList_copy_splice rfl _ _ 34 34 rfl 5 underlying34 Zm _ _ _ _ _ _ rfl rfl (w.heap.size+1) 0 ((List.replicate 16 (0:Int)).map (Value.int .u8)) 284 (heap_alloc2_new _ _ _) (l.map (Value.int .u8)) (by rw[nw];exact(oG (show l.length<=16 by omega)).symm) (λhp=>⟨rfl,(T.af (((Below.refl _ _).alloc (A' _) _).alloc (by simp) _)).src (by simpa using hp)⟩) (by rw[nw,nw,oT];omega) (Fo _) (w.heap.size+1) _ (Below.refl _ _) (A' _) ?_)
 intro F Q q;have E:F.heap[w.heap.size+1]?=some (.cells (byA l) 284 (0,0)):=by
  have R:F.heap[w.heap.size+1]?=some (.cells (splice ((List.replicate 16 (0:Int)).map (Value.int .u8)) 0 (l.map (Value.int .u8))).toArray 284 (0,0)):=Q.out;rw[Jk,S]at R
  simpa[byA]using R
 have y:Bw w F:=(((Below.refl _ _).alloc (A' _) _).alloc (by simp) _).trans (q.mono (by omega));have C:F.heap[w.heap.size]?=some (.cells (Ai [0,0,0,0,0]) 272 (0,0)):=by
  rw[q.block _ (by omega)];exact heap_alloc2_old _ _ _
 clear Q q T;go_wp2_with fail
 go_loopw [4] (λi wr=>∃ (j:Nat) (m:List Int),j<=4/\i=.int .i64 (3+4*(j:Int))/\Upper l m j/\wr.heap[w.heap.size]?=some (.cells (Ai [0,0,0,0,0]) 272 (0,0))/\wr.heap[w.heap.size+1]?=some (.cells (byA m) 284 (0,0))/\Bw w wr) (λi _=>20-(intOf i).toNat)
 case atStart=>exact⟨0,l,by omega,rfl,Upper.zero W.out,C,E,y⟩
 case round =>
  clear C E y;obtain⟨j,m,hj,rfl,c,t,f,o⟩:=hrel;have N:=c.len;by_cases J:j<4
  .have K:3+4*(j:Int)<16:=by omega
   have H:=(cell_of_row _ _ (3+4*j) _ _ _ f).trans (IC m (3+4*j) (by omega));have fl:=frozen_of_row _ _ (3+4*j) _ _ f;have b:=c.byte n.out (3+4*j);have u:Hid (Upper l (m.set (3+4*j) (m.getD (3+4*j) 0%16)) (j+1)):=c.succ J;have d:=ki (m.getD (3+4*j) 0) b.1 b.2;generalize m.getD (3+4*j) 0=x at H u b d;clear c;go_wp2
   go_roundw
   case rel =>
    refine⟨j+1,_,by omega,by go_num,u.out,?_,GX f _ _,?_⟩
    .exact(heap_setCell_other _ _ _ _ (by simp)).trans t
    .exact o.setCell (p:=⟨w.heap.size+1,3+4*j,none⟩) (by simp) _
   case measure=>simp[intOf];omega
  .have HJ:Hid (j=4):=by unfold Hid;omega
   have K:¬ 3+4*(j:Int)<16:=by omega
   have B:Lower l m 0:=by have:=HJ.out;subst this;exact c.lower
   clear c;go_wp2_with fail
   go_loopw [5] (λi wr=>∃ (j:Nat) (m:List Int),j<=3/\i=.int .i64 (4+4*(j:Int))/\Lower l m j/\wr.heap[w.heap.size]?=some (.cells (Ai [0,0,0,0,0]) 272 (0,0))/\wr.heap[w.heap.size+1]?=some (.cells (byA m) 284 (0,0))/\Bw w wr) (λi _=>20-(intOf i).toNat)
   case atStart=>exact⟨0,m,by omega,rfl,B,t,f,o⟩
   case round =>
    clear t f o B N;obtain⟨k,m,hk,rfl,c,t,f,o⟩:=hrel;have N:=c.len;by_cases L:k<3
    .have hki:4+4*(k:Int)<16:=by omega
     have H:=(cell_of_row _ _ (4+4*k) _ _ _ f).trans (IC m (4+4*k) (by omega));have fl:=frozen_of_row _ _ (4+4*k) _ _ f;have b:=c.byte n.out (4+4*k) (by omega);have u:Hid (Lower l (m.set (4+4*k) (m.getD (4+4*k) 0/4*4)) (k+1)):=c.succ L;have d:=il (m.getD (4+4*k) 0) b.1 b.2;generalize m.getD (4+4*k) 0=x at H u b d;clear c;go_wp2
     go_roundw
     case rel =>
      refine⟨k+1,_,by omega,by go_num,u.out,?_,GX f _ _,?_⟩
      .exact(heap_setCell_other _ _ _ _ (by simp)).trans t
      .exact o.setCell (p:=⟨w.heap.size+1,4+4*k,none⟩) (by simp) _
     case measure=>simp[intOf];omega
    .have hki:¬ 4+4*(k:Int)<16:=by omega
     have V:Hid (k=3):=by unfold Hid;omega
     have s:m=DP l:=by have:=V.out;subst this;exact c.ua
     have s3:Sl wr (.slice (some ⟨w.heap.size+1,0,none⟩) 16 16) m:=by
      refine Sl.rowOf f N (by omega) ?_;rw[s];exact Qu n.out
     have X:Hid (m=DP l):=s;have G:Hid _:=s3;have O:w.heap.size<wr.heap.size:=(Q'.1 t).1;clear c s3 s f;go_wp2_with fail
     refine(R1 _ m _ G.out (by omega)).mono ?_;rintro e U ⟨r,rfl,P,vr,z⟩;have D:=(z.block w.heap.size O).trans t;have I:Bw w U:=o.trans (z.mono o.size);have g:=Dh P.1;go_wp2_with ((with_reducible (refine At ?_));(refine wpList_store_row rfl 272 _ _ rfl (w.heap.size) _ rfl rfl 272 _ D g (by rw[Ak,Ak,P.1];rfl) (BL r) ?_))
     exact bodyPost_ret (v:=.agg (Ai r)) (results_cell_row rfl _ _ (w.heap.size) 272 _ (0,0) _ rfl (setRow_heap U (w.heap.size) _ _ 272 _ D) underlying272 rfl g) rfl ⟨r,rfl,P,by rw[vr,X.out],Bl I (A' _) _⟩
def AK(v:Int)(i:Nat):Int:=v/256^i%256
theorem Gn(v:Int)(i:Nat):0<=AK v i/\AK v i<256:=by unfold AK;omega
def leB(n:Nat)(v:Int):List Int:=(List.range n).map (AK v)
theorem D1(n:Nat)(v:Int):(leB n v).length=n:=by simp[leB]
theorem IP(n:Nat)(v:Int):∀ x∈leB n v,0<=x/\x<256:=by
 intro x a;obtain⟨j,_,rfl⟩:=ny.1 a;exact Gn v j
def FW(S:Nat->Int):Nat->Int
 | 0=>0
 | k+1=>FW S k+S k*256^k
def ID(S:Nat->Int)(k:Nat):Int:=FW S k/256^k
theorem Mt(k:Nat):(0:Int)<256^k:=Int.pow_pos (by omega)
theorem Oi(S:Nat->Int):ID S 0=0:=by simp[ID,FW]
theorem Oh(S:Nat->Int)(k:Nat):ID S (k+1)=(ID S k+S k)/256:=by
 have a:=Mt k;unfold ID;rw[FW,qH,<- qj (qv a),Int.add_mul_ediv_right _ _ (Int.ne_of_gt a)]
theorem Sm(S:Nat->Int)(h:∀ j,0<=S j/\S j<1000)(k:Nat):0<=ID S k/\ID S k<256:=by
 induction k with
 | zero=>rw[Oi];omega
 | succ k ih=>rw[Oh];have:=h k;omega
theorem Xq(S:Nat->Int)(k d:Nat):∃ Z,FW S (k+d)=FW S k+256^k*Z:=by
 induction d with
 | zero=>exact⟨0,by simp⟩
 | succ d ih =>
  obtain⟨Z,a⟩:=ih;refine⟨Z+S (k+d)*256^d,?_⟩;rw[<- oe,FW,a,pY]
  grind
theorem L8(v Z:Int)(n k:Nat)(h:k<n):AK (v+256^n*Z) k=AK v k:=by
 have a:=Mt k;obtain⟨d,rfl⟩:∃ d,n=k+(1+d):=⟨n-k-1,by omega⟩;unfold AK;rw[pY,pY,show(256:Int)^k*(256^1*256^d)*Z=256^k*(256*(256^d*Z))by grind,Int.add_mul_ediv_left _ _ (Int.ne_of_gt a)];omega
theorem VK(S:Nat->Int)(n k:Nat)(h:k<n):(ID S k+S k)%256=AK (FW S n) k:=by
 have b:=Mt k;obtain⟨d,rfl⟩:∃ d,n=(k+1)+d:=⟨n-(k+1),by omega⟩;obtain⟨Z,a⟩:=Xq S (k+1) d;rw[a,L8 _ _ _ _ (by omega),AK,FW,Int.add_mul_ediv_right _ _ (Int.ne_of_gt b)];rfl
theorem bP(S T:Nat->Int)(k:Nat):FW (λj=>S j+T j) k=FW S k+FW T k:=by
 induction k with
 | zero=>rfl
 | succ k ih=>simp only[FW,ih];grind
theorem bQ(l:List Int)(k:Nat):FW (λj=>l.getD j 0) k=leP l k:=by
 induction k with
 | zero=>rfl
 | succ k ih=>simp only[FW,leP,ih]
theorem Um(v:Int)(n:Nat):∃ Z,v=FW (AK v) n+256^n*Z/\Z=v/256^n:=by
 induction n with
 | zero=>exact⟨v,by simp[FW],by simp⟩
 | succ n ih =>
  obtain⟨Z,b,a⟩:=ih;refine⟨Z/256,?_,?_⟩
  .rw[FW,AK,<- a,qH];have:Z=Z%256+256*(Z/256):=by omega
   grind
  .rw[a,qH,qj (qv (Mt n))]
theorem Yi(v:Int)(s:List Int)(k:Nat)(a:k<16)(b:s.length<=16) :
  (ID (λj=>AK v j+s.getD j 0) k+(AK v k+s.getD k 0))%256=AK (v+leN s) k:=by
 rw[VK (λj=>AK v j+s.getD j 0) 16 k a,bP (AK v) (λj=>s.getD j 0),bQ,ZE 16 b];obtain⟨Z,c,_⟩:=Um v 16;have e:v+leN s=FW (AK v) 16+leN s+256^16*Z:=by omega
 rw[e,L8 _ _ _ _ a]
def Jm(v:Int)(k:Nat):List Int:=(List.range 16).map λj=>if j<k then AK v j else 0
theorem RK(v:Int)(k:Nat):(Jm v k).length=16:=by simp[Jm]
theorem Xy(v:Int):Jm v 0=List.replicate 16 0:=rfl
theorem bZ(v:Int):Jm v 16=leB 16 v:=by
 unfold Jm leB;refine qQ λj a=>?_;rw[if_pos (oK.1 a)]
theorem Xx(v:Int)(k:Nat)(_hk:k<16):(Jm v k).set k (AK v k)=Jm v (k+1):=by
 apply pa (by simp[Jm]);intro j a b;rw[pc];simp only[Jm,List.getElem_map,List.getElem_range];by_cases e:k=j
 .subst e;rw[if_pos rfl,if_pos (by omega)]
 .rw[if_neg e];by_cases c:j<k
  .rw[if_pos c,if_pos (by omega)]
  .rw[if_neg c,if_neg (by omega)]
theorem T7(a b:Int)(k:Nat)(m:Int)(d:m=2^k)(g:0<=a)(c:a<m)(h:0<=b)(i:a+b*m<18446744073709551616):bits .or .u64 a (b*m)=a+b*m:=by
 obtain⟨x,rfl⟩:=nL g;obtain⟨y,rfl⟩:=nL h;have e:(y:Int)*m=((2^k*y:Nat):Int):=by rw[d,rE,pL,Int.mul_comm];rfl
 rw[e]at i ⊢
 have j:x<2^k:=by
  have:((x:Nat):Int)<((2^k:Nat):Int):=by rw[pL];rw[d]at c;exact c
  omega
 have f:=pQ j y;rw[u64_or_nat _ _ (by omega) (by omega),Nat.or_comm,<- f];omega
theorem j3{a b:Int}(h:a=b):Ending.returned (.int .u8 a)=.returned (.int .u8 b):=by rw[h]
theorem Sj(n:List Int)(i:Nat)(w:World)(o:Lim 67108864 n)(A:i<16) :
  Calls prog 202 #[.agg (Ai n),.int .i64 i] w λe w'=>e=.returned (.int .u8 (AK (val n) i))/\Bw w w':=by
 obtain⟨a,b,c,d,e,rfl,⟨q,r⟩,⟨s,t⟩,⟨c1,u⟩,⟨v,x⟩,⟨y,z⟩⟩:=o.split;have f:(w.alloc (.cells (Ai [a,b,c,d,e]) 272 (0,0))).heap[w.heap.size]?=some (.cells (Ai [a,b,c,d,e]) 272 (0,0)):=heap_alloc_new _ _;have h:=(cell_of_row _ _ 0 _ _ _ f).trans (Au _ 0 (by simp));have j:=(cell_of_row _ _ 1 _ _ _ f).trans (Au _ 1 (by simp));have k:=(cell_of_row _ _ 2 _ _ _ f).trans (Au _ 2 (by simp));have l:=(cell_of_row _ _ 3 _ _ _ f).trans (Au _ 3 (by simp));have m:=(cell_of_row _ _ 4 _ _ _ f).trans (Au _ 4 (by simp));simp only[nI,nU]at h j k l m;have g:Hid (val [a,b,c,d,e]=a+67108864*b+4503599627370496*c+302231454903657293676544*d+20282409603651670423947251286016*e):=Dw a b c d e;generalize Ai [a,b,c,d,e]=arr at h j k l m ⊢;generalize val [a,b,c,d,e]=V at g ⊢;clear o f;obtain rfl|rfl|rfl|rfl|rfl|rfl|rfl|rfl|rfl|rfl|rfl|rfl|rfl|rfl|rfl|rfl:i=0\/i=1\/i=2\/i=3\/i=4\/i=5\/i=6\/i=7\/i=8\/i=9\/i=10\/i=11\/i=12\/i=13\/i=14\/i=15:=by omega
 all_goals
  go_enter func202,ntmps202
  go_wp2
  go_ret;refine⟨j3 ?_,(Below.refl _ _).alloc (A' _) _⟩;have p:=g.out;clear g h j k l m;unfold AK
  first
   | rw[T7 _ _ 2 4 rfl (by omega) (by omega) (by omega) (by omega)]
   | rw[T7 _ _ 4 16 rfl (by omega) (by omega) (by omega) (by omega)]
   | rw[T7 _ _ 6 64 rfl (by omega) (by omega) (by omega) (by omega)]
   | skip
  subst p;simp only[Int.reducePow];omega
theorem NO{d:Nat}{K:Act->World->Prop}(R:World->Prop){A:Act}(c:∀ K':Act->World->Prop,Hid (∀ W2,R W2->K' A W2)->(Code.region d ops true).wp P (Exit.then K' Q) a w)(b:∀ W2,R W2->K A W2):(Code.region d ops true).wp P (Exit.then K Q) a w:=c K b
theorem PV(nl:List Int)(v:Value)(s:List Int)(w:World)(h:Sl w v s)(Z:s.length=16)(hn:Lim 67108864 nl) :
  Calls prog 190 #[.agg (Ai nl),v] w λe w'=>∃ v',e=.returned v'/\Sl w' v' (leB 16 (val nl+leN s))/\Bw w w':=by
 obtain⟨⟨a,a3,rfl,hc,a1,O⟩,a0,r⟩:=h;rcases O with rfl|⟨B,off,rfl,hB,hcell⟩
 .simp at Z
 have HC:Hid (∀ i,i<16->w.cell? ⟨B,off+i,none⟩=some (.int .u8 (s.getD i 0))):=λi hi=>hcell i (by omega);have n:Hid (∀ x∈s,0<=x/\x<256):=r;have o:Hid (s.length=16):=Z;rw[Z]at hc ⊢
 clear hcell r a1 a0;obtain⟨J,K,L,M,N,rfl,_⟩:=hn.split;obtain⟨V,X⟩:∃ V,val [J,K,L,M,N]=V:=⟨_,rfl⟩;have HV:Hid (val [J,K,L,M,N]=V):=X;rw[X];clear X;obtain⟨i0,z,A,C,D⟩:=info_parts Aw;go_enter func190,ntmps190
 go_wp2_with (at_make;refine wpList_make_row _ rfl _ _ 34 rfl 5 i0 (.int .u8 0) underlying34 z A C rfl _ _ 16 rfl rfl (by rw[D];omega) (by omega) ?_)
 clear z A C D
 go_loopw [6,11] (λcv i wr=>∃ (k:Nat),k<=16/\i=.int .i64 k/\cv=.int .i64 (ID (λj=>AK V j+s.getD j 0) k)/\wr.heap[w.heap.size]?=some (.cells (Ai [J,K,L,M,N]) 272 (0,0))/\wr.heap[w.heap.size+1]?=some (.cells (byA (Jm (V+leN s) k)) 5 (0,0))/\Bw w wr) (λ_ i _=>16-(intOf i).toNat)
 case atStart =>
  refine⟨0,by omega,rfl,by rw[Oi],?_,?_,?_⟩
  .exact heap_alloc2_old _ _ _
  .have e:madeCells #[Value.int .u8 0] 16=byA (Jm (V+leN s) 0):=by rw[Xy];kernel_rfl
   rw[e];exact heap_alloc2_new _ _ _
  .exact((Below.refl _ _).alloc (A' _) _).alloc (by simp) _
 case round =>
  obtain⟨k,hk,rfl,rfl,f,g,P⟩:=hrel;by_cases b:k<16
  .have hki:(k:Int)<16:=by omega
   have E:=(cell_of_row _ _ 0 _ _ _ f).trans (Au _ 0 (by simp));have F:=(cell_of_row _ _ 1 _ _ _ f).trans (Au _ 1 (by simp));have G:=(cell_of_row _ _ 2 _ _ _ f).trans (Au _ 2 (by simp));have H:=(cell_of_row _ _ 3 _ _ _ f).trans (Au _ 3 (by simp));have I:=(cell_of_row _ _ 4 _ _ _ f).trans (Au _ 4 (by simp));simp only[nI,nU]at E F G H I;have a2:w.heap.size+1<wr.heap.size:=(Q'.1 g).1;have U:B<wr.heap.size:=by omega
   have ch:=(P.cell (p:=⟨B,off+k,none⟩) hB).trans (HC.out k b);have t:∀ j,0<=AK V j+s.getD j 0/\AK V j+s.getD j 0<1000:=λj=>by
    have R:=Gn V j;have S:=Aj n.out j;omega
   have u:=Sm (λj=>AK V j+s.getD j 0) t k;have d:Hid (ID (λj=>AK V j+s.getD j 0) (k+1)=(ID (λj=>AK V j+s.getD j 0) k+(AK V k+s.getD k 0))/256):=Oh _ k;have c:Hid ((ID (λj=>AK V j+s.getD j 0) k+(AK V k+s.getD k 0))%256=AK (V+leN s) k):=Yi V s k b (by rw[o.out];omega);have R:=Gn V k;have S:=Aj n.out k;have l:=Sj [J,K,L,M,N] k;rw[HV.out]at l
   have m:Hid (∀ W,Calls prog 202 #[.agg (Ai [J,K,L,M,N]),.int .i64 k] W λe w'=>e=.returned (.int .u8 (AK V k))/\Bw W w'):=λW=>l W hn b;have HT:Hid _:=g;have HR:Hid _:=f;have HB:Hid _:=P;clear l t g f P;have a5:=RK (V+leN s) k;have Q:Hid ((Jm (V+leN s) k).set k (AK (V+leN s) k)=Jm (V+leN s) (k+1)):=Xx _ k b;generalize ID (λj=>AK V j+s.getD j 0) k=cy at d c u;generalize AK V k=x at d c R m;generalize s.getD k 0=y at d c S ch;obtain⟨x1,x2⟩:=R;obtain⟨y1,y2⟩:=S;obtain⟨z1,z2⟩:=u;go_wp2_with fail
   apply NO (λW=>Bw wr W)
   .intro K2 HK2
    go_region_with (go_at_call 202;refine(m.out _).mono ?_;rintro e w2 ⟨rfl,q⟩;have a4:=(q.cell (p:=⟨B,off+k,none⟩) U).trans ch)
    all_goals exact HK2.out _ ((Below.refl _ _).drew.trans q)
   intro W Y;have g:=(Y.block _ a2).trans HT.out;have f:=(Y.block _ (by omega)).trans HR.out;have ct:=(cell_of_row _ _ k _ _ _ g).trans (IC _ k (by omega));have ft:=frozen_of_row _ _ k _ _ g;have T:Bw w W:=HB.out.trans (Y.mono HB.out.size);clear E F G H I ch;generalize (Jm (V+leN s) k).getD k 0=c0 at ct;go_wp2
   go_roundw
   case rel =>
    refine⟨k+1,by omega,by go_num,?_,?_,?_,?_⟩
    .rw[d.out]
    .exact(heap_setCell_other _ _ _ _ (by simp)).trans f
    .have O:=GX g k (AK (V+leN s) k);rw[Q.out,<- c.out]at O
     exact O
    .exact T.setCell (p:=⟨w.heap.size+1,k,none⟩) (by simp) _
   case measure=>simp[intOf];omega
  .have hki:¬ (k:Int)<16:=by omega
   have HK:Hid (k=16):=by unfold Hid;omega
   go_wp2
   go_ret;have hK:=HK.out;subst hK;rw[bZ]at g
   exact⟨_,rfl,Sl.rowOf g (D1 _ _) (by rw[D1];omega) (IP _ _),P⟩
def Xv(key data:List Int):List Int:=leB 16 (hY (leN (DP (key.take 16))) data+leN (key.drop 16))
theorem RI(key a:List Int):(Xv key a).length=16:=D1 _ _
theorem Xw(key a:List Int):∀ x∈Xv key a,0<=x/\x<256:=IP _ _
theorem Sl.sY{v:Value}(h:Sl w v l):∃ a c,v=.slice a l.length c:=by
 obtain⟨⟨a,b,e,_⟩,_⟩:=h;exact⟨a,b,e⟩
theorem jL(r q:Value)(key a:List Int)(w:World)(g:Sl w r key)(m:Sl w q a)(lk:key.length=32)(A:a.length<=4000) :
  Calls prog 179 #[r,q] w λe w'=>∃ v',e=.returned (.tuple #[v',.int .i64 0])/\Sl w' v' (Xv key a)/\Bw w w':=by
 obtain⟨k,l,rfl⟩:=g.sY;obtain⟨ad,J,rfl⟩:=m.sY;rw[lk]at g ⊢
 obtain⟨s,c1,c,o⟩:=g.rN 16 (by omega);obtain⟨t,u,d,p⟩:=g.from 16 (by omega);have v:∀ W,(Instr.slice 34 (.slice k 32 l) none (some (.int .i64 16)) none).run prog W=.ok (.slice s 16 c1) W:=c;have x:∀ W,(Instr.slice 34 (.slice k 32 l) (some (.int .i64 16)) none none).run prog W=.ok (.slice t 16 u) W:=d;clear c d;have lt:(key.take 16).length=16:=by rw[X'];omega
 have n:(key.drop 16).length=16:=by rw[nc];omega
 have B:¬ (4000:Int)<(a.length:Int):=by omega
 have h:Hid (Xv key a=leB 16 (hY (leN (DP (key.take 16))) a+leN (key.drop 16))):=rfl;generalize key.take 16=K1 at o lt h;generalize key.drop 16=K2 at p n h;clear g lk;have j:Hid (a.length<=4000):=A;go_enter func179,ntmps179
 go_wp2_with fail
 go_region_with (first
  | (go_at_call 192;refine(SQ _ K1 _ (o.af ((Below.refl _ _).drew)) lt).mono ?_;rintro e K ⟨D,rfl,y,F,b⟩)
  | (go_at_call 191;refine(Pu D (leN (DP K1)) _ a _ (m.af ((Below.refl _ _).drew.trans b)) j.out y F).mono ?_;rintro e I ⟨C,rfl,z,G,f⟩)
  | (go_at_call 190;refine(PV C _ K2 _ (p.af (((Below.refl _ _).drew.trans b).trans (f.mono b.size))) n z).mono ?_;rintro e L ⟨H,rfl,E,i⟩))
 all_goals
  go_wp2
  go_ret2
  refine⟨H,rfl,?_,?_⟩
  .rw[h.out,<- G];exact E
  .have b3:Bw w I:=((Below.refl _ _).drew.trans b).trans (f.mono b.size);exact b3.trans (i.mono b3.size)
def gap(n:Nat):Nat:=(16-n%16)%16
def E8(l:List Int):List Int:=l++List.replicate (gap l.length) 0
theorem EI(l:List Int):(E8 l).length=l.length+gap l.length:=by rw[E8,H',oT]
theorem In(n:Nat):gap n<16:=by unfold gap;omega
theorem US(n:Nat):(n+gap n)%16=0:=by unfold gap;omega
theorem Wf(n j:Nat)(h:j<gap n):¬ (n+j)%16=0:=by unfold gap at h;omega
theorem dV(n m:Nat)(h:n%16=0):gap (n+m)=gap m:=by unfold gap;omega
theorem OB(h:∀ x∈l,0<=x/\x<256):∀ x∈E8 l,0<=x/\x<256:=by
 intro x a;rcases U'.1 a with h1|h1
 .exact h x h1
 .rw[(p9.1 h1).2];omega
theorem aD(a s:List Int):E8 (E8 a++s)=E8 a++E8 s:=by
 have h:(E8 a).length%16=0:=by rw[EI];exact US _
 rw[E8,H',dV _ _ h,mU];rfl
theorem ZD(k:Nat)(v:Int):leB (k+1) v=leB k v++[AK v k]:=by
 simp[leB,List.range_succ]
def G1(a s:List Int):List Int:=E8 a++E8 s++leB 8 (a.length:Int)++leB 8 (s.length:Int)
theorem IN(a s:List Int):(G1 a s).length=a.length+gap a.length+(s.length+gap s.length)+8+8:=by
 simp only[G1,H',EI,D1]
theorem Tk{a s:List Int}(b:∀ x∈a,0<=x/\x<256)(c:∀ x∈s,0<=x/\x<256):∀ x∈G1 a s,0<=x/\x<256:=by
 intro x hx;rcases U'.1 hx with hx|hx
 .rcases U'.1 hx with hx|hx
  .rcases U'.1 hx with hx|hx
   .exact OB b x hx
   .exact OB c x hx
  .exact IP _ _ x hx
 .exact IP _ _ x hx
def E3(key nonce a s:List Int):List Int:=Xv ((CN (Cd key (BitVec.ofNat 32 0) nonce)).take 32) (G1 a s)
theorem Jl(key b a s:List Int):(E3 key b a s).length=16:=RI _ _
theorem MM(key b a s:List Int):∀ x∈E3 key b a s,0<=x/\x<256:=Xw _ _
def EN(key nonce p:List Int):List Int:=QY (Cd key (BitVec.ofNat 32 1) nonce) p
theorem FU(key a p:List Int):(EN key a p).length=p.length:=QZ _ _
def K7(key nonce a p:List Int):List Int:=EN key nonce p++E3 key nonce a (EN key nonce p)
theorem Ji(key b a p:List Int):(K7 key b a p).length=p.length+16:=by
 rw[K7,H',FU,Jl]
theorem K8(v:Value)(l:List Int)(B:Nat)(w:World)(p:w.ownsRow B 5 1 v l.length (l.map (Value.int .u8)))(D:B<=w.heap.size)(I:l.length<=100000) :
  Calls prog 193 #[v] w λe w'=>∃ v',e=.returned v'/\w'.ownsRow B 5 1 v' (E8 l).length ((E8 l).map (Value.int .u8))/\Below B w w':=by
 have r:Hid (E8 l=l++List.replicate (gap l.length) 0):=rfl;have E:=In l.length;have s:Hid (∀ j,j<gap l.length->¬ (l.length+j)%16=0):=λj x=>Wf _ _ x;have q:Hid ((l.length+gap l.length)%16=0):=US _;obtain⟨a0,c0,rfl⟩:=EH p;generalize gap l.length=G at r E s q;go_enter func193,ntmps193
 go_wp2_with fail
 go_loopw [0] (λv wr=>∃ (j:Nat) (a:Option Addr) (f:Nat),j<=G/\v=.slice a (l.length+j) f/\wr.ownsRow B 5 1 v (l++List.replicate j 0).length ((l++List.replicate j 0).map (Value.int .u8))/\Below B w wr) (λv _=>l.length+G-ZH v)
 case atStart=>exact⟨0,a0,c0,by omega,rfl,by simpa using p,Below.refl _ _⟩
 case round =>
  clear p;obtain⟨j,a,f,x,rfl,b,d⟩:=hrel;have h:=b.lt;by_cases o:j<G
  .have t:=s.out j o;have u:¬ ((l.length:Int)+j)%16=0:=by omega
   go_wp2_with (at_builtin;refine Aa _ rfl _ _ 34 rfl B 5 underlying34 Aw _ _ rfl rfl (l++List.replicate j 0) [0] (b.alloc _) (Sl.one _ _ _ rfl (by omega)) (by simp;omega) (by have:=d.size;simp;omega) ?_)
   intro H y i g;have c:y.ownsRow B 5 1 H (l++List.replicate (j+1) 0).length ((l++List.replicate (j+1) 0).map (Value.int .u8)):=by rw[<- MF];simpa using i
   have n:Below B w y:=(d.alloc (mV D d.size) _).grown g (by have:=d.size;simp;omega) (λk F=>(h k F).1);obtain⟨z,A,m⟩:=EH c;rw[H',oT]at m
   subst m;clear i g b h d t u;go_wp2
   go_roundw
   case rel=>exact⟨j+1,z,A,by omega,rfl,c,n⟩
   case measure=>simp[ZH];omega
  .have HJ:Hid (G=j):=by unfold Hid;omega
   have C:=q.out;have t:((l.length:Int)+j)%16=0:=by have:=HJ.out;omega
   have u:(((l.length:Int)+j)%16 != 0)=false:=by simp;omega
   clear C;go_wp2
   go_ret;refine⟨_,rfl,?_,d⟩;rw[r.out,HJ.out];exact b
theorem GS(v:Value)(l:List Int)(n:Nat)(B:Nat)(w:World)(r:w.ownsRow B 5 1 v l.length (l.map (Value.int .u8)))(A:B<=w.heap.size)(G:l.length<=100000)(H:n<=100000) :
  Calls prog 194 #[v,.int .i64 n] w λe w'=>∃ v',e=.returned v'/\w'.ownsRow B 5 1 v' (l++leB 8 (n:Int)).length ((l++leB 8 (n:Int)).map (Value.int .u8))/\Below B w w':=by
 go_enter func194,ntmps194
 go_wp2_with fail
 go_loopw [0,1,5] (λv s i wr=>∃ k:Nat,k<=8/\i=.int .i64 k/\s=.int .i64 ((n:Int)/256^k)/\wr.ownsRow B 5 1 v (l++leB k (n:Int)).length ((l++leB k (n:Int)).map (Value.int .u8))/\Below B w wr) (λ_ _ i _=>8-(intOf i).toNat)
 case atStart=>exact⟨0,by omega,rfl,by simp,by simpa[leB]using r,Below.refl _ _⟩
 case round =>
  clear r;obtain⟨k,q,rfl,rfl,a,c⟩:=hrel;have h:=a.lt;by_cases C:k<8
  .have hki:(k:Int)<8:=by omega
   obtain⟨x,d⟩:∃ x:Int,(n:Int)/256^k=x:=⟨_,rfl⟩;have t:(0:Int)<256^k:=Mt k;have D:0<=x:=by rw[<- d];exact Int.ediv_nonneg (by omega) (by omega)
   have E:x<=100000:=by rw[<- d];have:=Int.ediv_le_self (256^k) (show(0:Int)<=n by omega);omega
   have z:Hid ((n:Int)/256^(k+1)=x/256):=by unfold Hid;rw[qH,<- qj (qv t),d]
   have b:Hid (x%256=AK n k):=by unfold Hid AK;rw[d]
   have g:=D1 k (n:Int);have o:Hid (leB (k+1) (n:Int)=leB k n++[AK n k]):=ZD k _;rw[d];clear d t;generalize leB k (n:Int)=pre at a o g;generalize AK (n:Int) k=y at b o;go_wp2_with (at_builtin;refine Aa _ rfl _ _ 34 rfl B 5 underlying34 Aw _ _ rfl rfl (l++pre) [y] (a.alloc _) (Sl.tN _ _ _ _ rfl ?_ ?_) (by simp;omega) (by have:=c.size;simp;omega) ?_)
   .have:=b.out;omega
   .have:=b.out;omega
   intro F u j f;have m:u.ownsRow B 5 1 F (l++(pre++[y])).length ((l++(pre++[y])).map (Value.int .u8)):=by rw[<- mU];simpa[g]using j
   have p:Below B w u:=(c.alloc (mV A c.size) _).grown f (by have:=c.size;simp;omega) (λk q=>(h k q).1);clear j f a h c;go_wp2
   go_roundw
   case rel=>exact⟨k+1,by omega,by go_num,by rw[z.out],by rw[o.out];exact m,p⟩
   case measure=>simp[intOf];omega
  .obtain rfl:k=8:=by omega
   go_wp2
   go_ret;exact⟨_,rfl,a,c⟩
theorem ZA(O P:Value)(a s:List Int)(w:World)(z:Sl w O a)(B:Sl w P s)(U:a.length<=10000)(V:s.length<=10000) :
  Calls prog 180 #[O,P] w λe w'=>∃ v',e=.returned v'/\Sl w' v' (G1 a s)/\Bw w w':=by
 have f:Hid (G1 a s=E8 (E8 a++s)++leB 8 (a.length:Int)++leB 8 (s.length:Int)):=by unfold Hid;rw[aD];rfl
 have R:Hid (∀ x∈G1 a s,0<=x/\x<256):=Tk z.byte B.byte;have Q:Hid ((G1 a s).length<=30000):=by unfold Hid;rw[IN];have:=In a.length;have:=In s.length;omega
 have H:(E8 a).length<=11000:=by rw[EI];have:=In a.length;omega
 have i:(E8 (E8 a++s)).length<=30000:=by rw[EI,H'];have:=In ((E8 a).length+s.length);omega
 obtain⟨aa,ca,rfl⟩:=z.shape;obtain⟨S,cs,rfl⟩:=B.shape;generalize L:a.length=n at U f z ⊢;generalize K:s.length=m at V f B ⊢;have l:Hid (a.length=n):=L;have j:Hid (s.length=m):=K;clear L K;go_enter func180,ntmps180
 go_wp2_with (at_builtin;refine Aa _ rfl _ _ 34 rfl w.heap.size 5 underlying34 Aw _ _ rfl rfl [] a (World.ownsRow_nil _ _ _ _) z (by have:=l.out;simp;omega) (A' _) ?_)
 intro M I c p;have C:Bw w I:=(Below.refl _ _).grown p (A' _) (by simp[Value.ownBlock]);replace c:I.ownsRow w.heap.size 5 1 M a.length (a.map (Value.int .u8)):=by simpa using c
 clear p;go_wp2_with fail
 refine(K8 M a w.heap.size I c C.size (by have:=l.out;omega)).mono ?_;rintro e w2 ⟨v2,rfl,d,g⟩;replace g:=C.trans g;clear c C;have v:=B.af g;have r:=d.lt;generalize E8 a=A at f H i d;go_wp2_with (at_builtin;refine Aa _ rfl _ _ 34 rfl w.heap.size 5 underlying34 Aw _ _ rfl rfl A s d v (by have:=j.out;omega) g.size ?_)
 intro N J b q;have D:Bw w J:=g.grown q g.size (λk T=>(r k T).1);clear q r d g v;replace b:J.ownsRow w.heap.size 5 1 N (A++s).length ((A++s).map (Value.int .u8)):=by simpa using b
 have F:(A++s).length<=21000:=by rw[H'];have:=j.out;omega
 generalize A++s=AS at f i b F;go_wp2_with fail
 refine(K8 N AS w.heap.size J b D.size (by omega)).mono ?_;rintro e Z ⟨W,rfl,h,o⟩;replace o:=D.trans o;clear b D;generalize E8 AS=X at f i h;go_wp2_with fail
 refine(GS W X n w.heap.size Z h o.size (by omega) (by omega)).mono ?_;rintro e w5 ⟨Y,rfl,t,y⟩;replace y:=o.trans y;have G:(X++leB 8 (n:Int)).length<=30008:=by rw[H',D1];omega
 clear h o;generalize X++leB 8 (n:Int)=X5 at f G t;go_wp2_with fail
 refine(GS Y X5 m w.heap.size w5 t y.size (by omega) (by omega)).mono ?_;rintro e w6 ⟨v6,rfl,u,E⟩;replace E:=y.trans E;rw[<- f.out]at u
 go_wp2
 go_ret;exact⟨_,rfl,Sl.nr u (by have:=Q.out;omega) R.out,E⟩
def Ho(key nonce a:List Int):Bool:=decide (key.length=32)&&decide (nonce.length=12)&&decide (a.length<=256)
theorem Hd(h i g:Value)(key b a:List Int)(w:World)(d:Sl w h key)(f:Sl w i b)(c:Sl w g a) :
  Calls prog 151 #[h,i,g] w λe w'=>e=.returned (.bool (Ho key b a))/\w'=w:=by
 have j:=d.len;have k:=f.len;have l:=c.len;obtain⟨n,q,rfl⟩:=d.shape;obtain⟨o,r,rfl⟩:=f.shape;obtain⟨m,p,rfl⟩:=c.shape;unfold Ho;generalize key.length=n1 at j d ⊢;generalize b.length=n2 at k f ⊢;generalize a.length=n3 at l c ⊢;clear d f c;by_cases c1:(n1:Int)=32
 .by_cases c2:(n2:Int)=12
  .by_cases c3:(n3:Int)<=256
   .go_enter func151,ntmps151
    go_wp2
    go_ret;refine⟨Am ?_,rfl⟩;simp;omega
   .go_enter func151,ntmps151
    go_wp2
    go_ret;refine⟨Am ?_,rfl⟩;simp;omega
  .go_enter func151,ntmps151
   go_wp2
   go_ret;refine⟨Am ?_,rfl⟩;simp;omega
 .go_enter func151,ntmps151
  go_wp2
  go_ret;refine⟨Am ?_,rfl⟩;simp;omega
end
end
end Go.Proofs.YtogibonjmbhliabGreatDoor
