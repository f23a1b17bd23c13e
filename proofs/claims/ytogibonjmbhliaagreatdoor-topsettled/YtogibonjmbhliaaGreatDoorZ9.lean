/- Part 9 of the walk. -/
import Derived.LoopN
import Derived.Lib.SmallJoins
import Derived.Test.YtogibonjmbhliaaGreatDoorZ8
set_option maxRecDepth 100000
set_option maxHeartbeats 4000000
open Go.Proofs.Tryz
set_option linter.unusedVariables false
namespace Go.Proofs.YtogibonjmbhliaaGreatDoor
section
open Go.RowKit
section
variable{P:Program}{fn:Func}{R:Ending->World->Prop}{B:Nat}{T:List Tg}{g:Gh}{w:World}
theorem gj{s:Xs}(k n:Nat)(a:List (Nat × Value))(m:List Bool)(i:List Sh)(l:SV s.K=true)(hn:s.f.n=n)(u:a.map (λp=>lk s.f.z s.f.e p.1)=a.map (·.2))(q:BS (AH m s.L)=i)
  (h:∀ J:Nat->Act->World->Prop,(∀ (m:Nat) (e:List (Nat × Value)) (z:Nat->Value) (L:List Sh) (g:Gh) (w:World),GG P fn R B T (eZ s n (J m) e z L) g w->Kn B g w L->J (m+1) (⟨n,e,z⟩:Fm).act w)->∀ z,GG P fn R B T (eZ s n (J k) a z i) g w):GG P fn R B T s g w:=by
 refine gFm a u λz=>?_;obtain⟨K,f,L⟩:=s;simp only at hn;subst hn;have j:BS (AH m L)=i:=q;have r:GG P fn R B T ⟨K,⟨f.n,a,z⟩,BS (AH m L)⟩ g w->GG P fn R B T ⟨K,⟨f.n,a,z⟩,L⟩ g w:=λh=>⟨λd=>h.ex (d.sub (D3 m L)).sV⟩;refine r ?_;rw[j];cases K with
 | nil=>cases l
 | cons t K =>
  cases t with
  | c x =>
   cases x with
   | loop b =>
    refine⟨λd=>?_⟩;exact wp_loop_rounds (k+1) ((h (Code.rounds P b (Kq P (bodyPost P fn R) K)) (λm e z L g w o d=>o.ex d) z).ex d)
   | _=>cases l
  | _=>cases l
end
section
variable{W w w0:World}{b1 b2 i k nb ob:Nat}{d:List Int}{g:Gh}{ls:List Let}{p:Nod}{s:Int}{ts:List Tol}{vs:List Value}{x:S3}
theorem NE{v:Vt}(h:NS i nb ob g w p ls ts)(E:Base w0 g w)(F:Tabs w0)(I:i<5)(G:ls.length<90000000)(q:Box g w b1 #[pt nb 0] 70)(t:Box g w b2 #[iv v.bn,iv v.b.r,iv v.b.n,iv v.w.k,iv v.w.c,iv v.w.s,iv v.w.n,iv v.w.v] 140)(l:p.ab.length<=40) :
  Calls prog 106 #[pt b1 0,pt b2 0] w (NP i nb ob g w (.tuple #[]) (p.count i v) (ls++BZ i { BJ 3 with bN:=v } 5) ts):=by
 obtain⟨x,lt,V,u,y,H⟩:=h;refine gI (fn:=f106) (TN i) g func106 H (qN u (qO y (Cr ⟨b1,.cells #[pt nb 0] 70,.z,false⟩ (λ_=>⟨q.r,q.z,λh=>(by cases h),λh=>absurd rfl h⟩) (by kernel_rfl) ?_)));refine Cr ⟨b2,.cells #[iv v.bn,iv v.b.r,iv v.b.n,iv v.w.k,iv v.w.c,iv v.w.s,iv v.w.n,iv v.w.v] 140,.z,false⟩ (λ_=>⟨t.r,t.z,λh=>(by cases h),λh=>absurd rfl h⟩) (by kernel_rfl) ?_;refine qR [] 8 [6,0,2,2,2,4,6,8,0,10,3] λS N W c1=>qS 6 [false,false,true,true] u y c1 (λA=>Of A (E.ch (c1.nil (TN i)) (BB i)) F i I v l) λO X x2 J L a e C=>qR [] 5 [0,1] λT P Y m=>qS 3 [true,true,false,false] a e m (λB=>E2 B G { BJ 3 with bN:=v } s30 s30 ⟨Sv.nil _,λh=>absurd rfl h⟩ (Rc.nil _ _)) λQ Z x5 K M d j D=>qR [] 1 [] λU R w7 o=>qF d j o (((((c1.nil (TN i)).trans (C)).n m).trans (D)).n o)
theorem Tc{b:Bal}{vs:List Vt}{e:S3}(h:NS i nb ob g w p ls ts)(H:Base w0 g w)(I:Tabs w0)(L:i<5)(J:ls.length<90000000){b3:Nat}(a:Box g w b1 #[pt nb 0] 70)(A:Box g w b2 #[iv b.r,iv b.n] 75)(B:Box g w b3 #[S3.v e] 76)(M:FSv g w e vs)(s:(p.an.aj i).vs.length<100000000) :
  Calls prog 58 #[pt b1 0,pt b2 0,pt b3 0] w (NP i nb ob g w (.tuple #[]) (if p.vo.p≠b then p else{ p with an:=p.an.rK i vs }) (if p.vo.p≠b then ls else(ls++BZ i { BJ 0 with fa:=b } 5)) ts):=by
 obtain⟨x,lt,tl,j,m,K⟩:=h;refine gI (fn:=f58) (TN i) g func58 K (qN j (qO m (Cr ⟨b1,.cells #[pt nb 0] 70,.z,false⟩ (λ_=>⟨a.r,a.z,λh=>(by cases h),λh=>absurd rfl h⟩) (by kernel_rfl) ?_)));refine Cr ⟨b2,.cells #[iv b.r,iv b.n] 75,.z,false⟩ (λ_=>⟨A.r,A.z,λh=>(by cases h),λh=>absurd rfl h⟩) (by kernel_rfl) ?_;refine Cr ⟨b3,.cells #[S3.v e] 76,.z,false⟩ (λ_=>⟨B.r,B.z,λh=>(by cases h),λh=>absurd rfl h⟩) (by kernel_rfl) ?_;refine qR [] 10 [8,0,2,2,4,6,8,10,0,12,3] λY S w1 c1=>?_;by_cases a:p.vo.p≠b
 .refine qT 7 (.bool true) (λ_=>(Jd (x:=(.tmp 8)) (y:=(.tmp 9)) p.vo.p b a)) (qR [] 2 [] λZ T w2 t=>?_);rw[if_pos a,if_pos a];exact qF j m (c1.n t) ((c1.nil (TN i)).n t)
 .have h10:p.vo.p=b:=by simpa using a
  refine qT 7 (.bool false) (λ_=>(Ja (x:=(.tmp 8)) (y:=(.tmp 9)) p.vo.p b h10)) ?_;rw[if_neg a,if_neg a];refine qR [] 14 [9,0,2,2,4,6,8,2,10,12,14,0,16,4] λs4 U w4 d=>qS 9 [false,false,true,true,true] j m (c1.n d) (λC=>QE C (H.ch ((c1.nil (TN i)).n d) (BB i)) I i L vs e (M.ch ((c1.nil (TN i)).n d) (BB i)) s) λV w5 x5 N P k o E=>qR [] 5 [0,1] λs7 W w7 u=>qS 3 [true,true,true,false,false] k o u (λD=>E2 D J { BJ 0 with fa:=b } s30 s30 ⟨Sv.nil _,λh=>absurd rfl h⟩ (Rc.nil _ _)) λX w8 x8 lt8 Q l q F=>qR [] 1 [] λO G R c=>qF l q c ((((((c1.nil (TN i)).n d).trans (E)).n u).trans (F)).n c)
def Nod.ln(p:Nod)(i:Nat):Pend->Nod
 | .began b vs=>if p.vo.p≠b then p else{ p with an:=p.an.rK i vs }
 | .prop v=>p.count i v
 | _=>p
def Nod.rz(p:Nod)(i:Nat):Pend->List Let
 | .began b vs=>if p.vo.p≠b then[]else BZ i { BJ 0 with fa:=b } 5
 | .prom to b vs=>[{ BJ 1 with fa:=b,lp:=vs,ed:=p.ab,src:=i,dst:=to }]
 | .voted to v=>[{ BJ 4 with bN:=v,src:=i,dst:=to }]
 | .eb to b=>[{ BJ 2 with fa:=b,src:=i,dst:=to }]
 | .prop v=>BZ i { BJ 3 with bN:=v } 5
 | .askNews to=>[{ BJ 6 with bn:=p.ab.length,src:=i,dst:=to }]
 | .start=>BZ i (BJ 6) 5
 | .tell to bn=>[{ BJ 5 with src:=i,dst:=to,bn:=bn,ed:=p.ab.drop bn }]
def RQ(p:Nod)(i:Nat):Pend->Prop
 | .began _ _=>(p.an.aj i).vs.length<100000000
 | .prop _=>p.ab.length<=40
 | .tell _ bn=>bn<=p.ab.length
 | _=>True
theorem gg{P:Program}{s:Xs}{S:Sem Next}{r:Result Next}(h:Dy s i=some S)(a:S.run P W=r):Dg P s i W=some r:=by
 unfold Dg;unfold Dy at h;cases hx:opN s i with
 | none=>rw[hx]at h;cases h
 | some x =>
  rw[hx]at h
  simp only[nK,Y']at h ⊢;rw[h,a]
theorem He(h:NS i nb ob g w p ls ts)(y:Base w0 g w)(z:Tabs w0)(A:i<5)(f:ls.length<90000000){v:Value}(q:Pend)(r:RQ p i q)(j:Lx g w nb v q) :
  ∃ (F:FuncId) (cs:Array Value),v=.func (.func F) #[] cs/\(∀ W,(Go.callFunc F (#[]++cs)).run prog W=.ok (.enter F cs) W)/\Calls prog F cs w (NP i nb ob g w (.tuple #[]) (p.ln i q) (ls++p.rz i q) ts):=by
 cases q with
 | began b vs =>
  obtain⟨k,m,t,x,e,a,c,d,o⟩:=j;refine⟨_,_,e,λW=>by kernel_rfl,?_⟩;have:=Tc h y z A f a c d o r;unfold Nod.ln Nod.rz;by_cases n:p.vo.p≠b
  .rw[if_pos n,if_pos n]at this;simp only[if_pos n,na];exact this
  .rw[if_neg n,if_neg n]at this;simp only[if_neg n];exact this
 | prom to b vs =>
  obtain⟨k,m,t,x,s,l,e,a,c,d,o,B,rfl,rfl⟩:=j;exact⟨_,_,e,λW=>(by kernel_rfl),Ht h f a c d B o⟩
 | voted to u =>
  obtain⟨k,m,s,l,e,a,c,d,rfl,rfl⟩:=j;exact⟨_,_,e,λW=>(by kernel_rfl),I1 (b3:=0) h f a c d⟩
 | eb to b =>
  obtain⟨k,m,t,e,a,c,d⟩:=j;exact⟨_,_,e,λW=>(by kernel_rfl),PB h f a c d⟩
 | prop u =>
  obtain⟨k,m,e,a,c⟩:=j;exact⟨_,_,e,λW=>(by kernel_rfl),NE h y z A f a c r⟩
 | askNews to =>
  obtain⟨k,m,s,l,e,a,c,d,rfl⟩:=j;exact⟨_,_,e,λW=>(by kernel_rfl),MR (b3:=0) h f a c d⟩
 | start =>
  obtain⟨k,e,a⟩:=j;exact⟨_,_,e,λW=>(by kernel_rfl),R3 (b2:=0) (b3:=0) h f a⟩
 | tell to bn =>
  obtain⟨k,m,s,l,e,a,c,d,rfl,rfl⟩:=j;exact⟨_,_,e,λW=>(by kernel_rfl),JX (b3:=0) h f a c d r⟩
theorem YF(s:Int){n:Nat}(h:Sl w x.v d)(hn:n<=d.length){N:Int}(a:(n:Int)=N) :
  Calls prog 109 #[.agg #[x.v,iv s],iv N] w λe w'=>∃ y:S3,e=.returned (.agg #[y.v,iv N])/\Sl w' y.v (d.take n)/\Nb w.heap.size y (d.take n)/\Bw w w':=by
 subst a;refine(Kl x.v d s n w h hn).mono ?_;rintro e w' ⟨y,rfl,c,b⟩;obtain⟨y,rfl,g,f⟩:=Tx (l:=d.take n) (by rw[X',n8 hn];exact c) (by rw[X'];have:=h.len;omega) (λz i=>h.byte z (mT i));exact⟨y,rfl,g,f,b⟩
theorem Zy(s:Int)(h:Sl w x.v d){t:Bool}(a:decide (AP d s)=t) :
  Calls prog 108 #[.agg #[x.v,iv s]] w λe w'=>e=.returned (.bool t)/\Bw w w':=by
 subst a;exact Mi x.v d s w h
theorem fB(h:Sl w x.v d) :
  Calls prog 107 #[.agg #[x.v,iv s]] w λe w'=>∃ y:S3,e=.returned (.tuple #[.agg #[y.v,iv (I0 d s)],iv (Dc d s)])/\Sl w' y.v (Hr d s)/\Nb w.heap.size y (Hr d s)/\Bw w w':=by
 refine kIn func107 (kR 10 [0,0,1,0,0] λb H g=>?_);obtain⟨t,j⟩:∃ t,decide (AP d s)=t:=⟨_,rfl⟩;refine kC 1 (Zy s (h.af g) j) ?_;rintro _ I ⟨rfl,i⟩;refine⟨_,rfl,i,?_⟩;refine kR 2 [] λC J k=>?_;by_cases a:AP d s
 .refine kI ((!t)) false (by rw[<- j,M' a];rfl) ?_;rw[show Dc d s=0 from if_pos a,show Hr d s=d from if_pos a,show I0 d s=(d.length:Int)from if_pos a];have m:=JU h;have A:d.take d.length=d:=oG;refine kR 7 [0,0] λD L r=>?_;have f:=(btr (btr (btr g i) k) r);refine kC 4 (YF s (n:=d.length) (N:=(x.n:Int)) (h.af f) (A' _) (by rw[m])) ?_;rintro _ M ⟨y,rfl,p,o,l⟩;refine⟨_,rfl,l,?_⟩;rw[A]at p o
  rw[<- m];refine kF 3 [1,0] λE O u B=>?_;have q:=((btr f l).trans u);exact qE2 2 3 95 1 (b 1) #[S3.v y,iv (x.n:Int)] (iv 0) λK=>⟨y,rfl,(p.kept B),o.mono f.size,q⟩
 .refine kI ((!t)) true (by rw[<- j,D' a];rfl) ?_;rw[show Dc d s=5 from if_neg a,show Hr d s=[]from if_neg a,show I0 d s=0 from if_neg a];refine kF 6 [1,0] λF P z G=>?_;have c:=((btr (btr g i) k).trans z);exact qE2 2 3 95 1 (b 1) #[S3.v s30,iv 0] (iv 5) λK=>⟨s30,rfl,EA _,λh=>absurd rfl h,c⟩
theorem Yk{k:Int}(h:Sl w x.v d)(L:-9223372036854775808<=k)(M:k<=9223372036854775807) :
  Calls prog 68 #[.agg #[x.v,iv s],iv k] w λe w'=>∃ y:S3,e=.returned (.tuple #[.agg #[y.v,iv (KL d s k)],iv (Gn d s k)])/\Sl w' y.v (KK d s k)/\Nb w.heap.size y (KK d s k)/\Bw w w':=by
 refine kIn func68 (kR 10 [0,0,1,0,0] λf w1 j=>?_);obtain⟨t,A⟩:∃ t,decide (AP d s)=t:=⟨_,rfl⟩;refine kC 1 (Zy s (h.af j) A) ?_;rintro _ w2 ⟨rfl,l⟩;refine⟨_,rfl,l,?_⟩;refine kR 2 [] λT w3 u=>?_;by_cases c:AP d s
 .refine kI ((!t)) false (by rw[<- A,M' c];rfl) (kR 7 [] λU w4 C=>?_);by_cases m:k<0
  .refine kI ((decide (k<0))) true (M' m) ?_;have a:Gn d s k=2:=(if_neg (λg=>g c)).trans (if_pos m);rw[show KK d s k=[]from if_neg (by rw[a];decide),show KL d s k=0 from if_neg (by rw[a];decide),a];refine kF 6 [1,0] λV w5 H q5=>?_;have G:=((btr (btr (btr j l) u) C).trans H);exact qE2 4 5 95 1 (f 1) #[S3.v s30,iv 0] (iv 2) λK=>⟨s30,rfl,EA _,λh=>absurd rfl h,G⟩
  .refine kI ((decide (k<0))) false (D' m) ?_;have a:Gn d s k=0:=(if_neg (λg=>g c)).trans (if_neg m);rw[show KK d s k=d.take (Gp d s k).toNat from if_pos a,show KL d s k=Gp d s k from if_pos a,a];have Z:=JU h;have Y:=h.len;have X:0<=s/\s<=(d.length:Int):=⟨c.2.1,c.2.2⟩;obtain⟨n,D⟩:∃ n:Nat,(n:Int)=s+min k ((x.n:Int)-s):=⟨(s+min k ((x.n:Int)-s)).toNat,by omega⟩;have J:Gp d s k=(n:Int):=by unfold Gp;split<;>omega
   have z:n<=d.length:=by omega
   rw[J,nI,D];refine kR 12 [0,0,0,0] λW w7 I=>kV 9 (iv ((x.n:Int)-s)) (l7 (x:=(.tmp 19)) (y:=(.tmp 21)) (x.n:Int) s underlying3 (by omega)) (kV 10 (iv (min k ((x.n:Int)-s))) (jj #[3,3] 3 k ((x.n:Int)-s)) (kV 11 (iv (s+min k ((x.n:Int)-s))) (AI (x:=(.tmp 15)) (y:=(.tmp 23)) s (min k ((x.n:Int)-s)) underlying3 (by omega)) ?_));have b:=(btr (btr (btr (btr j l) u) C) I);refine kC 12 (YF s (n:=n) (h.af b) z D) ?_;rintro _ Q ⟨y,rfl,O,N,i⟩;refine⟨_,rfl,i,?_⟩;refine kF 3 [1,0] λE R q B=>?_;have o:=((btr b i).trans q);exact qE2 4 5 95 1 (f 1) #[S3.v y,iv (s+min k ((x.n:Int)-s))] (iv 0) λK=>⟨y,rfl,(O.kept B),N.mono b.size,o⟩
 .refine kI ((!t)) true (by rw[<- A,D' c];rfl) ?_;have a:Gn d s k=5:=if_pos c;rw[show KK d s k=[]from if_neg (by rw[a];decide),show KL d s k=0 from if_neg (by rw[a];decide),a];refine kF 6 [1,0] λF S r P=>?_;have p:=((btr (btr j l) u).trans r);exact qE2 4 5 95 1 (f 1) #[S3.v s30,iv 0] (iv 5) λK=>⟨s30,rfl,EA _,λh=>absurd rfl h,p⟩
structure FzL(g:Gh)(w:World)(x:S3)(vs:List Value):Prop where
 n:x.n=vs.length
 at_:∀ j u,vs[j]?=some u->∃ b,x.a=some ⟨b,0,none⟩/\b<w.heap.size/\j<g.k b/\w.cell? ⟨b,j,none⟩=some u
theorem OwnS.fz{τ:Tg}{e:TypeId}(h:OwnS g w τ true e 1 x vs):FzL g w x vs:=by
 refine⟨by have:=h.len;omega,λj u d=>?_⟩;obtain⟨b,a,f,i⟩:=h.cell d;have c:j<vs.length:=(V'.1 d).1;refine⟨b,a,f,?_,i⟩;rcases h.ex with⟨h4,_⟩|⟨b',cur,h4,_,_,_,_,_,_,h8⟩
 .rw[h4]at a;cases a
 .rw[a]at h4
  simp only[Y',Addr.mk.injEq,and_true]at h4;subst h4;rw[h8,if_pos rfl];exact c
theorem FzL.ch{B:Nat}{T:List Tg}{d:Gh}{f:World}(h:FzL g w x vs)(c:Cg B T g w d f):FzL d f x vs :=
 ⟨h.n,λj u l=>by
  obtain⟨b,i,a,e,k⟩:=h.at_ j u l;exact⟨b,i,j' a c.size,j' e (c.se b a),(c.sf b a j e).trans k⟩⟩
theorem gu{b off:Nat}(c:x.a=some ⟨b,off,none⟩)(j:Nat)(d:j<x.n):(Instr.indexAt 79 x.v (iv (j:Int))).run prog W=.ok (pt b (off+1*j)) W:=by
 unfold S3.v;rw[c];exact NH (P:=prog) (e:=1) (z:=1) underlying79 (by kernel_rfl) (by kernel_rfl) d _ rfl
def nn(i:Nat):List Pend->Nod->List Let->Nod × List Let
 | [],p,ls=>(p,ls)
 | q::l,p,ls=>nn i l (p.ln i q) (ls++p.rz i q)
def GS(i:Nat):List Pend->Nod->List Let->Prop
 | [],_,_=>True
 | q::l,p,ls=>RQ p i q/\ls.length<90000000/\GS i l (p.ln i q) (ls++p.rz i q)
def Nod.rF(p:Nod):Nod:=if p.sy<(p.d.length:Int)then{ p with d:=Hr p.d p.sy,sy:=I0 p.d p.sy }else p
theorem Qw{l:List Pend}{j:Nat}{c:Pend}(h:l[j]?=some c):l.drop j=c::l.drop (j+1):=by
 obtain⟨a,b⟩:=V'.1 h;rw[<- b];exact ny a
theorem fC(h:NS i nb ob g w p ls ts)(hB:Base w0 g w)(hT:Tabs w0)(hi:i<5)(Y:GS i p.bt { p.rF with bt:=[] } ls)(f5:p.bt.length<100000000) :
  Calls prog 64 #[pt nb 0] w (NP i nb ob g w (.tuple #[]) (if p.sy<(p.d.length:Int)/\Dc p.d p.sy≠0 then(p,ls)else nn i p.bt { p.rF with bt:=[] } ls).1 (if p.sy<(p.d.length:Int)/\Dc p.d p.sy≠0 then(p,ls)else nn i p.bt { p.rF with bt:=[] } ls).2 ts):=by
 obtain⟨x,lt,tl,l,hO,hg⟩:=h;have f7:x.tape.n=p.d.length:=by obtain⟨a,e6,hh⟩:=l.tape.s.rJ;have:=l.tape.s.len;simp only[S3.v,Value.slice.injEq]at hh;exact hh.2.1
 refine gI (fn:=f64) (TN i) g func64 hg (qN l (qO hO ?_));obtain⟨pv,hP,I⟩:=l.bt;have hF:=hP.fz;have f6:x.synced.n=p.bt.length:=by rw[hF.n];exact I.len
 refine qR [] 16 [12,0,2,4,6,8,0,10,12,14,16,18,0,20,22] λs1 g1 w1 c1=>?_;by_cases h1:p.sy<(x.tape.n:Int)
 .refine qI ((decide (p.sy<(x.tape.n:Int)))) true (M' (by omega)) (qR [] 6 [0] λs2 g2 w2 c2=>Af λKq=>?_);have hS:=(l.tape.ch (c1.trans c2)).s;have hG:∀ z,w2.heap.size<=z->g2.t z=.z:=λz hz=>(Kq.new z hz).1;refine qC 4 (fB (s:=p.sy) hS) ?_;rintro e' w3 ⟨tz,rfl,b4,d6,b3⟩;refine⟨_,rfl,b3,?_⟩;have c3:=Cg.cF (B:=w.heap.size) (T:=[]) (g:=g2) b3;have f8:=JU b4;have d7:FSl _ _ tz _:=⟨b4,λhl a ha=>hG _ (d6 hl a ha)⟩;refine qR [] 13 [0,0,2,0] λs4 g4 w4 c4=>?_;by_cases E:Dc p.d p.sy≠0
  .refine qI (((Dc p.d p.sy) != 0)) true (by simpa using E) (qE (.tuple #[]) λK=>?_);rw[if_pos ⟨by omega,E⟩];exact⟨_,rfl,(nsC l hO (((c1.n c2).n c3).n c4) K),((((c1.nil (TN i)).n c2).n c3).n c4)⟩
  .refine qI (((Dc p.d p.sy) != 0)) false (by simpa using E) ?_;have O:p.rF={ p with d:=Hr p.d p.sy,sy:=I0 p.d p.sy }:=if_pos (by omega);rw[show(if p.sy<(p.d.length:Int)/\Dc p.d p.sy≠0 then(p,ls)else nn i p.bt { p.rF with bt:=[] } ls)=nn i p.bt ({ p with d:=Hr p.d p.sy,sy:=I0 p.d p.sy,bt:=[] }:Nod) ls from by rw[if_neg (by rintro⟨_,h⟩;exact E h),O]];rw[show{ p.rF with bt:=[] }=({ p with d:=Hr p.d p.sy,sy:=I0 p.d p.sy,bt:=[] }:Nod)from by rw[O]]at Y
   refine qR [.n 0 i] 32 [2,0,1,0,0,1] λs7 g7 w7 c7=>IH [true,true,false] ?_;refine Ce 51 [(42,S3.v x.synced),(43,iv (x.synced.n:Int)),(44,iv 0)] [false,false] [] (λk g' w' e L=>∃ (j:Nat) (q:Nod) (l2:List Let),k=p.bt.length-j/\j<=p.bt.length/\e=[(42,S3.v x.synced),(43,iv (x.synced.n:Int)),(44,iv (j:Int))]/\L=[]/\NS i nb ob g' w' q l2 ts/\nn i (p.bt.drop j) q l2=nn i p.bt ({ p with d:=Hr p.d p.sy,sy:=I0 p.d p.sy,bt:=[] }:Nod) ls/\GS i (p.bt.drop j) q l2/\Cg w.heap.size (TN i) g w g' w') (by kernel_rfl) (by kernel_rfl) (by kernel_rfl) (by kernel_rfl) p.bt.length (λK=>?_) ?_
   .have C8:=((((c1.nil ([.n 0 i]:List Tg)).n c2).n c3).n c4).trans (c7);have Z8:Tg.z∉([.n 0 i]:List Tg):=by simp
    exact⟨0,({ p with d:=Hr p.d p.sy,sy:=I0 p.d p.sy,bt:=[] }:Nod),ls,rfl,by omega,rfl,rfl,⟨({ x with tape:=tz,synced:=s30 }:NX),lt,tl,K.nd 0 ((d7.ch c4).ch c7) (l.lp.ch C8 Z8) (BG l.aj C8 Z8) ⟨[],OwnS.nil _ _ _ _ _ _,⟨rfl,λk v q h=>by cases h⟩⟩ (l.ew.ch C8) (l.ab.ch C8) (l.au.ch C8) (l.bw.ch C8) l.sh,hO.ch C8 Z8 (by simp<;>omega),K.new⟩,rfl,Y,(((((c1.nil (TN i)).n c2).n c3).n c4).trans (c7.mono (by simp[TN])))⟩
   .rintro k gr wr _ zr _ ⟨j,q,l2,rfl,hj,rfl,rfl,hM,hI,hK,hC⟩ J hJ;obtain⟨xr,d8,d9,m,o,d4⟩:=id hM;refine qN m (qO o (qR [] 5 [] λs9 g9 w9 Q=>?_));by_cases h5:j<p.bt.length
    .refine qI ((decide ((j:Int)<(x.synced.n:Int)))) true (M' (by omega)) ?_;obtain⟨D,N⟩:∃ D,p.bt[j]?=some D:=⟨_,G' h5⟩;obtain⟨v,hv⟩:∃ v,pv[j]?=some v:=⟨_,G' (by rw[I.len];exact h5)⟩;rw[Qw N]at hI hK
     obtain⟨G,H,a1⟩:=hK;have F:=hF.ch hC;obtain⟨bx,P,d2,d5,d3⟩:=F.at_ j v hv;have M:=(I.at_ j v D hv N).ch hC (BB i);refine qR [] 5 [] λf9 c0 e0 r=>qV 0 (pt bx (0+1*j)) (gu P j (by omega)) (Af λK=>?_);have b5:NS i nb ob c0 e0 q l2 ts:=(nsC m o (Q.n r) K);obtain⟨Z,A,e2,a2,_⟩:=He b5 (hB.ch (((hC.n Q).n r)) (BB i)) hT hi H D G (M.ch ((Q.nil (TN i)).n r) (BB i));subst e2;have a0:=F.ch (Q.trans r);refine qV 1 (.func (.func Z) #[] A) (Db (ty:=1) (b:=bx) (k:=0+1*j) (v:=.func (.func Z) #[] A) underlying1 rfl (by rw[nD,ry];obtain⟨b2,E,_,_,h4⟩:=a0.at_ j _ hv;rw[P]at E;simp only[Y',Addr.mk.injEq,and_true]at E;subst E;exact h4)) (qR [] 4 [] λg0 c5 e1 S=>Af λK=>?_);have b6:NS i nb ob c5 e1 q l2 ts:=(nsC m o ((Q.n r).n S) K);obtain⟨F3,b9,e3,_,C⟩:=He b6 (hB.ch ((((hC.n Q).n r).n S)) (BB i)) hT hi H D G (M.ch (((Q.nil (TN i)).n r).n S) (BB i));simp only[Value.func.injEq,Fn.func.injEq,true_and]at e3;obtain⟨rfl,rfl⟩:=e3;refine SJ 1 Z A (TN i) [false,false] (λW=>gg (by kernel_rfl) (a2 W)) (by kernel_rfl) (by kernel_rfl) (by kernel_rfl) C ?_;rintro e' i0 ⟨c6,rfl,a3,U⟩;refine⟨_,c6,rfl,U,a3.new,?_⟩;replace U:=U.ret (B:=w.heap.size);refine qR [] 3 [] λg3 e7 i1 a5=>qV 0 (iv ((j:Int)+1)) (AI (x:=(.tmp 44)) (y:=(.const (iv 1))) (j:Int) 1 underlying3 (by omega)) (qR [] 2 [] λg5 e8 i2 a6=>qB [] λz K0 K=>hJ (p.bt.length-(j+1)) _ _ _ z _ (by omega) ⟨j+1,q.ln i D,l2++q.rz i D,rfl,by omega,rfl,rfl,NS.rH a3 (a5.trans a6) K0.new,hI,a1,((((((hC.n Q).n r).n S).trans U).n a5).n a6)⟩ K)
    .refine qI ((decide ((j:Int)<(x.synced.n:Int)))) false (D' (by omega)) (qR [] 1 [] λg6 e9 i3 a7=>?_);obtain rfl:j=p.bt.length:=by omega
     rw[oF]at hI
     rw[<- hI];exact qF m o (Q.n a7) ((hC.n Q).n a7)
 .refine qI ((decide (p.sy<(x.tape.n:Int)))) false (D' (by omega)) ?_;have O:p.rF=p:=if_neg (by omega);rw[show(if p.sy<(p.d.length:Int)/\Dc p.d p.sy≠0 then(p,ls)else nn i p.bt { p.rF with bt:=[] } ls)=nn i p.bt ({ p with bt:=[] }:Nod) ls from by rw[if_neg (by rintro⟨h,_⟩;omega),O]];rw[show{ p.rF with bt:=[] }=({ p with bt:=[] }:Nod)from by rw[O]]at Y
  refine qR [.n 0 i] 25 [0,0,1] λg8 f0 i4 a8=>Ce 51 [(42,S3.v x.synced),(43,iv (x.synced.n:Int)),(44,iv 0)] [false,false] [] (λk g' w' e L=>∃ (j:Nat) (q:Nod) (l2:List Let),k=p.bt.length-j/\j<=p.bt.length/\e=[(42,S3.v x.synced),(43,iv (x.synced.n:Int)),(44,iv (j:Int))]/\L=[]/\NS i nb ob g' w' q l2 ts/\nn i (p.bt.drop j) q l2=nn i p.bt ({ p with bt:=[] }:Nod) ls/\GS i (p.bt.drop j) q l2/\Cg w.heap.size (TN i) g w g' w') (by kernel_rfl) (by kernel_rfl) (by kernel_rfl) (by kernel_rfl) p.bt.length (λK=>?_) ?_
  .have C22:=(c1.nil ([.n 0 i]:List Tg)).trans (a8);have R:Tg.z∉([.n 0 i]:List Tg):=by simp
   exact⟨0,({ p with bt:=[] }:Nod),ls,rfl,by omega,rfl,rfl,⟨({ x with synced:=s30 }:NX),lt,tl,K.nd 0 (l.tape.ch C22 R) (l.lp.ch C22 R) (BG l.aj C22 R) ⟨[],OwnS.nil _ _ _ _ _ _,⟨rfl,λk v q h=>by cases h⟩⟩ (l.ew.ch C22) (l.ab.ch C22) (l.au.ch C22) (l.bw.ch C22) l.sh,hO.ch C22 R (by simp<;>omega),K.new⟩,rfl,Y,((c1.nil (TN i)).trans (a8.mono (by simp[TN])))⟩
  .rintro k gr wr _ zr _ ⟨j,q,l2,rfl,hj,rfl,rfl,hM,hI,hK,hC⟩ J hJ;obtain⟨xr,d8,d9,m,o,d4⟩:=id hM;refine qN m (qO o (qR [] 5 [] λh0 f1 i5 c=>?_));by_cases h5:j<p.bt.length
   .refine qI ((decide ((j:Int)<(x.synced.n:Int)))) true (M' (by omega)) ?_;obtain⟨D,N⟩:∃ D,p.bt[j]?=some D:=⟨_,G' h5⟩;obtain⟨v,hv⟩:∃ v,pv[j]?=some v:=⟨_,G' (by rw[I.len];exact h5)⟩;rw[Qw N]at hI hK
    obtain⟨G,H,a1⟩:=hK;have F:=hF.ch hC;obtain⟨bx,P,d2,d5,d3⟩:=F.at_ j v hv;have M:=(I.at_ j v D hv N).ch hC (BB i);refine qR [] 5 [] λh3 c8 e4 u=>qV 0 (pt bx (0+1*j)) (gu P j (by omega)) (Af λK=>?_);have b7:NS i nb ob c8 e4 q l2 ts:=(nsC m o (c.n u) K);obtain⟨Z,A,e2,a2,_⟩:=He b7 (hB.ch (((hC.n c).n u)) (BB i)) hT hi H D G (M.ch ((c.nil (TN i)).n u) (BB i));subst e2;have a0:=F.ch (c.trans u);refine qV 1 (.func (.func Z) #[] A) (Db (ty:=1) (b:=bx) (k:=0+1*j) (v:=.func (.func Z) #[] A) underlying1 rfl (by rw[nD,ry];obtain⟨b2,E,_,_,h4⟩:=a0.at_ j _ hv;rw[P]at E;simp only[Y',Addr.mk.injEq,and_true]at E;subst E;exact h4)) (qR [] 4 [] λh6 d0 e5 V=>Af λK=>?_);have b8:NS i nb ob d0 e5 q l2 ts:=(nsC m o ((c.n u).n V) K);obtain⟨F3,b9,e3,_,C⟩:=He b8 (hB.ch ((((hC.n c).n u).n V)) (BB i)) hT hi H D G (M.ch (((c.nil (TN i)).n u).n V) (BB i));simp only[Value.func.injEq,Fn.func.injEq,true_and]at e3;obtain⟨rfl,rfl⟩:=e3;refine SJ 1 Z A (TN i) [false,false] (λW=>gg (by kernel_rfl) (a2 W)) (by kernel_rfl) (by kernel_rfl) (by kernel_rfl) C ?_;rintro e' i6 ⟨d1,rfl,a4,X⟩;refine⟨_,d1,rfl,X,a4.new,?_⟩;replace X:=X.ret (B:=w.heap.size);refine qR [] 3 [] λh7 f2 i7 a9=>qV 0 (iv ((j:Int)+1)) (AI (x:=(.tmp 44)) (y:=(.const (iv 1))) (j:Int) 1 underlying3 (by omega)) (qR [] 2 [] λh8 f3 i8 b0=>qB [] λz K0 K=>hJ (p.bt.length-(j+1)) _ _ _ z _ (by omega) ⟨j+1,q.ln i D,l2++q.rz i D,rfl,by omega,rfl,rfl,NS.rH a4 (a9.trans b0) K0.new,hI,a1,((((((hC.n c).n u).n V).trans X).n a9).n b0)⟩ K)
   .refine qI ((decide ((j:Int)<(x.synced.n:Int)))) false (D' (by omega)) (qR [] 1 [] λh9 f4 i9 b1=>?_);obtain rfl:j=p.bt.length:=by omega
    rw[oF]at hI
    rw[<- hI];exact qF m o (c.n b1) ((hC.n c).n b1)
def MV(p:Nod)(i j:Nat):Bool:=decide (j≠i/\p.an.bu j<p.ab.length)
def Lb(p:Nod)(i k:Nat):Nat->Nat:=λj=>if decide (j<k)&&MV p i j then p.ab.length else p.an.bu j
def E6(p:Nod)(i k:Nat):Nod:={ p with an:={ p.an with bu:=Lb p i k } }
def Dp(p:Nod)(i:Nat):Nat->List Let
 | 0=>[]
 | k+1=>Dp p i k++(if MV p i k then[{ BJ 5 with src:=i,dst:=k,bn:=p.an.bu k,ed:=p.ab.drop (p.an.bu k) }]else[])
theorem Vk(p:Nod)(i k:Nat):(Dp p i k).length<=k:=by
 induction k with
 | zero=>exact A' _
 | succ k ih=>unfold Dp;rw[H'];split<;>simp<;>omega
theorem Xt(p:Nod)(i:Nat):E6 p i 0=p:=by unfold E6 Lb;simp
theorem Vl(h:MV p i k=false):Lb p i (k+1)=Lb p i k:=by
 funext j
 unfold Lb;by_cases e:j=k
 .subst e;simp[h]
 .rw[show decide (j<k+1)=decide (j<k)from nP.2 (by omega)]
theorem bR(h:MV p i k=true):upN (Lb p i k) k p.ab.length=Lb p i (k+1):=by
 funext j
 unfold upN Lb;by_cases e:j=k
 .subst e;simp[h]
 .rw[if_neg e,show decide (j<k+1)=decide (j<k)from nP.2 (by omega)]
theorem Xu(h:NS i nb ob g w p ls ts)(hb:ls.length<90000000) :
  Calls prog 65 #[pt nb 0] w (NP i nb ob g w (.tuple #[]) (if p.leads then E6 p i 5 else p) (if p.leads then ls++Dp p i 5 else ls) ts):=by
 obtain⟨x,lt,tl,Q,R,hg⟩:=h;refine gI (fn:=f65) (TN i) g func65 hg (qN Q (qO R (qR [] 4 [] λs1 W w1 c1=>?_)));by_cases h1:p.leads=false
 .refine Af λK=>?_;have N3:NS i nb ob W w1 p ls ts:=(nsC Q R c1 K);refine qC 1 (Fo N3 h1) ?_;rintro e' w4 ⟨rfl,b4⟩;refine⟨_,rfl,b4,?_⟩;have c4:=Cg.cF (B:=w.heap.size) (T:=[]) (g:=W) b4;refine qR [] 3 [] λs5 g5 w5 c5=>qE (.tuple #[]) λK=>?_;rw[h1,if_neg (by simp),if_neg (by simp)];exact⟨_,rfl,(nsC Q R ((c1.n c4).n c5) K),(((c1.nil (TN i)).n c4).n c5)⟩
 .have h10:p.leads=true:=by simpa using h1
  refine Af λK=>?_;have N8:NS i nb ob W w1 p ls ts:=(nsC Q R c1 K);refine qC 1 (Fo N8 h10) ?_;rintro e' w9 ⟨rfl,b9⟩;refine⟨_,rfl,b9,?_⟩;have c9:=Cg.cF (B:=w.heap.size) (T:=[]) (g:=W) b9;rw[if_pos h10,if_pos h10];refine qR [] 15 [0] λd0 a4 e6 C=>Ce 51 [(0,pt nb 0),(12,.agg #[iv (p.an.bu 0:Int),iv (p.an.bu 1:Int),iv (p.an.bu 2:Int),iv (p.an.bu 3:Int),iv (p.an.bu 4:Int)]),(13,iv 0)] [false,false] [] (λk V X e L=>∃ k0:Nat,k=5-k0/\k0<=5/\e=[(0,pt nb 0),(12,.agg #[iv (p.an.bu 0:Int),iv (p.an.bu 1:Int),iv (p.an.bu 2:Int),iv (p.an.bu 3:Int),iv (p.an.bu 4:Int)]),(13,iv (k0:Int))]/\L=[]/\NS i nb ob V X (E6 p i k0) (ls++Dp p i k0) ts/\Cg w.heap.size (TN i) g w V X) (by kernel_rfl) (by kernel_rfl) (by kernel_rfl) (by kernel_rfl) 5 (λK=>?_) ?_
  .have C11:=(c1.n c9).n C;exact⟨0,rfl,by omega,rfl,rfl,(by rw[Xt,show ls++Dp p i 0=ls from na _];exact(nsC Q R C11 K)),(((c1.nil (TN i)).n c9).n C)⟩
  .rintro k gr wr _ zr _ ⟨k0,rfl,hk0,rfl,rfl,hM,hC⟩ J hJ;obtain⟨Y,c8,e5,d,j,c6⟩:=hM;have c7:=Vk p i k0;refine qN d (qO j ?_);have c3:Y.ab.n=p.ab.length:=d.ab.num;refine qR [] 5 [] λd1 a5 e7 a=>?_;by_cases h2:k0<5
   .refine qI ((decide ((k0:Int)<5))) true (M' (by omega)) (qR [] 6 [] λd2 a6 e8 b=>?_);refine dC 1 (iv (p.an.bu k0:Int)) (λK=>(by rcases rk h2 with rfl|rfl|rfl|rfl|rfl<;>kernel_rfl)) (by kernel_rfl) ?_;refine qR [] 10 [0] λd3 a7 e9 c=>?_;by_cases h3:k0≠i
    .refine qV 5 (.bool true) (Hp (t:=3) (m:=(k0:Int)) (n:=(i:Int)) (x:=(.tmp 17)) (y:=(.tmp 21)) (by simp;omega)) (qR [] 11 [0] λd4 a8 f0 o=>?_);by_cases h4:(p.an.bu k0:Int)<(Y.ab.n:Int)
     .have hx:MV p i k0=true:=M' ⟨by omega,by omega⟩;refine qI ((decide ((p.an.bu k0:Int)<(Y.ab.n:Int)))) true (M' (by omega)) (qR [] 5 [] λd5 a9 f1 D=>qS 3 [false,false] d j ((((a.n b).n c).n o).n D) (λZ=>Jp Z (by rw[H'];omega) k0 (p.an.bu k0) (by show _<=p.ab.length;omega)) λb0 f2 l r s q S a0=>qR [] 14 [13,0,2,4,6,8,10,12,0,14,16,18,20,22] λd6 a2 a3 E=>?_);have U:l.ab.n=p.ab.length:=q.ab.num;refine Ct 51 (λV X e L=>e=[(0,pt nb 0),(12,.agg #[iv (p.an.bu 0:Int),iv (p.an.bu 1:Int),iv (p.an.bu 2:Int),iv (p.an.bu 3:Int),iv (p.an.bu 4:Int)]),(13,iv (k0:Int))]/\L=[⟨nb,.cells (AF i ob ({ p with an:={ p.an with bu:=upN (Lb p i k0) k0 l.ab.n } }) l) 97,.n 0 i,false⟩,⟨ob,.cells #[S3.v r,S3.v s] 67,.n 50 0,false⟩]/\True/\Cg w.heap.size ([.n 0 i]:List Tg) a2 a3 V X) (by kernel_rfl) ?_ ?_
      .intro J hJ;rcases rk h2 with rfl|rfl|rfl|rfl|rfl <;>
       (refine qR [.n 0 i] 3 [24,27,0,1] λd7 b2 f4 a1=>?_;exact qB [true,true] λz u K=>hJ _ _ _ z _ ⟨rfl,rfl,trivial,a1⟩ K)
      rintro b1 f3 _ g3 _ ⟨rfl,rfl,_,F⟩;refine qR [] 2 [] λd8 b3 f5 G=>qV 0 (iv ((k0:Int)+1)) (AI (x:=(.tmp 13)) (y:=(.const (iv 1))) (k0:Int) 1 underlying3 (by omega)) (qR [] 2 [] λd9 b5 f6 H=>qB [false,false] λz u K=>hJ (5-(k0+1)) _ _ _ z _ (by omega) ⟨k0+1,rfl,by omega,rfl,rfl,?_,((((((((((hC.n a).n b).n c).n o).n D).trans a0).n E).trans (F.mono (by simp[TN]))).n G).n H)⟩ K);have A:=(((E.nil ([.n 0 i]:List Tg)).trans (F)).n G).n H;rw[show E6 p i (k0+1)={ p with an:={ p.an with bu:=upN (Lb p i k0) k0 l.ab.n } }from by unfold E6;rw[<- bR hx,U],show ls++Dp p i (k0+1)=(ls++Dp p i k0++[{ BJ 5 with src:=i,dst:=k0,bn:=p.an.bu k0,ed:=p.ab.drop (p.an.bu k0) }])from by show ls++(Dp p i k0++_)=_;rw[hx,if_pos rfl,mH]];exact⟨l,r,s,u.sX 0 q A,S.ch A (hn:=by simp<;>omega),u.new⟩
     .have hx:MV p i k0=false:=D' (λh=>h4 (by omega));refine qI ((decide ((p.an.bu k0:Int)<(Y.ab.n:Int)))) false (D' (by omega)) (qR [] 3 [] λe0 b6 f7 I=>qV 0 (iv ((k0:Int)+1)) (AI (x:=(.tmp 13)) (y:=(.const (iv 1))) (k0:Int) 1 underlying3 (by omega)) (qR [] 2 [] λe1 b7 f8 M=>qB [false,false] λz u K=>hJ (5-(k0+1)) _ _ _ z _ (by omega) ⟨k0+1,rfl,by omega,rfl,rfl,?_,((((((hC.n a).n b).n c).n o).n I).n M)⟩ K));rw[show E6 p i (k0+1)={ p with an:={ p.an with bu:=Lb p i k0 } }from by unfold E6;rw[Vl hx],show ls++Dp p i (k0+1)=ls++Dp p i k0 from by show ls++(Dp p i k0++_)=_;rw[hx];simp];exact(nsC d j (((((a.n b).n c).n o).n I).n M) u)
    .have hx:MV p i k0=false:=D' (λh=>h.1 (by omega));refine qV 5 (.bool false) (Hp (t:=3) (m:=(k0:Int)) (n:=(i:Int)) (x:=(.tmp 17)) (y:=(.tmp 21)) (by simp;omega)) (qR [] 15 [] λe2 b8 f9 N=>qV 0 (iv ((k0:Int)+1)) (AI (x:=(.tmp 13)) (y:=(.const (iv 1))) (k0:Int) 1 underlying3 (by omega)) (qR [] 2 [] λe3 c0 g0 O=>qB [false,false] λz u K=>hJ (5-(k0+1)) _ _ _ z _ (by omega) ⟨k0+1,rfl,by omega,rfl,rfl,?_,(((((hC.n a).n b).n c).n N).n O)⟩ K));rw[show E6 p i (k0+1)={ p with an:={ p.an with bu:=Lb p i k0 } }from by unfold E6;rw[Vl hx],show ls++Dp p i (k0+1)=ls++Dp p i k0 from by show ls++(Dp p i k0++_)=_;rw[hx];simp];exact(nsC d j ((((a.n b).n c).n N).n O) u)
   .refine qI ((decide ((k0:Int)<5))) false (D' (by omega)) (qR [] 1 [] λe4 c2 g2 P=>?_);obtain rfl:k0=5:=by omega
    exact qF d j (a.n P) ((hC.n a).n P)
end
end
section
section
def BU(l:List Vt):Prop:=BR l/\∀ v∈l,0<=v.bn/\v.bn<=39
theorem aG(l:List Vt)(a:Int)(h:BR l)(b:∀ v∈l,a<=v.bn/\v.bn<=39):l.length<=(40-a).toNat:=by
 induction l generalizing a with
 | nil=>exact mY _
 | cons u l ih =>
  obtain⟨d,e⟩:=h;have f:=b u O';have:=ih (u.bn+1) e λv c=>⟨by have:=d v c;omega,(b v (I' _ c)).2⟩;rw[nc];omega
variable{a:Acc}{b:Bal}{l:List Vt}{v:Vt}
theorem BU.len(h:BU l):l.length<=40:=aG l 0 h.1 h.2
theorem BU.nil:BU []:=⟨trivial,λv h=>by cases h⟩
theorem Ar(h:AX a v=0):Ag a/\Ah v/\¬ v.b.lt a.p:=by
 unfold AX at h;by_cases c:Ag a
 .rw[if_neg (λg=>g c)]at h
  by_cases d:Ah v
  .rw[if_neg (λg=>g d)]at h
   by_cases e:v.b.lt a.p
   .rw[if_pos e]at h;cases h
   .exact⟨c,d,e⟩
  .rw[if_pos d]at h;cases h
 .rw[if_pos c]at h;cases h
theorem Co(h:Cl a b=0):Ag a/\Ab b/\¬ b.lt a.p:=by
 unfold Cl at h;by_cases c:Ag a
 .rw[if_neg (λg=>g c)]at h
  by_cases d:Ab b
  .rw[if_neg (λg=>g d)]at h
   by_cases e:b.lt a.p
   .rw[if_pos e]at h;cases h
   .exact⟨c,d,e⟩
  .rw[if_pos d]at h;cases h
 .rw[if_pos c]at h;cases h
theorem Gx(h:BU l)(b:Ah v):BU (Bo l v) :=
 ⟨JF v h.1,λu a=>by
  rcases(BH h.1).1 a with rfl|⟨h2,_⟩
  .exact b.1
  .exact h.2 u h2⟩
theorem Wc(a:Acc)(l:List Vt)(h:BU a.vs):BU (Dh a l).vs:=by
 induction l generalizing a with
 | nil=>exact h
 | cons v l ih =>
  rw[Dh];refine ih _ ?_;by_cases b:AX a v=0
  .rw[if_pos b];show BU (Bu a v);rw[(DA b).2];exact Gx h (Ar b).2.1
  .rw[if_neg b];exact h
def POk(k:Nat):Pend->Prop
 | .began b vs=>BU vs
 | .prom to b vs=>to<5/\Aq b/\BU vs
 | .voted to v=>to<5
 | .eb to b=>to<5/\Aq b
 | .prop v=>True
 | .askNews to=>to<5
 | .start=>True
 | .tell to bn=>to<5/\bn<=k
theorem POk.mono{k m:Nat}{q:Pend}(h:POk k q)(a:k<=m):POk m q:=by
 cases q<;>first|exact h|exact⟨h.1,mF h.2 a⟩
def Pend.wt:Pend->Nat
 | .began _ _=>4
 | .prop _=>4
 | .start=>4
 | _=>1
def Ay:List Pend->Nat
 | []=>0
 | q::l=>q.wt+Ay l
theorem FN(l:List Pend)(q:Pend):Ay (l++[q])=Ay l+q.wt:=by
 induction l with
 | nil=>simp[Ay]
 | cons x l ih=>simp only[List.cons_append,Ay,ih];omega
theorem Eh(l:List Pend):l.length<=Ay l:=by
 induction l with
 | nil=>exact A' _
 | cons x l ih =>
  rw[Ay,nc];have:1<=x.wt:=by cases x<;>simp[Pend.wt]
  omega
structure NOk(n:Nat)(p:Nod):Prop where
 ag:p.ab.length<=40
 dn:p.done<=p.ab.length
 qu:p.an.ew.length<=40
 wa:p.au.length<=n
 ask:∀ c,(p.bw c).isSome=true->c∈p.au
 ro:0<=p.cn/\p.cn<=65536
 vp:Aq p.vo.p
 vs:BU p.vo.vs
 he:∀ j,BU (p.an.aj j).vs
 pe:∀ q∈p.bt,POk p.ab.length q
structure LOk(l:Let):Prop where
 kd:l.kind<7
 src:l.src<5
 dst:l.dst<5
 fa:Aq l.fa
 vs:BU l.lp
 wh:l.ed.length<=40
 sl:l.kind=5->l.bn+l.ed.length<=40
theorem Aq.b0:Aq Bb:=.inr ⟨rfl,rfl⟩
theorem Aq.tN(h:Aq b):0<=b.r/\b.r<=65536/\0<=b.n/\b.n<=4:=by
 rcases h with⟨h1,h2⟩|⟨h1,h2⟩<;>omega
end
section
variable{n:Nat}{p:Nod}
theorem NOk.wait(h:NOk n p){q:Pend}(b:POk p.ab.length q):NOk n (p.wait q) :=
 { h with pe:=λr c=>(U'.1 c).elim (h.pe r) λa=>(E'.1 a)▸b }
theorem NOk.al(h:NOk n p)(b:Bal):NOk n (p.al b).1/\(p.al b).1.bt=p.bt/\(p.al b).1.ab=p.ab/\BU (p.al b).2.1/\((p.al b).2.2=0->Ab b):=by
 unfold Nod.al;by_cases a:Cl p.vo b≠0
 .rw[if_pos a];exact⟨h,rfl,rfl,BU.nil,λg=>absurd g a⟩
 .rw[if_neg a];have c:=Co (nz a);by_cases f:b=p.vo.p
  .rw[if_pos f];exact⟨{ h with vp:=.inl c.2.1,vs:=h.vs },rfl,rfl,h.vs,λ_=>c.2.1⟩
  .rw[if_neg f];by_cases e:CJ p.d p.sy (Ab b) (Bv b)≠0
   .rw[if_pos e];exact⟨h,rfl,rfl,BU.nil,λg=>absurd g e⟩
   .rw[if_neg e];exact⟨{ h with vp:=.inl c.2.1,vs:=h.vs },rfl,rfl,h.vs,λ_=>c.2.1⟩
theorem NOk.bN(h:NOk n p)(v:Vt):NOk n (p.bN v).1/\(p.bN v).1.bt=p.bt/\(p.bN v).1.ab=p.ab/\(p.bN v).1.an=p.an:=by
 unfold Nod.bN;by_cases b:AX p.vo v≠0
 .rw[if_pos b];exact⟨h,rfl,rfl,rfl⟩
 .rw[if_neg b];have a:=Ar (nz b);by_cases c:v∈p.vo.vs
  .rw[if_pos c];exact⟨{ h with vp:=.inl a.2.1.2.1,vs:=Gx h.vs a.2.1 },rfl,rfl,rfl⟩
  .rw[if_neg c];by_cases e:CJ p.d p.sy (Ah v) (Bj v)≠0
   .rw[if_pos e];exact⟨h,rfl,rfl,rfl⟩
   .rw[if_neg e];exact⟨{ h with vp:=.inl a.2.1.2.1,vs:=Gx h.vs a.2.1 },rfl,rfl,rfl⟩
theorem NOk.eb(h:NOk n p){to:Nat}(a:to<5)(e:Int):NOk n (p.eb to e)/\(p.eb to e).ab=p.ab/\Ay (p.eb to e).bt<=Ay p.bt+1:=by
 unfold Nod.eb;split
 .exact⟨h.wait ⟨a,h.vp⟩,rfl,by show Ay (p.bt++[_])<=_;rw[FN];exact A' _⟩
 .exact⟨h,rfl,nR _⟩
theorem ec(k:Nat)(r:Rnd)(l:List Cmd)(h:l.length<=40):(FE k r l).length<=40/\l.length<=(FE k r l).length:=by
 induction k generalizing l with
 | zero=>exact⟨h,A' _⟩
 | succ k ih =>
  rw[FE];split
  .rename_i h1
   have a:=Yc h1;have:=ih (l++[CQ r.gC (l.length:Int)]) (by simp;omega);simp at this;exact⟨this.1,by omega⟩
  .exact⟨h,A' _⟩
theorem NOk.grow(h:NOk n p){l:List Cmd}(b:l.length<=40)(a:p.ab.length<=l.length):NOk n { p with ab:=l } :=
 { h with ag:=b,dn:=mF h.dn a,pe:=λq c=>(h.pe q c).mono a }
theorem NOk.rA(h:NOk n p):NOk n p.rA/\p.rA.bt=p.bt/\p.ab.length<=p.rA.ab.length :=
 have:=ec 41 p.an p.ab h.ag
 ⟨h.grow this.1 this.2,rfl,this.2⟩
theorem NOk.jv(h:NOk n p){bn:Nat}{ed:List Cmd}(a:bn<=p.ab.length)(b:bn+ed.length<=40):NOk n (p.jv bn ed)/\(p.jv bn ed).bt=p.bt/\p.ab.length<=(p.jv bn ed).ab.length:=by
 have c:=h.ag;refine⟨h.grow ?_ ?_,rfl,?_⟩
 .rw[H',mM];omega
 .rw[H'];omega
 .show _<=(p.ab++_).length;rw[H'];omega
theorem bV{α:Type}{f:Nat->α}{P:α->Prop}(h:∀ j,P (f j))(i:Nat){x:α}(a:P x):∀ j,P (upN f i x j):=by
 intro j;unfold upN;split
 .exact a
 .exact h j
theorem NOk.rK(h:NOk n p)(j:Nat){vs:List Vt}(b:BU vs):NOk n { p with an:=p.an.rK j vs } :=
 { h with qu:=h.qu,he:=bV (P:=λa:Acc=>BU a.vs) h.he j (Wc _ _ b) }
theorem NOk.count(h:NOk n p)(j:Nat)(v:Vt):NOk n (p.count j v)/\(p.count j v).bt=p.bt/\p.ab.length<=(p.count j v).ab.length:=by
 unfold Nod.count;by_cases d:v.b≠p.an.fa
 .rw[if_pos d];exact⟨h,rfl,A' _⟩
 .rw[if_neg d];by_cases c:AX (p.an.aj j) v≠0
  .rw[if_pos c];exact⟨h,rfl,A' _⟩
  .rw[if_neg c];have e:=nz c;have:NOk n { p with an:={ p.an with aj:=upN p.an.aj j ⟨BN (p.an.aj j) v,Bu (p.an.aj j) v⟩ } } :=
    { h with qu:=h.qu,he:=bV (P:=λa:Acc=>BU a.vs) h.he j (by show BU (Bu _ v);rw[(DA e).2];exact Gx (h.he j) (Ar e).2.1) }
   exact this.rA
theorem NOk.dT(h:NOk n p)(l:List Cmd):NOk n (p.dT l)/\(p.dT l).bt=p.bt/\(p.dT l).ab=p.ab:=by
 unfold Nod.dT;split
 .exact⟨{ h with qu:=dk _ _ h.qu,he:=h.he },rfl,rfl⟩
 .exact⟨h,rfl,rfl⟩
theorem NOk.take(h:NOk n p){l:Let}(a:LOk l):NOk n (p.take l)/\Ay (p.take l).bt<=Ay p.bt+1/\p.ab.length<=(p.take l).ab.length:=by
 have g:=h.ag;unfold Nod.take;have b:∀ {P:Nod} {q:Pend},P.bt=p.bt->q.wt=1->Ay (P.wait q).bt<=Ay p.bt+1:=λ{P q} e d=>by
  show Ay (P.bt++[q])<=_;rw[FN,e,d];exact A' _
 split
 .have hp:=h.al l.fa;split
  .have:=h.eb a.src (p.al l.fa).2.2;exact⟨this.1,this.2.2,by rw[this.2.1];exact A' _⟩
  .rename_i h1
   exact⟨hp.1.wait ⟨a.src,.inl (hp.2.2.2.2 (nz h1)),hp.2.2.2.1⟩,b hp.2.1 rfl,by show _<=(p.al l.fa).1.ab.length;rw[hp.2.2.1];exact A' _⟩
 .have hk:=h.jv (bn:=0) (ed:=l.ed) (mY _) (by have:=a.wh;omega);simp only;split
  .exact⟨hk.1,by rw[hk.2.1];omega,hk.2.2⟩
  .have h2:=hk.1.rK l.src (vs:=l.lp) a.vs;have f:NOk n { p.jv 0 l.ed with an:={ (p.jv 0 l.ed).an.rK l.src l.lp with bu:=upN (p.jv 0 l.ed).an.bu l.src l.ed.length } }:={ h2 with qu:=h2.qu,he:=h2.he };have c:=f.rA;exact⟨c.1,by rw[c.2.1];show Ay (p.jv 0 l.ed).bt<=_;rw[hk.2.1];omega,mF hk.2.2 c.2.2⟩
 .have hr:=h.ro;have i:=a.fa.tN;exact⟨{ h with ro:=by show 0<=max p.cn l.fa.r/\max p.cn l.fa.r<=65536;omega },nR _,A' _⟩
 .have hp:=h.bN l.bN;split
  .have:=h.eb a.src (p.bN l.bN).2;exact⟨this.1,this.2.2,by rw[this.2.1];exact A' _⟩
  .exact⟨hp.1.wait a.src,b hp.2.1 rfl,by show _<=(p.bN l.bN).1.ab.length;rw[hp.2.2.1];exact A' _⟩
 .have:=h.count l.src l.bN;exact⟨this.1,by rw[this.2.1];omega,this.2.2⟩
 .rename_i hk
  split
  .exact⟨h.wait a.src,b rfl rfl,A' _⟩
  .have:=h.jv (bn:=l.bn) (ed:=l.ed) (by omega) (a.sl hk);exact⟨this.1,by rw[this.2.1];omega,this.2.2⟩
 .have he:=h.dT l.ed;simp only;split
  .rename_i h1
   exact⟨he.1.wait ⟨a.src,o0 h1⟩,b he.2.1 rfl,by show _<=(p.dT l.ed).ab.length;rw[he.2.2];exact A' _⟩
  .exact⟨he.1,by rw[he.2.1];omega,by rw[he.2.2];exact A' _⟩
 .exact⟨h,nR _,A' _⟩
end
end
section
open Go.RowKit
section
def Gv(l:List Int)(n:Nat):List Int:=l++List.replicate (n-l.length) 0
def IK(l:List Int):List Int:=if 64<l.length then dig l else l
def fk(l:List Int):List Int:=Gv (IK l) 64
def BA(k:List Int)(m:Int):List Int:=k.map λx=>bits .xor .u8 x m
def E7(key b:List Int):List Int:=dig (BA (fk key) 92++dig (BA (fk key) 54++b))
theorem Nu(l:List Int)(n:Nat)(h:l.length<=n):(Gv l n).length=n:=by simp[Gv];omega
variable{l:List Int}{n:Nat}{w:World}
theorem Q4(h:∀ x∈l,0<=x/\x<256)(n:Nat):∀ x∈Gv l n,0<=x/\x<256:=by
 intro x a;rcases U'.1 a with h1|h1
 .exact h x h1
 .rw[List.eq_of_mem_replicate h1];omega
theorem Pm(l:List Int):(IK l).length<=64:=by
 unfold IK;split
 .rw[AA];omega
 .omega
theorem SY(h:∀ x∈l,0<=x/\x<256):∀ x∈IK l,0<=x/\x<256:=by
 unfold IK;split
 .exact DI l
 .exact h
theorem Fk(l:List Int):(fk l).length=64:=Nu _ _ (Pm l)
theorem dw(h:∀ x∈l,0<=x/\x<256):∀ x∈fk l,0<=x/\x<256:=Q4 (SY h) 64
theorem FF(l:List Int)(m:Int):(BA l m).length=l.length:=by simp[BA]
theorem Mg(h:∀ x∈l,0<=x/\x<256){m:Int}(b:0<=m/\m<256):∀ x∈BA l m,0<=x/\x<256:=by
 intro x c;obtain⟨y,d,rfl⟩:=mW.1 c;have a:=h y d;rw[u8_xor _ _ a.1 a.2 b.1 b.2];have:y.toNat ^^^ m.toNat<256:=pL (n:=8) (by omega) (by omega);omega
theorem DL(k b:List Int):(E7 k b).length=32:=rfl
theorem Oz(k b:List Int):∀ x∈E7 k b,0<=x/\x<256:=DI _
theorem Ot:(prog.info? 5).map (·.size)=some 1:=by kernel_rfl
theorem KC(l:List Int):splice ((List.replicate 64 (0:Int)).map (Value.int .u8)) 0 (l.map (Value.int .u8))=(Gv l 64).map (Value.int .u8):=by
 have e:(List.replicate 64 (0:Int)).map (Value.int .u8)=List.replicate 64 (Value.int .u8 0):=pM;rw[e];simp only[splice,Gv,n7,oD,mV,nD,List.drop_replicate,nh,pM]
theorem Jw{P:Program}{ops:Array Oper}{b:List Oper}{o:Oper}{a:Act}{Q:Exit->Act->World->Prop}(f:o.guard=none)(ty:TypeId)(x y:Operand)(n:o.op=.store ty x y)(g:Nat)(cells:Array Value)(p:a.eval x=.pointer (some ⟨g,0,none⟩))(q:a.eval y=.agg cells)(t:TypeId)(c:Array Value)(i:w.heap[g]?=some (.cells c t (0,0)))(m:(P.info? ty).map (·.size)=some cells.size)(d:c.size=cells.size)(k:cells.all (·.oneCell')=true)(B:Nat)(j:World)(l:Below B j w)(e:B<=g)(h:∀ w',w'.heap[g]?=some (.cells cells t (0,0))->Below B j w'->wpList P ops Q b (a.put o.dst undef) w'):wpList P ops Q (o::b) a w :=
 wpList_store_row f ty x y n g cells p q t c i m d k (h _ (setRow_heap w g _ _ t _ i) (BV l e _))
theorem Sl.ss{i:Option Addr}{c:Nat}(h:Sl w (.slice i n c) l)(q:0<l.length):∃ ad,i=some ad/\∀ (j:Nat) (v:Value),(l.map (Value.int .u8))[j]?=some v->w.cell? (ad.add j)=some v:=by
 obtain⟨⟨a,k,e,r,s,m⟩,p,o⟩:=h;simp only[Value.slice.injEq]at e;obtain⟨rfl,rfl,rfl⟩:=e;rcases m with rfl|⟨b,off,rfl,_,hcell⟩
 .simp at q
 .refine⟨_,rfl,λj v g=>?_⟩;have d:j<l.length:=by
   have:=(V'.1 g).1;simpa using this
  have f:(⟨b,off,none⟩:Addr).add j=⟨b,off+j,none⟩:=by unfold Addr.add;split<;>simp_all
  rw[f,hcell j d];simp[List.getElem?_eq_getElem d]at g
  rw[AY d,g]
theorem Q6(v:Value)(l:List Int)(w:World)(h:Sl w v l)(K:l.length<=100000)(N:AK w) :
  Calls prog 145 #[v] w λe w'=>e=.returned (.agg (AU (fk l)))/\Bw w w':=by
 have F:=h;obtain⟨⟨a,H,rfl,Q,R,D⟩,L,z⟩:=h;have P:Hid _:=D;have c:(prog.info? 224).map (·.size)=some (AU (fk l)).size:=by rw[AE,Fk];kernel_rfl
 clear D z;by_cases E:64<l.length
 .have ek:IK l=dig l:=by unfold IK;rw[if_pos E]
  have y:Hid (fk l=Gv (dig l) 64):=by unfold Hid fk;rw[ek]
  clear ek;go_enter func145,ntmps145
  go_wp2_with fail
  generalize i:w.alloc _=W0;have d:Bw w W0:=by rw[<- i];exact(Below.refl _ _).alloc (A' _) _
  have u:W0.heap[w.heap.size]?=some (.cells (AU (List.replicate 64 0)) 224 (0,0)):=by rw[<- i];exact heap_alloc_new _ _
  have C:W0.heap.size=w.heap.size+1:=by rw[<- i];simp
  clear i;refine(FA _ l W0 (F.af d) K (N.af d)).mono ?_;rintro e j ⟨S,rfl,o,m⟩;obtain⟨I,c1,O,A,B,J,n,_⟩:=Eu o (FI (AA l));subst O;have p:j.heap[w.heap.size]?=some (.cells (AU (List.replicate 64 0)) 224 (0,0)):=(m.block _ (by omega)).trans u;have t:Bw w j:=d.trans (m.mono d.size);have x:w.heap.size<j.heap.size:=(Q'.1 p).1;have G:Sl j (.slice (some ⟨I,0,none⟩) (dig l).length c1) (dig l):=Sl.lz o (by rw[AA];omega) (DI l);go_wp2_with (refine wpList_copy_splice rfl _ _ 39 39 rfl 5 underlying39 Ot _ _ _ _ _ _ rfl rfl j.heap.size 0 ((List.replicate 64 (0:Int)).map (Value.int .u8)) 224 (heap_alloc_new _ _) ((dig l).map (Value.int .u8)) (by rw[mV,AA];rfl) (λ_=>⟨rfl,(G.af ((Below.refl _ _).alloc (A' _) _)).ss (by rw[AA];omega)⟩) (by rw[mV,AA];simp) (Fl _) j.heap.size _ (Below.refl _ _) (A' _) ?_)
  intro g r b;have q:g.heap[j.heap.size]?=some (.cells (AU (fk l)) 224 (0,0)):=by
   have s:g.heap[j.heap.size]?=some (.cells (splice ((List.replicate 64 (0:Int)).map (Value.int .u8)) 0 ((dig l).map (Value.int .u8))).toArray 224 (0,0)):=r.out;rw[KC]at s
   rw[y.out];exact s
  have k:Bw w g:=(t.alloc t.size _).trans (b.mono (by omega));have f:g.heap[w.heap.size]?=some (.cells (AU (List.replicate 64 0)) 224 (0,0)):=by
   rw[b.block _ x,heap_alloc_old _ _ x];exact p
  clear r b p u C d m n o G B A;go_wp2_with (first|(refine wpList_load_row rfl 224 _ rfl j.heap.size rfl 224 _ (0,0) _ q underlying224 rfl c ?_)|(refine wpList_store_row rfl 224 _ _ rfl w.heap.size _ rfl rfl 224 _ f c (by rw[AE,AE,Fk];rfl) (L3 _) ?_))
  refine bodyPost_ret (v:=.agg (AU (fk l))) (results_cell_row rfl _ _ w.heap.size 224 _ (0,0) _ rfl (setRow_heap g w.heap.size _ _ 224 _ f) underlying224 rfl c) rfl ⟨rfl,BV k (A' _) _⟩
 .have ek:IK l=l:=by unfold IK;rw[if_neg E]
  have y:Hid (fk l=Gv l 64):=by unfold Hid fk;rw[ek]
  clear ek;go_enter func145,ntmps145
  go_wp2_with (refine wpList_copy_splice rfl _ _ 39 39 rfl 5 underlying39 Ot _ _ _ _ _ _ rfl rfl (w.heap.size+1) 0 ((List.replicate 64 (0:Int)).map (Value.int .u8)) 224 (heap_alloc2_new _ _ _) (l.map (Value.int .u8)) (by rw[mV];exact(n8 (show l.length<=64 by omega)).symm) (λM=>⟨rfl,(F.af (((Below.refl _ _).alloc (A' _) _).alloc (by simp) _)).ss (by simpa using M)⟩) (by rw[mV,mV,oC];omega) (Fl _) (w.heap.size+1) _ (Below.refl _ _) (A' _) ?_)
  intro g r b;have q:g.heap[w.heap.size+1]?=some (.cells (AU (fk l)) 224 (0,0)):=by
   have s:g.heap[w.heap.size+1]?=some (.cells (splice ((List.replicate 64 (0:Int)).map (Value.int .u8)) 0 (l.map (Value.int .u8))).toArray 224 (0,0)):=r.out;rw[KC]at s
   rw[y.out];exact s
  have k:Bw w g:=(((Below.refl _ _).alloc (A' _) _).alloc (by simp) _).trans (b.mono (by omega));have f:g.heap[w.heap.size]?=some (.cells (AU (List.replicate 64 0)) 224 (0,0)):=by
   rw[b.block _ (by omega)];exact heap_alloc2_old _ _ _
  clear r b;go_wp2_with (first|(refine wpList_load_row rfl 224 _ rfl (w.heap.size+1) rfl 224 _ (0,0) _ q underlying224 rfl c ?_)|(refine wpList_store_row rfl 224 _ _ rfl w.heap.size _ rfl rfl 224 _ f c (by rw[AE,AE,Fk];rfl) (L3 _) ?_))
  refine bodyPost_ret (v:=.agg (AU (fk l))) (results_cell_row rfl _ _ w.heap.size 224 _ (0,0) _ rfl (setRow_heap g w.heap.size _ _ 224 _ f) underlying224 rfl c) rfl ⟨rfl,BV k (A' _) _⟩
theorem dM(l:List Int)(d:l.length=64)(j:Nat)(c:j<64):∀ w,(Instr.index 224 (.agg (AU l)) (.int .i64 (j:Int))).run prog w=.ok (.int .u8 (l.getD j 0)) w:=by
 intro w;have b:(AU l)[j]?=some (.int .u8 (l.getD j 0)):=by
  simp[AU,List.getElem?_eq_getElem (show j<l.length by omega),List.getD]
 have a:(0:Int)<=j/\(j:Int)<64:=by omega
 simp[Instr.index,run_underlying underlying224,asIntOf,a,part,b];intro h;omega
theorem Mh(k:List Int)(m:Int)(w:World)(q:k.length=64)(I:0<=m/\m<256)(K:∀ x∈k,0<=x/\x<256) :
  Calls prog 147 #[.agg (AU k),.int .u8 m] w λe w'=>∃ v',e=.returned v'/\w'.ownsRow w.heap.size 5 1 v' (BA k m).length ((BA k m).map (Value.int .u8))/\Bw w w':=by
 obtain⟨M,L,C,D,E⟩:=info_parts Aw;have B:(prog.info? 224).map (·.size)=some (AU k).size:=by rw[AE,q];kernel_rfl
 have u:Hid (k.length=64):=q;clear q;go_enter func147,ntmps147
 go_wp2_with (at_make;refine wpList_make_own _ rfl _ _ 39 rfl w.heap.size 5 M (.int .u8 0) 1 underlying39 L C D _ _ _ 64 rfl rfl (by omega) (by rw[E];omega) (by unfold maxLen;omega) (by simp) ?_)
 intro F t h;have o:Bw w F:=((Below.refl _ _).alloc (A' _) _).grown h (by simp) (by simp);have g:F.heap[w.heap.size]?=some (.cells (AU k) 224 (0,0)):=by
  rw[h.block w.heap.size (by simp) (by simp)];exact heap_alloc_new _ _
 have f:F.ownsRow w.heap.size 5 1 (.slice (some ⟨w.heap.size+1,0,none⟩) 0 64) (BA (k.take 0) m).length ((BA (k.take 0) m).map (Value.int .u8)):=t;clear t h;go_wp2_with (refine wpList_load_row rfl 224 _ rfl w.heap.size rfl 224 _ (0,0) _ g underlying224 rfl B ?_)
 go_loopw [5,10] (λv i wr=>∃ j:Nat,j<=64/\i=.int .i64 j/\wr.ownsRow w.heap.size 5 1 v (BA (k.take j) m).length ((BA (k.take j) m).map (Value.int .u8))/\Bw w wr) (λ_ i _=>64-(intOf i).toNat)
 case atStart=>exact⟨0,by omega,rfl,f,o⟩
 case round =>
  clear f o g;obtain⟨j,N,rfl,a,b⟩:=hrel;have s:=a.lt;by_cases d:j<64
  .have hix:=dM k u.out j d;have r:(BA (k.take j) m).length<=64:=by rw[FF,X'];omega
   have y:Hid (BA (k.take (j+1)) m=BA (k.take j) m++[bits .xor .u8 (k.getD j 0) m]):=by
    unfold Hid;have p:j<k.length:=by rw[u.out];exact d
    rw[mU p,AY p,BA,nh];rfl
   have c:=Aj K j;have l:0<=bits .xor .u8 (k.getD j 0) m/\bits .xor .u8 (k.getD j 0) m<256:=by
    rw[u8_xor _ _ c.1 c.2 I.1 I.2];have:(k.getD j 0).toNat ^^^ m.toNat<256:=pL (n:=8) (by omega) (by omega);omega
   have G:Hid (0<=bits .xor .u8 (k.getD j 0) m/\bits .xor .u8 (k.getD j 0) m<256):=l;generalize BA (k.take j) m=pre at a y r;generalize k.getD j 0=x at hix y c l G;clear l c;go_wp2_with (at_builtin;refine Aa _ rfl _ _ 39 rfl w.heap.size 5 underlying39 Aw _ _ rfl rfl pre _ (a.alloc _) (Sl.one _ _ _ rfl G.out) (by simp;omega) (by have:=b.size;simp;omega) ?_)
   intro v' w' J H;have A:w'.ownsRow w.heap.size 5 1 v' (pre++[bits .xor .u8 x m]).length ((pre++[bits .xor .u8 x m]).map (Value.int .u8)):=by simpa using J
   have z:Bw w w':=(b.alloc b.size _).grown H (by have:=b.size;simp;omega) (λk q=>(s k q).1);clear J H a s b;go_wp2
   go_roundw
   case rel=>exact⟨j+1,by omega,by go_num,by rw[y.out];exact A,z⟩
   case measure=>simp[intOf];omega
  .have HJ:Hid (k.take j=k):=by unfold Hid;exact mR (by rw[u.out];omega)
   go_wp2
   go_ret;refine⟨u5,rfl,?_,b⟩;rw[HJ.out]at a
   exact a
theorem Pq(vk vb:Value)(k b:List Int)(w:World)(C:Sl w vk k)(hb:Sl w vb b)(Z:k.length<=100000)(a3:b.length<=90000)(ht:AK w) :
  Calls prog 114 #[vk,vb] w λe w'=>∃ v',e=.returned v'/\Fresh w w' v' (E7 k b):=by
 have n:(prog.info? 224).map (·.size)=some (AU (fk k)).size:=by rw[AE,Fk];kernel_rfl
 have d:=dw C.byte;have c:=Fk k;have F:Hid (E7 k b=dig (BA (fk k) 92++dig (BA (fk k) 54++b))):=rfl;go_enter func114,ntmps114
 go_wp2_with fail
 refine(Q6 vk k w C Z ht).mono ?_;rintro e R ⟨rfl,v⟩;generalize fk k=K at n d c F ⊢;go_wp2_with (refine Jw rfl 224 _ _ rfl R.heap.size _ rfl rfl 224 _ (heap_alloc_new _ _) n (by rw[AE,c];rfl) (L3 _) w.heap.size w (v.alloc v.size _) v.size ?_)
 intro E g a;have hz:R.heap.size<E.heap.size:=(Q'.1 g).1;go_wp2_with (refine wpList_load_row rfl 224 _ rfl R.heap.size rfl 224 _ (0,0) _ g underlying224 rfl n ?_)
 refine(Mh K 54 E c (by omega) d).mono ?_;rintro e w3 ⟨v3,rfl,z,j⟩;have U:Bw w w3:=a.trans (j.mono a.size);have p:=z.lt;have s:(BA K 54).length=64:=by rw[FF,c]
 have t:(BA K 92).length=64:=by rw[FF,c]
 have G:=Mg d (m:=54) (by omega);have H:=Mg d (m:=92) (by omega);go_wp2_with (at_builtin;refine Aa _ rfl _ _ 39 rfl E.heap.size 5 underlying39 Aw _ _ rfl rfl (BA K 54) b z (hb.af U) (by omega) j.size ?_)
 intro v4 S O M;have y:Bw E S:=j.grown M j.size (λk C=>(p k C).1);have V:Bw w S:=a.trans (y.mono a.size);have f:S.ownsRow E.heap.size 5 1 v4 (BA K 54++b).length ((BA K 54++b).map (Value.int .u8)):=by simpa[s]using O
 have I:∀ x∈BA K 54++b,0<=x/\x<256:=λx hx=>by
  rcases U'.1 hx with h|h
  .exact G x h
  .exact hb.byte x h
 have a1:(BA K 54++b).length<=91000:=by rw[H',s];omega
 clear O M z p;generalize BA K 54++b=L4 at f I a1 F;go_wp2_with fail
 refine(FA v4 L4 S (Sl.lz f (by omega) I) (by omega) (ht.af V)).mono ?_;rintro e u ⟨v5,rfl,P,W⟩;have o:Bw E u:=y.trans (W.mono y.size);have s5:Sl u v5 (dig L4):=Sl.lz P (by rw[AA];omega) (DI L4);have l5:=AA L4;have y5:=DI L4;generalize dig L4=D at s5 F l5 y5;have B:u.heap[R.heap.size]?=some (.cells (AU K) 224 (0,0)):=(o.block _ hz).trans g;clear f P;go_wp2_with (refine wpList_load_row rfl 224 _ rfl R.heap.size rfl 224 _ (0,0) _ B underlying224 rfl n ?_)
 refine(Mh K 92 u c (by omega) d).mono ?_;rintro e w6 ⟨v6,rfl,A,l⟩;have q:=A.lt;go_wp2_with (at_builtin;refine Aa _ rfl _ _ 39 rfl u.heap.size 5 underlying39 Aw _ _ rfl rfl (BA K 92) D A (s5.af l) (by omega) l.size ?_)
 intro v7 T Q N;have X:Bw u T:=l.grown N l.size (λk C=>(q k C).1);have L:Bw w u:=a.trans (o.mono a.size);have i:Bw w T:=L.trans (X.mono L.size);have r:T.ownsRow u.heap.size 5 1 v7 (BA K 92++D).length ((BA K 92++D).map (Value.int .u8)):=by simpa[t,l5]using Q
 have J:∀ x∈BA K 92++D,0<=x/\x<256:=λx hx=>by
  rcases U'.1 hx with h|h
  .exact H x h
  .exact y5 x h
 have a2:(BA K 92++D).length<=96:=by rw[H',t];omega
 clear Q N A q;generalize BA K 92++D=L7 at r J a2 F;go_wp2_with fail
 refine(FA v7 L7 T (Sl.lz r (by omega) J) (by omega) (ht.af i)).mono ?_;rintro e w8 ⟨v8,rfl,a0,Y⟩;go_wp2
 go_ret;refine⟨v8,rfl,?_⟩;rw[F.out];exact Fresh.lz (Bf a0 i.size) (FI (AA L7)) (by rw[AA];omega) (DI L7) (i.trans (Y.mono i.size))
theorem gE(m l:Value)(k b:List Int)(w:World)(i:Sl w m k)(h:Sl w l b)(q:k.length<=256)(o:b.length<=2000)(t:AK w) :
  Calls prog 112 #[m,l] w λe w'=>∃ v',e=.returned (.tuple #[v',.int .i64 0])/\Fresh w w' v' (E7 k b):=by
 have s:=i;have f:=h;obtain⟨⟨a,n,rfl,_,_,_⟩,r,d⟩:=i;obtain⟨⟨v,g,rfl,_,_,_⟩,j,c⟩:=h;clear d c;go_enter func112,ntmps112
 go_wp2_with fail
 refine(Pq _ _ k b w s f (by omega) (by omega) t).mono ?_;rintro e x ⟨u,rfl,p⟩;go_wp2
 go_ret2
 exact⟨u,rfl,p⟩
theorem Pu(L M:Value)(a i:List Int)(c:Int)(w:World)(H:Sl w L a)(I:Sl w M i)(S:a.length<=1000)(U:i.length<=1000)(T:0<=c/\c<256) :
  Calls prog 144 #[L,M,.int .u8 c] w λe w'=>∃ v',e=.returned v'/\w'.ownsRow w.heap.size 5 1 v' (a++i++[c]).length ((a++i++[c]).map (Value.int .u8))/\Bw w w':=by
 obtain⟨X,A,D,E,F⟩:=info_parts Aw;have W:=H;have C:=I;obtain⟨⟨aa,R,rfl,_,_,_⟩,V,z⟩:=H;obtain⟨⟨a2,G,rfl,_,_,_⟩,J,n⟩:=I;clear z n;go_enter func144,ntmps144
 go_wp2_with (at_make;refine wpList_make_own _ rfl _ _ 39 rfl w.heap.size 5 X (.int .u8 0) 1 underlying39 A D E _ _ _ (a.length+i.length+1) rfl rfl (by omega) (by rw[F];omega) (by unfold maxLen;omega) (A' _) ?_)
 intro N s o;have b:Bw w N:=(Below.refl _ _).grown o (A' _) (by simp);have m:N.ownsRow w.heap.size 5 1 (.slice (some ⟨w.heap.size,0,none⟩) 0 (a.length+i.length+1)) ([]:List Int).length (([]:List Int).map (Value.int .u8)):=s;clear s o;go_wp2_with (at_builtin;refine Aa _ rfl _ _ 39 rfl w.heap.size 5 underlying39 Aw _ _ rfl rfl [] a m (W.af b) (by simp;omega) b.size ?_)
 intro Y O t p;have g:O.ownsRow w.heap.size 5 1 Y a.length (a.map (Value.int .u8)):=by simpa using t
 have d:Bw w O:=b.grown p b.size (by simp[Value.ownBlock]);have j:=g.lt;clear m p b t;go_wp2_with (at_builtin;refine Aa _ rfl _ _ 39 rfl w.heap.size 5 underlying39 Aw _ _ rfl rfl a i g (C.af d) (by omega) d.size ?_)
 intro Z P u q;have h:P.ownsRow w.heap.size 5 1 Z (a++i).length ((a++i).map (Value.int .u8)):=by simpa using u
 have f:Bw w P:=d.grown q d.size (λk B=>(j k B).1);have l:=h.lt;clear g q d u j;go_wp2_with (at_builtin;refine Aa _ rfl _ _ 39 rfl w.heap.size 5 underlying39 Aw _ _ rfl rfl (a++i) [c] (h.alloc _) (Sl.one _ _ _ rfl T) (by simp;omega) (by have:=f.size;simp;omega) ?_)
 intro K Q v r;have x:Q.ownsRow w.heap.size 5 1 K (a++i++[c]).length ((a++i++[c]).map (Value.int .u8)):=by simpa using v
 have y:Bw w Q:=(f.alloc f.size _).grown r (by have:=f.size;simp;omega) (λk B=>(l k B).1);clear h r f v l;go_wp2
 go_ret;exact⟨K,rfl,x,y⟩
theorem Sl.grown{k:World}{b off c:Nat}{row:Option Nat}(h:Sl w (.slice (some ⟨b,off,none⟩) n c) l)(j:w.grownBy k row)(g:some b≠row):Sl k (.slice (some ⟨b,off,none⟩) n c) l:=by
 obtain⟨⟨a,d,e,p,r,f⟩,m,o⟩:=h;refine⟨⟨a,d,e,p,r,?_⟩,m,o⟩;simp only[Value.slice.injEq]at e;obtain⟨rfl,_,_⟩:=e;rcases f with f|⟨b',off',e',hbs,hcell⟩
 .exact .inl f
 .simp only[Y',Addr.mk.injEq,and_true]at e';obtain⟨rfl,rfl⟩:=e';refine .inr ⟨b,off,rfl,j' hbs j.size,λi q=>?_⟩;rw[<- hcell i q];exact World.cell?_of_block (w:=w) (j.block b hbs g)
def blk(key info:List Int):Nat->List Int
 | 0=>[]
 | i+1=>E7 key (blk key info i++info++[(i:Int)+1])
def Br(key info:List Int):Nat->List Int
 | 0=>[]
 | i+1=>Br key info i++blk key info (i+1)
def Gt(key info:List Int)(n:Nat):List Int:=(Br key info 16).take n
theorem Ie(key a:List Int)(i:Nat):(blk key a (i+1)).length=32:=DL _ _
theorem XR(key a:List Int)(i:Nat):∀ x∈blk key a i,0<=x/\x<256:=by
 cases i with
 | zero=>intro x b;cases b
 | succ i=>exact Oz _ _
theorem ia(key a:List Int)(i:Nat):(blk key a i).length<=32:=by
 cases i with
 | zero=>simp[blk]
 | succ i=>rw[Ie];omega
theorem CT(key a:List Int)(i:Nat):(Br key a i).length=32*i:=by
 induction i with
 | zero=>rfl
 | succ i ih=>rw[Br,H',ih,Ie];omega
theorem R6(key a:List Int)(i:Nat):∀ x∈Br key a i,0<=x/\x<256:=by
 induction i with
 | zero=>intro x b;cases b
 | succ i ih =>
  intro x b;rcases U'.1 b with h|h
  .exact ih x h
  .exact XR key a (i+1) x h
theorem R7(key a:List Int)(n i j:Nat)(hn:n<=32*i):(Br key a (i+j)).take n=(Br key a i).take n:=by
 induction j with
 | zero=>rfl
 | succ j ih=>rw[<- nO,Br,nt (by rw[CT];omega),ih]
theorem VL(key a:List Int)(n i:Nat):(Br key a (i+1)).take n=(Br key a i).take n++(blk key a (i+1)).take (n-32*i):=by
 rw[Br,List.take_append,CT]
theorem SG(vk vi:Value)(k i:List Int)(n:Nat)(w:World)(hk:Sl w vk k)(hi:Sl w vi i)(a9:k.length<=1000)(a8:i.length<=900)(hn:n<=512)(ht:AK w) :
  Calls prog 113 #[vk,vi,.int .i64 n] w λe w'=>∃ v',e=.returned v'/\w'.ownsRow w.heap.size 5 1 v' (Gt k i n).length ((Gt k i n).map (Value.int .u8))/\Bw w w':=by
 obtain⟨i0,Z,a2,a3,a4⟩:=info_parts Aw;go_enter func113,ntmps113
 go_wp2_with (at_make;refine wpList_make_own _ rfl _ _ 39 rfl w.heap.size 5 i0 (.int .u8 0) 1 underlying39 Z a2 a3 _ _ _ n rfl rfl (by omega) (by rw[a4];omega) (by unfold maxLen;omega) (A' _) ?_)
 intro w1 J I;have H:Bw w w1:=(Below.refl _ _).grown I (A' _) (by simp);have y:w1.ownsRow w.heap.size 5 1 (.slice (some ⟨w.heap.size,0,none⟩) 0 n) ((Br k i 0).take n).length (((Br k i 0).take n).map (Value.int .u8)):=by simpa[Br]using J
 clear J I;go_wp2_with fail
 go_loopw [7,8,9] (λv b c wr=>∃ j:Nat,j<=16/\c=.int .u8 ((j:Int)+1)/\(∃ m z,v=.slice (some ⟨m,0,none⟩) (min (32*j) n) z)/\Sl wr b (blk k i j)/\wr.ownsRow w.heap.size 5 1 v ((Br k i j).take n).length (((Br k i j).take n).map (Value.int .u8))/\Bw w wr) (λ_ _ c _=>(17-intOf c).toNat)
 case atStart=>exact⟨0,by omega,rfl,⟨w.heap.size,n,by simp⟩,Sl.nil _ _,y,H⟩
 case round =>
  clear y H;obtain⟨j,hj,rfl,⟨m,z,rfl⟩,sb,f,V⟩:=hrel;have B:=f.lt;by_cases hc:32*j<n
  .have d:min (32*j) n=32*j:=by omega
   rw[d]at f B ⊢
   have a0:m<wr.heap.size:=(B m rfl).2;have l:((Br k i j).take n).length=32*j:=by rw[X',CT];omega
   have a7:=ia k i j;have a5:j<=15:=by omega
   have HB:Hid (blk k i (j+1)=E7 k (blk k i j++i++[(j:Int)+1])):=rfl;have HS:=VL k i n j;have E:Hid _:=HS;have yb:∀ x∈blk k i j++i++[(j:Int)+1],0<=x/\x<256:=λx hx=>by
    rcases U'.1 hx with h|h
    .rcases U'.1 h with h|h
     .exact sb.byte x h
     .exact hi.byte x h
    .obtain rfl:x=(j:Int)+1:=by simpa using h
     omega
   clear HS d;go_wp2_with fail
   refine(Pu _ vi (blk k i j) i ((j:Int)+1) wr sb (hi.af V) (by omega) (by omega) (by omega)).mono ?_;rintro e w2 ⟨v2,rfl,K,a⟩;have s:Bw w w2:=V.trans (a.mono V.size);have l2:(blk k i j++i++[(j:Int)+1]).length<=2000:=by simp;omega
   have s2:=Sl.lz K (by omega) yb;go_wp2_with fail
   refine(Pq vk v2 k _ w2 (hk.af s) s2 (by omega) (by omega) (ht.af s)).mono ?_;rintro e R ⟨v3,rfl,F⟩;rw[<- HB.out]at F
   obtain⟨T,S,N,_,Y⟩:=F.shape;have s3:=F.sl;have o:=F.rI;have l3:=Ie k i j;rw[l3]at N Y
   subst N;clear HB F s2 K l2 yb sb;have a1:=f;have g:R.ownsRow w.heap.size 5 1 (.slice (some ⟨m,0,none⟩) (32*j) z) ((Br k i j).take n).length (((Br k i j).take n).map (Value.int .u8)):=by
    refine f.kept (row:=none) ⟨(a.trans (o.mono a.size)).os,(a.trans (o.mono a.size)).tape,(a.trans (o.mono a.size)).output,(a.trans (o.mono a.size)).size,λq hq _=>(a.trans (o.mono a.size)).block q hq⟩ (.inr (by simp[Value.ownBlock]))
   have t:Bw w R:=s.trans (o.mono s.size);have p:=g.lt;have C:Hid ((Br k i (j+1)).take n=(Br k i j).take n++(blk k i (j+1)).take (n-32*j)):=E.out;clear E a1 f B;have U:((blk k i (j+1)).take (n-32*j)).length=min (n-32*j) 32:=by rw[X',l3]
   have sM:Sl R (.slice (some ⟨T,0,none⟩) (min (n-32*j) 32) S) ((blk k i (j+1)).take (n-32*j)):=by
    by_cases hq:n-32*j<=32
    .rw[n8 hq];exact s3.take (n-32*j) (by omega)
    .rw[Nat.min_eq_right (by omega),mR (by omega)];exact s3
   have HN:=s3;have u:((Br k i (j+1)).take n).length=min (32*(j+1)) n:=by rw[X',CT];omega
   have D:Hid (((Br k i (j+1)).take n).length=min (32*(j+1)) n):=u;clear HN u;generalize (blk k i (j+1)).take (n-32*j)=M at sM U C;generalize (Br k i j).take n=P at g p l C;have SB:Sl R (.slice (some ⟨T,0,none⟩) 32 S) (blk k i (j+1)):=s3;clear s3;have d:(min (32:Int) ((n:Int)-32*(j:Int))).toNat=min (n-32*j) 32:=by omega
   have Q:Sl R (.slice (some ⟨T,0,none⟩) (min (32:Int) ((n:Int)-32*(j:Int))).toNat S) M:=by rw[d];exact sM
   have a6:m<w2.heap.size:=j' a0 a.size;clear d sM;go_wp2_with (at_builtin;refine Aa _ rfl _ _ 39 rfl w.heap.size 5 underlying39 Aw _ _ rfl rfl P M g Q (by omega) t.size ?_)
   intro v4 w4 L A;have r:w4.ownsRow w.heap.size 5 1 v4 (P++M).length ((P++M).map (Value.int .u8)):=by simpa[l,U]using L
   have X:Bw w w4:=t.grown A t.size (λk hk=>(p k hk).1);have W:Sl w4 (.slice (some ⟨T,0,none⟩) 32 S) (blk k i (j+1)):=SB.grown A (by simp[Value.ownBlock];omega);obtain⟨g4,c4,O,_,_,_,_,_⟩:=Eu r (by intro e;have:=congrArg List.length e;rw[H',l,U]at this;simp at this;omega);have G:(P++M).length=min (32*(j+1)) n:=by rw[<- C.out];exact D.out
   rw[<- C.out]at r
   rw[G]at O
   subst O;clear L A g p t SB Q U C D G l;go_wp2
   go_roundw
   case rel=>exact⟨j+1,by omega,by go_num,⟨g4,c4,rfl⟩,W,r,X⟩
   case measure=>simp[intOf];omega
  .have d:min (32*j) n=n:=by omega
   rw[d]at f ⊢
   have HQ:Hid (Gt k i n=(Br k i j).take n):=by
    unfold Hid Gt;have:=R7 k i n j (16-j) (by omega);rw[show j+(16-j)=16 by omega]at this
    exact this
   go_wp2
   go_ret;refine⟨_,rfl,?_,V⟩;rw[HQ.out];exact f
theorem ID(k i:List Int)(n:Nat)(h:n<=512):(Gt k i n).length=n:=by
 unfold Gt;rw[X',CT];omega
theorem LK(k i:List Int)(n:Nat):∀ x∈Gt k i n,0<=x/\x<256:=λx a=>R6 k i 16 x (mT a)
theorem Un(o f g:Value)(a b d:List Int)(n:Nat)(w:World)(j:Sl w o a)(k:Sl w f b)(l:Sl w g d)(p:a.length<=256)(q:b.length<=256)(r:d.length<=256)(hn:n<=512)(m:AK w) :
  Calls prog 75 #[o,f,g,.int .i64 n] w λe w'=>∃ v',e=.returned (.tuple #[v',.int .i64 0])/\w'.ownsRow w.heap.size 5 1 v' (Gt (E7 b a) d n).length ((Gt (E7 b a) d n).map (Value.int .u8))/\Bw w w':=by
 have s0:=j;have s:=k;have t:=l;obtain⟨⟨a0,c0,rfl,_,_,_⟩,_,_⟩:=j;obtain⟨⟨v,c1,rfl,_,_,_⟩,_,_⟩:=k;obtain⟨⟨x,y,rfl,_,_,_⟩,_,_⟩:=l;have z:decide ((256:Int)<(a.length:Int))=false:=by simp;omega
 have A:decide ((256:Int)<(b.length:Int))=false:=by simp;omega
 have B:decide ((256:Int)<(d.length:Int))=false:=by simp;omega
 have C:decide ((n:Int)<0)=false:=by simp
 have D:decide ((512:Int)<(n:Int))=false:=by simp;omega
 go_enter func75,ntmps75
 go_wp2_with fail
 refine(Pq _ _ b a w s s0 (by omega) (by omega) m).mono ?_;rintro e u ⟨f,rfl,c⟩;have E:=DL b a;go_wp2_with fail
 refine(SG f _ (E7 b a) d n u c.sl (t.af c.rI) (by omega) (by omega) hn (m.af c.rI)).mono ?_;rintro e F ⟨g,rfl,i,h⟩;go_wp2
 go_ret2
 exact⟨g,rfl,Bf i c.rI.size,c.rI.trans (h.mono c.rI.size)⟩
def Hm(c:Int):List Int:=Gt (E7 [99,108,105,101,110,116] [c]) [] 32
def Hl:List Int:=Gt (E7 [105,115,115,117,101,114] [255]) [] 32
theorem Gy(c:Int):(Hm c).length=32:=ID _ _ 32 (by omega)
theorem Kr:Hl.length=32:=ID _ _ 32 (by omega)
theorem Wk(c:Int):∀ x∈Hm c,0<=x/\x<256:=LK _ _ _
theorem Wf:∀ x∈Hl,0<=x/\x<256:=LK _ _ _
theorem Sl.tA(w:World)(l:List Int)(e:TypeId)(fr:Nat × Nat){g:Nat}(b:g=w.heap.size)(d:l.length=6)(a:∀ x∈l,0<=x/\x<256):Sl (w.alloc (.cells (l.map (Value.int .u8)).toArray e fr)) (.slice (some ⟨g,0,none⟩) 6 6) l:=by
 subst b;refine⟨⟨_,6,by rw[d],by omega,by simp,.inr ⟨w.heap.size,0,rfl,by simp,λi c=>?_⟩⟩,by omega,a⟩;rw[cell_of_row _ _ (0+i) _ _ _ (heap_alloc_new w _)];simp[List.getElem?_eq_getElem c,List.getD]
end
end
end Go.Proofs.YtogibonjmbhliaaGreatDoor
