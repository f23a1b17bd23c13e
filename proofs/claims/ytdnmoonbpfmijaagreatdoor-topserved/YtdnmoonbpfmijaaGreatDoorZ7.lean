/- Part 7 of the walk. -/
import Derived.LoopN
import Derived.Lib.SmallJoins
import Derived.Deep.OwnRows
import Derived.Test.YtdnmoonbpfmijaaGreatDoorZ6
set_option maxRecDepth 100000
set_option maxHeartbeats 4000000
open Go.Proofs.Tryz
set_option linter.unusedVariables false
namespace Go.Proofs.YtdnmoonbpfmijaaGreatDoor
section
open Go.RowKit
section
variable{P:Program}{fn:Func}{R:Ending->World->Prop}{B:Nat}{T:List Tg}{g:Gh}{w:World}
theorem fR{s:Xs}(k n:Nat)(a:List (Nat × Value))(m:List Bool)(i:List Sh)(o:SG s.K=true)(q:s.f.n=n)(y:a.map (λp=>lk s.f.z s.f.e p.1)=a.map (·.2))(u:BO (AI m s.L)=i)
  (h:∀ J:Nat->Act->World->Prop,(∀ (m:Nat) (e:List (Nat × Value)) (z:Nat->Value) (L:List Sh) (g:Gh) (w:World),GG P fn R B T (eH s n (J m) e z L) g w->Kn B g w L->J (m+1) (⟨n,e,z⟩:Fm).act w)->∀ z,GG P fn R B T (eH s n (J k) a z i) g w):GG P fn R B T s g w:=by
 refine gFm a y λz=>?_;obtain⟨K,f,L⟩:=s;simp only at q;subst q;have j:BO (AI m L)=i:=u;have v:GG P fn R B T ⟨K,⟨f.n,a,z⟩,BO (AI m L)⟩ g w->GG P fn R B T ⟨K,⟨f.n,a,z⟩,L⟩ g w:=λh=>⟨λd=>h.ex (d.sub (DF m L)).sX⟩;refine v ?_;rw[j];cases K with
 | nil=>cases o
 | cons t K =>
  cases t with
  | c x =>
   cases x with
   | loop b =>
    refine⟨λd=>?_⟩;exact wp_loop_rounds (k+1) ((h (Code.rounds P b (Kq P (bodyPost P fn R) K)) (λm e z L g w r d=>r.ex d) z).ex d)
   | _=>cases o
  | _=>cases o
end
section
variable{W w:World}{d:List Int}{g:Gh}{i k nb ob:Nat}{ls:List Let}{p:Nod}{s:Int}{ts:List Tol}{vs:List Value}{x:S3}
theorem NA{v:Vt}(h:NS i nb ob g w p ls ts){D:World}(I:Base D g w)(J:Tabs D)(M:i<5)(K:ls.length<90000000){a d:Nat}(y:Box g w a #[pt nb 0] 89)(A:Box g w d #[iv v.bu,iv v.b.r,iv v.b.n,iv v.w.k,iv v.w.c,iv v.w.s,iv v.w.n,iv v.w.v] 162)(q:p.ae.length<=40) :
  Calls prog 123 #[pt a 0,pt d 0] w (NP i nb ob g w (.tuple #[]) (p.count i v) (ls++BV i { BE 3 with cn:=v } 5) ts):=by
 obtain⟨x,lt,Z,B,C,L⟩:=h;refine gI (fn:=f123) (TN i) g func123 L (qN B (qO C (Cu ⟨a,.cells #[pt nb 0] 89,.z,false⟩ (λ_=>⟨y.r,y.z,λh=>(by cases h),λh=>absurd rfl h⟩) (by kernel_rfl) ?_)));refine Cu ⟨d,.cells #[iv v.bu,iv v.b.r,iv v.b.n,iv v.w.k,iv v.w.c,iv v.w.s,iv v.w.n,iv v.w.v] 162,.z,false⟩ (λ_=>⟨A.r,A.z,λh=>(by cases h),λh=>absurd rfl h⟩) (by kernel_rfl) ?_;refine qR [] 8 [6,0,2,2,2,4,6,8,0,10,3] λW R w1 e=>qS 6 [false,false,true,true] B C e (λE=>NZ E (I.ch (e.nil (TN i)) (B1 i)) J i M v q) λS w2 x2 N P j m G=>qR [] 5 [0,1] λX T w4 t=>qS 3 [true,true,false,false] j m t (λF=>EE F K { BE 3 with cn:=v } s30 s30 ⟨Sv.nil _,λh=>absurd rfl h⟩ (Rc.nil _ _)) λU w5 x5 O Q l o H=>qR [] 1 [] λY V w7 u=>qF l o u (((((e.nil (TN i)).trans (G)).n t).trans (H)).n u)
theorem SN{b:Bal}{C:List Vt}{j:S3}(h:NS i nb ob g w p ls ts){H:World}(N:Base H g w)(O:Tabs H)(R:i<5)(P:ls.length<90000000){k l m:Nat}(a:Box g w k #[pt nb 0] 89)(F:Box g w l #[iv b.r,iv b.n] 94)(G:Box g w m #[S3.v j] 95)(S:FSv g w j C)(B:(p.av.an i).vs.length<100000000) :
  Calls prog 76 #[pt k 0,pt l 0,pt m 0] w (NP i nb ob g w (.tuple #[]) (if p.vo.p≠b then p else{ p with av:=p.av.rM i C }) (if p.vo.p≠b then ls else(ls++BV i { BE 0 with jv:=b } 5)) ts):=by
 obtain⟨x,lt,tl,o,t,Q⟩:=h;refine gI (fn:=f76) (TN i) g func76 Q (qN o (qO t (Cu ⟨k,.cells #[pt nb 0] 89,.z,false⟩ (λ_=>⟨a.r,a.z,λh=>(by cases h),λh=>absurd rfl h⟩) (by kernel_rfl) ?_)));refine Cu ⟨l,.cells #[iv b.r,iv b.n] 94,.z,false⟩ (λ_=>⟨F.r,F.z,λh=>(by cases h),λh=>absurd rfl h⟩) (by kernel_rfl) ?_;refine Cu ⟨m,.cells #[S3.v j] 95,.z,false⟩ (λ_=>⟨G.r,G.z,λh=>(by cases h),λh=>absurd rfl h⟩) (by kernel_rfl) ?_;refine qR [] 10 [8,0,2,2,4,6,8,10,0,12,3] λs1 Y w1 c=>?_;by_cases a:p.vo.p≠b
 .refine qT 7 (.bool true) (λ_=>(IY (x:=(.tmp 8)) (y:=(.tmp 9)) p.vo.p b a)) (qR [] 2 [] λs2 Z w2 D=>?_);rw[if_pos a,if_pos a];exact qF o t (c.n D) ((c.nil (TN i)).n D)
 .have h10:p.vo.p=b:=by simpa using a
  refine qT 7 (.bool false) (λ_=>(IX (x:=(.tmp 8)) (y:=(.tmp 9)) p.vo.p b h10)) ?_;rw[if_neg a,if_neg a];refine qR [] 14 [9,0,2,2,4,6,8,2,10,12,14,0,16,4] λs4 g4 w4 e=>qS 9 [false,false,true,true,true] o t (c.n e) (λI=>Q3 I (N.ch ((c.nil (TN i)).n e) (B1 i)) O i R C j (S.ch ((c.nil (TN i)).n e) (B1 i)) B) λg5 w5 x5 T V q u K=>qR [] 5 [0,1] λs7 g7 w7 E=>qS 3 [true,true,true,false,false] q u E (λJ=>EE J P { BE 0 with jv:=b } s30 s30 ⟨Sv.nil _,λh=>absurd rfl h⟩ (Rc.nil _ _)) λg8 w8 x8 lt8 W s A L=>qR [] 1 [] λU M X d=>qF s A d ((((((c.nil (TN i)).n e).trans (K)).n E).trans (L)).n d)
def Nod.lp(p:Nod)(i:Nat):Pend->Nod
 | .began b vs=>if p.vo.p≠b then p else{ p with av:=p.av.rM i vs }
 | .prop v=>p.count i v
 | _=>p
def Nod.rE(p:Nod)(i:Nat):Pend->List Let
 | .began b vs=>if p.vo.p≠b then[]else BV i { BE 0 with jv:=b } 5
 | .prom to b vs=>[{ BE 1 with jv:=b,ni:=vs,hZ:=p.ae,src:=i,dst:=to }]
 | .voted to v=>[{ BE 4 with cn:=v,src:=i,dst:=to }]
 | .fa to b=>[{ BE 2 with jv:=b,src:=i,dst:=to }]
 | .prop v=>BV i { BE 3 with cn:=v } 5
 | .askNews to=>[{ BE 6 with bu:=p.ae.length,src:=i,dst:=to }]
 | .start=>BV i (BE 6) 5
 | .tell to bu=>[{ BE 5 with src:=i,dst:=to,bu:=bu,hZ:=p.ae.drop bu }]
def RD(p:Nod)(i:Nat):Pend->Prop
 | .began _ _=>(p.av.an i).vs.length<100000000
 | .prop _=>p.ae.length<=40
 | .tell _ bu=>bu<=p.ae.length
 | _=>True
theorem fO{P:Program}{s:Xs}{S:Sem Next}{r:Result Next}(h:D9 s i=some S)(a:S.run P W=r):Di P s i W=some r:=by
 unfold Di;unfold D9 at h;cases hx:opN s i with
 | none=>rw[hx]at h;cases h
 | some x =>
  rw[hx]at h
  simp only[nJ,Y']at h ⊢;rw[h,a]
theorem Hk(h:NS i nb ob g w p ls ts){z:World}(s:Base z g w)(t:Tabs z)(y:i<5)(f:ls.length<90000000){v:Value}(q:Pend)(o:RD p i q)(j:Lh g w nb v q) :
  ∃ (F:FuncId) (cs:Array Value),v=.func (.func F) #[] cs/\(∀ W,(Go.callFunc F (#[]++cs)).run prog W=.ok (.enter F cs) W)/\Calls prog F cs w (NP i nb ob g w (.tuple #[]) (p.lp i q) (ls++p.rE i q) ts):=by
 cases q with
 | began b vs =>
  obtain⟨k,b2,b3,x,e,a,c,d,n⟩:=j;refine⟨_,_,e,λW=>by kernel_rfl,?_⟩;have:=SN h s t y f a c d n o;unfold Nod.lp Nod.rE;by_cases m:p.vo.p≠b
  .rw[if_pos m,if_pos m]at this;simp only[if_pos m,mZ];exact this
  .rw[if_neg m,if_neg m]at this;simp only[if_neg m];exact this
 | prom to b vs =>
  obtain⟨k,b2,b3,x,r,l,e,a,c,d,n,A,rfl,rfl⟩:=j;exact⟨_,_,e,λW=>(by kernel_rfl),Hs h f a c d A n⟩
 | voted to u =>
  obtain⟨k,b2,r,l,e,a,c,d,rfl,rfl⟩:=j;exact⟨_,_,e,λW=>(by kernel_rfl),It (b3:=0) h f a c d⟩
 | fa to b =>
  obtain⟨k,b2,b3,e,a,c,d⟩:=j;exact⟨_,_,e,λW=>(by kernel_rfl),P5 h f a c d⟩
 | prop u =>
  obtain⟨k,b2,e,a,c⟩:=j;exact⟨_,_,e,λW=>(by kernel_rfl),NA h s t y f a c o⟩
 | askNews to =>
  obtain⟨k,b2,r,l,e,a,c,d,rfl⟩:=j;exact⟨_,_,e,λW=>(by kernel_rfl),MJ (b3:=0) h f a c d⟩
 | start =>
  obtain⟨k,e,a⟩:=j;exact⟨_,_,e,λW=>(by kernel_rfl),Rp (b2:=0) (b3:=0) h f a⟩
 | tell to bu =>
  obtain⟨k,b2,r,l,e,a,c,d,rfl,rfl⟩:=j;exact⟨_,_,e,λW=>(by kernel_rfl),JX (b3:=0) h f a c d o⟩
theorem Y2(s:Int){n:Nat}{w:World}(h:Sl w x.v d)(a:n<=d.length){N:Int}(b:(n:Int)=N) :
  Calls prog 126 #[.agg #[x.v,iv s],iv N] w λe w'=>∃ y:S3,e=.returned (.agg #[y.v,iv N])/\Sl w' y.v (d.take n)/\Nb w.heap.size y (d.take n)/\Bw w w':=by
 subst b;refine(Ki x.v d s n w h a).mono ?_;rintro e w' ⟨y,rfl,f,c⟩;obtain⟨y,rfl,i,g⟩:=JH (l:=d.take n) (by rw[X',nU a];exact f) (by rw[X'];have:=h.len;omega) (λz j=>h.byte z (mP j));exact⟨y,rfl,i,g,c⟩
theorem Zj(s:Int){w:World}(h:Sl w x.v d){t:Bool}(a:decide (AT d s)=t) :
  Calls prog 125 #[.agg #[x.v,iv s]] w λe w'=>e=.returned (.bool t)/\Bw w w':=by
 subst a;exact LW x.v d s w h
theorem eZ(h:Sl w x.v d) :
  Calls prog 124 #[.agg #[x.v,iv s]] w λe w'=>∃ y:S3,e=.returned (.tuple #[.agg #[y.v,iv (Ir d s)],iv (De d s)])/\Sl w' y.v (Hr d s)/\Nb w.heap.size y (Hr d s)/\Bw w w':=by
 refine kIn func124 (kR 10 [0,0,1,0,0] λb H g=>?_);obtain⟨t,j⟩:∃ t,decide (AT d s)=t:=⟨_,rfl⟩;refine kC 1 (Zj s (h.af g) j) ?_;rintro _ I ⟨rfl,i⟩;refine⟨_,rfl,i,?_⟩;refine kR 2 [] λC J k=>?_;by_cases a:AT d s
 .refine kI ((!t)) false (by rw[<- j,M' a];rfl) ?_;rw[show De d s=0 from if_pos a,show Hr d s=d from if_pos a,show Ir d s=(d.length:Int)from if_pos a];have m:=Fi h;have A:d.take d.length=d:=oh;refine kR 7 [0,0] λD L r=>?_;have f:=(btr (btr (btr g i) k) r);refine kC 4 (Y2 s (n:=d.length) (N:=(x.n:Int)) (h.af f) (A' _) (by rw[m])) ?_;rintro _ M ⟨y,rfl,p,o,l⟩;refine⟨_,rfl,l,?_⟩;rw[A]at p o
  rw[<- m];refine kF 3 [1,0] λE O u B=>?_;have q:=((btr f l).trans u);exact qE2 2 3 112 1 (b 1) #[S3.v y,iv (x.n:Int)] (iv 0) λK=>⟨y,rfl,(p.kept B),o.mono f.size,q⟩
 .refine kI ((!t)) true (by rw[<- j,E' a];rfl) ?_;rw[show De d s=5 from if_neg a,show Hr d s=[]from if_neg a,show Ir d s=0 from if_neg a];refine kF 6 [1,0] λF P z G=>?_;have c:=((btr (btr g i) k).trans z);exact qE2 2 3 112 1 (b 1) #[S3.v s30,iv 0] (iv 5) λK=>⟨s30,rfl,EN _,λh=>absurd rfl h,c⟩
theorem XY{k:Int}(h:Sl w x.v d)(L:-9223372036854775808<=k)(M:k<=9223372036854775807) :
  Calls prog 86 #[.agg #[x.v,iv s],iv k] w λe w'=>∃ y:S3,e=.returned (.tuple #[.agg #[y.v,iv (KE d s k)],iv (Gx d s k)])/\Sl w' y.v (KD d s k)/\Nb w.heap.size y (KD d s k)/\Bw w w':=by
 refine kIn func86 (kR 10 [0,0,1,0,0] λf w1 j=>?_);obtain⟨t,A⟩:∃ t,decide (AT d s)=t:=⟨_,rfl⟩;refine kC 1 (Zj s (h.af j) A) ?_;rintro _ w2 ⟨rfl,l⟩;refine⟨_,rfl,l,?_⟩;refine kR 2 [] λT w3 u=>?_;by_cases c:AT d s
 .refine kI ((!t)) false (by rw[<- A,M' c];rfl) (kR 7 [] λU w4 C=>?_);by_cases m:k<0
  .refine kI ((decide (k<0))) true (M' m) ?_;have a:Gx d s k=2:=(if_neg (λg=>g c)).trans (if_pos m);rw[show KD d s k=[]from if_neg (by rw[a];decide),show KE d s k=0 from if_neg (by rw[a];decide),a];refine kF 6 [1,0] λV w5 H q5=>?_;have G:=((btr (btr (btr j l) u) C).trans H);exact qE2 4 5 112 1 (f 1) #[S3.v s30,iv 0] (iv 2) λK=>⟨s30,rfl,EN _,λh=>absurd rfl h,G⟩
  .refine kI ((decide (k<0))) false (E' m) ?_;have a:Gx d s k=0:=(if_neg (λg=>g c)).trans (if_neg m);rw[show KD d s k=d.take (Gy d s k).toNat from if_pos a,show KE d s k=Gy d s k from if_pos a,a];have Z:=Fi h;have Y:=h.len;have X:0<=s/\s<=(d.length:Int):=⟨c.2.1,c.2.2⟩;obtain⟨n,D⟩:∃ n:Nat,(n:Int)=s+min k ((x.n:Int)-s):=⟨(s+min k ((x.n:Int)-s)).toNat,by omega⟩;have J:Gy d s k=(n:Int):=by unfold Gy;split<;>omega
   have z:n<=d.length:=by omega
   rw[J,nt,D];refine kR 12 [0,0,0,0] λW w7 I=>kV 9 (iv ((x.n:Int)-s)) (ZT (x:=(.tmp 19)) (y:=(.tmp 21)) (x.n:Int) s underlying3 (by omega)) (kV 10 (iv (min k ((x.n:Int)-s))) (iZ #[3,3] 3 k ((x.n:Int)-s)) (kV 11 (iv (s+min k ((x.n:Int)-s))) (Mn (x:=(.tmp 15)) (y:=(.tmp 23)) s (min k ((x.n:Int)-s)) underlying3 (by omega)) ?_));have b:=(btr (btr (btr (btr j l) u) C) I);refine kC 12 (Y2 s (n:=n) (h.af b) z D) ?_;rintro _ Q ⟨y,rfl,O,N,i⟩;refine⟨_,rfl,i,?_⟩;refine kF 3 [1,0] λE R q B=>?_;have o:=((btr b i).trans q);exact qE2 4 5 112 1 (f 1) #[S3.v y,iv (s+min k ((x.n:Int)-s))] (iv 0) λK=>⟨y,rfl,(O.kept B),N.mono b.size,o⟩
 .refine kI ((!t)) true (by rw[<- A,E' c];rfl) ?_;have a:Gx d s k=5:=if_pos c;rw[show KD d s k=[]from if_neg (by rw[a];decide),show KE d s k=0 from if_neg (by rw[a];decide),a];refine kF 6 [1,0] λF S r P=>?_;have p:=((btr (btr j l) u).trans r);exact qE2 4 5 112 1 (f 1) #[S3.v s30,iv 0] (iv 5) λK=>⟨s30,rfl,EN _,λh=>absurd rfl h,p⟩
structure FzL(g:Gh)(w:World)(x:S3)(vs:List Value):Prop where
 n:x.n=vs.length
 at_:∀ j u,vs[j]?=some u->∃ b,x.a=some ⟨b,0,none⟩/\b<w.heap.size/\j<g.k b/\w.cell? ⟨b,j,none⟩=some u
theorem OwnS.fz{τ:Tg}{e:TypeId}(h:OwnS g w τ true e 1 x vs):FzL g w x vs:=by
 refine⟨by have:=h.len;omega,λj u d=>?_⟩;obtain⟨b,a,f,i⟩:=h.cell d;have c:j<vs.length:=(U'.1 d).1;refine⟨b,a,f,?_,i⟩;rcases h.ex with⟨h4,_⟩|⟨b',cur,h4,_,_,_,_,_,_,h8⟩
 .rw[h4]at a;cases a
 .rw[a]at h4
  simp only[Y',Addr.mk.injEq,and_true]at h4;subst h4;rw[h8,if_pos rfl];exact c
theorem FzL.ch{B:Nat}{T:List Tg}{d:Gh}{f:World}(h:FzL g w x vs)(c:Cg B T g w d f):FzL d f x vs :=
 ⟨h.n,λj u m=>by
  obtain⟨b,i,a,e,k⟩:=h.at_ j u m;exact⟨b,i,j' a c.size,j' e (c.sg b a),(c.sh b a j e).trans k⟩⟩
theorem fZ{b c:Nat}(d:x.a=some ⟨b,c,none⟩)(j:Nat)(f:j<x.n):(Instr.indexAt 98 x.v (iv (j:Int))).run prog W=.ok (pt b (c+1*j)) W:=by
 unfold S3.v;rw[d];exact Mo (P:=prog) (e:=1) (z:=1) underlying98 (by kernel_rfl) (by kernel_rfl) f _ rfl
def pf(i:Nat):List Pend->Nod->List Let->Nod × List Let
 | [],p,ls=>(p,ls)
 | q::l,p,ls=>pf i l (p.lp i q) (ls++p.rE i q)
def GW(i:Nat):List Pend->Nod->List Let->Prop
 | [],_,_=>True
 | q::l,p,ls=>RD p i q/\ls.length<90000000/\GW i l (p.lp i q) (ls++p.rE i q)
def Nod.rJ(p:Nod):Nod:=if p.sy<(p.d.length:Int)then{ p with d:=Hr p.d p.sy,sy:=Ir p.d p.sy }else p
theorem Qm{l:List Pend}{j:Nat}{c:Pend}(h:l[j]?=some c):l.drop j=c::l.drop (j+1):=by
 obtain⟨a,b⟩:=U'.1 h;rw[<- b];exact nI a
theorem fb(h:NS i nb ob g w p ls ts){w0:World}(hB:Base w0 g w)(hT:Tabs w0)(hi:i<5)(Y:GW i p.bw { p.rJ with bw:=[] } ls)(f5:p.bw.length<100000000) :
  Calls prog 82 #[pt nb 0] w (NP i nb ob g w (.tuple #[]) (if p.sy<(p.d.length:Int)/\De p.d p.sy≠0 then(p,ls)else pf i p.bw { p.rJ with bw:=[] } ls).1 (if p.sy<(p.d.length:Int)/\De p.d p.sy≠0 then(p,ls)else pf i p.bw { p.rJ with bw:=[] } ls).2 ts):=by
 obtain⟨x,lt,tl,m,hO,hg⟩:=h;have f7:x.tape.n=p.d.length:=by obtain⟨a,e6,hh⟩:=m.tape.s.rN;have:=m.tape.s.len;simp only[S3.v,Value.slice.injEq]at hh;exact hh.2.1
 refine gI (fn:=f82) (TN i) g func82 hg (qN m (qO hO ?_));obtain⟨pv,hP,I⟩:=m.bw;have hF:=hP.fz;have f6:x.synced.n=p.bw.length:=by rw[hF.n];exact I.len
 refine qR [] 16 [12,0,2,4,6,8,0,10,12,14,16,18,0,20,22] λs1 g1 w1 c1=>?_;by_cases h1:p.sy<(x.tape.n:Int)
 .refine qI ((decide (p.sy<(x.tape.n:Int)))) true (M' (by omega)) (qR [] 6 [0] λs2 g2 w2 c2=>Af λKq=>?_);have hS:=(m.tape.ch (c1.trans c2)).s;have hG:∀ z,w2.heap.size<=z->g2.t z=.z:=λz hz=>(Kq.new z hz).1;refine qC 4 (eZ (s:=p.sy) hS) ?_;rintro e' w3 ⟨tz,rfl,b4,d6,b3⟩;refine⟨_,rfl,b3,?_⟩;have c3:=Cg.ed (B:=w.heap.size) (T:=[]) (g:=g2) b3;have f8:=Fi b4;have d7:FSl _ _ tz _:=⟨b4,λhl a ha=>hG _ (d6 hl a ha)⟩;refine qR [] 13 [0,0,2,0] λs4 g4 w4 c4=>?_;by_cases E:De p.d p.sy≠0
  .refine qI (((De p.d p.sy) != 0)) true (by simpa using E) (qE (.tuple #[]) λK=>?_);rw[if_pos ⟨by omega,E⟩];exact⟨_,rfl,(nsC m hO (((c1.n c2).n c3).n c4) K),((((c1.nil (TN i)).n c2).n c3).n c4)⟩
  .refine qI (((De p.d p.sy) != 0)) false (by simpa using E) ?_;have O:p.rJ={ p with d:=Hr p.d p.sy,sy:=Ir p.d p.sy }:=if_pos (by omega);rw[show(if p.sy<(p.d.length:Int)/\De p.d p.sy≠0 then(p,ls)else pf i p.bw { p.rJ with bw:=[] } ls)=pf i p.bw ({ p with d:=Hr p.d p.sy,sy:=Ir p.d p.sy,bw:=[] }:Nod) ls from by rw[if_neg (by rintro⟨_,h⟩;exact E h),O]];rw[show{ p.rJ with bw:=[] }=({ p with d:=Hr p.d p.sy,sy:=Ir p.d p.sy,bw:=[] }:Nod)from by rw[O]]at Y
   refine qR [.n 0 i] 32 [2,0,1,0,0,1] λs7 g7 w7 c7=>ID [true,true,false] ?_;refine Cc 51 [(42,S3.v x.synced),(43,iv (x.synced.n:Int)),(44,iv 0)] [false,false] [] (λk g' w' e L=>∃ (j:Nat) (q:Nod) (l2:List Let),k=p.bw.length-j/\j<=p.bw.length/\e=[(42,S3.v x.synced),(43,iv (x.synced.n:Int)),(44,iv (j:Int))]/\L=[]/\NS i nb ob g' w' q l2 ts/\pf i (p.bw.drop j) q l2=pf i p.bw ({ p with d:=Hr p.d p.sy,sy:=Ir p.d p.sy,bw:=[] }:Nod) ls/\GW i (p.bw.drop j) q l2/\Cg w.heap.size (TN i) g w g' w') (by kernel_rfl) (by kernel_rfl) (by kernel_rfl) (by kernel_rfl) p.bw.length (λK=>?_) ?_
   .have C8:=((((c1.nil ([.n 0 i]:List Tg)).n c2).n c3).n c4).trans (c7);have Z8:Tg.z∉([.n 0 i]:List Tg):=by simp
    exact⟨0,({ p with d:=Hr p.d p.sy,sy:=Ir p.d p.sy,bw:=[] }:Nod),ls,rfl,by omega,rfl,rfl,⟨({ x with tape:=tz,synced:=s30 }:NX),lt,tl,K.nd 0 ((d7.ch c4).ch c7) (m.ni.ch C8 Z8) (BB m.an C8 Z8) ⟨[],OwnS.nil _ _ _ _ _ _,⟨rfl,λk v q h=>by cases h⟩⟩ (m.fv.ch C8) (m.ae.ch C8) (m.bn.ch C8) (m.cl.ch C8) m.si,hO.ch C8 Z8 (by simp<;>omega),K.new⟩,rfl,Y,(((((c1.nil (TN i)).n c2).n c3).n c4).trans (c7.mono (by simp[TN])))⟩
   .rintro k gr wr _ zr _ ⟨j,q,l2,rfl,hj,rfl,rfl,hM,hI,hK,hC⟩ J hJ;obtain⟨xr,d8,d9,o,r,d4⟩:=id hM;refine qN o (qO r (qR [] 5 [] λs9 g9 w9 Q=>?_));by_cases h5:j<p.bw.length
    .refine qI ((decide ((j:Int)<(x.synced.n:Int)))) true (M' (by omega)) ?_;obtain⟨D,N⟩:∃ D,p.bw[j]?=some D:=⟨_,G' h5⟩;obtain⟨v,hv⟩:∃ v,pv[j]?=some v:=⟨_,G' (by rw[I.len];exact h5)⟩;rw[Qm N]at hI hK
     obtain⟨G,H,a1⟩:=hK;have F:=hF.ch hC;obtain⟨bx,P,d2,d5,d3⟩:=F.at_ j v hv;have M:=(I.at_ j v D hv N).ch hC (B1 i);refine qR [] 5 [] λf9 c0 e0 u=>qV 0 (pt bx (0+1*j)) (fZ P j (by omega)) (Af λK=>?_);have b5:NS i nb ob c0 e0 q l2 ts:=(nsC o r (Q.n u) K);obtain⟨Z,A,e2,a2,_⟩:=Hk b5 (hB.ch (((hC.n Q).n u)) (B1 i)) hT hi H D G (M.ch ((Q.nil (TN i)).n u) (B1 i));subst e2;have a0:=F.ch (Q.trans u);refine qV 1 (.func (.func Z) #[] A) (Bh (ty:=1) (b:=bx) (k:=0+1*j) (v:=.func (.func Z) #[] A) underlying1 rfl (by rw[nA,rx];obtain⟨b2,E,_,_,h4⟩:=a0.at_ j _ hv;rw[P]at E;simp only[Y',Addr.mk.injEq,and_true]at E;subst E;exact h4)) (qR [] 4 [] λg0 c5 e1 S=>Af λK=>?_);have b6:NS i nb ob c5 e1 q l2 ts:=(nsC o r ((Q.n u).n S) K);obtain⟨F3,b9,e3,_,C⟩:=Hk b6 (hB.ch ((((hC.n Q).n u).n S)) (B1 i)) hT hi H D G (M.ch (((Q.nil (TN i)).n u).n S) (B1 i));simp only[Value.func.injEq,Fn.func.injEq,true_and]at e3;obtain⟨rfl,rfl⟩:=e3;refine S1 1 Z A (TN i) [false,false] (λW=>fO (by kernel_rfl) (a2 W)) (by kernel_rfl) (by kernel_rfl) (by kernel_rfl) C ?_;rintro e' i0 ⟨c6,rfl,a3,U⟩;refine⟨_,c6,rfl,U,a3.new,?_⟩;replace U:=U.ret (B:=w.heap.size);refine qR [] 3 [] λg3 e7 i1 a5=>qV 0 (iv ((j:Int)+1)) (Ay 44 (j:Int) underlying3 (by omega)) (qR [] 2 [] λg5 e8 i2 a6=>qB [] λz K0 K=>hJ (p.bw.length-(j+1)) _ _ _ z _ (by omega) ⟨j+1,q.lp i D,l2++q.rE i D,rfl,by omega,rfl,rfl,NS.rL a3 (a5.trans a6) K0.new,hI,a1,((((((hC.n Q).n u).n S).trans U).n a5).n a6)⟩ K)
    .refine qI ((decide ((j:Int)<(x.synced.n:Int)))) false (E' (by omega)) (qR [] 1 [] λg6 e9 i3 a7=>?_);obtain rfl:j=p.bw.length:=by omega
     rw[oI]at hI
     rw[<- hI];exact qF o r (Q.n a7) ((hC.n Q).n a7)
 .refine qI ((decide (p.sy<(x.tape.n:Int)))) false (E' (by omega)) ?_;have O:p.rJ=p:=if_neg (by omega);rw[show(if p.sy<(p.d.length:Int)/\De p.d p.sy≠0 then(p,ls)else pf i p.bw { p.rJ with bw:=[] } ls)=pf i p.bw ({ p with bw:=[] }:Nod) ls from by rw[if_neg (by rintro⟨h,_⟩;omega),O]];rw[show{ p.rJ with bw:=[] }=({ p with bw:=[] }:Nod)from by rw[O]]at Y
  refine qR [.n 0 i] 25 [0,0,1] λg8 f0 i4 a8=>Cc 51 [(42,S3.v x.synced),(43,iv (x.synced.n:Int)),(44,iv 0)] [false,false] [] (λk g' w' e L=>∃ (j:Nat) (q:Nod) (l2:List Let),k=p.bw.length-j/\j<=p.bw.length/\e=[(42,S3.v x.synced),(43,iv (x.synced.n:Int)),(44,iv (j:Int))]/\L=[]/\NS i nb ob g' w' q l2 ts/\pf i (p.bw.drop j) q l2=pf i p.bw ({ p with bw:=[] }:Nod) ls/\GW i (p.bw.drop j) q l2/\Cg w.heap.size (TN i) g w g' w') (by kernel_rfl) (by kernel_rfl) (by kernel_rfl) (by kernel_rfl) p.bw.length (λK=>?_) ?_
  .have C22:=(c1.nil ([.n 0 i]:List Tg)).trans (a8);have R:Tg.z∉([.n 0 i]:List Tg):=by simp
   exact⟨0,({ p with bw:=[] }:Nod),ls,rfl,by omega,rfl,rfl,⟨({ x with synced:=s30 }:NX),lt,tl,K.nd 0 (m.tape.ch C22 R) (m.ni.ch C22 R) (BB m.an C22 R) ⟨[],OwnS.nil _ _ _ _ _ _,⟨rfl,λk v q h=>by cases h⟩⟩ (m.fv.ch C22) (m.ae.ch C22) (m.bn.ch C22) (m.cl.ch C22) m.si,hO.ch C22 R (by simp<;>omega),K.new⟩,rfl,Y,((c1.nil (TN i)).trans (a8.mono (by simp[TN])))⟩
  .rintro k gr wr _ zr _ ⟨j,q,l2,rfl,hj,rfl,rfl,hM,hI,hK,hC⟩ J hJ;obtain⟨xr,d8,d9,o,r,d4⟩:=id hM;refine qN o (qO r (qR [] 5 [] λh0 f1 i5 c=>?_));by_cases h5:j<p.bw.length
   .refine qI ((decide ((j:Int)<(x.synced.n:Int)))) true (M' (by omega)) ?_;obtain⟨D,N⟩:∃ D,p.bw[j]?=some D:=⟨_,G' h5⟩;obtain⟨v,hv⟩:∃ v,pv[j]?=some v:=⟨_,G' (by rw[I.len];exact h5)⟩;rw[Qm N]at hI hK
    obtain⟨G,H,a1⟩:=hK;have F:=hF.ch hC;obtain⟨bx,P,d2,d5,d3⟩:=F.at_ j v hv;have M:=(I.at_ j v D hv N).ch hC (B1 i);refine qR [] 5 [] λh3 c8 e4 y=>qV 0 (pt bx (0+1*j)) (fZ P j (by omega)) (Af λK=>?_);have b7:NS i nb ob c8 e4 q l2 ts:=(nsC o r (c.n y) K);obtain⟨Z,A,e2,a2,_⟩:=Hk b7 (hB.ch (((hC.n c).n y)) (B1 i)) hT hi H D G (M.ch ((c.nil (TN i)).n y) (B1 i));subst e2;have a0:=F.ch (c.trans y);refine qV 1 (.func (.func Z) #[] A) (Bh (ty:=1) (b:=bx) (k:=0+1*j) (v:=.func (.func Z) #[] A) underlying1 rfl (by rw[nA,rx];obtain⟨b2,E,_,_,h4⟩:=a0.at_ j _ hv;rw[P]at E;simp only[Y',Addr.mk.injEq,and_true]at E;subst E;exact h4)) (qR [] 4 [] λh6 d0 e5 V=>Af λK=>?_);have b8:NS i nb ob d0 e5 q l2 ts:=(nsC o r ((c.n y).n V) K);obtain⟨F3,b9,e3,_,C⟩:=Hk b8 (hB.ch ((((hC.n c).n y).n V)) (B1 i)) hT hi H D G (M.ch (((c.nil (TN i)).n y).n V) (B1 i));simp only[Value.func.injEq,Fn.func.injEq,true_and]at e3;obtain⟨rfl,rfl⟩:=e3;refine S1 1 Z A (TN i) [false,false] (λW=>fO (by kernel_rfl) (a2 W)) (by kernel_rfl) (by kernel_rfl) (by kernel_rfl) C ?_;rintro e' i6 ⟨d1,rfl,a4,X⟩;refine⟨_,d1,rfl,X,a4.new,?_⟩;replace X:=X.ret (B:=w.heap.size);refine qR [] 3 [] λh7 f2 i7 a9=>qV 0 (iv ((j:Int)+1)) (Ay 44 (j:Int) underlying3 (by omega)) (qR [] 2 [] λh8 f3 i8 b0=>qB [] λz K0 K=>hJ (p.bw.length-(j+1)) _ _ _ z _ (by omega) ⟨j+1,q.lp i D,l2++q.rE i D,rfl,by omega,rfl,rfl,NS.rL a4 (a9.trans b0) K0.new,hI,a1,((((((hC.n c).n y).n V).trans X).n a9).n b0)⟩ K)
   .refine qI ((decide ((j:Int)<(x.synced.n:Int)))) false (E' (by omega)) (qR [] 1 [] λh9 f4 i9 b1=>?_);obtain rfl:j=p.bw.length:=by omega
    rw[oI]at hI
    rw[<- hI];exact qF o r (c.n b1) ((hC.n c).n b1)
def MN(p:Nod)(i j:Nat):Bool:=decide (j≠i/\p.av.bN j<p.ae.length)
def KQ(p:Nod)(i k:Nat):Nat->Nat:=λj=>if decide (j<k)&&MN p i j then p.ae.length else p.av.bN j
def EI(p:Nod)(i k:Nat):Nod:={ p with av:={ p.av with bN:=KQ p i k } }
def Dx(p:Nod)(i:Nat):Nat->List Let
 | 0=>[]
 | k+1=>Dx p i k++(if MN p i k then[{ BE 5 with src:=i,dst:=k,bu:=p.av.bN k,hZ:=p.ae.drop (p.av.bN k) }]else[])
theorem UX(p:Nod)(i k:Nat):(Dx p i k).length<=k:=by
 induction k with
 | zero=>exact A' _
 | succ k ih=>unfold Dx;rw[H'];split<;>simp<;>omega
theorem Xh(p:Nod)(i:Nat):EI p i 0=p:=by unfold EI KQ;simp
theorem UY(h:MN p i k=false):KQ p i (k+1)=KQ p i k:=by
 funext j
 unfold KQ;by_cases e:j=k
 .subst e;simp[h]
 .rw[show decide (j<k+1)=decide (j<k)from nN.2 (by omega)]
theorem bz(h:MN p i k=true):upN (KQ p i k) k p.ae.length=KQ p i (k+1):=by
 funext j
 unfold upN KQ;by_cases e:j=k
 .subst e;simp[h]
 .rw[if_neg e,show decide (j<k+1)=decide (j<k)from nN.2 (by omega)]
theorem Xi(h:NS i nb ob g w p ls ts)(hb:ls.length<90000000) :
  Calls prog 83 #[pt nb 0] w (NP i nb ob g w (.tuple #[]) (if p.leads then EI p i 5 else p) (if p.leads then ls++Dx p i 5 else ls) ts):=by
 obtain⟨x,lt,tl,S,U,hg⟩:=h;refine gI (fn:=f83) (TN i) g func83 hg (qN S (qO U (qR [] 4 [] λs1 Y w1 C=>?_)));by_cases h1:p.leads=false
 .refine Af λK=>?_;have N3:NS i nb ob Y w1 p ls ts:=(nsC S U C K);refine qC 1 (Fv N3 h1) ?_;rintro e' w4 ⟨rfl,b4⟩;refine⟨_,rfl,b4,?_⟩;have c4:=Cg.ed (B:=w.heap.size) (T:=[]) (g:=Y) b4;refine qR [] 3 [] λs5 g5 w5 c5=>qE (.tuple #[]) λK=>?_;rw[h1,if_neg (by simp),if_neg (by simp)];exact⟨_,rfl,(nsC S U ((C.n c4).n c5) K),(((C.nil (TN i)).n c4).n c5)⟩
 .have h10:p.leads=true:=by simpa using h1
  refine Af λK=>?_;have N8:NS i nb ob Y w1 p ls ts:=(nsC S U C K);refine qC 1 (Fv N8 h10) ?_;rintro e' w9 ⟨rfl,b9⟩;refine⟨_,rfl,b9,?_⟩;have c9:=Cg.ed (B:=w.heap.size) (T:=[]) (g:=Y) b9;rw[if_pos h10,if_pos h10];refine qR [] 15 [0] λd1 a5 e7 E=>Cc 51 [(0,pt nb 0),(12,.agg #[iv (p.av.bN 0:Int),iv (p.av.bN 1:Int),iv (p.av.bN 2:Int),iv (p.av.bN 3:Int),iv (p.av.bN 4:Int)]),(13,iv 0)] [false,false] [] (λk X Z e L=>∃ k0:Nat,k=5-k0/\k0<=5/\e=[(0,pt nb 0),(12,.agg #[iv (p.av.bN 0:Int),iv (p.av.bN 1:Int),iv (p.av.bN 2:Int),iv (p.av.bN 3:Int),iv (p.av.bN 4:Int)]),(13,iv (k0:Int))]/\L=[]/\NS i nb ob X Z (EI p i k0) (ls++Dx p i k0) ts/\Cg w.heap.size (TN i) g w X Z) (by kernel_rfl) (by kernel_rfl) (by kernel_rfl) (by kernel_rfl) 5 (λK=>?_) ?_
  .have C11:=(C.n c9).n E;exact⟨0,rfl,by omega,rfl,rfl,(by rw[Xh,show ls++Dx p i 0=ls from mZ _];exact(nsC S U C11 K)),(((C.nil (TN i)).n c9).n E)⟩
  .rintro k gr wr _ zr _ ⟨k0,rfl,hk0,rfl,rfl,hM,hC⟩ J hJ;obtain⟨xr,d0,e6,d,j,c7⟩:=hM;have c8:=UX p i k0;refine qN d (qO j ?_);have c6:xr.ae.n=p.ae.length:=d.ae.num;refine qR [] 5 [] λd2 a6 e8 a=>?_;by_cases h2:k0<5
   .refine qI ((decide ((k0:Int)<5))) true (M' (by omega)) (qR [] 6 [] λd3 a7 e9 b=>?_);refine di 1 (iv (p.av.bN k0:Int)) (λK=>(by rcases rC h2 with rfl|rfl|rfl|rfl|rfl<;>kernel_rfl)) (by kernel_rfl) ?_;refine qR [] 10 [0] λd4 a8 f0 c=>?_;by_cases h3:k0≠i
    .refine qV 5 (.bool true) (D8 (t:=3) (m:=(k0:Int)) (n:=(i:Int)) (x:=(.tmp 17)) (y:=(.tmp 21)) (by simp;omega)) (qR [] 11 [0] λd5 a9 f1 q=>?_);by_cases h4:(p.av.bN k0:Int)<(xr.ae.n:Int)
     .have hx:MN p i k0=true:=M' ⟨by omega,by omega⟩;refine qI ((decide ((p.av.bN k0:Int)<(xr.ae.n:Int)))) true (M' (by omega)) (qR [] 5 [] λd6 b0 f2 F=>qS 3 [false,false] d j ((((a.n b).n c).n q).n F) (λa0=>Jk a0 (by rw[H'];omega) k0 (p.av.bN k0) (by show _<=p.ae.length;omega)) λb1 f3 o s u r V a1=>qR [] 14 [13,0,2,4,6,8,10,12,0,14,16,18,20,22] λd7 a3 a4 G=>?_);have W:o.ae.n=p.ae.length:=r.ae.num;refine Cv 51 (λX Z e L=>e=[(0,pt nb 0),(12,.agg #[iv (p.av.bN 0:Int),iv (p.av.bN 1:Int),iv (p.av.bN 2:Int),iv (p.av.bN 3:Int),iv (p.av.bN 4:Int)]),(13,iv (k0:Int))]/\L=[⟨nb,.cells (AH i ob ({ p with av:={ p.av with bN:=upN (KQ p i k0) k0 o.ae.n } }) o) 114,.n 0 i,false⟩,⟨ob,.cells #[S3.v s,S3.v u] 86,.n 50 0,false⟩]/\True/\Cg w.heap.size ([.n 0 i]:List Tg) a3 a4 X Z) (by kernel_rfl) ?_ ?_
      .intro J hJ;rcases rC h2 with rfl|rfl|rfl|rfl|rfl <;>
       (refine qR [.n 0 i] 3 [24,27,0,1] λd8 b3 f5 a2=>?_;exact qB [true,true] λz A K=>hJ _ _ _ z _ ⟨rfl,rfl,trivial,a2⟩ K)
      rintro b2 f4 _ g4 _ ⟨rfl,rfl,_,H⟩;refine qR [] 2 [] λd9 b5 f6 I=>qV 0 (iv ((k0:Int)+1)) (Ay 13 (k0:Int) underlying3 (by omega)) (qR [] 2 [] λe0 b6 f7 M=>qB [false,false] λz A K=>hJ (5-(k0+1)) _ _ _ z _ (by omega) ⟨k0+1,rfl,by omega,rfl,rfl,?_,((((((((((hC.n a).n b).n c).n q).n F).trans a1).n G).trans (H.mono (by simp[TN]))).n I).n M)⟩ K);have D:=(((G.nil ([.n 0 i]:List Tg)).trans (H)).n I).n M;rw[show EI p i (k0+1)={ p with av:={ p.av with bN:=upN (KQ p i k0) k0 o.ae.n } }from by unfold EI;rw[<- bz hx,W],show ls++Dx p i (k0+1)=(ls++Dx p i k0++[{ BE 5 with src:=i,dst:=k0,bu:=p.av.bN k0,hZ:=p.ae.drop (p.av.bN k0) }])from by show ls++(Dx p i k0++_)=_;rw[hx,if_pos rfl,mK]];exact⟨o,s,u,A.sY 0 r D,V.ch D (hn:=by simp<;>omega),A.new⟩
     .have hx:MN p i k0=false:=E' (λh=>h4 (by omega));refine qI ((decide ((p.av.bN k0:Int)<(xr.ae.n:Int)))) false (E' (by omega)) (qR [] 3 [] λe1 b7 f8 N=>qV 0 (iv ((k0:Int)+1)) (Ay 13 (k0:Int) underlying3 (by omega)) (qR [] 2 [] λe2 b8 f9 O=>qB [false,false] λz A K=>hJ (5-(k0+1)) _ _ _ z _ (by omega) ⟨k0+1,rfl,by omega,rfl,rfl,?_,((((((hC.n a).n b).n c).n q).n N).n O)⟩ K));rw[show EI p i (k0+1)={ p with av:={ p.av with bN:=KQ p i k0 } }from by unfold EI;rw[UY hx],show ls++Dx p i (k0+1)=ls++Dx p i k0 from by show ls++(Dx p i k0++_)=_;rw[hx];simp];exact(nsC d j (((((a.n b).n c).n q).n N).n O) A)
    .have hx:MN p i k0=false:=E' (λh=>h.1 (by omega));refine qV 5 (.bool false) (D8 (t:=3) (m:=(k0:Int)) (n:=(i:Int)) (x:=(.tmp 17)) (y:=(.tmp 21)) (by simp;omega)) (qR [] 15 [] λe3 c0 g0 P=>qV 0 (iv ((k0:Int)+1)) (Ay 13 (k0:Int) underlying3 (by omega)) (qR [] 2 [] λe4 c2 g2 Q=>qB [false,false] λz A K=>hJ (5-(k0+1)) _ _ _ z _ (by omega) ⟨k0+1,rfl,by omega,rfl,rfl,?_,(((((hC.n a).n b).n c).n P).n Q)⟩ K));rw[show EI p i (k0+1)={ p with av:={ p.av with bN:=KQ p i k0 } }from by unfold EI;rw[UY hx],show ls++Dx p i (k0+1)=ls++Dx p i k0 from by show ls++(Dx p i k0++_)=_;rw[hx];simp];exact(nsC d j ((((a.n b).n c).n P).n Q) A)
   .refine qI ((decide ((k0:Int)<5))) false (E' (by omega)) (qR [] 1 [] λe5 c3 g3 R=>?_);obtain rfl:k0=5:=by omega
    exact qF d j (a.n R) ((hC.n a).n R)
end
end
section
section
def BQ(l:List Vt):Prop:=BN l/\∀ v∈l,0<=v.bu/\v.bu<=39
theorem ZW(l:List Vt)(a:Int)(h:BN l)(b:∀ v∈l,a<=v.bu/\v.bu<=39):l.length<=(40-a).toNat:=by
 induction l generalizing a with
 | nil=>exact nm _
 | cons u l ih =>
  obtain⟨d,e⟩:=h;have f:=b u O';have:=ih (u.bu+1) e λv c=>⟨by have:=d v c;omega,(b v (I' _ c)).2⟩;rw[np];omega
variable{a:Acc}{b:Bal}{l:List Vt}{v:Vt}
theorem BQ.len(h:BQ l):l.length<=40:=ZW l 0 h.1 h.2
theorem BQ.nil:BQ []:=⟨trivial,λv h=>by cases h⟩
theorem Ap(h:Bb a v=0):Ag a/\Ah v/\¬ v.b.lt a.p:=by
 unfold Bb at h;by_cases c:Ag a
 .rw[if_neg (λg=>g c)]at h
  by_cases d:Ah v
  .rw[if_neg (λg=>g d)]at h
   by_cases e:v.b.lt a.p
   .rw[if_pos e]at h;cases h
   .exact⟨c,d,e⟩
  .rw[if_pos d]at h;cases h
 .rw[if_pos c]at h;cases h
theorem Cq(h:Cl a b=0):Ag a/\Ab b/\¬ b.lt a.p:=by
 unfold Cl at h;by_cases c:Ag a
 .rw[if_neg (λg=>g c)]at h
  by_cases d:Ab b
  .rw[if_neg (λg=>g d)]at h
   by_cases e:b.lt a.p
   .rw[if_pos e]at h;cases h
   .exact⟨c,d,e⟩
  .rw[if_pos d]at h;cases h
 .rw[if_pos c]at h;cases h
theorem G4(h:BQ l)(b:Ah v):BQ (Bp l v) :=
 ⟨J9 v h.1,λu a=>by
  rcases(BC h.1).1 a with rfl|⟨h2,_⟩
  .exact b.1
  .exact h.2 u h2⟩
theorem VR(a:Acc)(l:List Vt)(h:BQ a.vs):BQ (Dj a l).vs:=by
 induction l generalizing a with
 | nil=>exact h
 | cons v l ih =>
  rw[Dj];refine ih _ ?_;by_cases b:Bb a v=0
  .rw[if_pos b];show BQ (Bv a v);rw[(DN b).2];exact G4 h (Ap b).2.1
  .rw[if_neg b];exact h
def POk(k:Nat):Pend->Prop
 | .began b vs=>BQ vs
 | .prom to b vs=>to<5/\Ao b/\BQ vs
 | .voted to v=>to<5
 | .fa to b=>to<5/\Ao b
 | .prop v=>True
 | .askNews to=>to<5
 | .start=>True
 | .tell to bu=>to<5/\bu<=k
theorem POk.mono{k m:Nat}{q:Pend}(h:POk k q)(a:k<=m):POk m q:=by
 cases q<;>first|exact h|exact⟨h.1,mH h.2 a⟩
def Pend.wt:Pend->Nat
 | .began _ _=>4
 | .prop _=>4
 | .start=>4
 | _=>1
def Az:List Pend->Nat
 | []=>0
 | q::l=>q.wt+Az l
theorem FX(l:List Pend)(q:Pend):Az (l++[q])=Az l+q.wt:=by
 induction l with
 | nil=>simp[Az]
 | cons x l ih=>simp only[List.cons_append,Az,ih];omega
theorem Ex(l:List Pend):l.length<=Az l:=by
 induction l with
 | nil=>exact A' _
 | cons x l ih =>
  rw[Az,np];have:1<=x.wt:=by cases x<;>simp[Pend.wt]
  omega
structure NOk(n:Nat)(p:Nod):Prop where
 ag:p.ae.length<=40
 dn:p.done<=p.ae.length
 qu:p.av.fv.length<=40
 wa:p.bn.length<=n
 ask:∀ c,(p.cl c).isSome=true->c∈p.bn
 ro:0<=p.dc/\p.dc<=65536
 vp:Ao p.vo.p
 vs:BQ p.vo.vs
 he:∀ j,BQ (p.av.an j).vs
 pe:∀ q∈p.bw,POk p.ae.length q
structure LOk(l:Let):Prop where
 kd:l.kind<7
 src:l.src<5
 dst:l.dst<5
 jv:Ao l.jv
 vs:BQ l.ni
 wh:l.hZ.length<=40
 sl:l.kind=5->l.bu+l.hZ.length<=40
theorem Ao.b0:Ao Bf:=.inr ⟨rfl,rfl⟩
theorem Ao.tY(h:Ao b):0<=b.r/\b.r<=65536/\0<=b.n/\b.n<=4:=by
 rcases h with⟨h1,h2⟩|⟨h1,h2⟩<;>omega
end
section
variable{n:Nat}{p:Nod}
theorem NOk.wait(h:NOk n p){q:Pend}(b:POk p.ae.length q):NOk n (p.wait q) :=
 { h with pe:=λr c=>(Q'.1 c).elim (h.pe r) λa=>(D'.1 a)▸b }
theorem NOk.au(h:NOk n p)(b:Bal):NOk n (p.au b).1/\(p.au b).1.bw=p.bw/\(p.au b).1.ae=p.ae/\BQ (p.au b).2.1/\((p.au b).2.2=0->Ab b):=by
 unfold Nod.au;by_cases a:Cl p.vo b≠0
 .rw[if_pos a];exact⟨h,rfl,rfl,BQ.nil,λg=>absurd g a⟩
 .rw[if_neg a];have c:=Cq (nB a);by_cases f:b=p.vo.p
  .rw[if_pos f];exact⟨{ h with vp:=.inl c.2.1,vs:=h.vs },rfl,rfl,h.vs,λ_=>c.2.1⟩
  .rw[if_neg f];by_cases e:CK p.d p.sy (Ab b) (Bx b)≠0
   .rw[if_pos e];exact⟨h,rfl,rfl,BQ.nil,λg=>absurd g e⟩
   .rw[if_neg e];exact⟨{ h with vp:=.inl c.2.1,vs:=h.vs },rfl,rfl,h.vs,λ_=>c.2.1⟩
theorem NOk.cn(h:NOk n p)(v:Vt):NOk n (p.cn v).1/\(p.cn v).1.bw=p.bw/\(p.cn v).1.ae=p.ae/\(p.cn v).1.av=p.av:=by
 unfold Nod.cn;by_cases b:Bb p.vo v≠0
 .rw[if_pos b];exact⟨h,rfl,rfl,rfl⟩
 .rw[if_neg b];have a:=Ap (nB b);by_cases c:v∈p.vo.vs
  .rw[if_pos c];exact⟨{ h with vp:=.inl a.2.1.2.1,vs:=G4 h.vs a.2.1 },rfl,rfl,rfl⟩
  .rw[if_neg c];by_cases e:CK p.d p.sy (Ah v) (Bl v)≠0
   .rw[if_pos e];exact⟨h,rfl,rfl,rfl⟩
   .rw[if_neg e];exact⟨{ h with vp:=.inl a.2.1.2.1,vs:=G4 h.vs a.2.1 },rfl,rfl,rfl⟩
theorem NOk.fa(h:NOk n p){to:Nat}(a:to<5)(e:Int):NOk n (p.fa to e)/\(p.fa to e).ae=p.ae/\Az (p.fa to e).bw<=Az p.bw+1:=by
 unfold Nod.fa;split
 .exact⟨h.wait ⟨a,h.vp⟩,rfl,by show Az (p.bw++[_])<=_;rw[FX];exact A' _⟩
 .exact⟨h,rfl,nO _⟩
theorem dJ(k:Nat)(r:Rnd)(l:List Cmd)(h:l.length<=40):(FP k r l).length<=40/\l.length<=(FP k r l).length:=by
 induction k generalizing l with
 | zero=>exact⟨h,A' _⟩
 | succ k ih =>
  rw[FP];split
  .rename_i h1
   have a:=XO h1;have:=ih (l++[CT r.kc (l.length:Int)]) (by simp;omega);simp at this;exact⟨this.1,by omega⟩
  .exact⟨h,A' _⟩
theorem NOk.grow(h:NOk n p){l:List Cmd}(b:l.length<=40)(a:p.ae.length<=l.length):NOk n { p with ae:=l } :=
 { h with ag:=b,dn:=mH h.dn a,pe:=λq c=>(h.pe q c).mono a }
theorem NOk.rF(h:NOk n p):NOk n p.rF/\p.rF.bw=p.bw/\p.ae.length<=p.rF.ae.length :=
 have:=dJ 41 p.av p.ae h.ag
 ⟨h.grow this.1 this.2,rfl,this.2⟩
theorem NOk.lr(h:NOk n p){bu:Nat}{hZ:List Cmd}(a:bu<=p.ae.length)(b:bu+hZ.length<=40):NOk n (p.lr bu hZ)/\(p.lr bu hZ).bw=p.bw/\p.ae.length<=(p.lr bu hZ).ae.length:=by
 have c:=h.ag;refine⟨h.grow ?_ ?_,rfl,?_⟩
 .rw[H',mM];omega
 .rw[H'];omega
 .show _<=(p.ae++_).length;rw[H'];omega
theorem bG{α:Type}{f:Nat->α}{P:α->Prop}(h:∀ j,P (f j))(i:Nat){x:α}(a:P x):∀ j,P (upN f i x j):=by
 intro j;unfold upN;split
 .exact a
 .exact h j
theorem NOk.rM(h:NOk n p)(j:Nat){vs:List Vt}(b:BQ vs):NOk n { p with av:=p.av.rM j vs } :=
 { h with qu:=h.qu,he:=bG (P:=λa:Acc=>BQ a.vs) h.he j (VR _ _ b) }
theorem NOk.count(h:NOk n p)(j:Nat)(v:Vt):NOk n (p.count j v)/\(p.count j v).bw=p.bw/\p.ae.length<=(p.count j v).ae.length:=by
 unfold Nod.count;by_cases d:v.b≠p.av.jv
 .rw[if_pos d];exact⟨h,rfl,A' _⟩
 .rw[if_neg d];by_cases c:Bb (p.av.an j) v≠0
  .rw[if_pos c];exact⟨h,rfl,A' _⟩
  .rw[if_neg c];have e:=nB c;have:NOk n { p with av:={ p.av with an:=upN p.av.an j ⟨BJ (p.av.an j) v,Bv (p.av.an j) v⟩ } } :=
    { h with qu:=h.qu,he:=bG (P:=λa:Acc=>BQ a.vs) h.he j (by show BQ (Bv _ v);rw[(DN e).2];exact G4 (h.he j) (Ap e).2.1) }
   exact this.rF
theorem NOk.eb(h:NOk n p)(l:List Cmd):NOk n (p.eb l)/\(p.eb l).bw=p.bw/\(p.eb l).ae=p.ae:=by
 unfold Nod.eb;split
 .exact⟨{ h with qu:=cU _ _ h.qu,he:=h.he },rfl,rfl⟩
 .exact⟨h,rfl,rfl⟩
theorem NOk.take(h:NOk n p){l:Let}(a:LOk l):NOk n (p.take l)/\Az (p.take l).bw<=Az p.bw+1/\p.ae.length<=(p.take l).ae.length:=by
 have g:=h.ag;unfold Nod.take;have b:∀ {P:Nod} {q:Pend},P.bw=p.bw->q.wt=1->Az (P.wait q).bw<=Az p.bw+1:=λ{P q} e d=>by
  show Az (P.bw++[q])<=_;rw[FX,e,d];exact A' _
 split
 .have hp:=h.au l.jv;split
  .have:=h.fa a.src (p.au l.jv).2.2;exact⟨this.1,this.2.2,by rw[this.2.1];exact A' _⟩
  .rename_i h1
   exact⟨hp.1.wait ⟨a.src,.inl (hp.2.2.2.2 (nB h1)),hp.2.2.2.1⟩,b hp.2.1 rfl,by show _<=(p.au l.jv).1.ae.length;rw[hp.2.2.1];exact A' _⟩
 .have hk:=h.lr (bu:=0) (hZ:=l.hZ) (nm _) (by have:=a.wh;omega);simp only;split
  .exact⟨hk.1,by rw[hk.2.1];omega,hk.2.2⟩
  .have h2:=hk.1.rM l.src (vs:=l.ni) a.vs;have f:NOk n { p.lr 0 l.hZ with av:={ (p.lr 0 l.hZ).av.rM l.src l.ni with bN:=upN (p.lr 0 l.hZ).av.bN l.src l.hZ.length } }:={ h2 with qu:=h2.qu,he:=h2.he };have c:=f.rF;exact⟨c.1,by rw[c.2.1];show Az (p.lr 0 l.hZ).bw<=_;rw[hk.2.1];omega,mH hk.2.2 c.2.2⟩
 .have hr:=h.ro;have i:=a.jv.tY;exact⟨{ h with ro:=by show 0<=max p.dc l.jv.r/\max p.dc l.jv.r<=65536;omega },nO _,A' _⟩
 .have hp:=h.cn l.cn;split
  .have:=h.fa a.src (p.cn l.cn).2;exact⟨this.1,this.2.2,by rw[this.2.1];exact A' _⟩
  .exact⟨hp.1.wait a.src,b hp.2.1 rfl,by show _<=(p.cn l.cn).1.ae.length;rw[hp.2.2.1];exact A' _⟩
 .have:=h.count l.src l.cn;exact⟨this.1,by rw[this.2.1];omega,this.2.2⟩
 .rename_i hk
  split
  .exact⟨h.wait a.src,b rfl rfl,A' _⟩
  .have:=h.lr (bu:=l.bu) (hZ:=l.hZ) (by omega) (a.sl hk);exact⟨this.1,by rw[this.2.1];omega,this.2.2⟩
 .have he:=h.eb l.hZ;simp only;split
  .rename_i h1
   exact⟨he.1.wait ⟨a.src,pa h1⟩,b he.2.1 rfl,by show _<=(p.eb l.hZ).ae.length;rw[he.2.2];exact A' _⟩
  .exact⟨he.1,by rw[he.2.1];omega,by rw[he.2.2];exact A' _⟩
 .exact⟨h,nO _,A' _⟩
end
end
section
open Go.RowKit
section
def G3(l:List Int)(n:Nat):List Int:=l++List.replicate (n-l.length) 0
def IH(l:List Int):List Int:=if 64<l.length then dig l else l
def fk(l:List Int):List Int:=G3 (IH l) 64
def By(k:List Int)(m:Int):List Int:=k.map λx=>bits .xor .u8 x m
def E8(key b:List Int):List Int:=dig (By (fk key) 92++dig (By (fk key) 54++b))
theorem Np(l:List Int)(n:Nat)(h:l.length<=n):(G3 l n).length=n:=by simp[G3];omega
variable{P:Program}{Q:Exit->Act->World->Prop}{a:Act}{j n:Nat}{l m:List Int}{ops:Array Oper}{w:World}
theorem Qs(h:∀ x∈l,0<=x/\x<256)(n:Nat):∀ x∈G3 l n,0<=x/\x<256:=by
 intro x a;rcases Q'.1 a with h1|h1
 .exact h x h1
 .rw[List.eq_of_mem_replicate h1];omega
theorem Pn(l:List Int):(IH l).length<=64:=by
 unfold IH;split
 .rw[AC];omega
 .omega
theorem SJ(h:∀ x∈l,0<=x/\x<256):∀ x∈IH l,0<=x/\x<256:=by
 unfold IH;split
 .exact DW l
 .exact h
theorem Fr(l:List Int):(fk l).length=64:=Np _ _ (Pn l)
theorem cZ(h:∀ x∈l,0<=x/\x<256):∀ x∈fk l,0<=x/\x<256:=Qs (SJ h) 64
theorem FQ(l:List Int)(m:Int):(By l m).length=l.length:=by simp[By]
theorem LU(h:∀ x∈l,0<=x/\x<256){m:Int}(b:0<=m/\m<256):∀ x∈By l m,0<=x/\x<256:=by
 intro x c;obtain⟨y,d,rfl⟩:=mY.1 c;have a:=h y d;rw[u8_xor _ _ a.1 a.2 b.1 b.2];have:y.toNat ^^^ m.toNat<256:=pJ (n:=8) (by omega) (by omega);omega
theorem DZ(k b:List Int):(E8 k b).length=32:=rfl
theorem Ow(k b:List Int):∀ x∈E8 k b,0<=x/\x<256:=DW _
theorem Om:(prog.info? 5).map (·.size)=some 1:=by kernel_rfl
theorem K7(l:List Int):splice ((List.replicate 64 (0:Int)).map (Value.int .u8)) 0 (l.map (Value.int .u8))=(G3 l 64).map (Value.int .u8):=by
 have e:(List.replicate 64 (0:Int)).map (Value.int .u8)=List.replicate 64 (Value.int .u8 0):=pK;rw[e];simp only[splice,G3,n7,n8,mV,nA,List.drop_replicate,ng,pK]
theorem Jr{b:List Oper}{o:Oper}(f:o.guard=none)(i:TypeId)(x y:Operand)(p:o.op=.store i x y)(g:Nat)(cells:Array Value)(q:a.eval x=.pointer (some ⟨g,0,none⟩))(r:a.eval y=.agg cells)(t:TypeId)(c:Array Value)(j:w.heap[g]?=some (.cells c t (0,0)))(n:(P.info? i).map (·.size)=some cells.size)(d:c.size=cells.size)(l:cells.all (·.oneCell')=true)(B:Nat)(k:World)(m:Below B k w)(e:B<=g)(h:∀ w',w'.heap[g]?=some (.cells cells t (0,0))->Below B k w'->wpList P ops Q b (a.put o.dst undef) w'):wpList P ops Q (o::b) a w :=
 wpList_store_row f i x y p g cells q r t c j n d l (h _ (setRow_heap w g _ _ t _ j) (BR m e _))
theorem Sl.ss{i:Option Addr}{c:Nat}(h:Sl w (.slice i n c) l)(q:0<l.length):∃ ad,i=some ad/\∀ (j:Nat) (v:Value),(l.map (Value.int .u8))[j]?=some v->w.cell? (ad.add j)=some v:=by
 obtain⟨⟨a,k,e,r,s,m⟩,p,o⟩:=h;simp only[Value.slice.injEq]at e;obtain⟨rfl,rfl,rfl⟩:=e;rcases m with rfl|⟨b,off,rfl,_,hcell⟩
 .simp at q
 .refine⟨_,rfl,λj v g=>?_⟩;have d:j<l.length:=by
   have:=(U'.1 g).1;simpa using this
  have f:(⟨b,off,none⟩:Addr).add j=⟨b,off+j,none⟩:=by unfold Addr.add;split<;>simp_all
  rw[f,hcell j d];simp[List.getElem?_eq_getElem d]at g
  rw[AO d,g]
theorem Qu(v:Value)(l:List Int)(w:World)(h:Sl w v l)(L:l.length<=100000)(O:AK w) :
  Calls prog 137 #[v] w λe w'=>e=.returned (.agg (AY (fk l)))/\Bw w w':=by
 have F:=h;obtain⟨⟨a,I,rfl,R,S,D⟩,M,z⟩:=h;have Q:Hid _:=D;have c:(prog.info? 217).map (·.size)=some (AY (fk l)).size:=by rw[AG,Fr];kernel_rfl
 clear D z;by_cases E:64<l.length
 .have ek:IH l=dig l:=by unfold IH;rw[if_pos E]
  have y:Hid (fk l=G3 (dig l) 64):=by unfold Hid fk;rw[ek]
  clear ek;go_enter func137,ntmps137
  go_wp2_with fail
  generalize i:w.alloc _=W0;have d:Bw w W0:=by rw[<- i];exact(Below.refl _ _).alloc (A' _) _
  have u:W0.heap[w.heap.size]?=some (.cells (AY (List.replicate 64 0)) 217 (0,0)):=by rw[<- i];exact heap_alloc_new _ _
  have C:W0.heap.size=w.heap.size+1:=by rw[<- i];simp
  clear i;refine(FL _ l W0 (F.af d) L (O.af d)).mono ?_;rintro e j ⟨T,rfl,o,m⟩;obtain⟨J,H,P,A,B,K,n,_⟩:=EA o (FS (AC l));subst P;have p:j.heap[w.heap.size]?=some (.cells (AY (List.replicate 64 0)) 217 (0,0)):=(m.block _ (by omega)).trans u;have t:Bw w j:=d.trans (m.mono d.size);have x:w.heap.size<j.heap.size:=(V'.1 p).1;have G:Sl j (.slice (some ⟨J,0,none⟩) (dig l).length H) (dig l):=Sl.rz o (by rw[AC];omega) (DW l);go_wp2_with (refine wpList_copy_splice rfl _ _ 36 36 rfl 5 underlying36 Om _ _ _ _ _ _ rfl rfl j.heap.size 0 ((List.replicate 64 (0:Int)).map (Value.int .u8)) 217 (heap_alloc_new _ _) ((dig l).map (Value.int .u8)) (by rw[mV,AC];rfl) (λ_=>⟨rfl,(G.af ((Below.refl _ _).alloc (A' _) _)).ss (by rw[AC];omega)⟩) (by rw[mV,AC];simp) (Ft _) j.heap.size _ (Below.refl _ _) (A' _) ?_)
  intro g r b;have q:g.heap[j.heap.size]?=some (.cells (AY (fk l)) 217 (0,0)):=by
   have s:g.heap[j.heap.size]?=some (.cells (splice ((List.replicate 64 (0:Int)).map (Value.int .u8)) 0 ((dig l).map (Value.int .u8))).toArray 217 (0,0)):=r.out;rw[K7]at s
   rw[y.out];exact s
  have k:Bw w g:=(t.alloc t.size _).trans (b.mono (by omega));have f:g.heap[w.heap.size]?=some (.cells (AY (List.replicate 64 0)) 217 (0,0)):=by
   rw[b.block _ x,heap_alloc_old _ _ x];exact p
  clear r b p u C d m n o G B A;go_wp2_with (first|(refine wpList_load_row rfl 217 _ rfl j.heap.size rfl 217 _ (0,0) _ q underlying217 rfl c ?_)|(refine wpList_store_row rfl 217 _ _ rfl w.heap.size _ rfl rfl 217 _ f c (by rw[AG,AG,Fr];rfl) (Ln _) ?_))
  refine bodyPost_ret (v:=.agg (AY (fk l))) (results_cell_row rfl _ _ w.heap.size 217 _ (0,0) _ rfl (setRow_heap g w.heap.size _ _ 217 _ f) underlying217 rfl c) rfl ⟨rfl,BR k (A' _) _⟩
 .have ek:IH l=l:=by unfold IH;rw[if_neg E]
  have y:Hid (fk l=G3 l 64):=by unfold Hid fk;rw[ek]
  clear ek;go_enter func137,ntmps137
  go_wp2_with (refine wpList_copy_splice rfl _ _ 36 36 rfl 5 underlying36 Om _ _ _ _ _ _ rfl rfl (w.heap.size+1) 0 ((List.replicate 64 (0:Int)).map (Value.int .u8)) 217 (heap_alloc2_new _ _ _) (l.map (Value.int .u8)) (by rw[mV];exact(nU (show l.length<=64 by omega)).symm) (λN=>⟨rfl,(F.af (((Below.refl _ _).alloc (A' _) _).alloc (by simp) _)).ss (by simpa using N)⟩) (by rw[mV,mV,ou];omega) (Ft _) (w.heap.size+1) _ (Below.refl _ _) (A' _) ?_)
  intro g r b;have q:g.heap[w.heap.size+1]?=some (.cells (AY (fk l)) 217 (0,0)):=by
   have s:g.heap[w.heap.size+1]?=some (.cells (splice ((List.replicate 64 (0:Int)).map (Value.int .u8)) 0 (l.map (Value.int .u8))).toArray 217 (0,0)):=r.out;rw[K7]at s
   rw[y.out];exact s
  have k:Bw w g:=(((Below.refl _ _).alloc (A' _) _).alloc (by simp) _).trans (b.mono (by omega));have f:g.heap[w.heap.size]?=some (.cells (AY (List.replicate 64 0)) 217 (0,0)):=by
   rw[b.block _ (by omega)];exact heap_alloc2_old _ _ _
  clear r b;go_wp2_with (first|(refine wpList_load_row rfl 217 _ rfl (w.heap.size+1) rfl 217 _ (0,0) _ q underlying217 rfl c ?_)|(refine wpList_store_row rfl 217 _ _ rfl w.heap.size _ rfl rfl 217 _ f c (by rw[AG,AG,Fr];rfl) (Ln _) ?_))
  refine bodyPost_ret (v:=.agg (AY (fk l))) (results_cell_row rfl _ _ w.heap.size 217 _ (0,0) _ rfl (setRow_heap g w.heap.size _ _ 217 _ f) underlying217 rfl c) rfl ⟨rfl,BR k (A' _) _⟩
theorem dz(l:List Int)(d:l.length=64)(j:Nat)(c:j<64):∀ w,(Instr.index 217 (.agg (AY l)) (.int .i64 (j:Int))).run prog w=.ok (.int .u8 (l.getD j 0)) w:=by
 intro w;have b:(AY l)[j]?=some (.int .u8 (l.getD j 0)):=by
  simp[AY,List.getElem?_eq_getElem (show j<l.length by omega),List.getD]
 have a:(0:Int)<=j/\(j:Int)<64:=by omega
 simp[Instr.index,run_underlying underlying217,asIntOf,a,part,b];intro h;omega
theorem LV(k:List Int)(m:Int)(w:World)(q:k.length=64)(I:0<=m/\m<256)(K:∀ x∈k,0<=x/\x<256) :
  Calls prog 139 #[.agg (AY k),.int .u8 m] w λe w'=>∃ v',e=.returned v'/\w'.ownsRow w.heap.size 5 1 v' (By k m).length ((By k m).map (Value.int .u8))/\Bw w w':=by
 obtain⟨M,L,C,D,E⟩:=info_parts Av;have B:(prog.info? 217).map (·.size)=some (AY k).size:=by rw[AG,q];kernel_rfl
 have u:Hid (k.length=64):=q;clear q;go_enter func139,ntmps139
 go_wp2_with (at_make;refine wpList_make_own _ rfl _ _ 36 rfl w.heap.size 5 M (.int .u8 0) 1 underlying36 L C D _ _ _ 64 rfl rfl (by omega) (by rw[E];omega) (by unfold maxLen;omega) (by simp) ?_)
 intro F t h;have o:Bw w F:=((Below.refl _ _).alloc (A' _) _).grown h (by simp) (by simp);have g:F.heap[w.heap.size]?=some (.cells (AY k) 217 (0,0)):=by
  rw[h.block w.heap.size (by simp) (by simp)];exact heap_alloc_new _ _
 have f:F.ownsRow w.heap.size 5 1 (.slice (some ⟨w.heap.size+1,0,none⟩) 0 64) (By (k.take 0) m).length ((By (k.take 0) m).map (Value.int .u8)):=t;clear t h;go_wp2_with (refine wpList_load_row rfl 217 _ rfl w.heap.size rfl 217 _ (0,0) _ g underlying217 rfl B ?_)
 go_loopw [5,10] (λv i wr=>∃ j:Nat,j<=64/\i=.int .i64 j/\wr.ownsRow w.heap.size 5 1 v (By (k.take j) m).length ((By (k.take j) m).map (Value.int .u8))/\Bw w wr) (λ_ i _=>64-(intOf i).toNat)
 case atStart=>exact⟨0,by omega,rfl,f,o⟩
 case round =>
  clear f o g;obtain⟨j,N,rfl,a,b⟩:=hrel;have s:=a.lt;by_cases d:j<64
  .have hix:=dz k u.out j d;have r:(By (k.take j) m).length<=64:=by rw[FQ,X'];omega
   have y:Hid (By (k.take (j+1)) m=By (k.take j) m++[bits .xor .u8 (k.getD j 0) m]):=by
    unfold Hid;have p:j<k.length:=by rw[u.out];exact d
    rw[mW p,AO p,By,ng];rfl
   have c:=Ak K j;have l:0<=bits .xor .u8 (k.getD j 0) m/\bits .xor .u8 (k.getD j 0) m<256:=by
    rw[u8_xor _ _ c.1 c.2 I.1 I.2];have:(k.getD j 0).toNat ^^^ m.toNat<256:=pJ (n:=8) (by omega) (by omega);omega
   have G:Hid (0<=bits .xor .u8 (k.getD j 0) m/\bits .xor .u8 (k.getD j 0) m<256):=l;generalize By (k.take j) m=pre at a y r;generalize k.getD j 0=x at hix y c l G;clear l c;go_wp2_with (at_builtin;refine Aa _ rfl _ _ 36 rfl w.heap.size 5 underlying36 Av _ _ rfl rfl pre _ (a.alloc _) (Sl.one _ _ _ rfl G.out) (by simp;omega) (by have:=b.size;simp;omega) ?_)
   intro v' w' J H;have A:w'.ownsRow w.heap.size 5 1 v' (pre++[bits .xor .u8 x m]).length ((pre++[bits .xor .u8 x m]).map (Value.int .u8)):=by simpa using J
   have z:Bw w w':=(b.alloc b.size _).grown H (by have:=b.size;simp;omega) (λk q=>(s k q).1);clear J H a s b;go_wp2
   go_roundw
   case rel=>exact⟨j+1,by omega,by go_num,by rw[y.out];exact A,z⟩
   case measure=>simp[intOf];omega
  .have HJ:Hid (k.take j=k):=by unfold Hid;exact mN (by rw[u.out];omega)
   go_wp2
   go_ret;refine⟨u5,rfl,?_,b⟩;rw[HJ.out]at a
   exact a
theorem Pr(vk vb:Value)(k b:List Int)(w:World)(C:Sl w vk k)(hb:Sl w vb b)(Z:k.length<=100000)(a3:b.length<=90000)(ht:AK w) :
  Calls prog 96 #[vk,vb] w λe w'=>∃ v',e=.returned v'/\Fresh w w' v' (E8 k b):=by
 have n:(prog.info? 217).map (·.size)=some (AY (fk k)).size:=by rw[AG,Fr];kernel_rfl
 have d:=cZ C.byte;have c:=Fr k;have F:Hid (E8 k b=dig (By (fk k) 92++dig (By (fk k) 54++b))):=rfl;go_enter func96,ntmps96
 go_wp2_with fail
 refine(Qu vk k w C Z ht).mono ?_;rintro e R ⟨rfl,v⟩;generalize fk k=K at n d c F ⊢;go_wp2_with (refine Jr rfl 217 _ _ rfl R.heap.size _ rfl rfl 217 _ (heap_alloc_new _ _) n (by rw[AG,c];rfl) (Ln _) w.heap.size w (v.alloc v.size _) v.size ?_)
 intro E g a;have hz:R.heap.size<E.heap.size:=(V'.1 g).1;go_wp2_with (refine wpList_load_row rfl 217 _ rfl R.heap.size rfl 217 _ (0,0) _ g underlying217 rfl n ?_)
 refine(LV K 54 E c (by omega) d).mono ?_;rintro e w3 ⟨v3,rfl,z,j⟩;have U:Bw w w3:=a.trans (j.mono a.size);have p:=z.lt;have s:(By K 54).length=64:=by rw[FQ,c]
 have t:(By K 92).length=64:=by rw[FQ,c]
 have G:=LU d (m:=54) (by omega);have H:=LU d (m:=92) (by omega);go_wp2_with (at_builtin;refine Aa _ rfl _ _ 36 rfl E.heap.size 5 underlying36 Av _ _ rfl rfl (By K 54) b z (hb.af U) (by omega) j.size ?_)
 intro v4 S O M;have y:Bw E S:=j.grown M j.size (λk C=>(p k C).1);have V:Bw w S:=a.trans (y.mono a.size);have f:S.ownsRow E.heap.size 5 1 v4 (By K 54++b).length ((By K 54++b).map (Value.int .u8)):=by simpa[s]using O
 have I:∀ x∈By K 54++b,0<=x/\x<256:=λx hx=>by
  rcases Q'.1 hx with h|h
  .exact G x h
  .exact hb.byte x h
 have a1:(By K 54++b).length<=91000:=by rw[H',s];omega
 clear O M z p;generalize By K 54++b=L4 at f I a1 F;go_wp2_with fail
 refine(FL v4 L4 S (Sl.rz f (by omega) I) (by omega) (ht.af V)).mono ?_;rintro e u ⟨v5,rfl,P,W⟩;have o:Bw E u:=y.trans (W.mono y.size);have s5:Sl u v5 (dig L4):=Sl.rz P (by rw[AC];omega) (DW L4);have l5:=AC L4;have y5:=DW L4;generalize dig L4=D at s5 F l5 y5;have B:u.heap[R.heap.size]?=some (.cells (AY K) 217 (0,0)):=(o.block _ hz).trans g;clear f P;go_wp2_with (refine wpList_load_row rfl 217 _ rfl R.heap.size rfl 217 _ (0,0) _ B underlying217 rfl n ?_)
 refine(LV K 92 u c (by omega) d).mono ?_;rintro e w6 ⟨v6,rfl,A,l⟩;have q:=A.lt;go_wp2_with (at_builtin;refine Aa _ rfl _ _ 36 rfl u.heap.size 5 underlying36 Av _ _ rfl rfl (By K 92) D A (s5.af l) (by omega) l.size ?_)
 intro v7 T Q N;have X:Bw u T:=l.grown N l.size (λk C=>(q k C).1);have L:Bw w u:=a.trans (o.mono a.size);have i:Bw w T:=L.trans (X.mono L.size);have r:T.ownsRow u.heap.size 5 1 v7 (By K 92++D).length ((By K 92++D).map (Value.int .u8)):=by simpa[t,l5]using Q
 have J:∀ x∈By K 92++D,0<=x/\x<256:=λx hx=>by
  rcases Q'.1 hx with h|h
  .exact H x h
  .exact y5 x h
 have a2:(By K 92++D).length<=96:=by rw[H',t];omega
 clear Q N A q;generalize By K 92++D=L7 at r J a2 F;go_wp2_with fail
 refine(FL v7 L7 T (Sl.rz r (by omega) J) (by omega) (ht.af i)).mono ?_;rintro e w8 ⟨v8,rfl,a0,Y⟩;go_wp2
 go_ret;refine⟨v8,rfl,?_⟩;rw[F.out];exact Fresh.rz (Ce a0 i.size) (FS (AC L7)) (by rw[AC];omega) (DW L7) (i.trans (Y.mono i.size))
theorem gk(m l:Value)(k b:List Int)(w:World)(i:Sl w m k)(h:Sl w l b)(q:k.length<=256)(o:b.length<=2000)(t:AK w) :
  Calls prog 94 #[m,l] w λe w'=>∃ v',e=.returned (.tuple #[v',.int .i64 0])/\Fresh w w' v' (E8 k b):=by
 have s:=i;have f:=h;obtain⟨⟨a,n,rfl,_,_,_⟩,r,d⟩:=i;obtain⟨⟨v,g,rfl,_,_,_⟩,j,c⟩:=h;clear d c;go_enter func94,ntmps94
 go_wp2_with fail
 refine(Pr _ _ k b w s f (by omega) (by omega) t).mono ?_;rintro e x ⟨u,rfl,p⟩;go_wp2
 go_ret2
 exact⟨u,rfl,p⟩
theorem Pt(L M:Value)(a i:List Int)(c:Int)(w:World)(H:Sl w L a)(I:Sl w M i)(S:a.length<=1000)(U:i.length<=1000)(T:0<=c/\c<256) :
  Calls prog 136 #[L,M,.int .u8 c] w λe w'=>∃ v',e=.returned v'/\w'.ownsRow w.heap.size 5 1 v' (a++i++[c]).length ((a++i++[c]).map (Value.int .u8))/\Bw w w':=by
 obtain⟨X,A,D,E,F⟩:=info_parts Av;have W:=H;have C:=I;obtain⟨⟨aa,R,rfl,_,_,_⟩,V,z⟩:=H;obtain⟨⟨a2,G,rfl,_,_,_⟩,J,n⟩:=I;clear z n;go_enter func136,ntmps136
 go_wp2_with (at_make;refine wpList_make_own _ rfl _ _ 36 rfl w.heap.size 5 X (.int .u8 0) 1 underlying36 A D E _ _ _ (a.length+i.length+1) rfl rfl (by omega) (by rw[F];omega) (by unfold maxLen;omega) (A' _) ?_)
 intro N s o;have b:Bw w N:=(Below.refl _ _).grown o (A' _) (by simp);have m:N.ownsRow w.heap.size 5 1 (.slice (some ⟨w.heap.size,0,none⟩) 0 (a.length+i.length+1)) ([]:List Int).length (([]:List Int).map (Value.int .u8)):=s;clear s o;go_wp2_with (at_builtin;refine Aa _ rfl _ _ 36 rfl w.heap.size 5 underlying36 Av _ _ rfl rfl [] a m (W.af b) (by simp;omega) b.size ?_)
 intro Y O t p;have g:O.ownsRow w.heap.size 5 1 Y a.length (a.map (Value.int .u8)):=by simpa using t
 have d:Bw w O:=b.grown p b.size (by simp[Value.ownBlock]);have j:=g.lt;clear m p b t;go_wp2_with (at_builtin;refine Aa _ rfl _ _ 36 rfl w.heap.size 5 underlying36 Av _ _ rfl rfl a i g (C.af d) (by omega) d.size ?_)
 intro Z P u q;have h:P.ownsRow w.heap.size 5 1 Z (a++i).length ((a++i).map (Value.int .u8)):=by simpa using u
 have f:Bw w P:=d.grown q d.size (λk B=>(j k B).1);have l:=h.lt;clear g q d u j;go_wp2_with (at_builtin;refine Aa _ rfl _ _ 36 rfl w.heap.size 5 underlying36 Av _ _ rfl rfl (a++i) [c] (h.alloc _) (Sl.one _ _ _ rfl T) (by simp;omega) (by have:=f.size;simp;omega) ?_)
 intro K Q v r;have x:Q.ownsRow w.heap.size 5 1 K (a++i++[c]).length ((a++i++[c]).map (Value.int .u8)):=by simpa using v
 have y:Bw w Q:=(f.alloc f.size _).grown r (by have:=f.size;simp;omega) (λk B=>(l k B).1);clear h r f v l;go_wp2
 go_ret;exact⟨K,rfl,x,y⟩
theorem Sl.grown{m:World}{b c d:Nat}{row:Option Nat}(h:Sl w (.slice (some ⟨b,c,none⟩) n d) l)(k:w.grownBy m row)(j:some b≠row):Sl m (.slice (some ⟨b,c,none⟩) n d) l:=by
 obtain⟨⟨a,f,e,q,s,g⟩,o,p⟩:=h;refine⟨⟨a,f,e,q,s,?_⟩,o,p⟩;simp only[Value.slice.injEq]at e;obtain⟨rfl,_,_⟩:=e;rcases g with g|⟨b',off',e',hbs,hcell⟩
 .exact .inl g
 .simp only[Y',Addr.mk.injEq,and_true]at e';obtain⟨rfl,rfl⟩:=e';refine .inr ⟨b,c,rfl,j' hbs k.size,λi r=>?_⟩;rw[<- hcell i r];exact World.cell?_of_block (w:=w) (k.block b hbs j)
def blk(key info:List Int):Nat->List Int
 | 0=>[]
 | i+1=>E8 key (blk key info i++info++[(i:Int)+1])
def Bu(key info:List Int):Nat->List Int
 | 0=>[]
 | i+1=>Bu key info i++blk key info (i+1)
def G0(key info:List Int)(n:Nat):List Int:=(Bu key info 16).take n
theorem H8(key a:List Int)(i:Nat):(blk key a (i+1)).length=32:=DZ _ _
theorem XD(key a:List Int)(i:Nat):∀ x∈blk key a i,0<=x/\x<256:=by
 cases i with
 | zero=>intro x b;cases b
 | succ i=>exact Ow _ _
theorem gL(key a:List Int)(i:Nat):(blk key a i).length<=32:=by
 cases i with
 | zero=>simp[blk]
 | succ i=>rw[H8];omega
theorem CW(key a:List Int)(i:Nat):(Bu key a i).length=32*i:=by
 induction i with
 | zero=>rfl
 | succ i ih=>rw[Bu,H',ih,H8];omega
theorem Rt(key a:List Int)(i:Nat):∀ x∈Bu key a i,0<=x/\x<256:=by
 induction i with
 | zero=>intro x b;cases b
 | succ i ih =>
  intro x b;rcases Q'.1 b with h|h
  .exact ih x h
  .exact XD key a (i+1) x h
theorem Ru(key a:List Int)(n i j:Nat)(b:n<=32*i):(Bu key a (i+j)).take n=(Bu key a i).take n:=by
 induction j with
 | zero=>rfl
 | succ j ih=>rw[<- nM,Bu,mX (by rw[CW];omega),ih]
theorem VA(key a:List Int)(n i:Nat):(Bu key a (i+1)).take n=(Bu key a i).take n++(blk key a (i+1)).take (n-32*i):=by
 rw[Bu,List.take_append,CW]
theorem Su(vk vi:Value)(k i:List Int)(n:Nat)(w:World)(hk:Sl w vk k)(hi:Sl w vi i)(a9:k.length<=1000)(a8:i.length<=900)(hn:n<=512)(ht:AK w) :
  Calls prog 95 #[vk,vi,.int .i64 n] w λe w'=>∃ v',e=.returned v'/\w'.ownsRow w.heap.size 5 1 v' (G0 k i n).length ((G0 k i n).map (Value.int .u8))/\Bw w w':=by
 obtain⟨i0,Z,a2,a3,a4⟩:=info_parts Av;go_enter func95,ntmps95
 go_wp2_with (at_make;refine wpList_make_own _ rfl _ _ 36 rfl w.heap.size 5 i0 (.int .u8 0) 1 underlying36 Z a2 a3 _ _ _ n rfl rfl (by omega) (by rw[a4];omega) (by unfold maxLen;omega) (A' _) ?_)
 intro w1 J I;have H:Bw w w1:=(Below.refl _ _).grown I (A' _) (by simp);have y:w1.ownsRow w.heap.size 5 1 (.slice (some ⟨w.heap.size,0,none⟩) 0 n) ((Bu k i 0).take n).length (((Bu k i 0).take n).map (Value.int .u8)):=by simpa[Bu]using J
 clear J I;go_wp2_with fail
 go_loopw [7,8,9] (λv b c wr=>∃ j:Nat,j<=16/\c=.int .u8 ((j:Int)+1)/\(∃ m z,v=.slice (some ⟨m,0,none⟩) (min (32*j) n) z)/\Sl wr b (blk k i j)/\wr.ownsRow w.heap.size 5 1 v ((Bu k i j).take n).length (((Bu k i j).take n).map (Value.int .u8))/\Bw w wr) (λ_ _ c _=>(17-intOf c).toNat)
 case atStart=>exact⟨0,by omega,rfl,⟨w.heap.size,n,by simp⟩,Sl.nil _ _,y,H⟩
 case round =>
  clear y H;obtain⟨j,hj,rfl,⟨m,z,rfl⟩,sb,f,V⟩:=hrel;have B:=f.lt;by_cases hc:32*j<n
  .have d:min (32*j) n=32*j:=by omega
   rw[d]at f B ⊢
   have a0:m<wr.heap.size:=(B m rfl).2;have l:((Bu k i j).take n).length=32*j:=by rw[X',CW];omega
   have a7:=gL k i j;have a5:j<=15:=by omega
   have HB:Hid (blk k i (j+1)=E8 k (blk k i j++i++[(j:Int)+1])):=rfl;have HS:=VA k i n j;have E:Hid _:=HS;have yb:∀ x∈blk k i j++i++[(j:Int)+1],0<=x/\x<256:=λx hx=>by
    rcases Q'.1 hx with h|h
    .rcases Q'.1 h with h|h
     .exact sb.byte x h
     .exact hi.byte x h
    .obtain rfl:x=(j:Int)+1:=by simpa using h
     omega
   clear HS d;go_wp2_with fail
   refine(Pt _ vi (blk k i j) i ((j:Int)+1) wr sb (hi.af V) (by omega) (by omega) (by omega)).mono ?_;rintro e w2 ⟨v2,rfl,K,a⟩;have s:Bw w w2:=V.trans (a.mono V.size);have l2:(blk k i j++i++[(j:Int)+1]).length<=2000:=by simp;omega
   have s2:=Sl.rz K (by omega) yb;go_wp2_with fail
   refine(Pr vk v2 k _ w2 (hk.af s) s2 (by omega) (by omega) (ht.af s)).mono ?_;rintro e R ⟨v3,rfl,F⟩;rw[<- HB.out]at F
   obtain⟨T,S,N,_,Y⟩:=F.shape;have s3:=F.sl;have o:=F.sN;have l3:=H8 k i j;rw[l3]at N Y
   subst N;clear HB F s2 K l2 yb sb;have a1:=f;have g:R.ownsRow w.heap.size 5 1 (.slice (some ⟨m,0,none⟩) (32*j) z) ((Bu k i j).take n).length (((Bu k i j).take n).map (Value.int .u8)):=by
    refine f.kept (row:=none) ⟨(a.trans (o.mono a.size)).os,(a.trans (o.mono a.size)).tape,(a.trans (o.mono a.size)).output,(a.trans (o.mono a.size)).size,λq hq _=>(a.trans (o.mono a.size)).block q hq⟩ (.inr (by simp[Value.ownBlock]))
   have t:Bw w R:=s.trans (o.mono s.size);have p:=g.lt;have C:Hid ((Bu k i (j+1)).take n=(Bu k i j).take n++(blk k i (j+1)).take (n-32*j)):=E.out;clear E a1 f B;have U:((blk k i (j+1)).take (n-32*j)).length=min (n-32*j) 32:=by rw[X',l3]
   have sM:Sl R (.slice (some ⟨T,0,none⟩) (min (n-32*j) 32) S) ((blk k i (j+1)).take (n-32*j)):=by
    by_cases hq:n-32*j<=32
    .rw[nU hq];exact s3.take (n-32*j) (by omega)
    .rw[Nat.min_eq_right (by omega),mN (by omega)];exact s3
   have HN:=s3;have u:((Bu k i (j+1)).take n).length=min (32*(j+1)) n:=by rw[X',CW];omega
   have D:Hid (((Bu k i (j+1)).take n).length=min (32*(j+1)) n):=u;clear HN u;generalize (blk k i (j+1)).take (n-32*j)=M at sM U C;generalize (Bu k i j).take n=P at g p l C;have SB:Sl R (.slice (some ⟨T,0,none⟩) 32 S) (blk k i (j+1)):=s3;clear s3;have d:(min (32:Int) ((n:Int)-32*(j:Int))).toNat=min (n-32*j) 32:=by omega
   have Q:Sl R (.slice (some ⟨T,0,none⟩) (min (32:Int) ((n:Int)-32*(j:Int))).toNat S) M:=by rw[d];exact sM
   have a6:m<w2.heap.size:=j' a0 a.size;clear d sM;go_wp2_with (at_builtin;refine Aa _ rfl _ _ 36 rfl w.heap.size 5 underlying36 Av _ _ rfl rfl P M g Q (by omega) t.size ?_)
   intro v4 w4 L A;have r:w4.ownsRow w.heap.size 5 1 v4 (P++M).length ((P++M).map (Value.int .u8)):=by simpa[l,U]using L
   have X:Bw w w4:=t.grown A t.size (λk hk=>(p k hk).1);have W:Sl w4 (.slice (some ⟨T,0,none⟩) 32 S) (blk k i (j+1)):=SB.grown A (by simp[Value.ownBlock];omega);obtain⟨g4,c4,O,_,_,_,_,_⟩:=EA r (by intro e;have:=congrArg List.length e;rw[H',l,U]at this;simp at this;omega);have G:(P++M).length=min (32*(j+1)) n:=by rw[<- C.out];exact D.out
   rw[<- C.out]at r
   rw[G]at O
   subst O;clear L A g p t SB Q U C D G l;go_wp2
   go_roundw
   case rel=>exact⟨j+1,by omega,by go_num,⟨g4,c4,rfl⟩,W,r,X⟩
   case measure=>simp[intOf];omega
  .have d:min (32*j) n=n:=by omega
   rw[d]at f ⊢
   have HQ:Hid (G0 k i n=(Bu k i j).take n):=by
    unfold Hid G0;have:=Ru k i n j (16-j) (by omega);rw[show j+(16-j)=16 by omega]at this
    exact this
   go_wp2
   go_ret;refine⟨_,rfl,?_,V⟩;rw[HQ.out];exact f
theorem I9(k i:List Int)(n:Nat)(h:n<=512):(G0 k i n).length=n:=by
 unfold G0;rw[X',CW];omega
theorem L5(k i:List Int)(n:Nat):∀ x∈G0 k i n,0<=x/\x<256:=λx a=>Rt k i 16 x (mP a)
theorem Ua(o f g:Value)(a b d:List Int)(n:Nat)(w:World)(j:Sl w o a)(k:Sl w f b)(l:Sl w g d)(p:a.length<=256)(q:b.length<=256)(r:d.length<=256)(s:n<=512)(m:AK w) :
  Calls prog 51 #[o,f,g,.int .i64 n] w λe w'=>∃ v',e=.returned (.tuple #[v',.int .i64 0])/\w'.ownsRow w.heap.size 5 1 v' (G0 (E8 b a) d n).length ((G0 (E8 b a) d n).map (Value.int .u8))/\Bw w w':=by
 have s0:=j;have t:=k;have u:=l;obtain⟨⟨a0,z,rfl,_,_,_⟩,_,_⟩:=j;obtain⟨⟨x,A,rfl,_,_,_⟩,_,_⟩:=k;obtain⟨⟨y,B,rfl,_,_,_⟩,_,_⟩:=l;have C:decide ((256:Int)<(a.length:Int))=false:=by simp;omega
 have D:decide ((256:Int)<(b.length:Int))=false:=by simp;omega
 have E:decide ((256:Int)<(d.length:Int))=false:=by simp;omega
 have F:decide ((n:Int)<0)=false:=by simp
 have G:decide ((512:Int)<(n:Int))=false:=by simp;omega
 go_enter func51,ntmps51
 go_wp2_with fail
 refine(Pr _ _ b a w t s0 (by omega) (by omega) m).mono ?_;rintro e v ⟨f,rfl,c⟩;have H:=DZ b a;go_wp2_with fail
 refine(Su f _ (E8 b a) d n v c.sl (u.af c.sN) (by omega) (by omega) s (m.af c.sN)).mono ?_;rintro e I ⟨g,rfl,i,h⟩;go_wp2
 go_ret2
 exact⟨g,rfl,Ce i c.sN.size,c.sN.trans (h.mono c.sN.size)⟩
def IG(c:Int):List Int:=G0 (E8 [99,108,105,101,110,116] [c]) [] 32
def Fu:List Int:=G0 (E8 [105,115,115,117,101,114] [255]) [] 32
theorem C1(c:Int):(IG c).length=32:=I9 _ _ 32 (by omega)
theorem G7:Fu.length=32:=I9 _ _ 32 (by omega)
theorem VW(c:Int):∀ x∈IG c,0<=x/\x<256:=L5 _ _ _
theorem VT:∀ x∈Fu,0<=x/\x<256:=L5 _ _ _
theorem Sl.tO(w:World)(l:List Int)(e:TypeId)(a:Nat × Nat){g:Nat}(c:g=w.heap.size)(f:l.length=6)(b:∀ x∈l,0<=x/\x<256):Sl (w.alloc (.cells (l.map (Value.int .u8)).toArray e a)) (.slice (some ⟨g,0,none⟩) 6 6) l:=by
 subst c;refine⟨⟨_,6,by rw[f],by omega,by simp,.inr ⟨w.heap.size,0,rfl,by simp,λi d=>?_⟩⟩,by omega,b⟩;rw[cell_of_row _ _ (0+i) _ _ _ (heap_alloc_new w _)];simp[List.getElem?_eq_getElem d,List.getD]
def GY(t:Nat)(x:Int):Int:=if t%4=3 then x%16 else if t%4=0/\0<t then x/4*4 else x
def Ed(l:List Int):List Int:=(List.range 16).map λt=>GY t (l.getD t 0)
theorem Nm(l:List Int):(Ed l).length=16:=by simp[Ed]
theorem RR(l:List Int)(t:Nat)(h:t<16):(Ed l).getD t 0=GY t (l.getD t 0):=by
 simp[Ed,List.getD,List.getElem?_map,List.getElem?_range h]
theorem Pc(t:Nat){x:Int}(h:0<=x/\x<256):0<=GY t x/\GY t x<256:=by
 unfold GY;split
 .omega
 .split<;>omega
theorem Qc(h:∀ x∈l,0<=x/\x<256):∀ x∈Ed l,0<=x/\x<256:=by
 intro x a;obtain⟨t,_,rfl⟩:=mY.1 a;exact Pc t (Ak h t)
theorem Sr(h:l.length=m.length)(c:∀ t,t<l.length->l.getD t 0=m.getD t 0):l=m:=by
 apply pj h;intro t a b;have:=c t a
 rwa [AO a,AO b]at this
theorem jH(x:Int)(a:0<=x)(b:x<256):bits .and .u8 x 15=x%16:=by
 obtain⟨n,rfl⟩:=nw a;rw[show(15:Int)=((15:Nat):Int)from rfl,u8_and_nat _ _ (by omega) (by omega),show(15:Nat)=2^4-1 from rfl,p9];omega
theorem RI:∀ n:Fin 256,n.val &&& 252=n.val/4*4:=by decide +kernel
theorem gy(x:Int)(a:0<=x)(b:x<256):bits .and .u8 x 252=x/4*4:=by
 obtain⟨n,rfl⟩:=nw a;have e:n &&& 252=n/4*4:=RI ⟨n,by omega⟩;rw[show(252:Int)=((252:Nat):Int)from rfl,u8_and_nat _ _ (by omega) (by omega),e];omega
structure Upper(l m:List Int)(j:Nat):Prop where
 len:m.length=16
 at_:∀ t,m.getD t 0=if t%4=3/\t<3+4*j then l.getD t 0%16 else l.getD t 0
theorem Upper.zero(h:l.length=16):Upper l l 0:=by
 refine⟨h,λt=>?_⟩;rw[if_neg (by omega)]
theorem Upper.succ(h:Upper l m j)(a:j<4):Upper l (m.set (3+4*j) (m.getD (3+4*j) 0%16)) (j+1):=by
 refine⟨by simpa using h.len,λt=>?_⟩;by_cases e:3+4*j=t
 .subst e;rw[AQ (by rw[h.len];omega),h.at_,if_neg (by omega),if_pos (by omega)]
 .rw[AD e,h.at_];by_cases c:t%4=3/\t<3+4*j
  .rw[if_pos c,if_pos (by omega)]
  .rw[if_neg c,if_neg (by omega)]
structure Lower(l m:List Int)(j:Nat):Prop where
 len:m.length=16
 at_:∀ t,t<16->m.getD t 0=if t%4=3 then l.getD t 0%16 else if t%4=0/\0<t/\t<4+4*j then l.getD t 0/4*4 else l.getD t 0
theorem Upper.lower(h:Upper l m 4):Lower l m 0:=by
 refine⟨h.len,λt a=>?_⟩;rw[h.at_];by_cases c:t%4=3
 .rw[if_pos (by omega),if_pos c]
 .rw[if_neg (by omega),if_neg c,if_neg (by omega)]
theorem Lower.succ(h:Lower l m j)(b:j<3):Lower l (m.set (4+4*j) (m.getD (4+4*j) 0/4*4)) (j+1):=by
 refine⟨by simpa using h.len,λt a=>?_⟩;by_cases e:4+4*j=t
 .subst e;rw[AQ (by rw[h.len];omega),h.at_ _ a,if_neg (by omega),if_neg (by omega),if_neg (by omega),if_pos (by omega)]
 .rw[AD e,h.at_ _ a];by_cases c:t%4=3
  .rw[if_pos c,if_pos c]
  .rw[if_neg c,if_neg c];by_cases d:t%4=0/\0<t/\t<4+4*j
   .rw[if_pos d,if_pos (by omega)]
   .rw[if_neg d,if_neg (by omega)]
theorem Lower.tH(h:Lower l m 3):m=Ed l:=by
 refine Sr (by rw[h.len,Nm]) (λt a=>?_);rw[h.len]at a
 rw[h.at_ t a,RR l t a,GY];by_cases c:t%4=3
 .rw[if_pos c,if_pos c]
 .rw[if_neg c,if_neg c];by_cases d:t%4=0/\0<t
  .rw[if_pos d,if_pos (by omega)]
  .rw[if_neg d,if_neg (by omega)]
theorem Upper.byte(h:Upper l m j)(a:∀ x∈l,0<=x/\x<256)(t:Nat):0<=m.getD t 0/\m.getD t 0<256:=by
 have:=Ak a t;rw[h.at_];split<;>omega
theorem Lower.byte(h:Lower l m j)(a:∀ x∈l,0<=x/\x<256)(t:Nat)(b:t<16):0<=m.getD t 0/\m.getD t 0<256:=by
 have:=Ak a t;rw[h.at_ t b];split
 .omega
 .split<;>omega
theorem Sw(v:Value)(l:List Int)(w:World)(h:Sl w v l)(S:l.length=16) :
  Calls prog 195 #[v] w λe w'=>∃ r,e=.returned (.agg (Ai r))/\Lim 67108864 r/\val r%pp=leN (Ed l)%pp/\Bw w w':=by
 have T:=h;obtain⟨⟨a,Y,rfl,hc,hn,Z⟩,M,A⟩:=h;have n:Hid (∀ x∈l,0<=x/\x<256):=A;clear Z A hn M;have W:Hid (l.length=16):=S;go_enter func195,ntmps195
 go_wp2_with (refine wpList_copy_splice rfl _ _ 36 36 rfl 5 underlying36 YI _ _ _ _ _ _ rfl rfl (w.heap.size+1) 0 ((List.replicate 16 (0:Int)).map (Value.int .u8)) 283 (heap_alloc2_new _ _ _) (l.map (Value.int .u8)) (by rw[mV];exact(nU (show l.length<=16 by omega)).symm) (λhp=>⟨rfl,(T.af (((Below.refl _ _).alloc (A' _) _).alloc (by simp) _)).src (by simpa using hp)⟩) (by rw[mV,mV,ou];omega) (Ft _) (w.heap.size+1) _ (Below.refl _ _) (A' _) ?_)
 intro F Q q;have E:F.heap[w.heap.size+1]?=some (.cells (byA l) 283 (0,0)):=by
  have R:F.heap[w.heap.size+1]?=some (.cells (splice ((List.replicate 16 (0:Int)).map (Value.int .u8)) 0 (l.map (Value.int .u8))).toArray 283 (0,0)):=Q.out;rw[Jg,S]at R
  simpa[byA]using R
 have y:Bw w F:=(((Below.refl _ _).alloc (A' _) _).alloc (by simp) _).trans (q.mono (by omega));have C:F.heap[w.heap.size]?=some (.cells (Ai [0,0,0,0,0]) 272 (0,0)):=by
  rw[q.block _ (by omega)];exact heap_alloc2_old _ _ _
 clear Q q T;go_wp2_with fail
 go_loopw [4] (λi wr=>∃ (j:Nat) (m:List Int),j<=4/\i=.int .i64 (3+4*(j:Int))/\Upper l m j/\wr.heap[w.heap.size]?=some (.cells (Ai [0,0,0,0,0]) 272 (0,0))/\wr.heap[w.heap.size+1]?=some (.cells (byA m) 283 (0,0))/\Bw w wr) (λi _=>20-(intOf i).toNat)
 case atStart=>exact⟨0,l,by omega,rfl,Upper.zero W.out,C,E,y⟩
 case round =>
  clear C E y;obtain⟨j,m,hj,rfl,c,t,f,o⟩:=hrel;have N:=c.len;by_cases J:j<4
  .have K:3+4*(j:Int)<16:=by omega
   have H:=(cell_of_row _ _ (3+4*j) _ _ _ f).trans (I4 m (3+4*j) (by omega));have fl:=frozen_of_row _ _ (3+4*j) _ _ f;have b:=c.byte n.out (3+4*j);have u:Hid (Upper l (m.set (3+4*j) (m.getD (3+4*j) 0%16)) (j+1)):=c.succ J;have d:=jH (m.getD (3+4*j) 0) b.1 b.2;generalize m.getD (3+4*j) 0=x at H u b d;clear c;go_wp2
   go_roundw
   case rel =>
    refine⟨j+1,_,by omega,by go_num,u.out,?_,GX f _ _,?_⟩
    .exact(heap_setCell_other _ _ _ _ (by simp)).trans t
    .exact o.setCell (p:=⟨w.heap.size+1,3+4*j,none⟩) (by simp) _
   case measure=>simp[intOf];omega
  .have HJ:Hid (j=4):=by unfold Hid;omega
   have K:¬ 3+4*(j:Int)<16:=by omega
   have B:Lower l m 0:=by have:=HJ.out;subst this;exact c.lower
   clear c;go_wp2_with fail
   go_loopw [5] (λi wr=>∃ (j:Nat) (m:List Int),j<=3/\i=.int .i64 (4+4*(j:Int))/\Lower l m j/\wr.heap[w.heap.size]?=some (.cells (Ai [0,0,0,0,0]) 272 (0,0))/\wr.heap[w.heap.size+1]?=some (.cells (byA m) 283 (0,0))/\Bw w wr) (λi _=>20-(intOf i).toNat)
   case atStart=>exact⟨0,m,by omega,rfl,B,t,f,o⟩
   case round =>
    clear t f o B N;obtain⟨k,m,hk,rfl,c,t,f,o⟩:=hrel;have N:=c.len;by_cases L:k<3
    .have hki:4+4*(k:Int)<16:=by omega
     have H:=(cell_of_row _ _ (4+4*k) _ _ _ f).trans (I4 m (4+4*k) (by omega));have fl:=frozen_of_row _ _ (4+4*k) _ _ f;have b:=c.byte n.out (4+4*k) (by omega);have u:Hid (Lower l (m.set (4+4*k) (m.getD (4+4*k) 0/4*4)) (k+1)):=c.succ L;have d:=gy (m.getD (4+4*k) 0) b.1 b.2;generalize m.getD (4+4*k) 0=x at H u b d;clear c;go_wp2
     go_roundw
     case rel =>
      refine⟨k+1,_,by omega,by go_num,u.out,?_,GX f _ _,?_⟩
      .exact(heap_setCell_other _ _ _ _ (by simp)).trans t
      .exact o.setCell (p:=⟨w.heap.size+1,4+4*k,none⟩) (by simp) _
     case measure=>simp[intOf];omega
    .have hki:¬ 4+4*(k:Int)<16:=by omega
     have V:Hid (k=3):=by unfold Hid;omega
     have s:m=Ed l:=by have:=V.out;subst this;exact c.tH
     have s3:Sl wr (.slice (some ⟨w.heap.size+1,0,none⟩) 16 16) m:=by
      refine Sl.rowOf f N (by omega) ?_;rw[s];exact Qc n.out
     have X:Hid (m=Ed l):=s;have G:Hid _:=s3;have O:w.heap.size<wr.heap.size:=(V'.1 t).1;clear c s3 s f;go_wp2_with fail
     refine(Rd _ m _ G.out (by omega)).mono ?_;rintro e U ⟨r,rfl,P,vr,z⟩;have D:=(z.block w.heap.size O).trans t;have I:Bw w U:=o.trans (z.mono o.size);have g:=Dl P.1;go_wp2_with ((with_reducible (refine Ar ?_));(refine wpList_store_row rfl 272 _ _ rfl (w.heap.size) _ rfl rfl 272 _ D g (by rw[Aj,Aj,P.1];rfl) (BH r) ?_))
     exact bodyPost_ret (v:=.agg (Ai r)) (results_cell_row rfl _ _ (w.heap.size) 272 _ (0,0) _ rfl (setRow_heap U (w.heap.size) _ _ 272 _ D) underlying272 rfl g) rfl ⟨r,rfl,P,by rw[vr,X.out],Bm I (A' _) _⟩
def AM(v:Int)(i:Nat):Int:=v/256^i%256
theorem Gw(v:Int)(i:Nat):0<=AM v i/\AM v i<256:=by unfold AM;omega
def leB(n:Nat)(v:Int):List Int:=(List.range n).map (AM v)
theorem DE(n:Nat)(v:Int):(leB n v).length=n:=by simp[leB]
theorem IJ(n:Nat)(v:Int):∀ x∈leB n v,0<=x/\x<256:=by
 intro x a;obtain⟨j,_,rfl⟩:=mY.1 a;exact Gw v j
def Ge(S:Nat->Int):Nat->Int
 | 0=>0
 | k+1=>Ge S k+S k*256^k
def I5(S:Nat->Int)(k:Nat):Int:=Ge S k/256^k
theorem Mg(k:Nat):(0:Int)<256^k:=Int.pow_pos (by omega)
theorem NV(S:Nat->Int):I5 S 0=0:=by simp[I5,Ge]
theorem NU(S:Nat->Int)(k:Nat):I5 S (k+1)=(I5 S k+S k)/256:=by
 have a:=Mg k;unfold I5;rw[Ge,qd,<- pQ (pZ a),Int.add_mul_ediv_right _ _ (Int.ne_of_gt a)]
theorem RM(S:Nat->Int)(h:∀ j,0<=S j/\S j<1000)(k:Nat):0<=I5 S k/\I5 S k<256:=by
 induction k with
 | zero=>rw[NV];omega
 | succ k ih=>rw[NU];have:=h k;omega
theorem WV(S:Nat->Int)(k d:Nat):∃ Z,Ge S (k+d)=Ge S k+256^k*Z:=by
 induction d with
 | zero=>exact⟨0,by simp⟩
 | succ d ih =>
  obtain⟨Z,a⟩:=ih;refine⟨Z+S (k+d)*256^d,?_⟩;rw[<- nM,Ge,a,pF]
  grind
theorem Lq(v Z:Int)(n k:Nat)(h:k<n):AM (v+256^n*Z) k=AM v k:=by
 have a:=Mg k;obtain⟨d,rfl⟩:∃ d,n=k+(1+d):=⟨n-k-1,by omega⟩;unfold AM;rw[pF,pF,show(256:Int)^k*(256^1*256^d)*Z=256^k*(256*(256^d*Z))by grind,Int.add_mul_ediv_left _ _ (Int.ne_of_gt a)];omega
theorem Vy(S:Nat->Int)(n k:Nat)(h:k<n):(I5 S k+S k)%256=AM (Ge S n) k:=by
 have b:=Mg k;obtain⟨d,rfl⟩:∃ d,n=(k+1)+d:=⟨n-(k+1),by omega⟩;obtain⟨Z,a⟩:=WV S (k+1) d;rw[a,Lq _ _ _ _ (by omega),AM,Ge,Int.add_mul_ediv_right _ _ (Int.ne_of_gt b)];rfl
theorem aR(S T:Nat->Int)(k:Nat):Ge (λj=>S j+T j) k=Ge S k+Ge T k:=by
 induction k with
 | zero=>rfl
 | succ k ih=>simp only[Ge,ih];grind
theorem aS(l:List Int)(k:Nat):Ge (λj=>l.getD j 0) k=leP l k:=by
 induction k with
 | zero=>rfl
 | succ k ih=>simp only[Ge,leP,ih]
theorem TG(v:Int)(n:Nat):∃ Z,v=Ge (AM v) n+256^n*Z/\Z=v/256^n:=by
 induction n with
 | zero=>exact⟨v,by simp[Ge],by simp⟩
 | succ n ih =>
  obtain⟨Z,b,a⟩:=ih;refine⟨Z/256,?_,?_⟩
  .rw[Ge,AM,<- a,qd];have:Z=Z%256+256*(Z/256):=by omega
   grind
  .rw[a,qd,pQ (pZ (Mg n))]
theorem XH(v:Int)(s:List Int)(k:Nat)(a:k<16)(b:s.length<=16) :
  (I5 (λj=>AM v j+s.getD j 0) k+(AM v k+s.getD k 0))%256=AM (v+leN s) k:=by
 rw[Vy (λj=>AM v j+s.getD j 0) 16 k a,aR (AM v) (λj=>s.getD j 0),aS,YY 16 b];obtain⟨Z,c,_⟩:=TG v 16;have e:v+leN s=Ge (AM v) 16+leN s+256^16*Z:=by omega
 rw[e,Lq _ _ _ _ a]
def Ji(v:Int)(k:Nat):List Int:=(List.range 16).map λj=>if j<k then AM v j else 0
theorem R1(v:Int)(k:Nat):(Ji v k).length=16:=by simp[Ji]
theorem Xc(v:Int):Ji v 0=List.replicate 16 0:=rfl
theorem be(v:Int):Ji v 16=leB 16 v:=by
 unfold Ji leB;refine ql λj a=>?_;rw[if_pos (oQ.1 a)]
theorem Xb(v:Int)(k:Nat)(_hk:k<16):(Ji v k).set k (AM v k)=Ji v (k+1):=by
 apply pj (by simp[Ji]);intro j a b;rw[oN];simp only[Ji,List.getElem_map,List.getElem_range];by_cases e:k=j
 .subst e;rw[if_pos rfl,if_pos (by omega)]
 .rw[if_neg e];by_cases c:j<k
  .rw[if_pos c,if_pos (by omega)]
  .rw[if_neg c,if_neg (by omega)]
theorem Td(a b:Int)(k:Nat)(m:Int)(d:m=2^k)(g:0<=a)(c:a<m)(h:0<=b)(i:a+b*m<18446744073709551616):bits .or .u64 a (b*m)=a+b*m:=by
 obtain⟨x,rfl⟩:=nw g;obtain⟨y,rfl⟩:=nw h;have e:(y:Int)*m=((2^k*y:Nat):Int):=by rw[d,qZ,pq,Int.mul_comm];rfl
 rw[e]at i ⊢
 have j:x<2^k:=by
  have:((x:Nat):Int)<((2^k:Nat):Int):=by rw[pq];rw[d]at c;exact c
  omega
 have f:=pA j y;rw[u64_or_nat _ _ (by omega) (by omega),Nat.or_comm,<- f];omega
theorem jf{a b:Int}(h:a=b):Ending.returned (.int .u8 a)=.returned (.int .u8 b):=by rw[h]
theorem RL(n:List Int)(i:Nat)(w:World)(o:Lim 67108864 n)(B:i<16) :
  Calls prog 201 #[.agg (Ai n),.int .i64 i] w λe w'=>e=.returned (.int .u8 (AM (val n) i))/\Bw w w':=by
 obtain⟨a,b,c,d,e,rfl,⟨q,r⟩,⟨s,t⟩,⟨u,v⟩,⟨x,y⟩,⟨z,A⟩⟩:=o.split;have f:(w.alloc (.cells (Ai [a,b,c,d,e]) 272 (0,0))).heap[w.heap.size]?=some (.cells (Ai [a,b,c,d,e]) 272 (0,0)):=heap_alloc_new _ _;have h:=(cell_of_row _ _ 0 _ _ _ f).trans (At _ 0 (by simp));have j:=(cell_of_row _ _ 1 _ _ _ f).trans (At _ 1 (by simp));have k:=(cell_of_row _ _ 2 _ _ _ f).trans (At _ 2 (by simp));have l:=(cell_of_row _ _ 3 _ _ _ f).trans (At _ 3 (by simp));have m:=(cell_of_row _ _ 4 _ _ _ f).trans (At _ 4 (by simp));simp only[nc,nD]at h j k l m;have g:Hid (val [a,b,c,d,e]=a+67108864*b+4503599627370496*c+302231454903657293676544*d+20282409603651670423947251286016*e):=D5 a b c d e;generalize Ai [a,b,c,d,e]=arr at h j k l m ⊢;generalize val [a,b,c,d,e]=V at g ⊢;clear o f;obtain rfl|rfl|rfl|rfl|rfl|rfl|rfl|rfl|rfl|rfl|rfl|rfl|rfl|rfl|rfl|rfl:i=0\/i=1\/i=2\/i=3\/i=4\/i=5\/i=6\/i=7\/i=8\/i=9\/i=10\/i=11\/i=12\/i=13\/i=14\/i=15:=by omega
 all_goals
  go_enter func201,ntmps201
  go_wp2
  go_ret;refine⟨jf ?_,(Below.refl _ _).alloc (A' _) _⟩;have p:=g.out;clear g h j k l m;unfold AM
  first
   | rw[Td _ _ 2 4 rfl (by omega) (by omega) (by omega) (by omega)]
   | rw[Td _ _ 4 16 rfl (by omega) (by omega) (by omega) (by omega)]
   | rw[Td _ _ 6 64 rfl (by omega) (by omega) (by omega) (by omega)]
   | skip
  subst p;simp only[Int.reducePow];omega
theorem NE{d:Nat}{K:Act->World->Prop}(R:World->Prop){A:Act}(c:∀ K':Act->World->Prop,Hid (∀ W2,R W2->K' A W2)->(Code.region d ops true).wp P (Exit.then K' Q) a w)(b:∀ W2,R W2->K A W2):(Code.region d ops true).wp P (Exit.then K Q) a w:=c K b
theorem PJ(nl:List Int)(v:Value)(s:List Int)(w:World)(h:Sl w v s)(Z:s.length=16)(hn:Lim 67108864 nl) :
  Calls prog 193 #[.agg (Ai nl),v] w λe w'=>∃ v',e=.returned v'/\Sl w' v' (leB 16 (val nl+leN s))/\Bw w w':=by
 obtain⟨⟨a,a3,rfl,hc,a1,O⟩,a0,r⟩:=h;rcases O with rfl|⟨B,off,rfl,hB,hcell⟩
 .simp at Z
 have HC:Hid (∀ i,i<16->w.cell? ⟨B,off+i,none⟩=some (.int .u8 (s.getD i 0))):=λi hi=>hcell i (by omega);have n:Hid (∀ x∈s,0<=x/\x<256):=r;have o:Hid (s.length=16):=Z;rw[Z]at hc ⊢
 clear hcell r a1 a0;obtain⟨J,K,L,M,N,rfl,_⟩:=hn.split;obtain⟨V,X⟩:∃ V,val [J,K,L,M,N]=V:=⟨_,rfl⟩;have HV:Hid (val [J,K,L,M,N]=V):=X;rw[X];clear X;obtain⟨i0,z,A,C,D⟩:=info_parts Av;go_enter func193,ntmps193
 go_wp2_with (at_make;refine wpList_make_row _ rfl _ _ 36 rfl 5 i0 (.int .u8 0) underlying36 z A C rfl _ _ 16 rfl rfl (by rw[D];omega) (by omega) ?_)
 clear z A C D
 go_loopw [6,11] (λcv i wr=>∃ (k:Nat),k<=16/\i=.int .i64 k/\cv=.int .i64 (I5 (λj=>AM V j+s.getD j 0) k)/\wr.heap[w.heap.size]?=some (.cells (Ai [J,K,L,M,N]) 272 (0,0))/\wr.heap[w.heap.size+1]?=some (.cells (byA (Ji (V+leN s) k)) 5 (0,0))/\Bw w wr) (λ_ i _=>16-(intOf i).toNat)
 case atStart =>
  refine⟨0,by omega,rfl,by rw[NV],?_,?_,?_⟩
  .exact heap_alloc2_old _ _ _
  .have e:madeCells #[Value.int .u8 0] 16=byA (Ji (V+leN s) 0):=by rw[Xc];kernel_rfl
   rw[e];exact heap_alloc2_new _ _ _
  .exact((Below.refl _ _).alloc (A' _) _).alloc (by simp) _
 case round =>
  obtain⟨k,hk,rfl,rfl,f,g,P⟩:=hrel;by_cases b:k<16
  .have hki:(k:Int)<16:=by omega
   have E:=(cell_of_row _ _ 0 _ _ _ f).trans (At _ 0 (by simp));have F:=(cell_of_row _ _ 1 _ _ _ f).trans (At _ 1 (by simp));have G:=(cell_of_row _ _ 2 _ _ _ f).trans (At _ 2 (by simp));have H:=(cell_of_row _ _ 3 _ _ _ f).trans (At _ 3 (by simp));have I:=(cell_of_row _ _ 4 _ _ _ f).trans (At _ 4 (by simp));simp only[nc,nD]at E F G H I;have a2:w.heap.size+1<wr.heap.size:=(V'.1 g).1;have U:B<wr.heap.size:=by omega
   have ch:=(P.cell (p:=⟨B,off+k,none⟩) hB).trans (HC.out k b);have t:∀ j,0<=AM V j+s.getD j 0/\AM V j+s.getD j 0<1000:=λj=>by
    have R:=Gw V j;have S:=Ak n.out j;omega
   have u:=RM (λj=>AM V j+s.getD j 0) t k;have d:Hid (I5 (λj=>AM V j+s.getD j 0) (k+1)=(I5 (λj=>AM V j+s.getD j 0) k+(AM V k+s.getD k 0))/256):=NU _ k;have c:Hid ((I5 (λj=>AM V j+s.getD j 0) k+(AM V k+s.getD k 0))%256=AM (V+leN s) k):=XH V s k b (by rw[o.out];omega);have R:=Gw V k;have S:=Ak n.out k;have l:=RL [J,K,L,M,N] k;rw[HV.out]at l
   have m:Hid (∀ W,Calls prog 201 #[.agg (Ai [J,K,L,M,N]),.int .i64 k] W λe w'=>e=.returned (.int .u8 (AM V k))/\Bw W w'):=λW=>l W hn b;have HT:Hid _:=g;have HR:Hid _:=f;have HB:Hid _:=P;clear l t g f P;have a5:=R1 (V+leN s) k;have Q:Hid ((Ji (V+leN s) k).set k (AM (V+leN s) k)=Ji (V+leN s) (k+1)):=Xb _ k b;generalize I5 (λj=>AM V j+s.getD j 0) k=cy at d c u;generalize AM V k=x at d c R m;generalize s.getD k 0=y at d c S ch;obtain⟨x1,x2⟩:=R;obtain⟨y1,y2⟩:=S;obtain⟨z1,z2⟩:=u;go_wp2_with fail
   apply NE (λW=>Bw wr W)
   .intro K2 HK2
    go_region_with (go_at_call 201;refine(m.out _).mono ?_;rintro e w2 ⟨rfl,q⟩;have a4:=(q.cell (p:=⟨B,off+k,none⟩) U).trans ch)
    all_goals exact HK2.out _ ((Below.refl _ _).drew.trans q)
   intro W Y;have g:=(Y.block _ a2).trans HT.out;have f:=(Y.block _ (by omega)).trans HR.out;have ct:=(cell_of_row _ _ k _ _ _ g).trans (I4 _ k (by omega));have ft:=frozen_of_row _ _ k _ _ g;have T:Bw w W:=HB.out.trans (Y.mono HB.out.size);clear E F G H I ch;generalize (Ji (V+leN s) k).getD k 0=c0 at ct;go_wp2
   go_roundw
   case rel =>
    refine⟨k+1,by omega,by go_num,?_,?_,?_,?_⟩
    .rw[d.out]
    .exact(heap_setCell_other _ _ _ _ (by simp)).trans f
    .have O:=GX g k (AM (V+leN s) k);rw[Q.out,<- c.out]at O
     exact O
    .exact T.setCell (p:=⟨w.heap.size+1,k,none⟩) (by simp) _
   case measure=>simp[intOf];omega
  .have hki:¬ (k:Int)<16:=by omega
   have HK:Hid (k=16):=by unfold Hid;omega
   go_wp2
   go_ret;have hK:=HK.out;subst hK;rw[be]at g
   exact⟨_,rfl,Sl.rowOf g (DE _ _) (by rw[DE];omega) (IJ _ _),P⟩
def WZ(key data:List Int):List Int:=leB 16 (gl (leN (Ed (key.take 16))) data+leN (key.drop 16))
theorem Ry(key a:List Int):(WZ key a).length=16:=DE _ _
theorem Xa(key a:List Int):∀ x∈WZ key a,0<=x/\x<256:=IJ _ _
theorem Sl.sE{v:Value}(h:Sl w v l):∃ a c,v=.slice a l.length c:=by
 obtain⟨⟨a,b,e,_⟩,_⟩:=h;exact⟨a,b,e⟩
theorem jy(r q:Value)(key a:List Int)(w:World)(g:Sl w r key)(m:Sl w q a)(lk:key.length=32)(B:a.length<=4000) :
  Calls prog 182 #[r,q] w λe w'=>∃ v',e=.returned (.tuple #[v',.int .i64 0])/\Sl w' v' (WZ key a)/\Bw w w':=by
 obtain⟨k,l,rfl⟩:=g.sE;obtain⟨ad,K,rfl⟩:=m.sE;rw[lk]at g ⊢
 obtain⟨s,u,c,o⟩:=g.rD 16 (by omega);obtain⟨t,v,d,p⟩:=g.from 16 (by omega);have x:∀ W,(Instr.slice 36 (.slice k 32 l) none (some (.int .i64 16)) none).run prog W=.ok (.slice s 16 u) W:=c;have y:∀ W,(Instr.slice 36 (.slice k 32 l) (some (.int .i64 16)) none none).run prog W=.ok (.slice t 16 v) W:=d;clear c d;have lt:(key.take 16).length=16:=by rw[X'];omega
 have n:(key.drop 16).length=16:=by rw[mM];omega
 have C:¬ (4000:Int)<(a.length:Int):=by omega
 have h:Hid (WZ key a=leB 16 (gl (leN (Ed (key.take 16))) a+leN (key.drop 16))):=rfl;generalize key.take 16=K1 at o lt h;generalize key.drop 16=K2 at p n h;clear g lk;have j:Hid (a.length<=4000):=B;go_enter func182,ntmps182
 go_wp2_with fail
 go_region_with (first
  | (go_at_call 195;refine(Sw _ K1 _ (o.af ((Below.refl _ _).drew)) lt).mono ?_;rintro e L ⟨E,rfl,z,G,b⟩)
  | (go_at_call 194;refine(Pk E (leN (Ed K1)) _ a _ (m.af ((Below.refl _ _).drew.trans b)) j.out z G).mono ?_;rintro e J ⟨D,rfl,A,H,f⟩)
  | (go_at_call 193;refine(PJ D _ K2 _ (p.af (((Below.refl _ _).drew.trans b).trans (f.mono b.size))) n A).mono ?_;rintro e M ⟨I,rfl,F,i⟩))
 all_goals
  go_wp2
  go_ret2
  refine⟨I,rfl,?_,?_⟩
  .rw[h.out,<- H];exact F
  .have b3:Bw w J:=((Below.refl _ _).drew.trans b).trans (f.mono b.size);exact b3.trans (i.mono b3.size)
def gap(n:Nat):Nat:=(16-n%16)%16
def EM(l:List Int):List Int:=l++List.replicate (gap l.length) 0
theorem EV(l:List Int):(EM l).length=l.length+gap l.length:=by rw[EM,H',ou]
theorem If(n:Nat):gap n<16:=by unfold gap;omega
theorem U0(n:Nat):(n+gap n)%16=0:=by unfold gap;omega
theorem VI(n j:Nat)(h:j<gap n):¬ (n+j)%16=0:=by unfold gap at h;omega
theorem dj(n m:Nat)(h:n%16=0):gap (n+m)=gap m:=by unfold gap;omega
theorem O3(h:∀ x∈l,0<=x/\x<256):∀ x∈EM l,0<=x/\x<256:=by
 intro x a;rcases Q'.1 a with h1|h1
 .exact h x h1
 .rw[(pI.1 h1).2];omega
theorem ZF(a s:List Int):EM (EM a++s)=EM a++EM s:=by
 have h:(EM a).length%16=0:=by rw[EV];exact U0 _
 rw[EM,H',dj _ _ h,mK];rfl
theorem YX(k:Nat)(v:Int):leB (k+1) v=leB k v++[AM v k]:=by
 simp[leB,List.range_succ]
def G8(a s:List Int):List Int:=EM a++EM s++leB 8 (a.length:Int)++leB 8 (s.length:Int)
theorem II(a s:List Int):(G8 a s).length=a.length+gap a.length+(s.length+gap s.length)+8+8:=by
 simp only[G8,H',EV,DE]
theorem SK{a s:List Int}(b:∀ x∈a,0<=x/\x<256)(c:∀ x∈s,0<=x/\x<256):∀ x∈G8 a s,0<=x/\x<256:=by
 intro x hx;rcases Q'.1 hx with hx|hx
 .rcases Q'.1 hx with hx|hx
  .rcases Q'.1 hx with hx|hx
   .exact O3 b x hx
   .exact O3 c x hx
  .exact IJ _ _ x hx
 .exact IJ _ _ x hx
def Ds(key nonce a s:List Int):List Int:=WZ ((CP (Cb key (BitVec.ofNat 32 0) nonce)).take 32) (G8 a s)
theorem Jh(key b a s:List Int):(Ds key b a s).length=16:=Ry _ _
theorem MB(key b a s:List Int):∀ x∈Ds key b a s,0<=x/\x<256:=Xa _ _
def DA(key nonce p:List Int):List Int:=KJ (Cb key (BitVec.ofNat 32 1) nonce) p
theorem Cj(key a p:List Int):(DA key a p).length=p.length:=Dk _ _
def Dr(key nonce a p:List Int):List Int:=DA key nonce p++Ds key nonce a (DA key nonce p)
theorem Ga(key b a p:List Int):(Dr key b a p).length=p.length+16:=by
 rw[Dr,H',Cj,Jh]
theorem K6(v:Value)(l:List Int)(B:Nat)(w:World)(p:w.ownsRow B 5 1 v l.length (l.map (Value.int .u8)))(E:B<=w.heap.size)(J:l.length<=100000) :
  Calls prog 196 #[v] w λe w'=>∃ v',e=.returned v'/\w'.ownsRow B 5 1 v' (EM l).length ((EM l).map (Value.int .u8))/\Below B w w':=by
 have r:Hid (EM l=l++List.replicate (gap l.length) 0):=rfl;have F:=If l.length;have s:Hid (∀ j,j<gap l.length->¬ (l.length+j)%16=0):=λj x=>VI _ _ x;have q:Hid ((l.length+gap l.length)%16=0):=U0 _;obtain⟨a0,A,rfl⟩:=EU p;generalize gap l.length=G at r F s q;go_enter func196,ntmps196
 go_wp2_with fail
 go_loopw [0] (λv wr=>∃ (j:Nat) (a:Option Addr) (f:Nat),j<=G/\v=.slice a (l.length+j) f/\wr.ownsRow B 5 1 v (l++List.replicate j 0).length ((l++List.replicate j 0).map (Value.int .u8))/\Below B w wr) (λv _=>l.length+G-Zb v)
 case atStart=>exact⟨0,a0,A,by omega,rfl,by simpa using p,Below.refl _ _⟩
 case round =>
  clear p;obtain⟨j,a,f,x,rfl,b,d⟩:=hrel;have h:=b.lt;by_cases o:j<G
  .have t:=s.out j o;have u:¬ ((l.length:Int)+j)%16=0:=by omega
   go_wp2_with (at_builtin;refine Aa _ rfl _ _ 36 rfl B 5 underlying36 Av _ _ rfl rfl (l++List.replicate j 0) [0] (b.alloc _) (Sl.one _ _ _ rfl (by omega)) (by simp;omega) (by have:=d.size;simp;omega) ?_)
   intro I y i g;have c:y.ownsRow B 5 1 I (l++List.replicate (j+1) 0).length ((l++List.replicate (j+1) 0).map (Value.int .u8)):=by rw[<- Mt];simpa using i
   have n:Below B w y:=(d.alloc (mH E d.size) _).grown g (by have:=d.size;simp;omega) (λk H=>(h k H).1);obtain⟨z,C,m⟩:=EU c;rw[H',ou]at m
   subst m;clear i g b h d t u;go_wp2
   go_roundw
   case rel=>exact⟨j+1,z,C,by omega,rfl,c,n⟩
   case measure=>simp[Zb];omega
  .have HJ:Hid (G=j):=by unfold Hid;omega
   have D:=q.out;have t:((l.length:Int)+j)%16=0:=by have:=HJ.out;omega
   have u:(((l.length:Int)+j)%16 != 0)=false:=by simp;omega
   clear D;go_wp2
   go_ret;refine⟨_,rfl,?_,d⟩;rw[r.out,HJ.out];exact b
theorem GS(v:Value)(l:List Int)(n:Nat)(B:Nat)(w:World)(r:w.ownsRow B 5 1 v l.length (l.map (Value.int .u8)))(A:B<=w.heap.size)(G:l.length<=100000)(H:n<=100000) :
  Calls prog 197 #[v,.int .i64 n] w λe w'=>∃ v',e=.returned v'/\w'.ownsRow B 5 1 v' (l++leB 8 (n:Int)).length ((l++leB 8 (n:Int)).map (Value.int .u8))/\Below B w w':=by
 go_enter func197,ntmps197
 go_wp2_with fail
 go_loopw [0,1,5] (λv s i wr=>∃ k:Nat,k<=8/\i=.int .i64 k/\s=.int .i64 ((n:Int)/256^k)/\wr.ownsRow B 5 1 v (l++leB k (n:Int)).length ((l++leB k (n:Int)).map (Value.int .u8))/\Below B w wr) (λ_ _ i _=>8-(intOf i).toNat)
 case atStart=>exact⟨0,by omega,rfl,by simp,by simpa[leB]using r,Below.refl _ _⟩
 case round =>
  clear r;obtain⟨k,q,rfl,rfl,a,c⟩:=hrel;have h:=a.lt;by_cases C:k<8
  .have hki:(k:Int)<8:=by omega
   obtain⟨x,d⟩:∃ x:Int,(n:Int)/256^k=x:=⟨_,rfl⟩;have t:(0:Int)<256^k:=Mg k;have D:0<=x:=by rw[<- d];exact Int.ediv_nonneg (by omega) (by omega)
   have E:x<=100000:=by rw[<- d];have:=Int.ediv_le_self (256^k) (show(0:Int)<=n by omega);omega
   have z:Hid ((n:Int)/256^(k+1)=x/256):=by unfold Hid;rw[qd,<- pQ (pZ t),d]
   have b:Hid (x%256=AM n k):=by unfold Hid AM;rw[d]
   have g:=DE k (n:Int);have o:Hid (leB (k+1) (n:Int)=leB k n++[AM n k]):=YX k _;rw[d];clear d t;generalize leB k (n:Int)=pre at a o g;generalize AM (n:Int) k=y at b o;go_wp2_with (at_builtin;refine Aa _ rfl _ _ 36 rfl B 5 underlying36 Av _ _ rfl rfl (l++pre) [y] (a.alloc _) (Sl.sZ _ _ _ _ rfl ?_ ?_) (by simp;omega) (by have:=c.size;simp;omega) ?_)
   .have:=b.out;omega
   .have:=b.out;omega
   intro F u j f;have m:u.ownsRow B 5 1 F (l++(pre++[y])).length ((l++(pre++[y])).map (Value.int .u8)):=by rw[<- mK];simpa[g]using j
   have p:Below B w u:=(c.alloc (mH A c.size) _).grown f (by have:=c.size;simp;omega) (λk q=>(h k q).1);clear j f a h c;go_wp2
   go_roundw
   case rel=>exact⟨k+1,by omega,by go_num,by rw[z.out],by rw[o.out];exact m,p⟩
   case measure=>simp[intOf];omega
  .obtain rfl:k=8:=by omega
   go_wp2
   go_ret;exact⟨_,rfl,a,c⟩
theorem YU(O P:Value)(a s:List Int)(w:World)(z:Sl w O a)(B:Sl w P s)(U:a.length<=10000)(V:s.length<=10000) :
  Calls prog 183 #[O,P] w λe w'=>∃ v',e=.returned v'/\Sl w' v' (G8 a s)/\Bw w w':=by
 have f:Hid (G8 a s=EM (EM a++s)++leB 8 (a.length:Int)++leB 8 (s.length:Int)):=by unfold Hid;rw[ZF];rfl
 have R:Hid (∀ x∈G8 a s,0<=x/\x<256):=SK z.byte B.byte;have Q:Hid ((G8 a s).length<=30000):=by unfold Hid;rw[II];have:=If a.length;have:=If s.length;omega
 have H:(EM a).length<=11000:=by rw[EV];have:=If a.length;omega
 have i:(EM (EM a++s)).length<=30000:=by rw[EV,H'];have:=If ((EM a).length+s.length);omega
 obtain⟨aa,ca,rfl⟩:=z.shape;obtain⟨S,cs,rfl⟩:=B.shape;generalize L:a.length=n at U f z ⊢;generalize K:s.length=m at V f B ⊢;have l:Hid (a.length=n):=L;have j:Hid (s.length=m):=K;clear L K;go_enter func183,ntmps183
 go_wp2_with (at_builtin;refine Aa _ rfl _ _ 36 rfl w.heap.size 5 underlying36 Av _ _ rfl rfl [] a (World.ownsRow_nil _ _ _ _) z (by have:=l.out;simp;omega) (A' _) ?_)
 intro M I c p;have C:Bw w I:=(Below.refl _ _).grown p (A' _) (by simp[Value.ownBlock]);replace c:I.ownsRow w.heap.size 5 1 M a.length (a.map (Value.int .u8)):=by simpa using c
 clear p;go_wp2_with fail
 refine(K6 M a w.heap.size I c C.size (by have:=l.out;omega)).mono ?_;rintro e w2 ⟨v2,rfl,d,g⟩;replace g:=C.trans g;clear c C;have v:=B.af g;have r:=d.lt;generalize EM a=A at f H i d;go_wp2_with (at_builtin;refine Aa _ rfl _ _ 36 rfl w.heap.size 5 underlying36 Av _ _ rfl rfl A s d v (by have:=j.out;omega) g.size ?_)
 intro N J b q;have D:Bw w J:=g.grown q g.size (λk T=>(r k T).1);clear q r d g v;replace b:J.ownsRow w.heap.size 5 1 N (A++s).length ((A++s).map (Value.int .u8)):=by simpa using b
 have F:(A++s).length<=21000:=by rw[H'];have:=j.out;omega
 generalize A++s=AS at f i b F;go_wp2_with fail
 refine(K6 N AS w.heap.size J b D.size (by omega)).mono ?_;rintro e Z ⟨W,rfl,h,o⟩;replace o:=D.trans o;clear b D;generalize EM AS=X at f i h;go_wp2_with fail
 refine(GS W X n w.heap.size Z h o.size (by omega) (by omega)).mono ?_;rintro e w5 ⟨Y,rfl,t,y⟩;replace y:=o.trans y;have G:(X++leB 8 (n:Int)).length<=30008:=by rw[H',DE];omega
 clear h o;generalize X++leB 8 (n:Int)=X5 at f G t;go_wp2_with fail
 refine(GS Y X5 m w.heap.size w5 t y.size (by omega) (by omega)).mono ?_;rintro e w6 ⟨v6,rfl,u,E⟩;replace E:=y.trans E;rw[<- f.out]at u
 go_wp2
 go_ret;exact⟨_,rfl,Sl.rz u (by have:=Q.out;omega) R.out,E⟩
def Fq(key nonce a:List Int):Bool:=decide (key.length=32)&&decide (nonce.length=12)&&decide (a.length<=256)
theorem Hc(h i g:Value)(key b a:List Int)(w:World)(d:Sl w h key)(f:Sl w i b)(c:Sl w g a) :
  Calls prog 163 #[h,i,g] w λe w'=>e=.returned (.bool (Fq key b a))/\w'=w:=by
 have j:=d.len;have k:=f.len;have l:=c.len;obtain⟨n,r,rfl⟩:=d.shape;obtain⟨o,s,rfl⟩:=f.shape;obtain⟨m,q,rfl⟩:=c.shape;unfold Fq;generalize key.length=n1 at j d ⊢;generalize b.length=n2 at k f ⊢;generalize a.length=n3 at l c ⊢;clear d f c;by_cases p:(n1:Int)=32
 .by_cases c2:(n2:Int)=12
  .by_cases c3:(n3:Int)<=256
   .go_enter func163,ntmps163
    go_wp2
    go_ret;refine⟨Aw ?_,rfl⟩;simp;omega
   .go_enter func163,ntmps163
    go_wp2
    go_ret;refine⟨Aw ?_,rfl⟩;simp;omega
  .go_enter func163,ntmps163
   go_wp2
   go_ret;refine⟨Aw ?_,rfl⟩;simp;omega
 .go_enter func163,ntmps163
  go_wp2
  go_ret;refine⟨Aw ?_,rfl⟩;simp;omega
end
end
end Go.Proofs.YtdnmoonbpfmijaaGreatDoor
