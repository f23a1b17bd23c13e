/- Part 7 of the walk. -/
import Derived.LoopN
import Derived.Lib.SmallJoins
import Derived.Deep.OwnRows
import Derived.Test.YtcjcngceghfoeaaGreatDoorZ6
set_option maxRecDepth 100000
set_option maxHeartbeats 4000000
open Go.Proofs.Tryz
set_option linter.unusedVariables false
namespace Go.Proofs.YtcjcngceghfoeaaGreatDoor
section
open Go.RowKit
section
variable{P:Program}{fn:Func}{R:Ending->World->Prop}{B:Nat}{T:List Tg}{g:Gh}{w:World}
theorem fH{s:Xs}(k n:Nat)(a:List (Nat × Value))(m:List Bool)(i:List Sh)(o:S4 s.K=true)(q:s.f.n=n)(y:a.map (λp=>lk s.f.z s.f.e p.1)=a.map (·.2))(u:BM (AH m s.L)=i)
  (h:∀ J:Nat->Act->World->Prop,(∀ (m:Nat) (e:List (Nat × Value)) (z:Nat->Value) (L:List Sh) (g:Gh) (w:World),GG P fn R B T (el s n (J m) e z L) g w->Kn B g w L->J (m+1) (⟨n,e,z⟩:Fm).act w)->∀ z,GG P fn R B T (el s n (J k) a z i) g w):GG P fn R B T s g w:=by
 refine gFm a y λz=>?_;obtain⟨K,f,L⟩:=s;simp only at q;subst q;have j:BM (AH m L)=i:=u;have v:GG P fn R B T ⟨K,⟨f.n,a,z⟩,BM (AH m L)⟩ g w->GG P fn R B T ⟨K,⟨f.n,a,z⟩,L⟩ g w:=λh=>⟨λd=>h.ex (d.sub (D6 m L)).sP⟩;refine v ?_;rw[j];cases K with
 | nil=>cases o
 | cons t K =>
  cases t with
  | c x =>
   cases x with
   | loop b =>
    refine⟨λd=>?_⟩;exact wp_loop_rounds (k+1) ((h (Code.rounds P b (Kq P (bodyPost P fn R) K)) (λm e z L g w r d=>r.ex d) z).ex d)
   | _=>cases o
  | _=>cases o
end
section
variable{W w:World}{d:List Int}{g:Gh}{i k nb ob:Nat}{ls:List Let}{p:Nod}{s:Int}{ts:List Tol}{vs:List Value}{x:S3}
theorem MY{v:Vt}(h:NS i nb ob g w p ls ts){D:World}(I:Base D g w)(J:Tabs D)(M:i<5)(K:ls.length<90000000){a d:Nat}(y:Box g w a #[pt nb 0] 91)(A:Box g w d #[iv v.bu,iv v.b.r,iv v.b.n,iv v.w.k,iv v.w.c,iv v.w.s,iv v.w.n,iv v.w.v] 156)(q:p.ab.length<=40) :
  Calls prog 117 #[pt a 0,pt d 0] w (NP i nb ob g w (.tuple #[]) (p.count i v) (ls++BU i { BC 3 with cn:=v } 5) ts):=by
 obtain⟨x,lt,Z,B,C,L⟩:=h;refine gI (fn:=f117) (TN i) g func117 L (qN B (qO C (Cl ⟨a,.cells #[pt nb 0] 91,.z,false⟩ (λ_=>⟨y.r,y.z,λh=>(by cases h),λh=>absurd rfl h⟩) (by kernel_rfl) ?_)));refine Cl ⟨d,.cells #[iv v.bu,iv v.b.r,iv v.b.n,iv v.w.k,iv v.w.c,iv v.w.s,iv v.w.n,iv v.w.v] 156,.z,false⟩ (λ_=>⟨A.r,A.z,λh=>(by cases h),λh=>absurd rfl h⟩) (by kernel_rfl) ?_;refine qR [] 8 [6,0,2,2,2,4,6,8,0,10,3] λW R w1 e=>qS 6 [false,false,true,true] B C e (λE=>Nx E (I.ch (e.nil (TN i)) (By i)) J i M v q) λS w2 x2 N P j m G=>qR [] 5 [0,1] λX T w4 t=>qS 3 [true,true,false,false] j m t (λF=>E3 F K { BC 3 with cn:=v } s30 s30 ⟨Sv.nil _,λh=>absurd rfl h⟩ (Rc.nil _ _)) λU w5 x5 O Q l o H=>qR [] 1 [] λY V w7 u=>qF l o u (((((e.nil (TN i)).trans (G)).n t).trans (H)).n u)
theorem SC{b:Bal}{C:List Vt}{j:S3}(h:NS i nb ob g w p ls ts){H:World}(N:Base H g w)(O:Tabs H)(R:i<5)(P:ls.length<90000000){k l m:Nat}(a:Box g w k #[pt nb 0] 91)(F:Box g w l #[iv b.r,iv b.n] 96)(G:Box g w m #[S3.v j] 97)(S:FSv g w j C)(B:(p.av.an i).vs.length<100000000) :
  Calls prog 66 #[pt k 0,pt l 0,pt m 0] w (NP i nb ob g w (.tuple #[]) (if p.vo.p≠b then p else{ p with av:=p.av.rC i C }) (if p.vo.p≠b then ls else(ls++BU i { BC 0 with hU:=b } 5)) ts):=by
 obtain⟨x,lt,tl,o,t,Q⟩:=h;refine gI (fn:=f66) (TN i) g func66 Q (qN o (qO t (Cl ⟨k,.cells #[pt nb 0] 91,.z,false⟩ (λ_=>⟨a.r,a.z,λh=>(by cases h),λh=>absurd rfl h⟩) (by kernel_rfl) ?_)));refine Cl ⟨l,.cells #[iv b.r,iv b.n] 96,.z,false⟩ (λ_=>⟨F.r,F.z,λh=>(by cases h),λh=>absurd rfl h⟩) (by kernel_rfl) ?_;refine Cl ⟨m,.cells #[S3.v j] 97,.z,false⟩ (λ_=>⟨G.r,G.z,λh=>(by cases h),λh=>absurd rfl h⟩) (by kernel_rfl) ?_;refine qR [] 10 [8,0,2,2,4,6,8,10,0,12,3] λs1 Y w1 c=>?_;by_cases a:p.vo.p≠b
 .refine qT 7 (.bool true) (λ_=>(ID (x:=(.tmp 8)) (y:=(.tmp 9)) p.vo.p b a)) (qR [] 2 [] λs2 Z w2 D=>?_);rw[if_pos a,if_pos a];exact qF o t (c.n D) ((c.nil (TN i)).n D)
 .have h10:p.vo.p=b:=by simpa using a
  refine qT 7 (.bool false) (λ_=>(IC (x:=(.tmp 8)) (y:=(.tmp 9)) p.vo.p b h10)) ?_;rw[if_neg a,if_neg a];refine qR [] 14 [9,0,2,2,4,6,8,2,10,12,14,0,16,4] λs4 g4 w4 e=>qS 9 [false,false,true,true,true] o t (c.n e) (λI=>Qk I (N.ch ((c.nil (TN i)).n e) (By i)) O i R C j (S.ch ((c.nil (TN i)).n e) (By i)) B) λg5 w5 x5 T V q u K=>qR [] 5 [0,1] λs7 g7 w7 E=>qS 3 [true,true,true,false,false] q u E (λJ=>E3 J P { BC 0 with hU:=b } s30 s30 ⟨Sv.nil _,λh=>absurd rfl h⟩ (Rc.nil _ _)) λg8 w8 x8 lt8 W s A L=>qR [] 1 [] λU M X d=>qF s A d ((((((c.nil (TN i)).n e).trans (K)).n E).trans (L)).n d)
def Nod.lr(p:Nod)(i:Nat):Pend->Nod
 | .began b vs=>if p.vo.p≠b then p else{ p with av:=p.av.rC i vs }
 | .prop v=>p.count i v
 | _=>p
def Nod.rh(p:Nod)(i:Nat):Pend->List Let
 | .began b vs=>if p.vo.p≠b then[]else BU i { BC 0 with hU:=b } 5
 | .prom to b vs=>[{ BC 1 with hU:=b,mv:=vs,gC:=p.ab,src:=i,dst:=to }]
 | .voted to v=>[{ BC 4 with cn:=v,src:=i,dst:=to }]
 | .ew to b=>[{ BC 2 with hU:=b,src:=i,dst:=to }]
 | .prop v=>BU i { BC 3 with cn:=v } 5
 | .askNews to=>[{ BC 6 with bu:=p.ab.length,src:=i,dst:=to }]
 | .start=>BU i (BC 6) 5
 | .tell to bu=>[{ BC 5 with src:=i,dst:=to,bu:=bu,gC:=p.ab.drop bu }]
def Rx(p:Nod)(i:Nat):Pend->Prop
 | .began _ _=>(p.av.an i).vs.length<100000000
 | .prop _=>p.ab.length<=40
 | .tell _ bu=>bu<=p.ab.length
 | _=>True
theorem fD{P:Program}{s:Xs}{S:Sem Next}{r:Result Next}(h:Du s i=some S)(a:S.run P W=r):Db P s i W=some r:=by
 unfold Db;unfold Du at h;cases hx:opN s i with
 | none=>rw[hx]at h;cases h
 | some x =>
  rw[hx]at h
  simp only[nm,Y']at h ⊢;rw[h,a]
theorem GW(h:NS i nb ob g w p ls ts){z:World}(s:Base z g w)(t:Tabs z)(y:i<5)(f:ls.length<90000000){v:Value}(q:Pend)(o:Rx p i q)(j:KL g w nb v q) :
  ∃ (F:FuncId) (cs:Array Value),v=.func (.func F) #[] cs/\(∀ W,(Go.callFunc F (#[]++cs)).run prog W=.ok (.enter F cs) W)/\Calls prog F cs w (NP i nb ob g w (.tuple #[]) (p.lr i q) (ls++p.rh i q) ts):=by
 cases q with
 | began b vs =>
  obtain⟨k,b2,b3,x,e,a,c,d,n⟩:=j;refine⟨_,_,e,λW=>by kernel_rfl,?_⟩;have:=SC h s t y f a c d n o;unfold Nod.lr Nod.rh;by_cases m:p.vo.p≠b
  .rw[if_pos m,if_pos m]at this;simp only[if_pos m,mT];exact this
  .rw[if_neg m,if_neg m]at this;simp only[if_neg m];exact this
 | prom to b vs =>
  obtain⟨k,b2,b3,x,r,l,e,a,c,d,n,A,rfl,rfl⟩:=j;exact⟨_,_,e,λW=>(by kernel_rfl),Hg h f a c d A n⟩
 | voted to u =>
  obtain⟨k,b2,r,l,e,a,c,d,rfl,rfl⟩:=j;exact⟨_,_,e,λW=>(by kernel_rfl),Ii (b3:=0) h f a c d⟩
 | ew to b =>
  obtain⟨k,b2,b3,e,a,c,d⟩:=j;exact⟨_,_,e,λW=>(by kernel_rfl),Ph h f a c d⟩
 | prop u =>
  obtain⟨k,b2,e,a,c⟩:=j;exact⟨_,_,e,λW=>(by kernel_rfl),MY h s t y f a c o⟩
 | askNews to =>
  obtain⟨k,b2,r,l,e,a,c,d,rfl⟩:=j;exact⟨_,_,e,λW=>(by kernel_rfl),Mo (b3:=0) h f a c d⟩
 | start =>
  obtain⟨k,e,a⟩:=j;exact⟨_,_,e,λW=>(by kernel_rfl),QV (b2:=0) (b3:=0) h f a⟩
 | tell to bu =>
  obtain⟨k,b2,r,l,e,a,c,d,rfl,rfl⟩:=j;exact⟨_,_,e,λW=>(by kernel_rfl),J0 (b3:=0) h f a c d o⟩
theorem Yj(s:Int){n:Nat}{w:World}(h:Sl w x.v d)(a:n<=d.length){N:Int}(b:(n:Int)=N) :
  Calls prog 120 #[.agg #[x.v,iv s],iv N] w λe w'=>∃ y:S3,e=.returned (.agg #[y.v,iv N])/\Sl w' y.v (d.take n)/\Nb w.heap.size y (d.take n)/\Bw w w':=by
 subst b;refine(JF x.v d s n w h a).mono ?_;rintro e w' ⟨y,rfl,f,c⟩;obtain⟨y,rfl,i,g⟩:=Jq (l:=d.take n) (by rw[X',nH a];exact f) (by rw[X'];have:=h.len;omega) (λz j=>h.byte z (mL j));exact⟨y,rfl,i,g,c⟩
theorem YS(s:Int){w:World}(h:Sl w x.v d){t:Bool}(a:decide (AR d s)=t) :
  Calls prog 119 #[.agg #[x.v,iv s]] w λe w'=>e=.returned (.bool t)/\Bw w w':=by
 subst a;exact LA x.v d s w h
theorem eL(h:Sl w x.v d) :
  Calls prog 118 #[.agg #[x.v,iv s]] w λe w'=>∃ y:S3,e=.returned (.tuple #[.agg #[y.v,iv (If d s)],iv (CX d s)])/\Sl w' y.v (Hf d s)/\Nb w.heap.size y (Hf d s)/\Bw w w':=by
 refine kIn func118 (kR 10 [0,0,1,0,0] λb H g=>?_);obtain⟨t,j⟩:∃ t,decide (AR d s)=t:=⟨_,rfl⟩;refine kC 1 (YS s (h.af g) j) ?_;rintro _ I ⟨rfl,i⟩;refine⟨_,rfl,i,?_⟩;refine kR 2 [] λC J k=>?_;by_cases a:AR d s
 .refine kI ((!t)) false (by rw[<- j,M' a];rfl) ?_;rw[show CX d s=0 from if_pos a,show Hf d s=d from if_pos a,show If d s=(d.length:Int)from if_pos a];have m:=EW h;have A:d.take d.length=d:=oh;refine kR 7 [0,0] λD L r=>?_;have f:=(btr (btr (btr g i) k) r);refine kC 4 (Yj s (n:=d.length) (N:=(x.n:Int)) (h.af f) (A' _) (by rw[m])) ?_;rintro _ M ⟨y,rfl,p,o,l⟩;refine⟨_,rfl,l,?_⟩;rw[A]at p o
  rw[<- m];refine kF 3 [1,0] λE O u B=>?_;have q:=((btr f l).trans u);exact qE2 2 3 109 1 (b 1) #[S3.v y,iv (x.n:Int)] (iv 0) λK=>⟨y,rfl,(p.kept B),o.mono f.size,q⟩
 .refine kI ((!t)) true (by rw[<- j,E' a];rfl) ?_;rw[show CX d s=5 from if_neg a,show Hf d s=[]from if_neg a,show If d s=0 from if_neg a];refine kF 6 [1,0] λF P z G=>?_;have c:=((btr (btr g i) k).trans z);exact qE2 2 3 109 1 (b 1) #[S3.v s30,iv 0] (iv 5) λK=>⟨s30,rfl,EB _,λh=>absurd rfl h,c⟩
theorem XE{k:Int}(h:Sl w x.v d)(L:-9223372036854775808<=k)(M:k<=9223372036854775807) :
  Calls prog 76 #[.agg #[x.v,iv s],iv k] w λe w'=>∃ y:S3,e=.returned (.tuple #[.agg #[y.v,iv (Kj d s k)],iv (Gk d s k)])/\Sl w' y.v (Ki d s k)/\Nb w.heap.size y (Ki d s k)/\Bw w w':=by
 refine kIn func76 (kR 10 [0,0,1,0,0] λf w1 j=>?_);obtain⟨t,A⟩:∃ t,decide (AR d s)=t:=⟨_,rfl⟩;refine kC 1 (YS s (h.af j) A) ?_;rintro _ w2 ⟨rfl,l⟩;refine⟨_,rfl,l,?_⟩;refine kR 2 [] λT w3 u=>?_;by_cases c:AR d s
 .refine kI ((!t)) false (by rw[<- A,M' c];rfl) (kR 7 [] λU w4 C=>?_);by_cases m:k<0
  .refine kI ((decide (k<0))) true (M' m) ?_;have a:Gk d s k=2:=(if_neg (λg=>g c)).trans (if_pos m);rw[show Ki d s k=[]from if_neg (by rw[a];decide),show Kj d s k=0 from if_neg (by rw[a];decide),a];refine kF 6 [1,0] λV w5 H q5=>?_;have G:=((btr (btr (btr j l) u) C).trans H);exact qE2 4 5 109 1 (f 1) #[S3.v s30,iv 0] (iv 2) λK=>⟨s30,rfl,EB _,λh=>absurd rfl h,G⟩
  .refine kI ((decide (k<0))) false (E' m) ?_;have a:Gk d s k=0:=(if_neg (λg=>g c)).trans (if_neg m);rw[show Ki d s k=d.take (Gl d s k).toNat from if_pos a,show Kj d s k=Gl d s k from if_pos a,a];have Z:=EW h;have Y:=h.len;have X:0<=s/\s<=(d.length:Int):=⟨c.2.1,c.2.2⟩;obtain⟨n,D⟩:∃ n:Nat,(n:Int)=s+min k ((x.n:Int)-s):=⟨(s+min k ((x.n:Int)-s)).toNat,by omega⟩;have J:Gl d s k=(n:Int):=by unfold Gl;split<;>omega
   have z:n<=d.length:=by omega
   rw[J,nk,D];refine kR 12 [0,0,0,0] λW w7 I=>kV 9 (iv ((x.n:Int)-s)) (ZC (x:=(.tmp 19)) (y:=(.tmp 21)) (x.n:Int) s underlying3 (by omega)) (kV 10 (iv (min k ((x.n:Int)-s))) (iR #[3,3] 3 k ((x.n:Int)-s)) (kV 11 (iv (s+min k ((x.n:Int)-s))) (LR (x:=(.tmp 15)) (y:=(.tmp 23)) s (min k ((x.n:Int)-s)) underlying3 (by omega)) ?_));have b:=(btr (btr (btr (btr j l) u) C) I);refine kC 12 (Yj s (n:=n) (h.af b) z D) ?_;rintro _ Q ⟨y,rfl,O,N,i⟩;refine⟨_,rfl,i,?_⟩;refine kF 3 [1,0] λE R q B=>?_;have o:=((btr b i).trans q);exact qE2 4 5 109 1 (f 1) #[S3.v y,iv (s+min k ((x.n:Int)-s))] (iv 0) λK=>⟨y,rfl,(O.kept B),N.mono b.size,o⟩
 .refine kI ((!t)) true (by rw[<- A,E' c];rfl) ?_;have a:Gk d s k=5:=if_pos c;rw[show Ki d s k=[]from if_neg (by rw[a];decide),show Kj d s k=0 from if_neg (by rw[a];decide),a];refine kF 6 [1,0] λF S r P=>?_;have p:=((btr (btr j l) u).trans r);exact qE2 4 5 109 1 (f 1) #[S3.v s30,iv 0] (iv 5) λK=>⟨s30,rfl,EB _,λh=>absurd rfl h,p⟩
structure FzL(g:Gh)(w:World)(x:S3)(vs:List Value):Prop where
 n:x.n=vs.length
 at_:∀ j u,vs[j]?=some u->∃ b,x.a=some ⟨b,0,none⟩/\b<w.heap.size/\j<g.k b/\w.cell? ⟨b,j,none⟩=some u
theorem OwnS.fz{τ:Tg}{e:TypeId}(h:OwnS g w τ true e 1 x vs):FzL g w x vs:=by
 refine⟨by have:=h.len;omega,λj u d=>?_⟩;obtain⟨b,a,f,i⟩:=h.cell d;have c:j<vs.length:=(V'.1 d).1;refine⟨b,a,f,?_,i⟩;rcases h.ex with⟨h4,_⟩|⟨b',cur,h4,_,_,_,_,_,_,h8⟩
 .rw[h4]at a;cases a
 .rw[a]at h4
  simp only[Y',Addr.mk.injEq,and_true]at h4;subst h4;rw[h8,if_pos rfl];exact c
theorem FzL.ch{B:Nat}{T:List Tg}{d:Gh}{f:World}(h:FzL g w x vs)(c:Cg B T g w d f):FzL d f x vs :=
 ⟨h.n,λj u m=>by
  obtain⟨b,i,a,e,k⟩:=h.at_ j u m;exact⟨b,i,Z' a c.size,Z' e (c.rU b a),(c.rV b a j e).trans k⟩⟩
theorem fQ{b c:Nat}(d:x.a=some ⟨b,c,none⟩)(j:Nat)(f:j<x.n):(Instr.indexAt 100 x.v (iv (j:Int))).run prog W=.ok (pt b (c+1*j)) W:=by
 unfold S3.v;rw[d];exact Kv (P:=prog) (e:=1) (z:=1) underlying100 (by kernel_rfl) (by kernel_rfl) f _ rfl
def qW(i:Nat):List Pend->Nod->List Let->Nod × List Let
 | [],p,ls=>(p,ls)
 | q::l,p,ls=>qW i l (p.lr i q) (ls++p.rh i q)
def GI(i:Nat):List Pend->Nod->List Let->Prop
 | [],_,_=>True
 | q::l,p,ls=>Rx p i q/\ls.length<90000000/\GI i l (p.lr i q) (ls++p.rh i q)
def Nod.ry(p:Nod):Nod:=if p.sy<(p.d.length:Int)then{ p with d:=Hf p.d p.sy,sy:=If p.d p.sy }else p
theorem PT{l:List Pend}{j:Nat}{c:Pend}(h:l[j]?=some c):l.drop j=c::l.drop (j+1):=by
 obtain⟨a,b⟩:=V'.1 h;rw[<- b];exact nv a
theorem eM(h:NS i nb ob g w p ls ts){w0:World}(hB:Base w0 g w)(hT:Tabs w0)(hi:i<5)(Y:GI i p.bw { p.ry with bw:=[] } ls)(f5:p.bw.length<100000000) :
  Calls prog 72 #[pt nb 0] w (NP i nb ob g w (.tuple #[]) (if p.sy<(p.d.length:Int)/\CX p.d p.sy≠0 then(p,ls)else qW i p.bw { p.ry with bw:=[] } ls).1 (if p.sy<(p.d.length:Int)/\CX p.d p.sy≠0 then(p,ls)else qW i p.bw { p.ry with bw:=[] } ls).2 ts):=by
 obtain⟨x,lt,tl,m,hO,hg⟩:=h;have f7:x.tape.n=p.d.length:=by obtain⟨a,e6,hh⟩:=m.tape.s.rD;have:=m.tape.s.len;simp only[S3.v,Value.slice.injEq]at hh;exact hh.2.1
 refine gI (fn:=f72) (TN i) g func72 hg (qN m (qO hO ?_));obtain⟨pv,hP,I⟩:=m.bw;have hF:=hP.fz;have f6:x.synced.n=p.bw.length:=by rw[hF.n];exact I.len
 refine qR [] 16 [12,0,2,4,6,8,0,10,12,14,16,18,0,20,22] λs1 g1 w1 c1=>?_;by_cases h1:p.sy<(x.tape.n:Int)
 .refine qI ((decide (p.sy<(x.tape.n:Int)))) true (M' (by omega)) (qR [] 6 [0] λs2 g2 w2 c2=>Af λKq=>?_);have hS:=(m.tape.ch (c1.trans c2)).s;have hG:∀ z,w2.heap.size<=z->g2.t z=.z:=λz hz=>(Kq.new z hz).1;refine qC 4 (eL (s:=p.sy) hS) ?_;rintro e' w3 ⟨tz,rfl,b4,d6,b3⟩;refine⟨_,rfl,b3,?_⟩;have c3:=Cg.eb (B:=w.heap.size) (T:=[]) (g:=g2) b3;have f8:=EW b4;have d7:FSl _ _ tz _:=⟨b4,λhl a ha=>hG _ (d6 hl a ha)⟩;refine qR [] 13 [0,0,2,0] λs4 g4 w4 c4=>?_;by_cases E:CX p.d p.sy≠0
  .refine qI (((CX p.d p.sy) != 0)) true (by simpa using E) (qE (.tuple #[]) λK=>?_);rw[if_pos ⟨by omega,E⟩];exact⟨_,rfl,(nsC m hO (((c1.n c2).n c3).n c4) K),((((c1.nil (TN i)).n c2).n c3).n c4)⟩
  .refine qI (((CX p.d p.sy) != 0)) false (by simpa using E) ?_;have O:p.ry={ p with d:=Hf p.d p.sy,sy:=If p.d p.sy }:=if_pos (by omega);rw[show(if p.sy<(p.d.length:Int)/\CX p.d p.sy≠0 then(p,ls)else qW i p.bw { p.ry with bw:=[] } ls)=qW i p.bw ({ p with d:=Hf p.d p.sy,sy:=If p.d p.sy,bw:=[] }:Nod) ls from by rw[if_neg (by rintro⟨_,h⟩;exact E h),O]];rw[show{ p.ry with bw:=[] }=({ p with d:=Hf p.d p.sy,sy:=If p.d p.sy,bw:=[] }:Nod)from by rw[O]]at Y
   refine qR [.n 0 i] 32 [2,0,1,0,0,1] λs7 g7 w7 c7=>Iw [true,true,false] ?_;refine Ca 51 [(42,S3.v x.synced),(43,iv (x.synced.n:Int)),(44,iv 0)] [false,false] [] (λk g' w' e L=>∃ (j:Nat) (q:Nod) (l2:List Let),k=p.bw.length-j/\j<=p.bw.length/\e=[(42,S3.v x.synced),(43,iv (x.synced.n:Int)),(44,iv (j:Int))]/\L=[]/\NS i nb ob g' w' q l2 ts/\qW i (p.bw.drop j) q l2=qW i p.bw ({ p with d:=Hf p.d p.sy,sy:=If p.d p.sy,bw:=[] }:Nod) ls/\GI i (p.bw.drop j) q l2/\Cg w.heap.size (TN i) g w g' w') (by kernel_rfl) (by kernel_rfl) (by kernel_rfl) (by kernel_rfl) p.bw.length (λK=>?_) ?_
   .have C8:=((((c1.nil ([.n 0 i]:List Tg)).n c2).n c3).n c4).trans (c7);have Z8:Tg.z∉([.n 0 i]:List Tg):=by simp
    exact⟨0,({ p with d:=Hf p.d p.sy,sy:=If p.d p.sy,bw:=[] }:Nod),ls,rfl,by omega,rfl,rfl,⟨({ x with tape:=tz,synced:=s30 }:NX),lt,tl,K.nd 0 ((d7.ch c4).ch c7) (m.mv.ch C8 Z8) (BA m.an C8 Z8) ⟨[],OwnS.nil _ _ _ _ _ _,⟨rfl,λk v q h=>by cases h⟩⟩ (m.fv.ch C8) (m.ab.ch C8) (m.bn.ch C8) (m.cl.ch C8) m.rW,hO.ch C8 Z8 (by simp<;>omega),K.new⟩,rfl,Y,(((((c1.nil (TN i)).n c2).n c3).n c4).trans (c7.mono (by simp[TN])))⟩
   .rintro k gr wr _ zr _ ⟨j,q,l2,rfl,hj,rfl,rfl,hM,hI,hK,hC⟩ J hJ;obtain⟨xr,d8,d9,o,r,d4⟩:=id hM;refine qN o (qO r (qR [] 5 [] λs9 g9 w9 Q=>?_));by_cases h5:j<p.bw.length
    .refine qI ((decide ((j:Int)<(x.synced.n:Int)))) true (M' (by omega)) ?_;obtain⟨D,N⟩:∃ D,p.bw[j]?=some D:=⟨_,G' h5⟩;obtain⟨v,hv⟩:∃ v,pv[j]?=some v:=⟨_,G' (by rw[I.len];exact h5)⟩;rw[PT N]at hI hK
     obtain⟨G,H,a1⟩:=hK;have F:=hF.ch hC;obtain⟨bx,P,d2,d5,d3⟩:=F.at_ j v hv;have M:=(I.at_ j v D hv N).ch hC (By i);refine qR [] 5 [] λf9 c0 e0 u=>qV 0 (pt bx (0+1*j)) (fQ P j (by omega)) (Af λK=>?_);have b5:NS i nb ob c0 e0 q l2 ts:=(nsC o r (Q.n u) K);obtain⟨Z,A,e2,a2,_⟩:=GW b5 (hB.ch (((hC.n Q).n u)) (By i)) hT hi H D G (M.ch ((Q.nil (TN i)).n u) (By i));subst e2;have a0:=F.ch (Q.trans u);refine qV 1 (.func (.func Z) #[] A) (Dj (ty:=1) (b:=bx) (k:=0+1*j) (v:=.func (.func Z) #[] A) underlying1 rfl (by rw[na,qQ];obtain⟨b2,E,_,_,h4⟩:=a0.at_ j _ hv;rw[P]at E;simp only[Y',Addr.mk.injEq,and_true]at E;subst E;exact h4)) (qR [] 4 [] λg0 c5 e1 S=>Af λK=>?_);have b6:NS i nb ob c5 e1 q l2 ts:=(nsC o r ((Q.n u).n S) K);obtain⟨F3,b9,e3,_,C⟩:=GW b6 (hB.ch ((((hC.n Q).n u).n S)) (By i)) hT hi H D G (M.ch (((Q.nil (TN i)).n u).n S) (By i));simp only[Value.func.injEq,Fn.func.injEq,true_and]at e3;obtain⟨rfl,rfl⟩:=e3;refine Sj 1 Z A (TN i) [false,false] (λW=>fD (by kernel_rfl) (a2 W)) (by kernel_rfl) (by kernel_rfl) (by kernel_rfl) C ?_;rintro e' i0 ⟨c6,rfl,a3,U⟩;refine⟨_,c6,rfl,U,a3.new,?_⟩;replace U:=U.ret (B:=w.heap.size);refine qR [] 3 [] λg3 e7 i1 a5=>qV 0 (iv ((j:Int)+1)) (AO 44 (j:Int) underlying3 (by omega)) (qR [] 2 [] λg5 e8 i2 a6=>qB [] λz K0 K=>hJ (p.bw.length-(j+1)) _ _ _ z _ (by omega) ⟨j+1,q.lr i D,l2++q.rh i D,rfl,by omega,rfl,rfl,NS.rA a3 (a5.trans a6) K0.new,hI,a1,((((((hC.n Q).n u).n S).trans U).n a5).n a6)⟩ K)
    .refine qI ((decide ((j:Int)<(x.synced.n:Int)))) false (E' (by omega)) (qR [] 1 [] λg6 e9 i3 a7=>?_);obtain rfl:j=p.bw.length:=by omega
     rw[og]at hI
     rw[<- hI];exact qF o r (Q.n a7) ((hC.n Q).n a7)
 .refine qI ((decide (p.sy<(x.tape.n:Int)))) false (E' (by omega)) ?_;have O:p.ry=p:=if_neg (by omega);rw[show(if p.sy<(p.d.length:Int)/\CX p.d p.sy≠0 then(p,ls)else qW i p.bw { p.ry with bw:=[] } ls)=qW i p.bw ({ p with bw:=[] }:Nod) ls from by rw[if_neg (by rintro⟨h,_⟩;omega),O]];rw[show{ p.ry with bw:=[] }=({ p with bw:=[] }:Nod)from by rw[O]]at Y
  refine qR [.n 0 i] 25 [0,0,1] λg8 f0 i4 a8=>Ca 51 [(42,S3.v x.synced),(43,iv (x.synced.n:Int)),(44,iv 0)] [false,false] [] (λk g' w' e L=>∃ (j:Nat) (q:Nod) (l2:List Let),k=p.bw.length-j/\j<=p.bw.length/\e=[(42,S3.v x.synced),(43,iv (x.synced.n:Int)),(44,iv (j:Int))]/\L=[]/\NS i nb ob g' w' q l2 ts/\qW i (p.bw.drop j) q l2=qW i p.bw ({ p with bw:=[] }:Nod) ls/\GI i (p.bw.drop j) q l2/\Cg w.heap.size (TN i) g w g' w') (by kernel_rfl) (by kernel_rfl) (by kernel_rfl) (by kernel_rfl) p.bw.length (λK=>?_) ?_
  .have C22:=(c1.nil ([.n 0 i]:List Tg)).trans (a8);have R:Tg.z∉([.n 0 i]:List Tg):=by simp
   exact⟨0,({ p with bw:=[] }:Nod),ls,rfl,by omega,rfl,rfl,⟨({ x with synced:=s30 }:NX),lt,tl,K.nd 0 (m.tape.ch C22 R) (m.mv.ch C22 R) (BA m.an C22 R) ⟨[],OwnS.nil _ _ _ _ _ _,⟨rfl,λk v q h=>by cases h⟩⟩ (m.fv.ch C22) (m.ab.ch C22) (m.bn.ch C22) (m.cl.ch C22) m.rW,hO.ch C22 R (by simp<;>omega),K.new⟩,rfl,Y,((c1.nil (TN i)).trans (a8.mono (by simp[TN])))⟩
  .rintro k gr wr _ zr _ ⟨j,q,l2,rfl,hj,rfl,rfl,hM,hI,hK,hC⟩ J hJ;obtain⟨xr,d8,d9,o,r,d4⟩:=id hM;refine qN o (qO r (qR [] 5 [] λh0 f1 i5 c=>?_));by_cases h5:j<p.bw.length
   .refine qI ((decide ((j:Int)<(x.synced.n:Int)))) true (M' (by omega)) ?_;obtain⟨D,N⟩:∃ D,p.bw[j]?=some D:=⟨_,G' h5⟩;obtain⟨v,hv⟩:∃ v,pv[j]?=some v:=⟨_,G' (by rw[I.len];exact h5)⟩;rw[PT N]at hI hK
    obtain⟨G,H,a1⟩:=hK;have F:=hF.ch hC;obtain⟨bx,P,d2,d5,d3⟩:=F.at_ j v hv;have M:=(I.at_ j v D hv N).ch hC (By i);refine qR [] 5 [] λh3 c8 e4 y=>qV 0 (pt bx (0+1*j)) (fQ P j (by omega)) (Af λK=>?_);have b7:NS i nb ob c8 e4 q l2 ts:=(nsC o r (c.n y) K);obtain⟨Z,A,e2,a2,_⟩:=GW b7 (hB.ch (((hC.n c).n y)) (By i)) hT hi H D G (M.ch ((c.nil (TN i)).n y) (By i));subst e2;have a0:=F.ch (c.trans y);refine qV 1 (.func (.func Z) #[] A) (Dj (ty:=1) (b:=bx) (k:=0+1*j) (v:=.func (.func Z) #[] A) underlying1 rfl (by rw[na,qQ];obtain⟨b2,E,_,_,h4⟩:=a0.at_ j _ hv;rw[P]at E;simp only[Y',Addr.mk.injEq,and_true]at E;subst E;exact h4)) (qR [] 4 [] λh6 d0 e5 V=>Af λK=>?_);have b8:NS i nb ob d0 e5 q l2 ts:=(nsC o r ((c.n y).n V) K);obtain⟨F3,b9,e3,_,C⟩:=GW b8 (hB.ch ((((hC.n c).n y).n V)) (By i)) hT hi H D G (M.ch (((c.nil (TN i)).n y).n V) (By i));simp only[Value.func.injEq,Fn.func.injEq,true_and]at e3;obtain⟨rfl,rfl⟩:=e3;refine Sj 1 Z A (TN i) [false,false] (λW=>fD (by kernel_rfl) (a2 W)) (by kernel_rfl) (by kernel_rfl) (by kernel_rfl) C ?_;rintro e' i6 ⟨d1,rfl,a4,X⟩;refine⟨_,d1,rfl,X,a4.new,?_⟩;replace X:=X.ret (B:=w.heap.size);refine qR [] 3 [] λh7 f2 i7 a9=>qV 0 (iv ((j:Int)+1)) (AO 44 (j:Int) underlying3 (by omega)) (qR [] 2 [] λh8 f3 i8 b0=>qB [] λz K0 K=>hJ (p.bw.length-(j+1)) _ _ _ z _ (by omega) ⟨j+1,q.lr i D,l2++q.rh i D,rfl,by omega,rfl,rfl,NS.rA a4 (a9.trans b0) K0.new,hI,a1,((((((hC.n c).n y).n V).trans X).n a9).n b0)⟩ K)
   .refine qI ((decide ((j:Int)<(x.synced.n:Int)))) false (E' (by omega)) (qR [] 1 [] λh9 f4 i9 b1=>?_);obtain rfl:j=p.bw.length:=by omega
    rw[og]at hI
    rw[<- hI];exact qF o r (c.n b1) ((hC.n c).n b1)
def Mr(p:Nod)(i j:Nat):Bool:=decide (j≠i/\p.av.bN j<p.ab.length)
def K5(p:Nod)(i k:Nat):Nat->Nat:=λj=>if decide (j<k)&&Mr p i j then p.ab.length else p.av.bN j
def E7(p:Nod)(i k:Nat):Nod:={ p with av:={ p.av with bN:=K5 p i k } }
def Dl(p:Nod)(i:Nat):Nat->List Let
 | 0=>[]
 | k+1=>Dl p i k++(if Mr p i k then[{ BC 5 with src:=i,dst:=k,bu:=p.av.bN k,gC:=p.ab.drop (p.av.bN k) }]else[])
theorem UH(p:Nod)(i k:Nat):(Dl p i k).length<=k:=by
 induction k with
 | zero=>exact A' _
 | succ k ih=>unfold Dl;rw[H'];split<;>simp<;>omega
theorem WM(p:Nod)(i:Nat):E7 p i 0=p:=by unfold E7 K5;simp
theorem UI(h:Mr p i k=false):K5 p i (k+1)=K5 p i k:=by
 funext j
 unfold K5;by_cases e:j=k
 .subst e;simp[h]
 .rw[show decide (j<k+1)=decide (j<k)from nC.2 (by omega)]
theorem aQ(h:Mr p i k=true):upN (K5 p i k) k p.ab.length=K5 p i (k+1):=by
 funext j
 unfold upN K5;by_cases e:j=k
 .subst e;simp[h]
 .rw[if_neg e,show decide (j<k+1)=decide (j<k)from nC.2 (by omega)]
theorem WO(h:NS i nb ob g w p ls ts)(hb:ls.length<90000000) :
  Calls prog 73 #[pt nb 0] w (NP i nb ob g w (.tuple #[]) (if p.leads then E7 p i 5 else p) (if p.leads then ls++Dl p i 5 else ls) ts):=by
 obtain⟨x,lt,tl,S,U,hg⟩:=h;refine gI (fn:=f73) (TN i) g func73 hg (qN S (qO U (qR [] 4 [] λs1 Y w1 C=>?_)));by_cases h1:p.leads=false
 .refine Af λK=>?_;have N3:NS i nb ob Y w1 p ls ts:=(nsC S U C K);refine qC 1 (Fg N3 h1) ?_;rintro e' w4 ⟨rfl,b4⟩;refine⟨_,rfl,b4,?_⟩;have c4:=Cg.eb (B:=w.heap.size) (T:=[]) (g:=Y) b4;refine qR [] 3 [] λs5 g5 w5 c5=>qE (.tuple #[]) λK=>?_;rw[h1,if_neg (by simp),if_neg (by simp)];exact⟨_,rfl,(nsC S U ((C.n c4).n c5) K),(((C.nil (TN i)).n c4).n c5)⟩
 .have h10:p.leads=true:=by simpa using h1
  refine Af λK=>?_;have N8:NS i nb ob Y w1 p ls ts:=(nsC S U C K);refine qC 1 (Fg N8 h10) ?_;rintro e' w9 ⟨rfl,b9⟩;refine⟨_,rfl,b9,?_⟩;have c9:=Cg.eb (B:=w.heap.size) (T:=[]) (g:=Y) b9;rw[if_pos h10,if_pos h10];refine qR [] 15 [0] λd1 a5 e7 E=>Ca 51 [(0,pt nb 0),(12,.agg #[iv (p.av.bN 0:Int),iv (p.av.bN 1:Int),iv (p.av.bN 2:Int),iv (p.av.bN 3:Int),iv (p.av.bN 4:Int)]),(13,iv 0)] [false,false] [] (λk X Z e L=>∃ k0:Nat,k=5-k0/\k0<=5/\e=[(0,pt nb 0),(12,.agg #[iv (p.av.bN 0:Int),iv (p.av.bN 1:Int),iv (p.av.bN 2:Int),iv (p.av.bN 3:Int),iv (p.av.bN 4:Int)]),(13,iv (k0:Int))]/\L=[]/\NS i nb ob X Z (E7 p i k0) (ls++Dl p i k0) ts/\Cg w.heap.size (TN i) g w X Z) (by kernel_rfl) (by kernel_rfl) (by kernel_rfl) (by kernel_rfl) 5 (λK=>?_) ?_
  .have C11:=(C.n c9).n E;exact⟨0,rfl,by omega,rfl,rfl,(by rw[WM,show ls++Dl p i 0=ls from mT _];exact(nsC S U C11 K)),(((C.nil (TN i)).n c9).n E)⟩
  .rintro k gr wr _ zr _ ⟨k0,rfl,hk0,rfl,rfl,hM,hC⟩ J hJ;obtain⟨xr,d0,e6,d,j,c7⟩:=hM;have c8:=UH p i k0;refine qN d (qO j ?_);have c6:xr.ab.n=p.ab.length:=d.ab.num;refine qR [] 5 [] λd2 a6 e8 a=>?_;by_cases h2:k0<5
   .refine qI ((decide ((k0:Int)<5))) true (M' (by omega)) (qR [] 6 [] λd3 a7 e9 b=>?_);refine cR 1 (iv (p.av.bN k0:Int)) (λK=>(by rcases ri h2 with rfl|rfl|rfl|rfl|rfl<;>kernel_rfl)) (by kernel_rfl) ?_;refine qR [] 10 [0] λd4 a8 f0 c=>?_;by_cases h3:k0≠i
    .refine qV 5 (.bool true) (He (t:=3) (m:=(k0:Int)) (n:=(i:Int)) (x:=(.tmp 17)) (y:=(.tmp 21)) (by simp;omega)) (qR [] 11 [0] λd5 a9 f1 q=>?_);by_cases h4:(p.av.bN k0:Int)<(xr.ab.n:Int)
     .have hx:Mr p i k0=true:=M' ⟨by omega,by omega⟩;refine qI ((decide ((p.av.bN k0:Int)<(xr.ab.n:Int)))) true (M' (by omega)) (qR [] 5 [] λd6 b0 f2 F=>qS 3 [false,false] d j ((((a.n b).n c).n q).n F) (λa0=>IN a0 (by rw[H'];omega) k0 (p.av.bN k0) (by show _<=p.ab.length;omega)) λb1 f3 o s u r V a1=>qR [] 14 [13,0,2,4,6,8,10,12,0,14,16,18,20,22] λd7 a3 a4 G=>?_);have W:o.ab.n=p.ab.length:=r.ab.num;refine DS 51 (λX Z e L=>e=[(0,pt nb 0),(12,.agg #[iv (p.av.bN 0:Int),iv (p.av.bN 1:Int),iv (p.av.bN 2:Int),iv (p.av.bN 3:Int),iv (p.av.bN 4:Int)]),(13,iv (k0:Int))]/\L=[⟨nb,.cells (AG i ob ({ p with av:={ p.av with bN:=upN (K5 p i k0) k0 o.ab.n } }) o) 111,.n 0 i,false⟩,⟨ob,.cells #[S3.v s,S3.v u] 88,.n 50 0,false⟩]/\True/\Cg w.heap.size ([.n 0 i]:List Tg) a3 a4 X Z) (by kernel_rfl) ?_ ?_
      .intro J hJ;rcases ri h2 with rfl|rfl|rfl|rfl|rfl <;>
       (refine qR [.n 0 i] 3 [24,27,0,1] λd8 b3 f5 a2=>?_;exact qB [true,true] λz A K=>hJ _ _ _ z _ ⟨rfl,rfl,trivial,a2⟩ K)
      rintro b2 f4 _ g4 _ ⟨rfl,rfl,_,H⟩;refine qR [] 2 [] λd9 b5 f6 I=>qV 0 (iv ((k0:Int)+1)) (AO 13 (k0:Int) underlying3 (by omega)) (qR [] 2 [] λe0 b6 f7 M=>qB [false,false] λz A K=>hJ (5-(k0+1)) _ _ _ z _ (by omega) ⟨k0+1,rfl,by omega,rfl,rfl,?_,((((((((((hC.n a).n b).n c).n q).n F).trans a1).n G).trans (H.mono (by simp[TN]))).n I).n M)⟩ K);have D:=(((G.nil ([.n 0 i]:List Tg)).trans (H)).n I).n M;rw[show E7 p i (k0+1)={ p with av:={ p.av with bN:=upN (K5 p i k0) k0 o.ab.n } }from by unfold E7;rw[<- aQ hx,W],show ls++Dl p i (k0+1)=(ls++Dl p i k0++[{ BC 5 with src:=i,dst:=k0,bu:=p.av.bN k0,gC:=p.ab.drop (p.av.bN k0) }])from by show ls++(Dl p i k0++_)=_;rw[hx,if_pos rfl,mA]];exact⟨o,s,u,A.sQ 0 r D,V.ch D (hn:=by simp<;>omega),A.new⟩
     .have hx:Mr p i k0=false:=E' (λh=>h4 (by omega));refine qI ((decide ((p.av.bN k0:Int)<(xr.ab.n:Int)))) false (E' (by omega)) (qR [] 3 [] λe1 b7 f8 N=>qV 0 (iv ((k0:Int)+1)) (AO 13 (k0:Int) underlying3 (by omega)) (qR [] 2 [] λe2 b8 f9 O=>qB [false,false] λz A K=>hJ (5-(k0+1)) _ _ _ z _ (by omega) ⟨k0+1,rfl,by omega,rfl,rfl,?_,((((((hC.n a).n b).n c).n q).n N).n O)⟩ K));rw[show E7 p i (k0+1)={ p with av:={ p.av with bN:=K5 p i k0 } }from by unfold E7;rw[UI hx],show ls++Dl p i (k0+1)=ls++Dl p i k0 from by show ls++(Dl p i k0++_)=_;rw[hx];simp];exact(nsC d j (((((a.n b).n c).n q).n N).n O) A)
    .have hx:Mr p i k0=false:=E' (λh=>h.1 (by omega));refine qV 5 (.bool false) (He (t:=3) (m:=(k0:Int)) (n:=(i:Int)) (x:=(.tmp 17)) (y:=(.tmp 21)) (by simp;omega)) (qR [] 15 [] λe3 c0 g0 P=>qV 0 (iv ((k0:Int)+1)) (AO 13 (k0:Int) underlying3 (by omega)) (qR [] 2 [] λe4 c2 g2 Q=>qB [false,false] λz A K=>hJ (5-(k0+1)) _ _ _ z _ (by omega) ⟨k0+1,rfl,by omega,rfl,rfl,?_,(((((hC.n a).n b).n c).n P).n Q)⟩ K));rw[show E7 p i (k0+1)={ p with av:={ p.av with bN:=K5 p i k0 } }from by unfold E7;rw[UI hx],show ls++Dl p i (k0+1)=ls++Dl p i k0 from by show ls++(Dl p i k0++_)=_;rw[hx];simp];exact(nsC d j ((((a.n b).n c).n P).n Q) A)
   .refine qI ((decide ((k0:Int)<5))) false (E' (by omega)) (qR [] 1 [] λe5 c3 g3 R=>?_);obtain rfl:k0=5:=by omega
    exact qF d j (a.n R) ((hC.n a).n R)
end
end
section
section
def BO(l:List Vt):Prop:=BL l/\∀ v∈l,0<=v.bu/\v.bu<=39
theorem ZF(l:List Vt)(a:Int)(h:BL l)(b:∀ v∈l,a<=v.bu/\v.bu<=39):l.length<=(40-a).toNat:=by
 induction l generalizing a with
 | nil=>exact mV _
 | cons u l ih =>
  obtain⟨d,e⟩:=h;have f:=b u O';have:=ih (u.bu+1) e λv c=>⟨by have:=d v c;omega,(b v (I' _ c)).2⟩;rw[mY];omega
variable{a:Acc}{b:Bal}{l:List Vt}{v:Vt}
theorem BO.len(h:BO l):l.length<=40:=ZF l 0 h.1 h.2
theorem BO.nil:BO []:=⟨trivial,λv h=>by cases h⟩
theorem Ap(h:AY a v=0):Ag a/\Ah v/\¬ v.b.lt a.p:=by
 unfold AY at h;by_cases c:Ag a
 .rw[if_neg (λg=>g c)]at h
  by_cases d:Ah v
  .rw[if_neg (λg=>g d)]at h
   by_cases e:v.b.lt a.p
   .rw[if_pos e]at h;cases h
   .exact⟨c,d,e⟩
  .rw[if_pos d]at h;cases h
 .rw[if_pos c]at h;cases h
theorem Cj(h:Cf a b=0):Ag a/\Ac b/\¬ b.lt a.p:=by
 unfold Cf at h;by_cases c:Ag a
 .rw[if_neg (λg=>g c)]at h
  by_cases d:Ac b
  .rw[if_neg (λg=>g d)]at h
   by_cases e:b.lt a.p
   .rw[if_pos e]at h;cases h
   .exact⟨c,d,e⟩
  .rw[if_pos d]at h;cases h
 .rw[if_pos c]at h;cases h
theorem Gt(h:BO l)(b:Ah v):BO (Bn l v) :=
 ⟨Ji v h.1,λu a=>by
  rcases(BB h.1).1 a with rfl|⟨h2,_⟩
  .exact b.1
  .exact h.2 u h2⟩
theorem V8(a:Acc)(l:List Vt)(h:BO a.vs):BO (Dc a l).vs:=by
 induction l generalizing a with
 | nil=>exact h
 | cons v l ih =>
  rw[Dc];refine ih _ ?_;by_cases b:AY a v=0
  .rw[if_pos b];show BO (Br a v);rw[(DD b).2];exact Gt h (Ap b).2.1
  .rw[if_neg b];exact h
def POk(k:Nat):Pend->Prop
 | .began b vs=>BO vs
 | .prom to b vs=>to<5/\Ao b/\BO vs
 | .voted to v=>to<5
 | .ew to b=>to<5/\Ao b
 | .prop v=>True
 | .askNews to=>to<5
 | .start=>True
 | .tell to bu=>to<5/\bu<=k
theorem POk.mono{k m:Nat}{q:Pend}(h:POk k q)(a:k<=m):POk m q:=by
 cases q<;>first|exact h|exact⟨h.1,my h.2 a⟩
def Pend.wt:Pend->Nat
 | .began _ _=>4
 | .prop _=>4
 | .start=>4
 | _=>1
def Az:List Pend->Nat
 | []=>0
 | q::l=>q.wt+Az l
theorem FJ(l:List Pend)(q:Pend):Az (l++[q])=Az l+q.wt:=by
 induction l with
 | nil=>simp[Az]
 | cons x l ih=>simp only[List.cons_append,Az,ih];omega
theorem Ek(l:List Pend):l.length<=Az l:=by
 induction l with
 | nil=>exact A' _
 | cons x l ih =>
  rw[Az,mY];have:1<=x.wt:=by cases x<;>simp[Pend.wt]
  omega
structure NOk(n:Nat)(p:Nod):Prop where
 ag:p.ab.length<=40
 dn:p.done<=p.ab.length
 qu:p.av.fv.length<=40
 wa:p.bn.length<=n
 ask:∀ c,(p.cl c).isSome=true->c∈p.bn
 ro:0<=p.dc/\p.dc<=65536
 vp:Ao p.vo.p
 vs:BO p.vo.vs
 he:∀ j,BO (p.av.an j).vs
 pe:∀ q∈p.bw,POk p.ab.length q
structure LOk(l:Let):Prop where
 kd:l.kind<7
 src:l.src<5
 dst:l.dst<5
 hU:Ao l.hU
 vs:BO l.mv
 wh:l.gC.length<=40
 sl:l.kind=5->l.bu+l.gC.length<=40
theorem Ao.b0:Ao Bd:=.inr ⟨rfl,rfl⟩
theorem Ao.tO(h:Ao b):0<=b.r/\b.r<=65536/\0<=b.n/\b.n<=4:=by
 rcases h with⟨h1,h2⟩|⟨h1,h2⟩<;>omega
end
section
variable{n:Nat}{p:Nod}
theorem NOk.wait(h:NOk n p){q:Pend}(b:POk p.ab.length q):NOk n (p.wait q) :=
 { h with pe:=λr c=>(P'.1 c).elim (h.pe r) λa=>(D'.1 a)▸b }
theorem NOk.au(h:NOk n p)(b:Bal):NOk n (p.au b).1/\(p.au b).1.bw=p.bw/\(p.au b).1.ab=p.ab/\BO (p.au b).2.1/\((p.au b).2.2=0->Ac b):=by
 unfold Nod.au;by_cases a:Cf p.vo b≠0
 .rw[if_pos a];exact⟨h,rfl,rfl,BO.nil,λg=>absurd g a⟩
 .rw[if_neg a];have c:=Cj (nc a);by_cases f:b=p.vo.p
  .rw[if_pos f];exact⟨{ h with vp:=.inl c.2.1,vs:=h.vs },rfl,rfl,h.vs,λ_=>c.2.1⟩
  .rw[if_neg f];by_cases e:CF p.d p.sy (Ac b) (Bu b)≠0
   .rw[if_pos e];exact⟨h,rfl,rfl,BO.nil,λg=>absurd g e⟩
   .rw[if_neg e];exact⟨{ h with vp:=.inl c.2.1,vs:=h.vs },rfl,rfl,h.vs,λ_=>c.2.1⟩
theorem NOk.cn(h:NOk n p)(v:Vt):NOk n (p.cn v).1/\(p.cn v).1.bw=p.bw/\(p.cn v).1.ab=p.ab/\(p.cn v).1.av=p.av:=by
 unfold Nod.cn;by_cases b:AY p.vo v≠0
 .rw[if_pos b];exact⟨h,rfl,rfl,rfl⟩
 .rw[if_neg b];have a:=Ap (nc b);by_cases c:v∈p.vo.vs
  .rw[if_pos c];exact⟨{ h with vp:=.inl a.2.1.2.1,vs:=Gt h.vs a.2.1 },rfl,rfl,rfl⟩
  .rw[if_neg c];by_cases e:CF p.d p.sy (Ah v) (Bj v)≠0
   .rw[if_pos e];exact⟨h,rfl,rfl,rfl⟩
   .rw[if_neg e];exact⟨{ h with vp:=.inl a.2.1.2.1,vs:=Gt h.vs a.2.1 },rfl,rfl,rfl⟩
theorem NOk.ew(h:NOk n p){to:Nat}(a:to<5)(e:Int):NOk n (p.ew to e)/\(p.ew to e).ab=p.ab/\Az (p.ew to e).bw<=Az p.bw+1:=by
 unfold Nod.ew;split
 .exact⟨h.wait ⟨a,h.vp⟩,rfl,by show Az (p.bw++[_])<=_;rw[FJ];exact A' _⟩
 .exact⟨h,rfl,nE _⟩
theorem dw(k:Nat)(r:Rnd)(l:List Cmd)(h:l.length<=40):(FB k r l).length<=40/\l.length<=(FB k r l).length:=by
 induction k generalizing l with
 | zero=>exact⟨h,A' _⟩
 | succ k ih =>
  rw[FB];split
  .rename_i h1
   have a:=X6 h1;have:=ih (l++[CN r.jv (l.length:Int)]) (by simp;omega);simp at this;exact⟨this.1,by omega⟩
  .exact⟨h,A' _⟩
theorem NOk.grow(h:NOk n p){l:List Cmd}(b:l.length<=40)(a:p.ab.length<=l.length):NOk n { p with ab:=l } :=
 { h with ag:=b,dn:=my h.dn a,pe:=λq c=>(h.pe q c).mono a }
theorem NOk.rj(h:NOk n p):NOk n p.rj/\p.rj.bw=p.bw/\p.ab.length<=p.rj.ab.length :=
 have:=dw 41 p.av p.ab h.ag
 ⟨h.grow this.1 this.2,rfl,this.2⟩
theorem NOk.ln(h:NOk n p){bu:Nat}{gC:List Cmd}(a:bu<=p.ab.length)(b:bu+gC.length<=40):NOk n (p.ln bu gC)/\(p.ln bu gC).bw=p.bw/\p.ab.length<=(p.ln bu gC).ab.length:=by
 have c:=h.ag;refine⟨h.grow ?_ ?_,rfl,?_⟩
 .rw[H',mF];omega
 .rw[H'];omega
 .show _<=(p.ab++_).length;rw[H'];omega
theorem aW{α:Type}{f:Nat->α}{P:α->Prop}(h:∀ j,P (f j))(i:Nat){x:α}(a:P x):∀ j,P (upN f i x j):=by
 intro j;unfold upN;split
 .exact a
 .exact h j
theorem NOk.rC(h:NOk n p)(j:Nat){vs:List Vt}(b:BO vs):NOk n { p with av:=p.av.rC j vs } :=
 { h with qu:=h.qu,he:=aW (P:=λa:Acc=>BO a.vs) h.he j (V8 _ _ b) }
theorem NOk.count(h:NOk n p)(j:Nat)(v:Vt):NOk n (p.count j v)/\(p.count j v).bw=p.bw/\p.ab.length<=(p.count j v).ab.length:=by
 unfold Nod.count;by_cases d:v.b≠p.av.hU
 .rw[if_pos d];exact⟨h,rfl,A' _⟩
 .rw[if_neg d];by_cases c:AY (p.av.an j) v≠0
  .rw[if_pos c];exact⟨h,rfl,A' _⟩
  .rw[if_neg c];have e:=nc c;have:NOk n { p with av:={ p.av with an:=upN p.av.an j ⟨BG (p.av.an j) v,Br (p.av.an j) v⟩ } } :=
    { h with qu:=h.qu,he:=aW (P:=λa:Acc=>BO a.vs) h.he j (by show BO (Br _ v);rw[(DD e).2];exact Gt (h.he j) (Ap e).2.1) }
   exact this.rj
theorem NOk.dT(h:NOk n p)(l:List Cmd):NOk n (p.dT l)/\(p.dT l).bw=p.bw/\(p.dT l).ab=p.ab:=by
 unfold Nod.dT;split
 .exact⟨{ h with qu:=cC _ _ h.qu,he:=h.he },rfl,rfl⟩
 .exact⟨h,rfl,rfl⟩
theorem NOk.take(h:NOk n p){l:Let}(a:LOk l):NOk n (p.take l)/\Az (p.take l).bw<=Az p.bw+1/\p.ab.length<=(p.take l).ab.length:=by
 have g:=h.ag;unfold Nod.take;have b:∀ {P:Nod} {q:Pend},P.bw=p.bw->q.wt=1->Az (P.wait q).bw<=Az p.bw+1:=λ{P q} e d=>by
  show Az (P.bw++[q])<=_;rw[FJ,e,d];exact A' _
 split
 .have hp:=h.au l.hU;split
  .have:=h.ew a.src (p.au l.hU).2.2;exact⟨this.1,this.2.2,by rw[this.2.1];exact A' _⟩
  .rename_i h1
   exact⟨hp.1.wait ⟨a.src,.inl (hp.2.2.2.2 (nc h1)),hp.2.2.2.1⟩,b hp.2.1 rfl,by show _<=(p.au l.hU).1.ab.length;rw[hp.2.2.1];exact A' _⟩
 .have hk:=h.ln (bu:=0) (gC:=l.gC) (mV _) (by have:=a.wh;omega);simp only;split
  .exact⟨hk.1,by rw[hk.2.1];omega,hk.2.2⟩
  .have h2:=hk.1.rC l.src (vs:=l.mv) a.vs;have f:NOk n { p.ln 0 l.gC with av:={ (p.ln 0 l.gC).av.rC l.src l.mv with bN:=upN (p.ln 0 l.gC).av.bN l.src l.gC.length } }:={ h2 with qu:=h2.qu,he:=h2.he };have c:=f.rj;exact⟨c.1,by rw[c.2.1];show Az (p.ln 0 l.gC).bw<=_;rw[hk.2.1];omega,my hk.2.2 c.2.2⟩
 .have hr:=h.ro;have i:=a.hU.tO;exact⟨{ h with ro:=by show 0<=max p.dc l.hU.r/\max p.dc l.hU.r<=65536;omega },nE _,A' _⟩
 .have hp:=h.cn l.cn;split
  .have:=h.ew a.src (p.cn l.cn).2;exact⟨this.1,this.2.2,by rw[this.2.1];exact A' _⟩
  .exact⟨hp.1.wait a.src,b hp.2.1 rfl,by show _<=(p.cn l.cn).1.ab.length;rw[hp.2.2.1];exact A' _⟩
 .have:=h.count l.src l.cn;exact⟨this.1,by rw[this.2.1];omega,this.2.2⟩
 .rename_i hk
  split
  .exact⟨h.wait a.src,b rfl rfl,A' _⟩
  .have:=h.ln (bu:=l.bu) (gC:=l.gC) (by omega) (a.sl hk);exact⟨this.1,by rw[this.2.1];omega,this.2.2⟩
 .have he:=h.dT l.gC;simp only;split
  .rename_i h1
   exact⟨he.1.wait ⟨a.src,oN h1⟩,b he.2.1 rfl,by show _<=(p.dT l.gC).ab.length;rw[he.2.2];exact A' _⟩
  .exact⟨he.1,by rw[he.2.1];omega,by rw[he.2.2];exact A' _⟩
 .exact⟨h,nE _,A' _⟩
end
end
section
open Go.RowKit
section
def Gq(l:List Int)(n:Nat):List Int:=l++List.replicate (n-l.length) 0
def Iz(l:List Int):List Int:=if 64<l.length then dig l else l
def fk(l:List Int):List Int:=Gq (Iz l) 64
def Bx(k:List Int)(m:Int):List Int:=k.map λx=>bits .xor .u8 x m
def E8(key b:List Int):List Int:=dig (Bx (fk key) 92++dig (Bx (fk key) 54++b))
theorem MN(l:List Int)(n:Nat)(h:l.length<=n):(Gq l n).length=n:=by simp[Gq];omega
variable{P:Program}{Q:Exit->Act->World->Prop}{a:Act}{j n:Nat}{l m:List Int}{ops:Array Oper}{w:World}
theorem Qa(h:∀ x∈l,0<=x/\x<256)(n:Nat):∀ x∈Gq l n,0<=x/\x<256:=by
 intro x a;rcases P'.1 a with h1|h1
 .exact h x h1
 .rw[po h1];omega
theorem OR(l:List Int):(Iz l).length<=64:=by
 unfold Iz;split
 .rw[As];omega
 .omega
theorem S7(h:∀ x∈l,0<=x/\x<256):∀ x∈Iz l,0<=x/\x<256:=by
 unfold Iz;split
 .exact Dn l
 .exact h
theorem Fe(l:List Int):(fk l).length=64:=MN _ _ (OR l)
theorem cJ(h:∀ x∈l,0<=x/\x<256):∀ x∈fk l,0<=x/\x<256:=Qa (S7 h) 64
theorem FC(l:List Int)(m:Int):(Bx l m).length=l.length:=by simp[Bx]
theorem L8(h:∀ x∈l,0<=x/\x<256){m:Int}(b:0<=m/\m<256):∀ x∈Bx l m,0<=x/\x<256:=by
 intro x c;obtain⟨y,d,rfl⟩:=mQ.1 c;have a:=h y d;rw[u8_xor _ _ a.1 a.2 b.1 b.2];have:y.toNat ^^^ m.toNat<256:=px (n:=8) (by omega) (by omega);omega
theorem DO(k b:List Int):(E8 k b).length=32:=rfl
theorem NR(k b:List Int):∀ x∈E8 k b,0<=x/\x<256:=Dn _
theorem NI:(prog.info? 5).map (·.size)=some 1:=by kernel_rfl
theorem Ka(l:List Int):splice ((List.replicate 64 (0:Int)).map (Value.int .u8)) 0 (l.map (Value.int .u8))=(Gq l 64).map (Value.int .u8):=by
 have e:(List.replicate 64 (0:Int)).map (Value.int .u8)=List.replicate 64 (Value.int .u8 0):=py;rw[e];simp only[splice,Gq,nM,nZ,mO,na,List.drop_replicate,mS,py]
theorem IT{b:List Oper}{o:Oper}(f:o.guard=none)(i:TypeId)(x y:Operand)(p:o.op=.store i x y)(g:Nat)(cells:Array Value)(q:a.eval x=.pointer (some ⟨g,0,none⟩))(r:a.eval y=.agg cells)(t:TypeId)(c:Array Value)(j:w.heap[g]?=some (.cells c t (0,0)))(n:(P.info? i).map (·.size)=some cells.size)(d:c.size=cells.size)(l:cells.all (·.oneCell')=true)(B:Nat)(k:World)(m:Below B k w)(e:B<=g)(h:∀ w',w'.heap[g]?=some (.cells cells t (0,0))->Below B k w'->wpList P ops Q b (a.put o.dst undef) w'):wpList P ops Q (o::b) a w :=
 wpList_store_row f i x y p g cells q r t c j n d l (h _ (setRow_heap w g _ _ t _ j) (BP m e _))
theorem Sl.se{i:Option Addr}{c:Nat}(h:Sl w (.slice i n c) l)(q:0<l.length):∃ ad,i=some ad/\∀ (j:Nat) (v:Value),(l.map (Value.int .u8))[j]?=some v->w.cell? (ad.add j)=some v:=by
 obtain⟨⟨a,k,e,r,s,m⟩,p,o⟩:=h;simp only[Value.slice.injEq]at e;obtain⟨rfl,rfl,rfl⟩:=e;rcases m with rfl|⟨b,off,rfl,_,hcell⟩
 .simp at q
 .refine⟨_,rfl,λj v g=>?_⟩;have d:j<l.length:=by
   have:=(V'.1 g).1;simpa using this
  have f:(⟨b,off,none⟩:Addr).add j=⟨b,off+j,none⟩:=by unfold Addr.add;split<;>simp_all
  rw[f,hcell j d];simp[List.getElem?_eq_getElem d]at g
  rw[AZ d,g]
theorem Qd(v:Value)(l:List Int)(w:World)(h:Sl w v l)(L:l.length<=100000)(O:AB w) :
  Calls prog 156 #[v] w λe w'=>e=.returned (.agg (AV (fk l)))/\Bw w w':=by
 have F:=h;obtain⟨⟨a,I,rfl,R,S,D⟩,M,z⟩:=h;have Q:Hid _:=D;have c:(prog.info? 245).map (·.size)=some (AV (fk l)).size:=by rw[AF,Fe];kernel_rfl
 clear D z;by_cases E:64<l.length
 .have ek:Iz l=dig l:=by unfold Iz;rw[if_pos E]
  have y:Hid (fk l=Gq (dig l) 64):=by unfold Hid fk;rw[ek]
  clear ek;go_enter func156,ntmps156
  go_wp2_with fail
  generalize i:w.alloc _=W0;have d:Bw w W0:=by rw[<- i];exact(Below.refl _ _).alloc (A' _) _
  have u:W0.heap[w.heap.size]?=some (.cells (AV (List.replicate 64 0)) 245 (0,0)):=by rw[<- i];exact heap_alloc_new _ _
  have C:W0.heap.size=w.heap.size+1:=by rw[<- i];simp
  clear i;refine(Et _ l W0 (F.af d) L (O.af d)).mono ?_;rintro e j ⟨T,rfl,o,m⟩;obtain⟨J,H,P,A,B,K,n,_⟩:=Ey o (FF (As l));subst P;have p:j.heap[w.heap.size]?=some (.cells (AV (List.replicate 64 0)) 245 (0,0)):=(m.block _ (by omega)).trans u;have t:Bw w j:=d.trans (m.mono d.size);have x:w.heap.size<j.heap.size:=(U'.1 p).1;have G:Sl j (.slice (some ⟨J,0,none⟩) (dig l).length H) (dig l):=Sl.nn o (by rw[As];omega) (Dn l);go_wp2_with (refine wpList_copy_splice rfl _ _ 52 52 rfl 5 underlying52 NI _ _ _ _ _ _ rfl rfl j.heap.size 0 ((List.replicate 64 (0:Int)).map (Value.int .u8)) 245 (heap_alloc_new _ _) ((dig l).map (Value.int .u8)) (by rw[mO,As];rfl) (λ_=>⟨rfl,(G.af ((Below.refl _ _).alloc (A' _) _)).se (by rw[As];omega)⟩) (by rw[mO,As];simp) (Ff _) j.heap.size _ (Below.refl _ _) (A' _) ?_)
  intro g r b;have q:g.heap[j.heap.size]?=some (.cells (AV (fk l)) 245 (0,0)):=by
   have s:g.heap[j.heap.size]?=some (.cells (splice ((List.replicate 64 (0:Int)).map (Value.int .u8)) 0 ((dig l).map (Value.int .u8))).toArray 245 (0,0)):=r.out;rw[Ka]at s
   rw[y.out];exact s
  have k:Bw w g:=(t.alloc t.size _).trans (b.mono (by omega));have f:g.heap[w.heap.size]?=some (.cells (AV (List.replicate 64 0)) 245 (0,0)):=by
   rw[b.block _ x,heap_alloc_old _ _ x];exact p
  clear r b p u C d m n o G B A;go_wp2_with (first|(refine wpList_load_row rfl 245 _ rfl j.heap.size rfl 245 _ (0,0) _ q underlying245 rfl c ?_)|(refine wpList_store_row rfl 245 _ _ rfl w.heap.size _ rfl rfl 245 _ f c (by rw[AF,AF,Fe];rfl) (KR _) ?_))
  refine bodyPost_ret (v:=.agg (AV (fk l))) (results_cell_row rfl _ _ w.heap.size 245 _ (0,0) _ rfl (setRow_heap g w.heap.size _ _ 245 _ f) underlying245 rfl c) rfl ⟨rfl,BP k (A' _) _⟩
 .have ek:Iz l=l:=by unfold Iz;rw[if_neg E]
  have y:Hid (fk l=Gq l 64):=by unfold Hid fk;rw[ek]
  clear ek;go_enter func156,ntmps156
  go_wp2_with (refine wpList_copy_splice rfl _ _ 52 52 rfl 5 underlying52 NI _ _ _ _ _ _ rfl rfl (w.heap.size+1) 0 ((List.replicate 64 (0:Int)).map (Value.int .u8)) 245 (heap_alloc2_new _ _ _) (l.map (Value.int .u8)) (by rw[mO];exact(nH (show l.length<=64 by omega)).symm) (λN=>⟨rfl,(F.af (((Below.refl _ _).alloc (A' _) _).alloc (by simp) _)).se (by simpa using N)⟩) (by rw[mO,mO,nR];omega) (Ff _) (w.heap.size+1) _ (Below.refl _ _) (A' _) ?_)
  intro g r b;have q:g.heap[w.heap.size+1]?=some (.cells (AV (fk l)) 245 (0,0)):=by
   have s:g.heap[w.heap.size+1]?=some (.cells (splice ((List.replicate 64 (0:Int)).map (Value.int .u8)) 0 (l.map (Value.int .u8))).toArray 245 (0,0)):=r.out;rw[Ka]at s
   rw[y.out];exact s
  have k:Bw w g:=(((Below.refl _ _).alloc (A' _) _).alloc (by simp) _).trans (b.mono (by omega));have f:g.heap[w.heap.size]?=some (.cells (AV (List.replicate 64 0)) 245 (0,0)):=by
   rw[b.block _ (by omega)];exact heap_alloc2_old _ _ _
  clear r b;go_wp2_with (first|(refine wpList_load_row rfl 245 _ rfl (w.heap.size+1) rfl 245 _ (0,0) _ q underlying245 rfl c ?_)|(refine wpList_store_row rfl 245 _ _ rfl w.heap.size _ rfl rfl 245 _ f c (by rw[AF,AF,Fe];rfl) (KR _) ?_))
  refine bodyPost_ret (v:=.agg (AV (fk l))) (results_cell_row rfl _ _ w.heap.size 245 _ (0,0) _ rfl (setRow_heap g w.heap.size _ _ 245 _ f) underlying245 rfl c) rfl ⟨rfl,BP k (A' _) _⟩
theorem de(l:List Int)(d:l.length=64)(j:Nat)(c:j<64):∀ w,(Instr.index 245 (.agg (AV l)) (.int .i64 (j:Int))).run prog w=.ok (.int .u8 (l.getD j 0)) w:=by
 intro w;have b:(AV l)[j]?=some (.int .u8 (l.getD j 0)):=by
  simp[AV,List.getElem?_eq_getElem (show j<l.length by omega),List.getD]
 have a:(0:Int)<=j/\(j:Int)<64:=by omega
 simp[Instr.index,run_underlying underlying245,asIntOf,a,part,b];intro h;omega
theorem L9(k:List Int)(m:Int)(w:World)(q:k.length=64)(I:0<=m/\m<256)(K:∀ x∈k,0<=x/\x<256) :
  Calls prog 157 #[.agg (AV k),.int .u8 m] w λe w'=>∃ v',e=.returned v'/\w'.ownsRow w.heap.size 5 1 v' (Bx k m).length ((Bx k m).map (Value.int .u8))/\Bw w w':=by
 obtain⟨M,L,C,D,E⟩:=info_parts Aw;have B:(prog.info? 245).map (·.size)=some (AV k).size:=by rw[AF,q];kernel_rfl
 have u:Hid (k.length=64):=q;clear q;go_enter func157,ntmps157
 go_wp2_with (at_make;refine wpList_make_own _ rfl _ _ 52 rfl w.heap.size 5 M (.int .u8 0) 1 underlying52 L C D _ _ _ 64 rfl rfl (by omega) (by rw[E];omega) (by unfold maxLen;omega) (by simp) ?_)
 intro F t h;have o:Bw w F:=((Below.refl _ _).alloc (A' _) _).grown h (by simp) (by simp);have g:F.heap[w.heap.size]?=some (.cells (AV k) 245 (0,0)):=by
  rw[h.block w.heap.size (by simp) (by simp)];exact heap_alloc_new _ _
 have f:F.ownsRow w.heap.size 5 1 (.slice (some ⟨w.heap.size+1,0,none⟩) 0 64) (Bx (k.take 0) m).length ((Bx (k.take 0) m).map (Value.int .u8)):=t;clear t h;go_wp2_with (refine wpList_load_row rfl 245 _ rfl w.heap.size rfl 245 _ (0,0) _ g underlying245 rfl B ?_)
 go_loopw [5,10] (λv i wr=>∃ j:Nat,j<=64/\i=.int .i64 j/\wr.ownsRow w.heap.size 5 1 v (Bx (k.take j) m).length ((Bx (k.take j) m).map (Value.int .u8))/\Bw w wr) (λ_ i _=>64-(intOf i).toNat)
 case atStart=>exact⟨0,by omega,rfl,f,o⟩
 case round =>
  clear f o g;obtain⟨j,N,rfl,a,b⟩:=hrel;have s:=a.lt;by_cases d:j<64
  .have hix:=de k u.out j d;have r:(Bx (k.take j) m).length<=64:=by rw[FC,X'];omega
   have y:Hid (Bx (k.take (j+1)) m=Bx (k.take j) m++[bits .xor .u8 (k.getD j 0) m]):=by
    unfold Hid;have p:j<k.length:=by rw[u.out];exact d
    rw[mN p,AZ p,Bx,mS];rfl
   have c:=Al K j;have l:0<=bits .xor .u8 (k.getD j 0) m/\bits .xor .u8 (k.getD j 0) m<256:=by
    rw[u8_xor _ _ c.1 c.2 I.1 I.2];have:(k.getD j 0).toNat ^^^ m.toNat<256:=px (n:=8) (by omega) (by omega);omega
   have G:Hid (0<=bits .xor .u8 (k.getD j 0) m/\bits .xor .u8 (k.getD j 0) m<256):=l;generalize Bx (k.take j) m=pre at a y r;generalize k.getD j 0=x at hix y c l G;clear l c;go_wp2_with (at_builtin;refine Aa _ rfl _ _ 52 rfl w.heap.size 5 underlying52 Aw _ _ rfl rfl pre _ (a.alloc _) (Sl.one _ _ _ rfl G.out) (by simp;omega) (by have:=b.size;simp;omega) ?_)
   intro v' w' J H;have A:w'.ownsRow w.heap.size 5 1 v' (pre++[bits .xor .u8 x m]).length ((pre++[bits .xor .u8 x m]).map (Value.int .u8)):=by simpa using J
   have z:Bw w w':=(b.alloc b.size _).grown H (by have:=b.size;simp;omega) (λk q=>(s k q).1);clear J H a s b;go_wp2
   go_roundw
   case rel=>exact⟨j+1,by omega,by go_num,by rw[y.out];exact A,z⟩
   case measure=>simp[intOf];omega
  .have HJ:Hid (k.take j=k):=by unfold Hid;exact mJ (by rw[u.out];omega)
   go_wp2
   go_ret;refine⟨u5,rfl,?_,b⟩;rw[HJ.out]at a
   exact a
theorem OV(vk vb:Value)(k b:List Int)(w:World)(C:Sl w vk k)(hb:Sl w vb b)(Z:k.length<=100000)(a3:b.length<=90000)(ht:AB w) :
  Calls prog 129 #[vk,vb] w λe w'=>∃ v',e=.returned v'/\Fresh w w' v' (E8 k b):=by
 have n:(prog.info? 245).map (·.size)=some (AV (fk k)).size:=by rw[AF,Fe];kernel_rfl
 have d:=cJ C.byte;have c:=Fe k;have F:Hid (E8 k b=dig (Bx (fk k) 92++dig (Bx (fk k) 54++b))):=rfl;go_enter func129,ntmps129
 go_wp2_with fail
 refine(Qd vk k w C Z ht).mono ?_;rintro e R ⟨rfl,v⟩;generalize fk k=K at n d c F ⊢;go_wp2_with (refine IT rfl 245 _ _ rfl R.heap.size _ rfl rfl 245 _ (heap_alloc_new _ _) n (by rw[AF,c];rfl) (KR _) w.heap.size w (v.alloc v.size _) v.size ?_)
 intro E g a;have hz:R.heap.size<E.heap.size:=(U'.1 g).1;go_wp2_with (refine wpList_load_row rfl 245 _ rfl R.heap.size rfl 245 _ (0,0) _ g underlying245 rfl n ?_)
 refine(L9 K 54 E c (by omega) d).mono ?_;rintro e w3 ⟨v3,rfl,z,j⟩;have U:Bw w w3:=a.trans (j.mono a.size);have p:=z.lt;have s:(Bx K 54).length=64:=by rw[FC,c]
 have t:(Bx K 92).length=64:=by rw[FC,c]
 have G:=L8 d (m:=54) (by omega);have H:=L8 d (m:=92) (by omega);go_wp2_with (at_builtin;refine Aa _ rfl _ _ 52 rfl E.heap.size 5 underlying52 Aw _ _ rfl rfl (Bx K 54) b z (hb.af U) (by omega) j.size ?_)
 intro v4 S O M;have y:Bw E S:=j.grown M j.size (λk C=>(p k C).1);have V:Bw w S:=a.trans (y.mono a.size);have f:S.ownsRow E.heap.size 5 1 v4 (Bx K 54++b).length ((Bx K 54++b).map (Value.int .u8)):=by simpa[s]using O
 have I:∀ x∈Bx K 54++b,0<=x/\x<256:=λx hx=>by
  rcases P'.1 hx with h|h
  .exact G x h
  .exact hb.byte x h
 have a1:(Bx K 54++b).length<=91000:=by rw[H',s];omega
 clear O M z p;generalize Bx K 54++b=L4 at f I a1 F;go_wp2_with fail
 refine(Et v4 L4 S (Sl.nn f (by omega) I) (by omega) (ht.af V)).mono ?_;rintro e u ⟨v5,rfl,P,W⟩;have o:Bw E u:=y.trans (W.mono y.size);have s5:Sl u v5 (dig L4):=Sl.nn P (by rw[As];omega) (Dn L4);have l5:=As L4;have y5:=Dn L4;generalize dig L4=D at s5 F l5 y5;have B:u.heap[R.heap.size]?=some (.cells (AV K) 245 (0,0)):=(o.block _ hz).trans g;clear f P;go_wp2_with (refine wpList_load_row rfl 245 _ rfl R.heap.size rfl 245 _ (0,0) _ B underlying245 rfl n ?_)
 refine(L9 K 92 u c (by omega) d).mono ?_;rintro e w6 ⟨v6,rfl,A,l⟩;have q:=A.lt;go_wp2_with (at_builtin;refine Aa _ rfl _ _ 52 rfl u.heap.size 5 underlying52 Aw _ _ rfl rfl (Bx K 92) D A (s5.af l) (by omega) l.size ?_)
 intro v7 T Q N;have X:Bw u T:=l.grown N l.size (λk C=>(q k C).1);have L:Bw w u:=a.trans (o.mono a.size);have i:Bw w T:=L.trans (X.mono L.size);have r:T.ownsRow u.heap.size 5 1 v7 (Bx K 92++D).length ((Bx K 92++D).map (Value.int .u8)):=by simpa[t,l5]using Q
 have J:∀ x∈Bx K 92++D,0<=x/\x<256:=λx hx=>by
  rcases P'.1 hx with h|h
  .exact H x h
  .exact y5 x h
 have a2:(Bx K 92++D).length<=96:=by rw[H',t];omega
 clear Q N A q;generalize Bx K 92++D=L7 at r J a2 F;go_wp2_with fail
 refine(Et v7 L7 T (Sl.nn r (by omega) J) (by omega) (ht.af i)).mono ?_;rintro e w8 ⟨v8,rfl,a0,Y⟩;go_wp2
 go_ret;refine⟨v8,rfl,?_⟩;rw[F.out];exact Fresh.nn (BK a0 i.size) (FF (As L7)) (by rw[As];omega) (Dn L7) (i.trans (Y.mono i.size))
theorem ge(m l:Value)(k b:List Int)(w:World)(i:Sl w m k)(h:Sl w l b)(q:k.length<=256)(o:b.length<=2000)(t:AB w) :
  Calls prog 127 #[m,l] w λe w'=>∃ v',e=.returned (.tuple #[v',.int .i64 0])/\Fresh w w' v' (E8 k b):=by
 have s:=i;have f:=h;obtain⟨⟨a,n,rfl,_,_,_⟩,r,d⟩:=i;obtain⟨⟨v,g,rfl,_,_,_⟩,j,c⟩:=h;clear d c;go_enter func127,ntmps127
 go_wp2_with fail
 refine(OV _ _ k b w s f (by omega) (by omega) t).mono ?_;rintro e x ⟨u,rfl,p⟩;go_wp2
 go_ret2
 exact⟨u,rfl,p⟩
theorem OX(L M:Value)(a i:List Int)(c:Int)(w:World)(H:Sl w L a)(I:Sl w M i)(S:a.length<=1000)(U:i.length<=1000)(T:0<=c/\c<256) :
  Calls prog 155 #[L,M,.int .u8 c] w λe w'=>∃ v',e=.returned v'/\w'.ownsRow w.heap.size 5 1 v' (a++i++[c]).length ((a++i++[c]).map (Value.int .u8))/\Bw w w':=by
 obtain⟨X,A,D,E,F⟩:=info_parts Aw;have W:=H;have C:=I;obtain⟨⟨aa,R,rfl,_,_,_⟩,V,z⟩:=H;obtain⟨⟨a2,G,rfl,_,_,_⟩,J,n⟩:=I;clear z n;go_enter func155,ntmps155
 go_wp2_with (at_make;refine wpList_make_own _ rfl _ _ 52 rfl w.heap.size 5 X (.int .u8 0) 1 underlying52 A D E _ _ _ (a.length+i.length+1) rfl rfl (by omega) (by rw[F];omega) (by unfold maxLen;omega) (A' _) ?_)
 intro N s o;have b:Bw w N:=(Below.refl _ _).grown o (A' _) (by simp);have m:N.ownsRow w.heap.size 5 1 (.slice (some ⟨w.heap.size,0,none⟩) 0 (a.length+i.length+1)) ([]:List Int).length (([]:List Int).map (Value.int .u8)):=s;clear s o;go_wp2_with (at_builtin;refine Aa _ rfl _ _ 52 rfl w.heap.size 5 underlying52 Aw _ _ rfl rfl [] a m (W.af b) (by simp;omega) b.size ?_)
 intro Y O t p;have g:O.ownsRow w.heap.size 5 1 Y a.length (a.map (Value.int .u8)):=by simpa using t
 have d:Bw w O:=b.grown p b.size (by simp[Value.ownBlock]);have j:=g.lt;clear m p b t;go_wp2_with (at_builtin;refine Aa _ rfl _ _ 52 rfl w.heap.size 5 underlying52 Aw _ _ rfl rfl a i g (C.af d) (by omega) d.size ?_)
 intro Z P u q;have h:P.ownsRow w.heap.size 5 1 Z (a++i).length ((a++i).map (Value.int .u8)):=by simpa using u
 have f:Bw w P:=d.grown q d.size (λk B=>(j k B).1);have l:=h.lt;clear g q d u j;go_wp2_with (at_builtin;refine Aa _ rfl _ _ 52 rfl w.heap.size 5 underlying52 Aw _ _ rfl rfl (a++i) [c] (h.alloc _) (Sl.one _ _ _ rfl T) (by simp;omega) (by have:=f.size;simp;omega) ?_)
 intro K Q v r;have x:Q.ownsRow w.heap.size 5 1 K (a++i++[c]).length ((a++i++[c]).map (Value.int .u8)):=by simpa using v
 have y:Bw w Q:=(f.alloc f.size _).grown r (by have:=f.size;simp;omega) (λk B=>(l k B).1);clear h r f v l;go_wp2
 go_ret;exact⟨K,rfl,x,y⟩
theorem Sl.grown{m:World}{b c d:Nat}{row:Option Nat}(h:Sl w (.slice (some ⟨b,c,none⟩) n d) l)(k:w.grownBy m row)(j:some b≠row):Sl m (.slice (some ⟨b,c,none⟩) n d) l:=by
 obtain⟨⟨a,f,e,q,s,g⟩,o,p⟩:=h;refine⟨⟨a,f,e,q,s,?_⟩,o,p⟩;simp only[Value.slice.injEq]at e;obtain⟨rfl,_,_⟩:=e;rcases g with g|⟨b',off',e',hbs,hcell⟩
 .exact .inl g
 .simp only[Y',Addr.mk.injEq,and_true]at e';obtain⟨rfl,rfl⟩:=e';refine .inr ⟨b,c,rfl,Z' hbs k.size,λi r=>?_⟩;rw[<- hcell i r];exact World.cell?_of_block (w:=w) (k.block b hbs j)
def blk(key info:List Int):Nat->List Int
 | 0=>[]
 | i+1=>E8 key (blk key info i++info++[(i:Int)+1])
def Bq(key info:List Int):Nat->List Int
 | 0=>[]
 | i+1=>Bq key info i++blk key info (i+1)
def Gn(key info:List Int)(n:Nat):List Int:=(Bq key info 16).take n
theorem Hu(key a:List Int)(i:Nat):(blk key a (i+1)).length=32:=DO _ _
theorem Xt(key a:List Int)(i:Nat):∀ x∈blk key a i,0<=x/\x<256:=by
 cases i with
 | zero=>intro x b;cases b
 | succ i=>exact NR _ _
theorem gy(key a:List Int)(i:Nat):(blk key a i).length<=32:=by
 cases i with
 | zero=>simp[blk]
 | succ i=>rw[Hu];omega
theorem CQ(key a:List Int)(i:Nat):(Bq key a i).length=32*i:=by
 induction i with
 | zero=>rfl
 | succ i ih=>rw[Bq,H',ih,Hu];omega
theorem Ra(key a:List Int)(i:Nat):∀ x∈Bq key a i,0<=x/\x<256:=by
 induction i with
 | zero=>intro x b;cases b
 | succ i ih =>
  intro x b;rcases P'.1 b with h|h
  .exact ih x h
  .exact Xt key a (i+1) x h
theorem Rb(key a:List Int)(n i j:Nat)(b:n<=32*i):(Bq key a (i+j)).take n=(Bq key a i).take n:=by
 induction j with
 | zero=>rfl
 | succ j ih=>rw[<- nB,Bq,m8 (by rw[CQ];omega),ih]
theorem Vs(key a:List Int)(n i:Nat):(Bq key a (i+1)).take n=(Bq key a i).take n++(blk key a (i+1)).take (n-32*i):=by
 rw[Bq,List.take_append,CQ]
theorem Sc(vk vi:Value)(k i:List Int)(n:Nat)(w:World)(hk:Sl w vk k)(hi:Sl w vi i)(a9:k.length<=1000)(a8:i.length<=900)(hn:n<=512)(ht:AB w) :
  Calls prog 128 #[vk,vi,.int .i64 n] w λe w'=>∃ v',e=.returned v'/\w'.ownsRow w.heap.size 5 1 v' (Gn k i n).length ((Gn k i n).map (Value.int .u8))/\Bw w w':=by
 obtain⟨i0,Z,a2,a3,a4⟩:=info_parts Aw;go_enter func128,ntmps128
 go_wp2_with (at_make;refine wpList_make_own _ rfl _ _ 52 rfl w.heap.size 5 i0 (.int .u8 0) 1 underlying52 Z a2 a3 _ _ _ n rfl rfl (by omega) (by rw[a4];omega) (by unfold maxLen;omega) (A' _) ?_)
 intro w1 J I;have H:Bw w w1:=(Below.refl _ _).grown I (A' _) (by simp);have y:w1.ownsRow w.heap.size 5 1 (.slice (some ⟨w.heap.size,0,none⟩) 0 n) ((Bq k i 0).take n).length (((Bq k i 0).take n).map (Value.int .u8)):=by simpa[Bq]using J
 clear J I;go_wp2_with fail
 go_loopw [7,8,9] (λv b c wr=>∃ j:Nat,j<=16/\c=.int .u8 ((j:Int)+1)/\(∃ m z,v=.slice (some ⟨m,0,none⟩) (min (32*j) n) z)/\Sl wr b (blk k i j)/\wr.ownsRow w.heap.size 5 1 v ((Bq k i j).take n).length (((Bq k i j).take n).map (Value.int .u8))/\Bw w wr) (λ_ _ c _=>(17-intOf c).toNat)
 case atStart=>exact⟨0,by omega,rfl,⟨w.heap.size,n,by simp⟩,Sl.nil _ _,y,H⟩
 case round =>
  clear y H;obtain⟨j,hj,rfl,⟨m,z,rfl⟩,sb,f,V⟩:=hrel;have B:=f.lt;by_cases hc:32*j<n
  .have d:min (32*j) n=32*j:=by omega
   rw[d]at f B ⊢
   have a0:m<wr.heap.size:=(B m rfl).2;have l:((Bq k i j).take n).length=32*j:=by rw[X',CQ];omega
   have a7:=gy k i j;have a5:j<=15:=by omega
   have HB:Hid (blk k i (j+1)=E8 k (blk k i j++i++[(j:Int)+1])):=rfl;have HS:=Vs k i n j;have E:Hid _:=HS;have yb:∀ x∈blk k i j++i++[(j:Int)+1],0<=x/\x<256:=λx hx=>by
    rcases P'.1 hx with h|h
    .rcases P'.1 h with h|h
     .exact sb.byte x h
     .exact hi.byte x h
    .obtain rfl:x=(j:Int)+1:=by simpa using h
     omega
   clear HS d;go_wp2_with fail
   refine(OX _ vi (blk k i j) i ((j:Int)+1) wr sb (hi.af V) (by omega) (by omega) (by omega)).mono ?_;rintro e w2 ⟨v2,rfl,K,a⟩;have s:Bw w w2:=V.trans (a.mono V.size);have l2:(blk k i j++i++[(j:Int)+1]).length<=2000:=by simp;omega
   have s2:=Sl.nn K (by omega) yb;go_wp2_with fail
   refine(OV vk v2 k _ w2 (hk.af s) s2 (by omega) (by omega) (ht.af s)).mono ?_;rintro e R ⟨v3,rfl,F⟩;rw[<- HB.out]at F
   obtain⟨T,S,N,_,Y⟩:=F.shape;have s3:=F.sl;have o:=F.sF;have l3:=Hu k i j;rw[l3]at N Y
   subst N;clear HB F s2 K l2 yb sb;have a1:=f;have g:R.ownsRow w.heap.size 5 1 (.slice (some ⟨m,0,none⟩) (32*j) z) ((Bq k i j).take n).length (((Bq k i j).take n).map (Value.int .u8)):=by
    refine f.kept (row:=none) ⟨(a.trans (o.mono a.size)).os,(a.trans (o.mono a.size)).tape,(a.trans (o.mono a.size)).output,(a.trans (o.mono a.size)).size,λq hq _=>(a.trans (o.mono a.size)).block q hq⟩ (.inr (by simp[Value.ownBlock]))
   have t:Bw w R:=s.trans (o.mono s.size);have p:=g.lt;have C:Hid ((Bq k i (j+1)).take n=(Bq k i j).take n++(blk k i (j+1)).take (n-32*j)):=E.out;clear E a1 f B;have U:((blk k i (j+1)).take (n-32*j)).length=min (n-32*j) 32:=by rw[X',l3]
   have sM:Sl R (.slice (some ⟨T,0,none⟩) (min (n-32*j) 32) S) ((blk k i (j+1)).take (n-32*j)):=by
    by_cases hq:n-32*j<=32
    .rw[nH hq];exact s3.take (n-32*j) (by omega)
    .rw[Nat.min_eq_right (by omega),mJ (by omega)];exact s3
   have HN:=s3;have u:((Bq k i (j+1)).take n).length=min (32*(j+1)) n:=by rw[X',CQ];omega
   have D:Hid (((Bq k i (j+1)).take n).length=min (32*(j+1)) n):=u;clear HN u;generalize (blk k i (j+1)).take (n-32*j)=M at sM U C;generalize (Bq k i j).take n=P at g p l C;have SB:Sl R (.slice (some ⟨T,0,none⟩) 32 S) (blk k i (j+1)):=s3;clear s3;have d:(min (32:Int) ((n:Int)-32*(j:Int))).toNat=min (n-32*j) 32:=by omega
   have Q:Sl R (.slice (some ⟨T,0,none⟩) (min (32:Int) ((n:Int)-32*(j:Int))).toNat S) M:=by rw[d];exact sM
   have a6:m<w2.heap.size:=Z' a0 a.size;clear d sM;go_wp2_with (at_builtin;refine Aa _ rfl _ _ 52 rfl w.heap.size 5 underlying52 Aw _ _ rfl rfl P M g Q (by omega) t.size ?_)
   intro v4 w4 L A;have r:w4.ownsRow w.heap.size 5 1 v4 (P++M).length ((P++M).map (Value.int .u8)):=by simpa[l,U]using L
   have X:Bw w w4:=t.grown A t.size (λk hk=>(p k hk).1);have W:Sl w4 (.slice (some ⟨T,0,none⟩) 32 S) (blk k i (j+1)):=SB.grown A (by simp[Value.ownBlock];omega);obtain⟨g4,c4,O,_,_,_,_,_⟩:=Ey r (by intro e;have:=congrArg List.length e;rw[H',l,U]at this;simp at this;omega);have G:(P++M).length=min (32*(j+1)) n:=by rw[<- C.out];exact D.out
   rw[<- C.out]at r
   rw[G]at O
   subst O;clear L A g p t SB Q U C D G l;go_wp2
   go_roundw
   case rel=>exact⟨j+1,by omega,by go_num,⟨g4,c4,rfl⟩,W,r,X⟩
   case measure=>simp[intOf];omega
  .have d:min (32*j) n=n:=by omega
   rw[d]at f ⊢
   have HQ:Hid (Gn k i n=(Bq k i j).take n):=by
    unfold Hid Gn;have:=Rb k i n j (16-j) (by omega);rw[show j+(16-j)=16 by omega]at this
    exact this
   go_wp2
   go_ret;refine⟨_,rfl,?_,V⟩;rw[HQ.out];exact f
theorem Is(k i:List Int)(n:Nat)(h:n<=512):(Gn k i n).length=n:=by
 unfold Gn;rw[X',CQ];omega
theorem Lh(k i:List Int)(n:Nat):∀ x∈Gn k i n,0<=x/\x<256:=λx a=>Ra k i 16 x (mL a)
theorem TJ(o f g:Value)(a b d:List Int)(n:Nat)(w:World)(j:Sl w o a)(k:Sl w f b)(l:Sl w g d)(p:a.length<=256)(q:b.length<=256)(r:d.length<=256)(s:n<=512)(m:AB w) :
  Calls prog 92 #[o,f,g,.int .i64 n] w λe w'=>∃ v',e=.returned (.tuple #[v',.int .i64 0])/\w'.ownsRow w.heap.size 5 1 v' (Gn (E8 b a) d n).length ((Gn (E8 b a) d n).map (Value.int .u8))/\Bw w w':=by
 have s0:=j;have t:=k;have u:=l;obtain⟨⟨a0,z,rfl,_,_,_⟩,_,_⟩:=j;obtain⟨⟨x,A,rfl,_,_,_⟩,_,_⟩:=k;obtain⟨⟨y,B,rfl,_,_,_⟩,_,_⟩:=l;have C:decide ((256:Int)<(a.length:Int))=false:=by simp;omega
 have D:decide ((256:Int)<(b.length:Int))=false:=by simp;omega
 have E:decide ((256:Int)<(d.length:Int))=false:=by simp;omega
 have F:decide ((n:Int)<0)=false:=by simp
 have G:decide ((512:Int)<(n:Int))=false:=by simp;omega
 go_enter func92,ntmps92
 go_wp2_with fail
 refine(OV _ _ b a w t s0 (by omega) (by omega) m).mono ?_;rintro e v ⟨f,rfl,c⟩;have H:=DO b a;go_wp2_with fail
 refine(Sc f _ (E8 b a) d n v c.sl (u.af c.sF) (by omega) (by omega) s (m.af c.sF)).mono ?_;rintro e I ⟨g,rfl,i,h⟩;go_wp2
 go_ret2
 exact⟨g,rfl,BK i c.sF.size,c.sF.trans (h.mono c.sF.size)⟩
def Jk(c:Int):List Int:=Gn (E8 [99,108,105,101,110,116] [c]) [] 32
def F9:List Int:=Gn (E8 [105,115,115,117,101,114] [255]) [] 32
theorem DN(c:Int):(Jk c).length=32:=Is _ _ 32 (by omega)
theorem JJ:F9.length=32:=Is _ _ 32 (by omega)
theorem VD(c:Int):∀ x∈Jk c,0<=x/\x<256:=Lh _ _ _
theorem VA:∀ x∈F9,0<=x/\x<256:=Lh _ _ _
theorem Sl.tA(w:World)(l:List Int)(e:TypeId)(a:Nat × Nat){g:Nat}(c:g=w.heap.size)(f:l.length=6)(b:∀ x∈l,0<=x/\x<256):Sl (w.alloc (.cells (l.map (Value.int .u8)).toArray e a)) (.slice (some ⟨g,0,none⟩) 6 6) l:=by
 subst c;refine⟨⟨_,6,by rw[f],by omega,by simp,.inr ⟨w.heap.size,0,rfl,by simp,λi d=>?_⟩⟩,by omega,b⟩;rw[cell_of_row _ _ (0+i) _ _ _ (heap_alloc_new w _)];simp[List.getElem?_eq_getElem d,List.getD]
def GL(t:Nat)(x:Int):Int:=if t%4=3 then x%16 else if t%4=0/\0<t then x/4*4 else x
def DR(l:List Int):List Int:=(List.range 16).map λt=>GL t (l.getD t 0)
theorem ML(l:List Int):(DR l).length=16:=by simp[DR]
theorem RE(l:List Int)(t:Nat)(h:t<16):(DR l).getD t 0=GL t (l.getD t 0):=by
 simp[DR,List.getD,List.getElem?_map,List.getElem?_range h]
theorem OB(t:Nat){x:Int}(h:0<=x/\x<256):0<=GL t x/\GL t x<256:=by
 unfold GL;split
 .omega
 .split<;>omega
theorem PJ(h:∀ x∈l,0<=x/\x<256):∀ x∈DR l,0<=x/\x<256:=by
 intro x a;obtain⟨t,_,rfl⟩:=mQ.1 a;exact OB t (Al h t)
theorem Sa(h:l.length=m.length)(c:∀ t,t<l.length->l.getD t 0=m.getD t 0):l=m:=by
 apply oS h;intro t a b;have:=c t a
 rwa [AZ a,AZ b]at this
theorem j7(x:Int)(a:0<=x)(b:x<256):bits .and .u8 x 15=x%16:=by
 obtain⟨n,rfl⟩:=mZ a;rw[show(15:Int)=((15:Nat):Int)from rfl,u8_and_nat _ _ (by omega) (by omega),show(15:Nat)=2^4-1 from rfl,pP];omega
theorem R4:∀ n:Fin 256,n.val &&& 252=n.val/4*4:=by decide +kernel
theorem gp(x:Int)(a:0<=x)(b:x<256):bits .and .u8 x 252=x/4*4:=by
 obtain⟨n,rfl⟩:=mZ a;have e:n &&& 252=n/4*4:=R4 ⟨n,by omega⟩;rw[show(252:Int)=((252:Nat):Int)from rfl,u8_and_nat _ _ (by omega) (by omega),e];omega
structure Upper(l m:List Int)(j:Nat):Prop where
 len:m.length=16
 at_:∀ t,m.getD t 0=if t%4=3/\t<3+4*j then l.getD t 0%16 else l.getD t 0
theorem Upper.zero(h:l.length=16):Upper l l 0:=by
 refine⟨h,λt=>?_⟩;rw[if_neg (by omega)]
theorem Upper.succ(h:Upper l m j)(a:j<4):Upper l (m.set (3+4*j) (m.getD (3+4*j) 0%16)) (j+1):=by
 refine⟨by simpa using h.len,λt=>?_⟩;by_cases e:3+4*j=t
 .subst e;rw[AP (by rw[h.len];omega),h.at_,if_neg (by omega),if_pos (by omega)]
 .rw[AC e,h.at_];by_cases c:t%4=3/\t<3+4*j
  .rw[if_pos c,if_pos (by omega)]
  .rw[if_neg c,if_neg (by omega)]
structure Lower(l m:List Int)(j:Nat):Prop where
 len:m.length=16
 at_:∀ t,t<16->m.getD t 0=if t%4=3 then l.getD t 0%16 else if t%4=0/\0<t/\t<4+4*j then l.getD t 0/4*4 else l.getD t 0
theorem Upper.lower(h:Upper l m 4):Lower l m 0:=by
 refine⟨h.len,λt a=>?_⟩;rw[h.at_];by_cases c:t%4=3
 .rw[if_pos (by omega),if_pos c]
 .rw[if_neg (by omega),if_neg c,if_neg (by omega)]
theorem Lower.succ(h:Lower l m j)(b:j<3):Lower l (m.set (4+4*j) (m.getD (4+4*j) 0/4*4)) (j+1):=by
 refine⟨by simpa using h.len,λt a=>?_⟩;by_cases e:4+4*j=t
 .subst e;rw[AP (by rw[h.len];omega),h.at_ _ a,if_neg (by omega),if_neg (by omega),if_neg (by omega),if_pos (by omega)]
 .rw[AC e,h.at_ _ a];by_cases c:t%4=3
  .rw[if_pos c,if_pos c]
  .rw[if_neg c,if_neg c];by_cases d:t%4=0/\0<t/\t<4+4*j
   .rw[if_pos d,if_pos (by omega)]
   .rw[if_neg d,if_neg (by omega)]
theorem Lower.tg(h:Lower l m 3):m=DR l:=by
 refine Sa (by rw[h.len,ML]) (λt a=>?_);rw[h.len]at a
 rw[h.at_ t a,RE l t a,GL];by_cases c:t%4=3
 .rw[if_pos c,if_pos c]
 .rw[if_neg c,if_neg c];by_cases d:t%4=0/\0<t
  .rw[if_pos d,if_pos (by omega)]
  .rw[if_neg d,if_neg (by omega)]
theorem Upper.byte(h:Upper l m j)(a:∀ x∈l,0<=x/\x<256)(t:Nat):0<=m.getD t 0/\m.getD t 0<256:=by
 have:=Al a t;rw[h.at_];split<;>omega
theorem Lower.byte(h:Lower l m j)(a:∀ x∈l,0<=x/\x<256)(t:Nat)(b:t<16):0<=m.getD t 0/\m.getD t 0<256:=by
 have:=Al a t;rw[h.at_ t b];split
 .omega
 .split<;>omega
theorem Se(v:Value)(l:List Int)(w:World)(h:Sl w v l)(S:l.length=16) :
  Calls prog 197 #[v] w λe w'=>∃ r,e=.returned (.agg (Ai r))/\Lim 67108864 r/\val r%pp=leN (DR l)%pp/\Bw w w':=by
 have T:=h;obtain⟨⟨a,Y,rfl,hc,hn,Z⟩,M,A⟩:=h;have n:Hid (∀ x∈l,0<=x/\x<256):=A;clear Z A hn M;have W:Hid (l.length=16):=S;go_enter func197,ntmps197
 go_wp2_with (refine wpList_copy_splice rfl _ _ 52 52 rfl 5 underlying52 Yz _ _ _ _ _ _ rfl rfl (w.heap.size+1) 0 ((List.replicate 16 (0:Int)).map (Value.int .u8)) 296 (heap_alloc2_new _ _ _) (l.map (Value.int .u8)) (by rw[mO];exact(nH (show l.length<=16 by omega)).symm) (λhp=>⟨rfl,(T.af (((Below.refl _ _).alloc (A' _) _).alloc (by simp) _)).src (by simpa using hp)⟩) (by rw[mO,mO,nR];omega) (Ff _) (w.heap.size+1) _ (Below.refl _ _) (A' _) ?_)
 intro F Q q;have E:F.heap[w.heap.size+1]?=some (.cells (byA l) 296 (0,0)):=by
  have R:F.heap[w.heap.size+1]?=some (.cells (splice ((List.replicate 16 (0:Int)).map (Value.int .u8)) 0 (l.map (Value.int .u8))).toArray 296 (0,0)):=Q.out;rw[IJ,S]at R
  simpa[byA]using R
 have y:Bw w F:=(((Below.refl _ _).alloc (A' _) _).alloc (by simp) _).trans (q.mono (by omega));have C:F.heap[w.heap.size]?=some (.cells (Ai [0,0,0,0,0]) 284 (0,0)):=by
  rw[q.block _ (by omega)];exact heap_alloc2_old _ _ _
 clear Q q T;go_wp2_with fail
 go_loopw [4] (λi wr=>∃ (j:Nat) (m:List Int),j<=4/\i=.int .i64 (3+4*(j:Int))/\Upper l m j/\wr.heap[w.heap.size]?=some (.cells (Ai [0,0,0,0,0]) 284 (0,0))/\wr.heap[w.heap.size+1]?=some (.cells (byA m) 296 (0,0))/\Bw w wr) (λi _=>20-(intOf i).toNat)
 case atStart=>exact⟨0,l,by omega,rfl,Upper.zero W.out,C,E,y⟩
 case round =>
  clear C E y;obtain⟨j,m,hj,rfl,c,t,f,o⟩:=hrel;have N:=c.len;by_cases J:j<4
  .have K:3+4*(j:Int)<16:=by omega
   have H:=(cell_of_row _ _ (3+4*j) _ _ _ f).trans (Io m (3+4*j) (by omega));have fl:=frozen_of_row _ _ (3+4*j) _ _ f;have b:=c.byte n.out (3+4*j);have u:Hid (Upper l (m.set (3+4*j) (m.getD (3+4*j) 0%16)) (j+1)):=c.succ J;have d:=j7 (m.getD (3+4*j) 0) b.1 b.2;generalize m.getD (3+4*j) 0=x at H u b d;clear c;go_wp2
   go_roundw
   case rel =>
    refine⟨j+1,_,by omega,by go_num,u.out,?_,GJ f _ _,?_⟩
    .exact(heap_setCell_other _ _ _ _ (by simp)).trans t
    .exact o.setCell (p:=⟨w.heap.size+1,3+4*j,none⟩) (by simp) _
   case measure=>simp[intOf];omega
  .have HJ:Hid (j=4):=by unfold Hid;omega
   have K:¬ 3+4*(j:Int)<16:=by omega
   have B:Lower l m 0:=by have:=HJ.out;subst this;exact c.lower
   clear c;go_wp2_with fail
   go_loopw [5] (λi wr=>∃ (j:Nat) (m:List Int),j<=3/\i=.int .i64 (4+4*(j:Int))/\Lower l m j/\wr.heap[w.heap.size]?=some (.cells (Ai [0,0,0,0,0]) 284 (0,0))/\wr.heap[w.heap.size+1]?=some (.cells (byA m) 296 (0,0))/\Bw w wr) (λi _=>20-(intOf i).toNat)
   case atStart=>exact⟨0,m,by omega,rfl,B,t,f,o⟩
   case round =>
    clear t f o B N;obtain⟨k,m,hk,rfl,c,t,f,o⟩:=hrel;have N:=c.len;by_cases L:k<3
    .have hki:4+4*(k:Int)<16:=by omega
     have H:=(cell_of_row _ _ (4+4*k) _ _ _ f).trans (Io m (4+4*k) (by omega));have fl:=frozen_of_row _ _ (4+4*k) _ _ f;have b:=c.byte n.out (4+4*k) (by omega);have u:Hid (Lower l (m.set (4+4*k) (m.getD (4+4*k) 0/4*4)) (k+1)):=c.succ L;have d:=gp (m.getD (4+4*k) 0) b.1 b.2;generalize m.getD (4+4*k) 0=x at H u b d;clear c;go_wp2
     go_roundw
     case rel =>
      refine⟨k+1,_,by omega,by go_num,u.out,?_,GJ f _ _,?_⟩
      .exact(heap_setCell_other _ _ _ _ (by simp)).trans t
      .exact o.setCell (p:=⟨w.heap.size+1,4+4*k,none⟩) (by simp) _
     case measure=>simp[intOf];omega
    .have hki:¬ 4+4*(k:Int)<16:=by omega
     have V:Hid (k=3):=by unfold Hid;omega
     have s:m=DR l:=by have:=V.out;subst this;exact c.tg
     have s3:Sl wr (.slice (some ⟨w.heap.size+1,0,none⟩) 16 16) m:=by
      refine Sl.rowOf f N (by omega) ?_;rw[s];exact PJ n.out
     have X:Hid (m=DR l):=s;have G:Hid _:=s3;have O:w.heap.size<wr.heap.size:=(U'.1 t).1;clear c s3 s f;go_wp2_with fail
     refine(QM _ m _ G.out (by omega)).mono ?_;rintro e U ⟨r,rfl,P,vr,z⟩;have D:=(z.block w.heap.size O).trans t;have I:Bw w U:=o.trans (z.mono o.size);have g:=Dd P.1;go_wp2_with ((with_reducible (refine Ar ?_));(refine wpList_store_row rfl 284 _ _ rfl (w.heap.size) _ rfl rfl 284 _ D g (by rw[Aj,Aj,P.1];rfl) (BF r) ?_))
     exact bodyPost_ret (v:=.agg (Ai r)) (results_cell_row rfl _ _ (w.heap.size) 284 _ (0,0) _ rfl (setRow_heap U (w.heap.size) _ _ 284 _ D) underlying284 rfl g) rfl ⟨r,rfl,P,by rw[vr,X.out],Bk I (A' _) _⟩
def AL(v:Int)(i:Nat):Int:=v/256^i%256
theorem Gj(v:Int)(i:Nat):0<=AL v i/\AL v i<256:=by unfold AL;omega
def leB(n:Nat)(v:Int):List Int:=(List.range n).map (AL v)
theorem D5(n:Nat)(v:Int):(leB n v).length=n:=by simp[leB]
theorem I1(n:Nat)(v:Int):∀ x∈leB n v,0<=x/\x<256:=by
 intro x a;obtain⟨j,_,rfl⟩:=mQ.1 a;exact Gj v j
def FR(S:Nat->Int):Nat->Int
 | 0=>0
 | k+1=>FR S k+S k*256^k
def Ip(S:Nat->Int)(k:Nat):Int:=FR S k/256^k
theorem LJ(k:Nat):(0:Int)<256^k:=Int.pow_pos (by omega)
theorem Nt(S:Nat->Int):Ip S 0=0:=by simp[Ip,FR]
theorem Ns(S:Nat->Int)(k:Nat):Ip S (k+1)=(Ip S k+S k)/256:=by
 have a:=LJ k;unfold Ip;rw[FR,pS,<- pE (pN a),Int.add_mul_ediv_right _ _ (Int.ne_of_gt a)]
theorem R9(S:Nat->Int)(h:∀ j,0<=S j/\S j<1000)(k:Nat):0<=Ip S k/\Ip S k<256:=by
 induction k with
 | zero=>rw[Nt];omega
 | succ k ih=>rw[Ns];have:=h k;omega
theorem WB(S:Nat->Int)(k d:Nat):∃ Z,FR S (k+d)=FR S k+256^k*Z:=by
 induction d with
 | zero=>exact⟨0,by simp⟩
 | succ d ih =>
  obtain⟨Z,a⟩:=ih;refine⟨Z+S (k+d)*256^d,?_⟩;rw[<- nB,FR,a,pl]
  grind
theorem KT(v Z:Int)(n k:Nat)(h:k<n):AL (v+256^n*Z) k=AL v k:=by
 have a:=LJ k;obtain⟨d,rfl⟩:∃ d,n=k+(1+d):=⟨n-k-1,by omega⟩;unfold AL;rw[pl,pl,show(256:Int)^k*(256^1*256^d)*Z=256^k*(256*(256^d*Z))by grind,Int.add_mul_ediv_left _ _ (Int.ne_of_gt a)];omega
theorem Vh(S:Nat->Int)(n k:Nat)(h:k<n):(Ip S k+S k)%256=AL (FR S n) k:=by
 have b:=LJ k;obtain⟨d,rfl⟩:∃ d,n=(k+1)+d:=⟨n-(k+1),by omega⟩;obtain⟨Z,a⟩:=WB S (k+1) d;rw[a,KT _ _ _ _ (by omega),AL,FR,Int.add_mul_ediv_right _ _ (Int.ne_of_gt b)];rfl
theorem aB(S T:Nat->Int)(k:Nat):FR (λj=>S j+T j) k=FR S k+FR T k:=by
 induction k with
 | zero=>rfl
 | succ k ih=>simp only[FR,ih];grind
theorem aC(l:List Int)(k:Nat):FR (λj=>l.getD j 0) k=leP l k:=by
 induction k with
 | zero=>rfl
 | succ k ih=>simp only[FR,leP,ih]
theorem T7(v:Int)(n:Nat):∃ Z,v=FR (AL v) n+256^n*Z/\Z=v/256^n:=by
 induction n with
 | zero=>exact⟨v,by simp[FR],by simp⟩
 | succ n ih =>
  obtain⟨Z,b,a⟩:=ih;refine⟨Z/256,?_,?_⟩
  .rw[FR,AL,<- a,pS];have:Z=Z%256+256*(Z/256):=by omega
   grind
  .rw[a,pS,pE (pN (LJ n))]
theorem Xx(v:Int)(s:List Int)(k:Nat)(a:k<16)(b:s.length<=16) :
  (Ip (λj=>AL v j+s.getD j 0) k+(AL v k+s.getD k 0))%256=AL (v+leN s) k:=by
 rw[Vh (λj=>AL v j+s.getD j 0) 16 k a,aB (AL v) (λj=>s.getD j 0),aC,YF 16 b];obtain⟨Z,c,_⟩:=T7 v 16;have e:v+leN s=FR (AL v) 16+leN s+256^16*Z:=by omega
 rw[e,KT _ _ _ _ a]
def IL(v:Int)(k:Nat):List Int:=(List.range 16).map λj=>if j<k then AL v j else 0
theorem Rh(v:Int)(k:Nat):(IL v k).length=16:=by simp[IL]
theorem WH(v:Int):IL v 0=List.replicate 16 0:=rfl
theorem aK(v:Int):IL v 16=leB 16 v:=by
 unfold IL leB;refine qb λj a=>?_;rw[if_pos (om.1 a)]
theorem WG(v:Int)(k:Nat)(_hk:k<16):(IL v k).set k (AL v k)=IL v (k+1):=by
 apply oS (by simp[IL]);intro j a b;rw[oA];simp only[IL,List.getElem_map,List.getElem_range];by_cases e:k=j
 .subst e;rw[if_pos rfl,if_pos (by omega)]
 .rw[if_neg e];by_cases c:j<k
  .rw[if_pos c,if_pos (by omega)]
  .rw[if_neg c,if_neg (by omega)]
theorem SX(a b:Int)(k:Nat)(m:Int)(d:m=2^k)(g:0<=a)(c:a<m)(h:0<=b)(i:a+b*m<18446744073709551616):bits .or .u64 a (b*m)=a+b*m:=by
 obtain⟨x,rfl⟩:=mZ g;obtain⟨y,rfl⟩:=mZ h;have e:(y:Int)*m=((2^k*y:Nat):Int):=by rw[d,p8,oX,Int.mul_comm];rfl
 rw[e]at i ⊢
 have j:x<2^k:=by
  have:((x:Nat):Int)<((2^k:Nat):Int):=by rw[oX];rw[d]at c;exact c
  omega
 have f:=pa j y;rw[u64_or_nat _ _ (by omega) (by omega),Nat.or_comm,<- f];omega
theorem iW{a b:Int}(h:a=b):Ending.returned (.int .u8 a)=.returned (.int .u8 b):=by rw[h]
theorem R8(n:List Int)(i:Nat)(w:World)(o:Lim 67108864 n)(B:i<16) :
  Calls prog 206 #[.agg (Ai n),.int .i64 i] w λe w'=>e=.returned (.int .u8 (AL (val n) i))/\Bw w w':=by
 obtain⟨a,b,c,d,e,rfl,⟨q,r⟩,⟨s,t⟩,⟨u,v⟩,⟨x,y⟩,⟨z,A⟩⟩:=o.split;have f:(w.alloc (.cells (Ai [a,b,c,d,e]) 284 (0,0))).heap[w.heap.size]?=some (.cells (Ai [a,b,c,d,e]) 284 (0,0)):=heap_alloc_new _ _;have h:=(cell_of_row _ _ 0 _ _ _ f).trans (At _ 0 (by simp));have j:=(cell_of_row _ _ 1 _ _ _ f).trans (At _ 1 (by simp));have k:=(cell_of_row _ _ 2 _ _ _ f).trans (At _ 2 (by simp));have l:=(cell_of_row _ _ 3 _ _ _ f).trans (At _ 3 (by simp));have m:=(cell_of_row _ _ 4 _ _ _ f).trans (At _ 4 (by simp));simp only[m6,nh]at h j k l m;have g:Hid (val [a,b,c,d,e]=a+67108864*b+4503599627370496*c+302231454903657293676544*d+20282409603651670423947251286016*e):=Dy a b c d e;generalize Ai [a,b,c,d,e]=arr at h j k l m ⊢;generalize val [a,b,c,d,e]=V at g ⊢;clear o f;obtain rfl|rfl|rfl|rfl|rfl|rfl|rfl|rfl|rfl|rfl|rfl|rfl|rfl|rfl|rfl|rfl:i=0\/i=1\/i=2\/i=3\/i=4\/i=5\/i=6\/i=7\/i=8\/i=9\/i=10\/i=11\/i=12\/i=13\/i=14\/i=15:=by omega
 all_goals
  go_enter func206,ntmps206
  go_wp2
  go_ret;refine⟨iW ?_,(Below.refl _ _).alloc (A' _) _⟩;have p:=g.out;clear g h j k l m;unfold AL
  first
   | rw[SX _ _ 2 4 rfl (by omega) (by omega) (by omega) (by omega)]
   | rw[SX _ _ 4 16 rfl (by omega) (by omega) (by omega) (by omega)]
   | rw[SX _ _ 6 64 rfl (by omega) (by omega) (by omega) (by omega)]
   | skip
  subst p;simp only[Int.reducePow];omega
theorem Nf{d:Nat}{K:Act->World->Prop}(R:World->Prop){A:Act}(c:∀ K':Act->World->Prop,Hid (∀ W2,R W2->K' A W2)->(Code.region d ops true).wp P (Exit.then K' Q) a w)(b:∀ W2,R W2->K A W2):(Code.region d ops true).wp P (Exit.then K Q) a w:=c K b
theorem Pw(nl:List Int)(v:Value)(s:List Int)(w:World)(h:Sl w v s)(Z:s.length=16)(hn:Lim 67108864 nl) :
  Calls prog 195 #[.agg (Ai nl),v] w λe w'=>∃ v',e=.returned v'/\Sl w' v' (leB 16 (val nl+leN s))/\Bw w w':=by
 obtain⟨⟨a,a3,rfl,hc,a1,O⟩,a0,r⟩:=h;rcases O with rfl|⟨B,off,rfl,hB,hcell⟩
 .simp at Z
 have HC:Hid (∀ i,i<16->w.cell? ⟨B,off+i,none⟩=some (.int .u8 (s.getD i 0))):=λi hi=>hcell i (by omega);have n:Hid (∀ x∈s,0<=x/\x<256):=r;have o:Hid (s.length=16):=Z;rw[Z]at hc ⊢
 clear hcell r a1 a0;obtain⟨J,K,L,M,N,rfl,_⟩:=hn.split;obtain⟨V,X⟩:∃ V,val [J,K,L,M,N]=V:=⟨_,rfl⟩;have HV:Hid (val [J,K,L,M,N]=V):=X;rw[X];clear X;obtain⟨i0,z,A,C,D⟩:=info_parts Aw;go_enter func195,ntmps195
 go_wp2_with (at_make;refine wpList_make_row _ rfl _ _ 52 rfl 5 i0 (.int .u8 0) underlying52 z A C rfl _ _ 16 rfl rfl (by rw[D];omega) (by omega) ?_)
 clear z A C D
 go_loopw [6,11] (λcv i wr=>∃ (k:Nat),k<=16/\i=.int .i64 k/\cv=.int .i64 (Ip (λj=>AL V j+s.getD j 0) k)/\wr.heap[w.heap.size]?=some (.cells (Ai [J,K,L,M,N]) 284 (0,0))/\wr.heap[w.heap.size+1]?=some (.cells (byA (IL (V+leN s) k)) 5 (0,0))/\Bw w wr) (λ_ i _=>16-(intOf i).toNat)
 case atStart =>
  refine⟨0,by omega,rfl,by rw[Nt],?_,?_,?_⟩
  .exact heap_alloc2_old _ _ _
  .have e:madeCells #[Value.int .u8 0] 16=byA (IL (V+leN s) 0):=by rw[WH];kernel_rfl
   rw[e];exact heap_alloc2_new _ _ _
  .exact((Below.refl _ _).alloc (A' _) _).alloc (by simp) _
 case round =>
  obtain⟨k,hk,rfl,rfl,f,g,P⟩:=hrel;by_cases b:k<16
  .have hki:(k:Int)<16:=by omega
   have E:=(cell_of_row _ _ 0 _ _ _ f).trans (At _ 0 (by simp));have F:=(cell_of_row _ _ 1 _ _ _ f).trans (At _ 1 (by simp));have G:=(cell_of_row _ _ 2 _ _ _ f).trans (At _ 2 (by simp));have H:=(cell_of_row _ _ 3 _ _ _ f).trans (At _ 3 (by simp));have I:=(cell_of_row _ _ 4 _ _ _ f).trans (At _ 4 (by simp));simp only[m6,nh]at E F G H I;have a2:w.heap.size+1<wr.heap.size:=(U'.1 g).1;have U:B<wr.heap.size:=by omega
   have ch:=(P.cell (p:=⟨B,off+k,none⟩) hB).trans (HC.out k b);have t:∀ j,0<=AL V j+s.getD j 0/\AL V j+s.getD j 0<1000:=λj=>by
    have R:=Gj V j;have S:=Al n.out j;omega
   have u:=R9 (λj=>AL V j+s.getD j 0) t k;have d:Hid (Ip (λj=>AL V j+s.getD j 0) (k+1)=(Ip (λj=>AL V j+s.getD j 0) k+(AL V k+s.getD k 0))/256):=Ns _ k;have c:Hid ((Ip (λj=>AL V j+s.getD j 0) k+(AL V k+s.getD k 0))%256=AL (V+leN s) k):=Xx V s k b (by rw[o.out];omega);have R:=Gj V k;have S:=Al n.out k;have l:=R8 [J,K,L,M,N] k;rw[HV.out]at l
   have m:Hid (∀ W,Calls prog 206 #[.agg (Ai [J,K,L,M,N]),.int .i64 k] W λe w'=>e=.returned (.int .u8 (AL V k))/\Bw W w'):=λW=>l W hn b;have HT:Hid _:=g;have HR:Hid _:=f;have HB:Hid _:=P;clear l t g f P;have a5:=Rh (V+leN s) k;have Q:Hid ((IL (V+leN s) k).set k (AL (V+leN s) k)=IL (V+leN s) (k+1)):=WG _ k b;generalize Ip (λj=>AL V j+s.getD j 0) k=cy at d c u;generalize AL V k=x at d c R m;generalize s.getD k 0=y at d c S ch;obtain⟨x1,x2⟩:=R;obtain⟨y1,y2⟩:=S;obtain⟨z1,z2⟩:=u;go_wp2_with fail
   apply Nf (λW=>Bw wr W)
   .intro K2 HK2
    go_region_with (go_at_call 206;refine(m.out _).mono ?_;rintro e w2 ⟨rfl,q⟩;have a4:=(q.cell (p:=⟨B,off+k,none⟩) U).trans ch)
    all_goals exact HK2.out _ ((Below.refl _ _).drew.trans q)
   intro W Y;have g:=(Y.block _ a2).trans HT.out;have f:=(Y.block _ (by omega)).trans HR.out;have ct:=(cell_of_row _ _ k _ _ _ g).trans (Io _ k (by omega));have ft:=frozen_of_row _ _ k _ _ g;have T:Bw w W:=HB.out.trans (Y.mono HB.out.size);clear E F G H I ch;generalize (IL (V+leN s) k).getD k 0=c0 at ct;go_wp2
   go_roundw
   case rel =>
    refine⟨k+1,by omega,by go_num,?_,?_,?_,?_⟩
    .rw[d.out]
    .exact(heap_setCell_other _ _ _ _ (by simp)).trans f
    .have O:=GJ g k (AL (V+leN s) k);rw[Q.out,<- c.out]at O
     exact O
    .exact T.setCell (p:=⟨w.heap.size+1,k,none⟩) (by simp) _
   case measure=>simp[intOf];omega
  .have hki:¬ (k:Int)<16:=by omega
   have HK:Hid (k=16):=by unfold Hid;omega
   go_wp2
   go_ret;have hK:=HK.out;subst hK;rw[aK]at g
   exact⟨_,rfl,Sl.rowOf g (D5 _ _) (by rw[D5];omega) (I1 _ _),P⟩
def WE(key data:List Int):List Int:=leB 16 (gf (leN (DR (key.take 16))) data+leN (key.drop 16))
theorem Rf(key a:List Int):(WE key a).length=16:=D5 _ _
theorem WF(key a:List Int):∀ x∈WE key a,0<=x/\x<256:=I1 _ _
theorem Sl.sq{v:Value}(h:Sl w v l):∃ a c,v=.slice a l.length c:=by
 obtain⟨⟨a,b,e,_⟩,_⟩:=h;exact⟨a,b,e⟩
theorem jm(r q:Value)(key a:List Int)(w:World)(g:Sl w r key)(m:Sl w q a)(lk:key.length=32)(B:a.length<=4000) :
  Calls prog 186 #[r,q] w λe w'=>∃ v',e=.returned (.tuple #[v',.int .i64 0])/\Sl w' v' (WE key a)/\Bw w w':=by
 obtain⟨k,l,rfl⟩:=g.sq;obtain⟨ad,K,rfl⟩:=m.sq;rw[lk]at g ⊢
 obtain⟨s,u,c,o⟩:=g.ra 16 (by omega);obtain⟨t,v,d,p⟩:=g.from 16 (by omega);have x:∀ W,(Instr.slice 52 (.slice k 32 l) none (some (.int .i64 16)) none).run prog W=.ok (.slice s 16 u) W:=c;have y:∀ W,(Instr.slice 52 (.slice k 32 l) (some (.int .i64 16)) none none).run prog W=.ok (.slice t 16 v) W:=d;clear c d;have lt:(key.take 16).length=16:=by rw[X'];omega
 have n:(key.drop 16).length=16:=by rw[mF];omega
 have C:¬ (4000:Int)<(a.length:Int):=by omega
 have h:Hid (WE key a=leB 16 (gf (leN (DR (key.take 16))) a+leN (key.drop 16))):=rfl;generalize key.take 16=K1 at o lt h;generalize key.drop 16=K2 at p n h;clear g lk;have j:Hid (a.length<=4000):=B;go_enter func186,ntmps186
 go_wp2_with fail
 go_region_with (first
  | (go_at_call 197;refine(Se _ K1 _ (o.af ((Below.refl _ _).drew)) lt).mono ?_;rintro e L ⟨E,rfl,z,G,b⟩)
  | (go_at_call 196;refine(OP E (leN (DR K1)) _ a _ (m.af ((Below.refl _ _).drew.trans b)) j.out z G).mono ?_;rintro e J ⟨D,rfl,A,H,f⟩)
  | (go_at_call 195;refine(Pw D _ K2 _ (p.af (((Below.refl _ _).drew.trans b).trans (f.mono b.size))) n A).mono ?_;rintro e M ⟨I,rfl,F,i⟩))
 all_goals
  go_wp2
  go_ret2
  refine⟨I,rfl,?_,?_⟩
  .rw[h.out,<- H];exact F
  .have b3:Bw w J:=((Below.refl _ _).drew.trans b).trans (f.mono b.size);exact b3.trans (i.mono b3.size)
def gap(n:Nat):Nat:=(16-n%16)%16
def E9(l:List Int):List Int:=l++List.replicate (gap l.length) 0
theorem EH(l:List Int):(E9 l).length=l.length+gap l.length:=by rw[E9,H',nR]
theorem H5(n:Nat):gap n<16:=by unfold gap;omega
theorem Uk(n:Nat):(n+gap n)%16=0:=by unfold gap;omega
theorem V0(n j:Nat)(h:j<gap n):¬ (n+j)%16=0:=by unfold gap at h;omega
theorem cS(n m:Nat)(h:n%16=0):gap (n+m)=gap m:=by unfold gap;omega
theorem NW(h:∀ x∈l,0<=x/\x<256):∀ x∈E9 l,0<=x/\x<256:=by
 intro x a;rcases P'.1 a with h1|h1
 .exact h x h1
 .rw[(pu.1 h1).2];omega
theorem Zm(a s:List Int):E9 (E9 a++s)=E9 a++E9 s:=by
 have h:(E9 a).length%16=0:=by rw[EH];exact Uk _
 rw[E9,H',cS _ _ h,mA];rfl
theorem YE(k:Nat)(v:Int):leB (k+1) v=leB k v++[AL v k]:=by
 simp[leB,List.range_succ]
def Gu(a s:List Int):List Int:=E9 a++E9 s++leB 8 (a.length:Int)++leB 8 (s.length:Int)
theorem I0(a s:List Int):(Gu a s).length=a.length+gap a.length+(s.length+gap s.length)+8+8:=by
 simp only[Gu,H',EH,D5]
theorem S8{a s:List Int}(b:∀ x∈a,0<=x/\x<256)(c:∀ x∈s,0<=x/\x<256):∀ x∈Gu a s,0<=x/\x<256:=by
 intro x hx;rcases P'.1 hx with hx|hx
 .rcases P'.1 hx with hx|hx
  .rcases P'.1 hx with hx|hx
   .exact NW b x hx
   .exact NW c x hx
  .exact I1 _ _ x hx
 .exact I1 _ _ x hx
def E4(key nonce a s:List Int):List Int:=WE ((CI (BZ key (BitVec.ofNat 32 0) nonce)).take 32) (Gu a s)
theorem IK(key b a s:List Int):(E4 key b a s).length=16:=Rf _ _
theorem Md(key b a s:List Int):∀ x∈E4 key b a s,0<=x/\x<256:=WF _ _
def EN(key nonce p:List Int):List Int:=Qt (BZ key (BitVec.ofNat 32 1) nonce) p
theorem FP(key a p:List Int):(EN key a p).length=p.length:=Qu _ _
def G7(key nonce a p:List Int):List Int:=EN key nonce p++E4 key nonce a (EN key nonce p)
theorem Po(key b a p:List Int):(G7 key b a p).length=p.length+16:=by
 rw[G7,H',FP,IK]
theorem JZ(v:Value)(l:List Int)(B:Nat)(w:World)(p:w.ownsRow B 5 1 v l.length (l.map (Value.int .u8)))(E:B<=w.heap.size)(J:l.length<=100000) :
  Calls prog 198 #[v] w λe w'=>∃ v',e=.returned v'/\w'.ownsRow B 5 1 v' (E9 l).length ((E9 l).map (Value.int .u8))/\Below B w w':=by
 have r:Hid (E9 l=l++List.replicate (gap l.length) 0):=rfl;have F:=H5 l.length;have s:Hid (∀ j,j<gap l.length->¬ (l.length+j)%16=0):=λj x=>V0 _ _ x;have q:Hid ((l.length+gap l.length)%16=0):=Uk _;obtain⟨a0,A,rfl⟩:=EG p;generalize gap l.length=G at r F s q;go_enter func198,ntmps198
 go_wp2_with fail
 go_loopw [0] (λv wr=>∃ (j:Nat) (a:Option Addr) (f:Nat),j<=G/\v=.slice a (l.length+j) f/\wr.ownsRow B 5 1 v (l++List.replicate j 0).length ((l++List.replicate j 0).map (Value.int .u8))/\Below B w wr) (λv _=>l.length+G-YI v)
 case atStart=>exact⟨0,a0,A,by omega,rfl,by simpa using p,Below.refl _ _⟩
 case round =>
  clear p;obtain⟨j,a,f,x,rfl,b,d⟩:=hrel;have h:=b.lt;by_cases o:j<G
  .have t:=s.out j o;have u:¬ ((l.length:Int)+j)%16=0:=by omega
   go_wp2_with (at_builtin;refine Aa _ rfl _ _ 52 rfl B 5 underlying52 Aw _ _ rfl rfl (l++List.replicate j 0) [0] (b.alloc _) (Sl.one _ _ _ rfl (by omega)) (by simp;omega) (by have:=d.size;simp;omega) ?_)
   intro I y i g;have c:y.ownsRow B 5 1 I (l++List.replicate (j+1) 0).length ((l++List.replicate (j+1) 0).map (Value.int .u8)):=by rw[<- LW];simpa using i
   have n:Below B w y:=(d.alloc (my E d.size) _).grown g (by have:=d.size;simp;omega) (λk H=>(h k H).1);obtain⟨z,C,m⟩:=EG c;rw[H',nR]at m
   subst m;clear i g b h d t u;go_wp2
   go_roundw
   case rel=>exact⟨j+1,z,C,by omega,rfl,c,n⟩
   case measure=>simp[YI];omega
  .have HJ:Hid (G=j):=by unfold Hid;omega
   have D:=q.out;have t:((l.length:Int)+j)%16=0:=by have:=HJ.out;omega
   have u:(((l.length:Int)+j)%16 != 0)=false:=by simp;omega
   clear D;go_wp2
   go_ret;refine⟨_,rfl,?_,d⟩;rw[r.out,HJ.out];exact b
theorem GE(v:Value)(l:List Int)(n:Nat)(B:Nat)(w:World)(r:w.ownsRow B 5 1 v l.length (l.map (Value.int .u8)))(A:B<=w.heap.size)(G:l.length<=100000)(H:n<=100000) :
  Calls prog 199 #[v,.int .i64 n] w λe w'=>∃ v',e=.returned v'/\w'.ownsRow B 5 1 v' (l++leB 8 (n:Int)).length ((l++leB 8 (n:Int)).map (Value.int .u8))/\Below B w w':=by
 go_enter func199,ntmps199
 go_wp2_with fail
 go_loopw [0,1,5] (λv s i wr=>∃ k:Nat,k<=8/\i=.int .i64 k/\s=.int .i64 ((n:Int)/256^k)/\wr.ownsRow B 5 1 v (l++leB k (n:Int)).length ((l++leB k (n:Int)).map (Value.int .u8))/\Below B w wr) (λ_ _ i _=>8-(intOf i).toNat)
 case atStart=>exact⟨0,by omega,rfl,by simp,by simpa[leB]using r,Below.refl _ _⟩
 case round =>
  clear r;obtain⟨k,q,rfl,rfl,a,c⟩:=hrel;have h:=a.lt;by_cases C:k<8
  .have hki:(k:Int)<8:=by omega
   obtain⟨x,d⟩:∃ x:Int,(n:Int)/256^k=x:=⟨_,rfl⟩;have t:(0:Int)<256^k:=LJ k;have D:0<=x:=by rw[<- d];exact Int.ediv_nonneg (by omega) (by omega)
   have E:x<=100000:=by rw[<- d];have:=Int.ediv_le_self (256^k) (show(0:Int)<=n by omega);omega
   have z:Hid ((n:Int)/256^(k+1)=x/256):=by unfold Hid;rw[pS,<- pE (pN t),d]
   have b:Hid (x%256=AL n k):=by unfold Hid AL;rw[d]
   have g:=D5 k (n:Int);have o:Hid (leB (k+1) (n:Int)=leB k n++[AL n k]):=YE k _;rw[d];clear d t;generalize leB k (n:Int)=pre at a o g;generalize AL (n:Int) k=y at b o;go_wp2_with (at_builtin;refine Aa _ rfl _ _ 52 rfl B 5 underlying52 Aw _ _ rfl rfl (l++pre) [y] (a.alloc _) (Sl.sR _ _ _ _ rfl ?_ ?_) (by simp;omega) (by have:=c.size;simp;omega) ?_)
   .have:=b.out;omega
   .have:=b.out;omega
   intro F u j f;have m:u.ownsRow B 5 1 F (l++(pre++[y])).length ((l++(pre++[y])).map (Value.int .u8)):=by rw[<- mA];simpa[g]using j
   have p:Below B w u:=(c.alloc (my A c.size) _).grown f (by have:=c.size;simp;omega) (λk q=>(h k q).1);clear j f a h c;go_wp2
   go_roundw
   case rel=>exact⟨k+1,by omega,by go_num,by rw[z.out],by rw[o.out];exact m,p⟩
   case measure=>simp[intOf];omega
  .obtain rfl:k=8:=by omega
   go_wp2
   go_ret;exact⟨_,rfl,a,c⟩
theorem YB(O P:Value)(a s:List Int)(w:World)(z:Sl w O a)(B:Sl w P s)(U:a.length<=10000)(V:s.length<=10000) :
  Calls prog 187 #[O,P] w λe w'=>∃ v',e=.returned v'/\Sl w' v' (Gu a s)/\Bw w w':=by
 have f:Hid (Gu a s=E9 (E9 a++s)++leB 8 (a.length:Int)++leB 8 (s.length:Int)):=by unfold Hid;rw[Zm];rfl
 have R:Hid (∀ x∈Gu a s,0<=x/\x<256):=S8 z.byte B.byte;have Q:Hid ((Gu a s).length<=30000):=by unfold Hid;rw[I0];have:=H5 a.length;have:=H5 s.length;omega
 have H:(E9 a).length<=11000:=by rw[EH];have:=H5 a.length;omega
 have i:(E9 (E9 a++s)).length<=30000:=by rw[EH,H'];have:=H5 ((E9 a).length+s.length);omega
 obtain⟨aa,ca,rfl⟩:=z.shape;obtain⟨S,cs,rfl⟩:=B.shape;generalize L:a.length=n at U f z ⊢;generalize K:s.length=m at V f B ⊢;have l:Hid (a.length=n):=L;have j:Hid (s.length=m):=K;clear L K;go_enter func187,ntmps187
 go_wp2_with (at_builtin;refine Aa _ rfl _ _ 52 rfl w.heap.size 5 underlying52 Aw _ _ rfl rfl [] a (World.ownsRow_nil _ _ _ _) z (by have:=l.out;simp;omega) (A' _) ?_)
 intro M I c p;have C:Bw w I:=(Below.refl _ _).grown p (A' _) (by simp[Value.ownBlock]);replace c:I.ownsRow w.heap.size 5 1 M a.length (a.map (Value.int .u8)):=by simpa using c
 clear p;go_wp2_with fail
 refine(JZ M a w.heap.size I c C.size (by have:=l.out;omega)).mono ?_;rintro e w2 ⟨v2,rfl,d,g⟩;replace g:=C.trans g;clear c C;have v:=B.af g;have r:=d.lt;generalize E9 a=A at f H i d;go_wp2_with (at_builtin;refine Aa _ rfl _ _ 52 rfl w.heap.size 5 underlying52 Aw _ _ rfl rfl A s d v (by have:=j.out;omega) g.size ?_)
 intro N J b q;have D:Bw w J:=g.grown q g.size (λk T=>(r k T).1);clear q r d g v;replace b:J.ownsRow w.heap.size 5 1 N (A++s).length ((A++s).map (Value.int .u8)):=by simpa using b
 have F:(A++s).length<=21000:=by rw[H'];have:=j.out;omega
 generalize A++s=AS at f i b F;go_wp2_with fail
 refine(JZ N AS w.heap.size J b D.size (by omega)).mono ?_;rintro e Z ⟨W,rfl,h,o⟩;replace o:=D.trans o;clear b D;generalize E9 AS=X at f i h;go_wp2_with fail
 refine(GE W X n w.heap.size Z h o.size (by omega) (by omega)).mono ?_;rintro e w5 ⟨Y,rfl,t,y⟩;replace y:=o.trans y;have G:(X++leB 8 (n:Int)).length<=30008:=by rw[H',D5];omega
 clear h o;generalize X++leB 8 (n:Int)=X5 at f G t;go_wp2_with fail
 refine(GE Y X5 m w.heap.size w5 t y.size (by omega) (by omega)).mono ?_;rintro e w6 ⟨v6,rfl,u,E⟩;replace E:=y.trans E;rw[<- f.out]at u
 go_wp2
 go_ret;exact⟨_,rfl,Sl.nn u (by have:=Q.out;omega) R.out,E⟩
def Hc(key nonce a:List Int):Bool:=decide (key.length=32)&&decide (nonce.length=12)&&decide (a.length<=256)
theorem GQ(h i g:Value)(key b a:List Int)(w:World)(d:Sl w h key)(f:Sl w i b)(c:Sl w g a) :
  Calls prog 161 #[h,i,g] w λe w'=>e=.returned (.bool (Hc key b a))/\w'=w:=by
 have j:=d.len;have k:=f.len;have l:=c.len;obtain⟨n,r,rfl⟩:=d.shape;obtain⟨o,s,rfl⟩:=f.shape;obtain⟨m,q,rfl⟩:=c.shape;unfold Hc;generalize key.length=n1 at j d ⊢;generalize b.length=n2 at k f ⊢;generalize a.length=n3 at l c ⊢;clear d f c;by_cases p:(n1:Int)=32
 .by_cases c2:(n2:Int)=12
  .by_cases c3:(n3:Int)<=256
   .go_enter func161,ntmps161
    go_wp2
    go_ret;refine⟨Ax ?_,rfl⟩;simp;omega
   .go_enter func161,ntmps161
    go_wp2
    go_ret;refine⟨Ax ?_,rfl⟩;simp;omega
  .go_enter func161,ntmps161
   go_wp2
   go_ret;refine⟨Ax ?_,rfl⟩;simp;omega
 .go_enter func161,ntmps161
  go_wp2
  go_ret;refine⟨Ax ?_,rfl⟩;simp;omega
end
end
end Go.Proofs.YtcjcngceghfoeaaGreatDoor
