/- Part 17 of the walk. -/
import Derived.LoopN
import Derived.Test.YtalbmmghmoggcabGreatDoorZ16
set_option maxRecDepth 100000
set_option maxHeartbeats 4000000
open Go.Proofs.Tryz
set_option linter.unusedVariables false
namespace Go.Proofs.YtalbmmghmoggcabGreatDoor
open Go.RowKit
section
variable{P:Program}{fn:Func}{R:Ending->World->Prop}{B:Nat}{T:List Tg}{g:Gh}{w:World}
theorem Zt{s:Xs}(k n:Nat)(e0:List (Nat × Value))(m:List Bool)(L0:List Sh)(hl:PT s.K=true)(hn:s.f.n=n)(he:e0.map (λp=>lk s.f.z s.f.e p.1)=e0.map (·.2))(hL:Bj (AB m s.L)=L0)
  (h:∀ J:Nat->Act->World->Prop,(∀ (m:Nat) (e:List (Nat × Value)) (z:Nat->Value) (L:List Sh) (g:Gh) (w:World),GG P fn R B T (YA s n (J m) e z L) g w->Kn B g w L->J (m+1) (⟨n,e,z⟩:Fm).act w)->∀ z,GG P fn R B T (YA s n (J k) e0 z L0) g w):GG P fn R B T s g w:=by
 refine gFm e0 he λz=>?_;obtain⟨K,f,L⟩:=s;simp only at hn;subst hn;have hL':Bj (AB m L)=L0:=hL;have hc:GG P fn R B T ⟨K,⟨f.n,e0,z⟩,Bj (AB m L)⟩ g w->GG P fn R B T ⟨K,⟨f.n,e0,z⟩,L⟩ g w:=λh=>⟨λhK=>h.ex (hK.sub (CF m L)).clr⟩;refine hc ?_;rw[hL'];cases K with
 | nil=>cases hl
 | cons t K =>
  cases t with
  | c x =>
   cases x with
   | loop b =>
    refine⟨λhK=>?_⟩;exact wp_loop_rounds (k+1) ((h (Code.rounds P b (Kq P (bodyPost P fn R) K)) (λm e z L g w hG hK=>hG.ex hK) z).ex hK)
   | _=>cases hl
  | _=>cases hl
end
section
variable{W w w0:World}{b1 b2 i nb ob:Nat}{d:List Int}{g:Gh}{ls:List Let}{p:Nod}{s:Int}{ts:List Tol}{vs:List Value}{x:S3}
theorem Lc{v:Vt}(h:NS i nb ob g w p ls ts)(hB:Base w0 g w)(hT:Tabs w0)(hi:i<5)(hb:ls.length<90000000)(h1:Box g w b1 #[pt nb 0] 68)(h2:Box g w b2 #[iv v.slot,iv v.b.r,iv v.b.n,iv v.w.k,iv v.w.c,iv v.w.s,iv v.w.n,iv v.w.v] 138)(hba:p.agreed.length<=40) :
  Calls prog 103 #[pt b1 0,pt b2 0] w (NP i nb ob g w (.tuple #[]) (p.count i v) (ls++BI i { Ca 3 with vote:=v } 5) ts):=by
 obtain⟨x,lt,tl,hN,hO,hg⟩:=h;refine gI (fn:=f103) (TN i) g func103 hg ?_;refine qN hN ?_;refine qO hO ?_;refine BF ⟨b1,.cells #[pt nb 0] 68,.z,false⟩ (λ_=>⟨h1.r,h1.z,λh=>(by cases h),λh=>absurd rfl h⟩) (by kernel_rfl) ?_;refine BF ⟨b2,.cells #[iv v.slot,iv v.b.r,iv v.b.n,iv v.w.k,iv v.w.c,iv v.w.s,iv v.w.n,iv v.w.v] 138,.z,false⟩ (λ_=>⟨h2.r,h2.z,λh=>(by cases h),λh=>absurd rfl h⟩) (by kernel_rfl) ?_;refine qR [] 8 [6,0,2,2,2,4,6,8,0,10,3] λs1 g1 w1 c1=>?_;refine qS 6 [false,false,true,true] hN hO c1 (λN2=>Lv N2 (hB.ch (c1.nil (TN i)) (AW i)) hT i hi v hba) λg2 w2 x2 lt2 tl2 hN2 hO2 c2=>?_;refine qR [] 5 [0,1] λs4 g4 w4 c4=>?_;refine qS 3 [true,true,false,false] hN2 hO2 c4 (λN5=>Dz N5 hb { Ca 3 with vote:=v } s30 s30 ⟨Sv.nil _,λh=>absurd rfl h⟩ (Rc.nil _ _)) λg5 w5 x5 lt5 tl5 hN5 hO5 c5=>?_;refine qR [] 1 [] λs7 g7 w7 c7=>?_;exact qF hN5 hO5 c7 (((((c1.nil (TN i)).trans (c2)).n c4).trans (c5)).n c7)
theorem Qa{b:Bal}{vs:List Vt}{x3:S3}(h:NS i nb ob g w p ls ts)(hB:Base w0 g w)(hT:Tabs w0)(hi:i<5)(hb:ls.length<90000000){b3:Nat}(h1:Box g w b1 #[pt nb 0] 68)(h2:Box g w b2 #[iv b.r,iv b.n] 73)(h3:Box g w b3 #[S3.v x3] 74)(hv:FSv g w x3 vs)(hb3:(p.rnd.heard i).vs.length<100000000) :
  Calls prog 55 #[pt b1 0,pt b2 0,pt b3 0] w (NP i nb ob g w (.tuple #[]) (if p.vo.p≠b then p else{ p with rnd:=p.rnd.hear i vs }) (if p.vo.p≠b then ls else(ls++BI i { Ca 0 with bal:=b } 5)) ts):=by
 obtain⟨x,lt,tl,hN,hO,hg⟩:=h;refine gI (fn:=f55) (TN i) g func55 hg ?_;refine qN hN ?_;refine qO hO ?_;refine BF ⟨b1,.cells #[pt nb 0] 68,.z,false⟩ (λ_=>⟨h1.r,h1.z,λh=>(by cases h),λh=>absurd rfl h⟩) (by kernel_rfl) ?_;refine BF ⟨b2,.cells #[iv b.r,iv b.n] 73,.z,false⟩ (λ_=>⟨h2.r,h2.z,λh=>(by cases h),λh=>absurd rfl h⟩) (by kernel_rfl) ?_;refine BF ⟨b3,.cells #[S3.v x3] 74,.z,false⟩ (λ_=>⟨h3.r,h3.z,λh=>(by cases h),λh=>absurd rfl h⟩) (by kernel_rfl) ?_;refine qR [] 10 [8,0,2,2,4,6,8,10,0,12,3] λs1 g1 w1 c1=>?_;by_cases h1:p.vo.p≠b
 .refine qT 7 (.bool true) (λ_=>(LR (x:=(.tmp 8)) (y:=(.tmp 9)) p.vo.p b h1)) ?_;refine qR [] 2 [] λs2 g2 w2 c2=>?_;rw[if_pos h1,if_pos h1];exact qF hN hO (c1.n c2) ((c1.nil (TN i)).n c2)
 .have h10:p.vo.p=b:=by simpa using h1
  refine qT 7 (.bool false) (λ_=>(LQ (x:=(.tmp 8)) (y:=(.tmp 9)) p.vo.p b h10)) ?_;rw[if_neg h1,if_neg h1];refine qR [] 14 [9,0,2,2,4,6,8,2,10,12,14,0,16,4] λs4 g4 w4 c4=>?_;refine qS 9 [false,false,true,true,true] hN hO (c1.n c4) (λN5=>NQ N5 (hB.ch ((c1.nil (TN i)).n c4) (AW i)) hT i hi vs x3 (hv.ch ((c1.nil (TN i)).n c4) (AW i)) hb3) λg5 w5 x5 lt5 tl5 hN5 hO5 c5=>?_;refine qR [] 5 [0,1] λs7 g7 w7 c7=>?_;refine qS 3 [true,true,true,false,false] hN5 hO5 c7 (λN8=>Dz N8 hb { Ca 0 with bal:=b } s30 s30 ⟨Sv.nil _,λh=>absurd rfl h⟩ (Rc.nil _ _)) λg8 w8 x8 lt8 tl8 hN8 hO8 c8=>?_;refine qR [] 1 [] λs10 g10 w10 c10=>?_;exact qF hN8 hO8 c10 ((((((c1.nil (TN i)).n c4).trans (c5)).n c7).trans (c8)).n c10)
def Nod.runP(p:Nod)(i:Nat):Pend->Nod
 | .began b vs=>if p.vo.p≠b then p else{ p with rnd:=p.rnd.hear i vs }
 | .prop v=>p.count i v
 | _=>p
def Nod.sentP(p:Nod)(i:Nat):Pend->List Let
 | .began b vs=>if p.vo.p≠b then[]else BI i { Ca 0 with bal:=b } 5
 | .prom to b vs=>[{ Ca 1 with bal:=b,votes:=vs,what:=p.agreed,src:=i,dst:=to }]
 | .voted to v=>[{ Ca 4 with vote:=v,src:=i,dst:=to }]
 | .refuse to b=>[{ Ca 2 with bal:=b,src:=i,dst:=to }]
 | .prop v=>BI i { Ca 3 with vote:=v } 5
 | .askNews to=>[{ Ca 6 with slot:=p.agreed.length,src:=i,dst:=to }]
 | .start=>BI i (Ca 6) 5
 | .tell to slot=>[{ Ca 5 with src:=i,dst:=to,slot:=slot,what:=p.agreed.drop slot }]
def Pg(p:Nod)(i:Nat):Pend->Prop
 | .began _ _=>(p.rnd.heard i).vs.length<100000000
 | .prop _=>p.agreed.length<=40
 | .tell _ slot=>slot<=p.agreed.length
 | _=>True
theorem Zq{P:Program}{s:Xs}{S:Sem Next}{r:Result Next}(h:CK s i=some S)(hr:S.run P W=r):CA P s i W=some r:=by
 unfold CA;unfold CK at h;cases hx:opN s i with
 | none=>rw[hx]at h;cases h
 | some x =>
  rw[hx]at h
  simp only[gb,U']at h ⊢;rw[h,hr]
theorem FD(h:NS i nb ob g w p ls ts)(hB:Base w0 g w)(hT:Tabs w0)(hi:i<5)(hb:ls.length<90000000){v:Value}(q:Pend)(hq:Pg p i q)(hv:J0 g w nb v q) :
  ∃ (F:FuncId) (cs:Array Value),v=.func (.func F) #[] cs/\(∀ W,(Go.callFunc F (#[]++cs)).run prog W=.ok (.enter F cs) W)/\Calls prog F cs w (NP i nb ob g w (.tuple #[]) (p.runP i q) (ls++p.sentP i q) ts):=by
 cases q with
 | began b vs =>
  obtain⟨b1,b2,b3,x,e,h1,h2,h3,h4⟩:=hv;refine⟨_,_,e,λW=>by kernel_rfl,?_⟩;have:=Qa h hB hT hi hb h1 h2 h3 h4 hq;unfold Nod.runP Nod.sentP;by_cases hx:p.vo.p≠b
  .rw[if_pos hx,if_pos hx]at this;simp only[if_pos hx,fZ];exact this
  .rw[if_neg hx,if_neg hx]at this;simp only[if_neg hx];exact this
 | prom to b vs =>
  obtain⟨b1,b2,b3,x,lb,l,e,h1,h2,h3,h4,h5,rfl,rfl⟩:=hv;exact⟨_,_,e,λW=>(by kernel_rfl),FK h hb h1 h2 h3 h5 h4⟩
 | voted to u =>
  obtain⟨b1,b2,lb,l,e,h1,h2,h3,rfl,rfl⟩:=hv;exact⟨_,_,e,λW=>(by kernel_rfl),Gw (b3:=0) h hb h1 h2 h3⟩
 | refuse to b =>
  obtain⟨b1,b2,b3,e,h1,h2,h3⟩:=hv;exact⟨_,_,e,λW=>(by kernel_rfl),ME h hb h1 h2 h3⟩
 | prop u =>
  obtain⟨b1,b2,e,h1,h2⟩:=hv;exact⟨_,_,e,λW=>(by kernel_rfl),Lc h hB hT hi hb h1 h2 hq⟩
 | askNews to =>
  obtain⟨b1,b2,lb,l,e,h1,h2,h3,rfl⟩:=hv;exact⟨_,_,e,λW=>(by kernel_rfl),K9 (b3:=0) h hb h1 h2 h3⟩
 | start =>
  obtain⟨b1,e,h1⟩:=hv;exact⟨_,_,e,λW=>(by kernel_rfl),OK (b2:=0) (b3:=0) h hb h1⟩
 | tell to slot =>
  obtain⟨b1,b2,lb,l,e,h1,h2,h3,rfl,rfl⟩:=hv;exact⟨_,_,e,λW=>(by kernel_rfl),Io (b3:=0) h hb h1 h2 h3 hq⟩
theorem UU(s:Int){n:Nat}(h:Sl w x.v d)(hn:n<=d.length){N:Int}(hN:(n:Int)=N) :
  Calls prog 106 #[.agg #[x.v,iv s],iv N] w λe w'=>∃ y:S3,e=.returned (.agg #[y.v,iv N])/\Sl w' y.v (d.take n)/\Nb w.heap.size y (d.take n)/\Bw w w':=by
 subst hN;refine(I3 x.v d s n w h hn).mono ?_;rintro e w' ⟨y,rfl,ho,hb⟩;obtain⟨y,rfl,hy,hw⟩:=Qt (l:=d.take n) (by rw[fx,gP hn];exact ho) (by rw[fx];have:=h.len;omega) (λz hz=>h.byte z (fK hz));exact⟨y,rfl,hy,hw,hb⟩
theorem V3(s:Int)(h:Sl w x.v d){t:Bool}(ht:decide (CR d s)=t) :
  Calls prog 105 #[.agg #[x.v,iv s]] w λe w'=>e=.returned (.bool t)/\Bw w w':=by
 subst ht;exact Kc x.v d s w h
theorem YM(h:Sl w x.v d) :
  Calls prog 104 #[.agg #[x.v,iv s]] w λe w'=>∃ y:S3,e=.returned (.tuple #[.agg #[y.v,iv (K5 d s)],iv (CY d s)])/\Sl w' y.v (Jh d s)/\Nb w.heap.size y (Jh d s)/\Bw w w':=by
 refine kIn func104 ?_;refine kR 10 [0,0,1,0,0] λσ1 w1 b1=>?_;obtain⟨t,ht⟩:∃ t,decide (CR d s)=t:=⟨_,rfl⟩;refine kC 1 (V3 s (h.below b1) ht) ?_;rintro _ w2 ⟨rfl,b2⟩;refine⟨_,rfl,b2,?_⟩;refine kR 2 [] λσ3 w3 b3=>?_;by_cases h1:CR d s
 .refine kI ((!t)) false (by rw[<- ht,I' h1];rfl) ?_;rw[show CY d s=0 from if_pos h1,show Jh d s=d from if_pos h1,show K5 d s=(d.length:Int)from if_pos h1];have hn:=Im h;have hT:d.take d.length=d:=js;refine kR 7 [0,0] λσ4 w4 b4=>?_;have B5:=(btr (btr (btr b1 b2) b3) b4);refine kC 4 (UU s (n:=d.length) (N:=(x.n:Int)) (h.below B5) (A' _) (by rw[hn])) ?_;rintro _ w6 ⟨y,rfl,hy,hw,b6⟩;refine⟨_,rfl,b6,?_⟩;rw[hT]at hy hw
  rw[<- hn];refine kF 3 [1,0] λσ7 w7 b7 q7=>?_;have B8:=((btr B5 b6).trans b7);exact qE2 2 3 93 1 (σ1 1) #[S3.v y,iv (x.n:Int)] (iv 0) λK=>⟨y,rfl,(hy.kept q7),hw.mono B5.size,B8⟩
 .refine kI ((!t)) true (by rw[<- ht,D' h1];rfl) ?_;rw[show CY d s=5 from if_neg h1,show Jh d s=[]from if_neg h1,show K5 d s=0 from if_neg h1];refine kF 6 [1,0] λσ9 w9 b9 q9=>?_;have B10:=((btr (btr b1 b2) b3).trans b9);exact qE2 2 3 93 1 (σ1 1) #[S3.v s30,iv 0] (iv 5) λK=>⟨s30,rfl,D7 _,λh=>absurd rfl h,B10⟩
theorem U6{k:Int}(h:Sl w x.v d)(hk1:-9223372036854775808<=k)(hk2:k<=9223372036854775807) :
  Calls prog 65 #[.agg #[x.v,iv s],iv k] w λe w'=>∃ y:S3,e=.returned (.tuple #[.agg #[y.v,iv (Nx d s k)],iv (KS d s k)])/\Sl w' y.v (Nv d s k)/\Nb w.heap.size y (Nv d s k)/\Bw w w':=by
 refine kIn func65 ?_;refine kR 10 [0,0,1,0,0] λσ1 w1 b1=>?_;obtain⟨t,ht⟩:∃ t,decide (CR d s)=t:=⟨_,rfl⟩;refine kC 1 (V3 s (h.below b1) ht) ?_;rintro _ w2 ⟨rfl,b2⟩;refine⟨_,rfl,b2,?_⟩;refine kR 2 [] λσ3 w3 b3=>?_;by_cases h1:CR d s
 .refine kI ((!t)) false (by rw[<- ht,I' h1];rfl) ?_;refine kR 7 [] λσ4 w4 b4=>?_;by_cases h2:k<0
  .refine kI ((decide (k<0))) true (I' h2) ?_;have hE:KS d s k=2:=(if_neg (λg=>g h1)).trans (if_pos h2);rw[show Nv d s k=[]from if_neg (by rw[hE];decide),show Nx d s k=0 from if_neg (by rw[hE];decide),hE];refine kF 6 [1,0] λσ5 w5 b5 q5=>?_;have B6:=((btr (btr (btr b1 b2) b3) b4).trans b5);exact qE2 4 5 93 1 (σ1 1) #[S3.v s30,iv 0] (iv 2) λK=>⟨s30,rfl,D7 _,λh=>absurd rfl h,B6⟩
  .refine kI ((decide (k<0))) false (D' h2) ?_;have hE:KS d s k=0:=(if_neg (λg=>g h1)).trans (if_neg h2);rw[show Nv d s k=d.take (Ss d s k).toNat from if_pos hE,show Nx d s k=Ss d s k from if_pos hE,hE];have hn:=Im h;have hl:=h.len;have hb:0<=s/\s<=(d.length:Int):=⟨h1.2.1,h1.2.2⟩;obtain⟨n,hN⟩:∃ n:Nat,(n:Int)=s+min k ((x.n:Int)-s):=⟨(s+min k ((x.n:Int)-s)).toNat,by omega⟩;have hC:Ss d s k=(n:Int):=by unfold Ss;split<;>omega
   have hnd:n<=d.length:=by omega
   rw[hC,ib,hN];refine kR 12 [0,0,0,0] λσ7 w7 b7=>?_;refine kV 9 (iv ((x.n:Int)-s)) (ea (x:=(.tmp 19)) (y:=(.tmp 21)) (x.n:Int) s underlying3 (by omega)) ?_;refine kV 10 (iv (min k ((x.n:Int)-s))) (bI #[3,3] 3 k ((x.n:Int)-s)) ?_;refine kV 11 (iv (s+min k ((x.n:Int)-s))) (AK (x:=(.tmp 15)) (y:=(.tmp 23)) s (min k ((x.n:Int)-s)) underlying3 (by omega)) ?_;have B11:=(btr (btr (btr (btr b1 b2) b3) b4) b7);refine kC 12 (UU s (n:=n) (h.below B11) hnd hN) ?_;rintro _ w12 ⟨y,rfl,hy,hw,b12⟩;refine⟨_,rfl,b12,?_⟩;refine kF 3 [1,0] λσ13 w13 b13 q13=>?_;have B14:=((btr B11 b12).trans b13);exact qE2 4 5 93 1 (σ1 1) #[S3.v y,iv (s+min k ((x.n:Int)-s))] (iv 0) λK=>⟨y,rfl,(hy.kept q13),hw.mono B11.size,B14⟩
 .refine kI ((!t)) true (by rw[<- ht,D' h1];rfl) ?_;have hE:KS d s k=5:=if_pos h1;rw[show Nv d s k=[]from if_neg (by rw[hE];decide),show Nx d s k=0 from if_neg (by rw[hE];decide),hE];refine kF 6 [1,0] λσ15 w15 b15 q15=>?_;have B16:=((btr (btr b1 b2) b3).trans b15);exact qE2 4 5 93 1 (σ1 1) #[S3.v s30,iv 0] (iv 5) λK=>⟨s30,rfl,D7 _,λh=>absurd rfl h,B16⟩
structure FzL(g:Gh)(w:World)(x:S3)(vs:List Value):Prop where
 n:x.n=vs.length
 at_:∀ j u,vs[j]?=some u->∃ b,x.a=some ⟨b,0,none⟩/\b<w.heap.size/\j<g.k b/\w.cell? ⟨b,j,none⟩=some u
theorem OwnS.fz{τ:Tg}{e:TypeId}(h:OwnS g w τ true e 1 x vs):FzL g w x vs:=by
 refine⟨by have:=h.len;omega,λj u hj=>?_⟩;obtain⟨b,h1,h2,h3⟩:=h.cell hj;have hlt:j<vs.length:=(P'.1 hj).1;refine⟨b,h1,h2,?_,h3⟩;rcases h.ex with⟨h4,_⟩|⟨b',cur,h4,_,_,_,_,_,_,h8⟩
 .rw[h4]at h1;cases h1
 .rw[h1]at h4
  simp only[U',Addr.mk.injEq,and_true]at h4;subst h4;rw[h8,if_pos rfl];exact hlt
theorem FzL.ch{B:Nat}{T:List Tg}{g':Gh}{w':World}(h:FzL g w x vs)(c:Cg B T g w g' w'):FzL g' w' x vs :=
 ⟨h.n,λj u hj=>by
  obtain⟨b,h1,h2,h3,h4⟩:=h.at_ j u hj;exact⟨b,h1,Z' h2 c.size,Z' h3 (c.kap b h2),(c.pref b h2 j h3).trans h4⟩⟩
theorem ZA{b off:Nat}(ha:x.a=some ⟨b,off,none⟩)(j:Nat)(hj:j<x.n):(Instr.indexAt 77 x.v (iv (j:Int))).run prog W=.ok (pt b (off+1*j)) W:=by
 unfold S3.v;rw[ha];exact O6 (P:=prog) (e:=1) (z:=1) underlying77 (by kernel_rfl) (by kernel_rfl) hj _ rfl
def doneP(i:Nat):List Pend->Nod->List Let->Nod × List Let
 | [],p,ls=>(p,ls)
 | q::l,p,ls=>doneP i l (p.runP i q) (ls++p.sentP i q)
def Fz(i:Nat):List Pend->Nod->List Let->Prop
 | [],_,_=>True
 | q::l,p,ls=>Pg p i q/\ls.length<90000000/\Fz i l (p.runP i q) (ls++p.sentP i q)
def Nod.syn(p:Nod):Nod:=if p.sy<(p.d.length:Int)then{ p with d:=Jh p.d p.sy,sy:=K5 p.d p.sy }else p
theorem NC{l:List Pend}{j:Nat}{c:Pend}(h:l[j]?=some c):l.drop j=c::l.drop (j+1):=by
 obtain⟨h1,h2⟩:=P'.1 h;rw[<- h2];exact gf h1
theorem YN(h:NS i nb ob g w p ls ts)(hB:Base w0 g w)(hT:Tabs w0)(hi:i<5)(hok:Fz i p.pend { p.syn with pend:=[] } ls)(hpb:p.pend.length<100000000) :
  Calls prog 61 #[pt nb 0] w (NP i nb ob g w (.tuple #[]) (if p.sy<(p.d.length:Int)/\CY p.d p.sy≠0 then(p,ls)else doneP i p.pend { p.syn with pend:=[] } ls).1 (if p.sy<(p.d.length:Int)/\CY p.d p.sy≠0 then(p,ls)else doneP i p.pend { p.syn with pend:=[] } ls).2 ts):=by
 obtain⟨x,lt,tl,hN,hO,hg⟩:=h;have htn:x.tape.n=p.d.length:=by obtain⟨a,cap,hh⟩:=hN.tape.s.shapeT;have:=hN.tape.s.len;simp only[S3.v,Value.slice.injEq]at hh;exact hh.2.1
 refine gI (fn:=f61) (TN i) g func61 hg ?_;refine qN hN ?_;refine qO hO ?_;obtain⟨pv,hP,hPs⟩:=hN.pend;have hF:=hP.fz;have hpn:x.synced.n=p.pend.length:=by rw[hF.n];exact hPs.len
 refine qR [] 16 [12,0,2,4,6,8,0,10,12,14,16,18,0,20,22] λs1 g1 w1 c1=>?_;by_cases h1:p.sy<(x.tape.n:Int)
 .refine qI ((decide (p.sy<(x.tape.n:Int)))) true (I' (by omega)) ?_;refine qR [] 6 [0] λs2 g2 w2 c2=>?_;refine Ae λKq=>?_;have hS:=(hN.tape.ch (c1.trans c2)).s;have hG:∀ z,w2.heap.size<=z->g2.t z=.z:=λz hz=>(Kq.new z hz).1;refine qC 4 (YM (s:=p.sy) hS) ?_;rintro e' w3 ⟨tz,rfl,hy3,hn3,b3⟩;refine⟨_,rfl,b3,?_⟩;have c3:=Cg.ofBelow (B:=w.heap.size) (T:=[]) (g:=g2) b3;have htz:=Im hy3;have hts:FSl _ _ tz _:=⟨hy3,λhl a ha=>hG _ (hn3 hl a ha)⟩;refine qR [] 13 [0,0,2,0] λs4 g4 w4 c4=>?_;by_cases h2:CY p.d p.sy≠0
  .refine qI (((CY p.d p.sy) != 0)) true (by simpa using h2) ?_;refine qE (.tuple #[]) λK=>?_;rw[if_pos ⟨by omega,h2⟩];exact⟨_,rfl,(nsC hN hO (((c1.n c2).n c3).n c4) K),((((c1.nil (TN i)).n c2).n c3).n c4)⟩
  .refine qI (((CY p.d p.sy) != 0)) false (by simpa using h2) ?_;have hsy:p.syn={ p with d:=Jh p.d p.sy,sy:=K5 p.d p.sy }:=if_pos (by omega);rw[show(if p.sy<(p.d.length:Int)/\CY p.d p.sy≠0 then(p,ls)else doneP i p.pend { p.syn with pend:=[] } ls)=doneP i p.pend ({ p with d:=Jh p.d p.sy,sy:=K5 p.d p.sy,pend:=[] }:Nod) ls from by rw[if_neg (by rintro⟨_,h⟩;exact h2 h),hsy]];rw[show{ p.syn with pend:=[] }=({ p with d:=Jh p.d p.sy,sy:=K5 p.d p.sy,pend:=[] }:Nod)from by rw[hsy]]at hok
   refine qR [.n 0 i] 32 [2,0,1,0,0,1] λs7 g7 w7 c7=>?_;refine GE [true,true,false] ?_;refine Br 51 [(42,S3.v x.synced),(43,iv (x.synced.n:Int)),(44,iv 0)] [false,false] [] (λk g' w' e L=>∃ (j:Nat) (q:Nod) (l2:List Let),k=p.pend.length-j/\j<=p.pend.length/\e=[(42,S3.v x.synced),(43,iv (x.synced.n:Int)),(44,iv (j:Int))]/\L=[]/\NS i nb ob g' w' q l2 ts/\doneP i (p.pend.drop j) q l2=doneP i p.pend ({ p with d:=Jh p.d p.sy,sy:=K5 p.d p.sy,pend:=[] }:Nod) ls/\Fz i (p.pend.drop j) q l2/\Cg w.heap.size (TN i) g w g' w') (by kernel_rfl) (by kernel_rfl) (by kernel_rfl) (by kernel_rfl) p.pend.length (λK=>?_) ?_
   .have C8:=((((c1.nil ([.n 0 i]:List Tg)).n c2).n c3).n c4).trans (c7);have Z8:Tg.z∉([.n 0 i]:List Tg):=by simp
    exact⟨0,({ p with d:=Jh p.d p.sy,sy:=K5 p.d p.sy,pend:=[] }:Nod),ls,rfl,by omega,rfl,rfl,⟨({ x with tape:=tz,synced:=s30 }:NX),lt,tl,K.nd 0 ((hts.ch c4).ch c7) (hN.votes.ch C8 Z8) (Ba hN.heard C8 Z8) ⟨[],OwnS.nil _ _ _ _ _ _,⟨rfl,λk v q h=>by cases h⟩⟩ (hN.queue.ch C8) (hN.agreed.ch C8) (hN.wants.ch C8) (hN.asked.ch C8) hN.upm,hO.ch C8 Z8 (by simp<;>omega),K.new⟩,rfl,hok,(((((c1.nil (TN i)).n c2).n c3).n c4).trans (c7.mono (by simp[TN])))⟩
   .rintro k gr wr _ zr _ ⟨j,q,l2,rfl,hj,rfl,rfl,hM,hI,hK,hC⟩ J hJ;obtain⟨xr,ltr,tlr,hNr,hOr,hgr⟩:=id hM;refine qN hNr ?_;refine qO hOr ?_;refine qR [] 5 [] λs9 g9 w9 c9=>?_;by_cases h5:j<p.pend.length
    .refine qI ((decide ((j:Int)<(x.synced.n:Int)))) true (I' (by omega)) ?_;obtain⟨pd,hpd⟩:∃ pd,p.pend[j]?=some pd:=⟨_,E' h5⟩;obtain⟨v,hv⟩:∃ v,pv[j]?=some v:=⟨_,E' (by rw[hPs.len];exact h5)⟩;rw[NC hpd]at hI hK
     obtain⟨hK1,hK2,hK3⟩:=hK;have hFr:=hF.ch hC;obtain⟨bx,hxa,hbx,hkx,hcx⟩:=hFr.at_ j v hv;have hVr:=(hPs.at_ j v pd hv hpd).ch hC (AW i);refine qR [] 5 [] λs10 g10 w10 c10=>?_;refine qV 0 (pt bx (0+1*j)) (ZA hxa j (by omega)) ?_;refine Ae λK=>?_;have N13:NS i nb ob g10 w10 q l2 ts:=(nsC hNr hOr (c9.n c10) K);obtain⟨F2,cs2,e2,hcf,_⟩:=FD N13 (hB.ch (((hC.n c9).n c10)) (AW i)) hT hi hK2 pd hK1 (hVr.ch ((c9.nil (TN i)).n c10) (AW i));subst e2;have hFz:=hFr.ch (c9.trans c10);refine qV 1 (.func (.func F2) #[] cs2) (CJ (ty:=1) (b:=bx) (k:=0+1*j) (v:=.func (.func F2) #[] cs2) underlying1 rfl (by rw[fV,Nat.one_mul];obtain⟨b2,h2,_,_,h4⟩:=hFz.at_ j _ hv;rw[hxa]at h2;simp only[U',Addr.mk.injEq,and_true]at h2;subst h2;exact h4)) ?_;refine qR [] 4 [] λs14 g14 w14 c14=>?_;refine Ae λK=>?_;have N15:NS i nb ob g14 w14 q l2 ts:=(nsC hNr hOr ((c9.n c10).n c14) K);obtain⟨F3,cs3,e3,_,hcall⟩:=FD N15 (hB.ch ((((hC.n c9).n c10).n c14)) (AW i)) hT hi hK2 pd hK1 (hVr.ch (((c9.nil (TN i)).n c10).n c14) (AW i));simp only[Value.func.injEq,Fn.func.injEq,true_and]at e3;obtain⟨rfl,rfl⟩:=e3;refine PI 1 F2 cs2 (TN i) [false,false] (λW=>Zq (by kernel_rfl) (hcf W)) (by kernel_rfl) (by kernel_rfl) (by kernel_rfl) hcall ?_;rintro e' w15 ⟨g15,rfl,M15,c15⟩;refine⟨_,g15,rfl,c15,M15.new,?_⟩;replace c15:=c15.ret (B:=w.heap.size);refine qR [] 3 [] λs17 g17 w17 c17=>?_;refine qV 0 (iv ((j:Int)+1)) (AK (x:=(.tmp 44)) (y:=(.const (iv 1))) (j:Int) 1 underlying3 (by omega)) ?_;refine qR [] 2 [] λs18 g18 w18 c18=>?_;exact qB [] λz K0 K=>hJ (p.pend.length-(j+1)) _ _ _ z _ (by omega) ⟨j+1,q.runP i pd,l2++q.sentP i pd,rfl,by omega,rfl,rfl,NS.ch0 M15 (c17.trans c18) K0.new,hI,hK3,((((((hC.n c9).n c10).n c14).trans c15).n c17).n c18)⟩ K
    .refine qI ((decide ((j:Int)<(x.synced.n:Int)))) false (D' (by omega)) ?_;refine qR [] 1 [] λs19 g19 w19 c19=>?_;obtain rfl:j=p.pend.length:=by omega
     rw[gO]at hI
     rw[<- hI];exact qF hNr hOr (c9.n c19) ((hC.n c9).n c19)
 .refine qI ((decide (p.sy<(x.tape.n:Int)))) false (D' (by omega)) ?_;have hsy:p.syn=p:=if_neg (by omega);rw[show(if p.sy<(p.d.length:Int)/\CY p.d p.sy≠0 then(p,ls)else doneP i p.pend { p.syn with pend:=[] } ls)=doneP i p.pend ({ p with pend:=[] }:Nod) ls from by rw[if_neg (by rintro⟨h,_⟩;omega),hsy]];rw[show{ p.syn with pend:=[] }=({ p with pend:=[] }:Nod)from by rw[hsy]]at hok
  refine qR [.n 0 i] 25 [0,0,1] λs21 g21 w21 c21=>?_;refine Br 51 [(42,S3.v x.synced),(43,iv (x.synced.n:Int)),(44,iv 0)] [false,false] [] (λk g' w' e L=>∃ (j:Nat) (q:Nod) (l2:List Let),k=p.pend.length-j/\j<=p.pend.length/\e=[(42,S3.v x.synced),(43,iv (x.synced.n:Int)),(44,iv (j:Int))]/\L=[]/\NS i nb ob g' w' q l2 ts/\doneP i (p.pend.drop j) q l2=doneP i p.pend ({ p with pend:=[] }:Nod) ls/\Fz i (p.pend.drop j) q l2/\Cg w.heap.size (TN i) g w g' w') (by kernel_rfl) (by kernel_rfl) (by kernel_rfl) (by kernel_rfl) p.pend.length (λK=>?_) ?_
  .have C22:=(c1.nil ([.n 0 i]:List Tg)).trans (c21);have Z22:Tg.z∉([.n 0 i]:List Tg):=by simp
   exact⟨0,({ p with pend:=[] }:Nod),ls,rfl,by omega,rfl,rfl,⟨({ x with synced:=s30 }:NX),lt,tl,K.nd 0 (hN.tape.ch C22 Z22) (hN.votes.ch C22 Z22) (Ba hN.heard C22 Z22) ⟨[],OwnS.nil _ _ _ _ _ _,⟨rfl,λk v q h=>by cases h⟩⟩ (hN.queue.ch C22) (hN.agreed.ch C22) (hN.wants.ch C22) (hN.asked.ch C22) hN.upm,hO.ch C22 Z22 (by simp<;>omega),K.new⟩,rfl,hok,((c1.nil (TN i)).trans (c21.mono (by simp[TN])))⟩
  .rintro k gr wr _ zr _ ⟨j,q,l2,rfl,hj,rfl,rfl,hM,hI,hK,hC⟩ J hJ;obtain⟨xr,ltr,tlr,hNr,hOr,hgr⟩:=id hM;refine qN hNr ?_;refine qO hOr ?_;refine qR [] 5 [] λs23 g23 w23 c23=>?_;by_cases h5:j<p.pend.length
   .refine qI ((decide ((j:Int)<(x.synced.n:Int)))) true (I' (by omega)) ?_;obtain⟨pd,hpd⟩:∃ pd,p.pend[j]?=some pd:=⟨_,E' h5⟩;obtain⟨v,hv⟩:∃ v,pv[j]?=some v:=⟨_,E' (by rw[hPs.len];exact h5)⟩;rw[NC hpd]at hI hK
    obtain⟨hK1,hK2,hK3⟩:=hK;have hFr:=hF.ch hC;obtain⟨bx,hxa,hbx,hkx,hcx⟩:=hFr.at_ j v hv;have hVr:=(hPs.at_ j v pd hv hpd).ch hC (AW i);refine qR [] 5 [] λs24 g24 w24 c24=>?_;refine qV 0 (pt bx (0+1*j)) (ZA hxa j (by omega)) ?_;refine Ae λK=>?_;have N27:NS i nb ob g24 w24 q l2 ts:=(nsC hNr hOr (c23.n c24) K);obtain⟨F2,cs2,e2,hcf,_⟩:=FD N27 (hB.ch (((hC.n c23).n c24)) (AW i)) hT hi hK2 pd hK1 (hVr.ch ((c23.nil (TN i)).n c24) (AW i));subst e2;have hFz:=hFr.ch (c23.trans c24);refine qV 1 (.func (.func F2) #[] cs2) (CJ (ty:=1) (b:=bx) (k:=0+1*j) (v:=.func (.func F2) #[] cs2) underlying1 rfl (by rw[fV,Nat.one_mul];obtain⟨b2,h2,_,_,h4⟩:=hFz.at_ j _ hv;rw[hxa]at h2;simp only[U',Addr.mk.injEq,and_true]at h2;subst h2;exact h4)) ?_;refine qR [] 4 [] λs28 g28 w28 c28=>?_;refine Ae λK=>?_;have N29:NS i nb ob g28 w28 q l2 ts:=(nsC hNr hOr ((c23.n c24).n c28) K);obtain⟨F3,cs3,e3,_,hcall⟩:=FD N29 (hB.ch ((((hC.n c23).n c24).n c28)) (AW i)) hT hi hK2 pd hK1 (hVr.ch (((c23.nil (TN i)).n c24).n c28) (AW i));simp only[Value.func.injEq,Fn.func.injEq,true_and]at e3;obtain⟨rfl,rfl⟩:=e3;refine PI 1 F2 cs2 (TN i) [false,false] (λW=>Zq (by kernel_rfl) (hcf W)) (by kernel_rfl) (by kernel_rfl) (by kernel_rfl) hcall ?_;rintro e' w29 ⟨g29,rfl,M29,c29⟩;refine⟨_,g29,rfl,c29,M29.new,?_⟩;replace c29:=c29.ret (B:=w.heap.size);refine qR [] 3 [] λs31 g31 w31 c31=>?_;refine qV 0 (iv ((j:Int)+1)) (AK (x:=(.tmp 44)) (y:=(.const (iv 1))) (j:Int) 1 underlying3 (by omega)) ?_;refine qR [] 2 [] λs32 g32 w32 c32=>?_;exact qB [] λz K0 K=>hJ (p.pend.length-(j+1)) _ _ _ z _ (by omega) ⟨j+1,q.runP i pd,l2++q.sentP i pd,rfl,by omega,rfl,rfl,NS.ch0 M29 (c31.trans c32) K0.new,hI,hK3,((((((hC.n c23).n c24).n c28).trans c29).n c31).n c32)⟩ K
   .refine qI ((decide ((j:Int)<(x.synced.n:Int)))) false (D' (by omega)) ?_;refine qR [] 1 [] λs33 g33 w33 c33=>?_;obtain rfl:j=p.pend.length:=by omega
    rw[gO]at hI
    rw[<- hI];exact qF hNr hOr (c23.n c33) ((hC.n c23).n c33)
end
end Go.Proofs.YtalbmmghmoggcabGreatDoor
