/- Part 10 of the walk. -/
import Derived.LoopN
import Derived.Lib.SmallJoins
import Derived.Test.YtalbmmghmoggcaaGreatDoorZ9
set_option maxRecDepth 100000
set_option maxHeartbeats 4000000
open Go.Proofs.Tryz
set_option linter.unusedVariables false
namespace Go.Proofs.YtalbmmghmoggcaaGreatDoor
section
open Go.RowKit
section
variable{P:Program}{fn:Func}{R:Ending->World->Prop}{B:Nat}{T:List Tg}{g:Gh}{w:World}
theorem ZJ{s:Xs}(k n:Nat)(e0:List (Nat × Value))(m:List Bool)(L0:List Sh)(hl:Qd s.K=true)(hn:s.f.n=n)(he:e0.map (fun p=>lk s.f.z s.f.e p.1)=e0.map (·.2))(hL:Bj (AB m s.L)=L0)
  (h:∀ J:Nat->Act->World->Prop,(∀ (m:Nat) (e:List (Nat × Value)) (z:Nat->Value) (L:List Sh) (g:Gh) (w:World),GG P fn R B T (YR s n (J m) e z L) g w->Kn B g w L->J (m+1) (⟨n,e,z⟩:Fm).act w)->∀ z,GG P fn R B T (YR s n (J k) e0 z L0) g w):GG P fn R B T s g w:=by
 refine gFm e0 he fun z=>?_;obtain⟨K,f,L⟩:=s;simp only at hn;subst hn;have hL':Bj (AB m L)=L0:=hL;have hc:GG P fn R B T ⟨K,⟨f.n,e0,z⟩,Bj (AB m L)⟩ g w->GG P fn R B T ⟨K,⟨f.n,e0,z⟩,L⟩ g w:=fun h=>⟨fun hK=>h.ex (hK.sub (CG m L)).clr⟩;refine hc ?_;rw[hL'];cases K with
 | nil=>cases hl
 | cons t K =>
  cases t with
  | c x =>
   cases x with
   | loop b =>
    refine⟨fun hK=>?_⟩;exact wp_loop_rounds (k+1) ((h (Code.rounds P b (Kq P (bodyPost P fn R) K)) (fun m e z L g w hG hK=>hG.ex hK) z).ex hK)
   | _=>cases hl
  | _=>cases hl
end
theorem Lk{v:Vt}{g:Gh}{w:World}{i nb ob:Nat}{p:Nod}{ls:List Let}{ts:List Tol}(h:NS i nb ob g w p ls ts){w0:World}(hB:Base w0 g w)(hT:Tabs w0)(hi:i<5)(hb:ls.length<90000000){b1 b2:Nat}(h1:Box g w b1 #[pt nb 0] 69)(h2:Box g w b2 #[iv v.slot,iv v.b.r,iv v.b.n,iv v.w.k,iv v.w.c,iv v.w.s,iv v.w.n,iv v.w.v] 139)(hba:p.agreed.length<=40) :
  Calls prog 104 #[pt b1 0,pt b2 0] w (NP i nb ob g w (.tuple #[]) (p.count i v) (ls++BB i { Cb 3 with vote:=v } 5) ts):=by
 obtain⟨x,lt,tl,hN,hO,hg⟩:=h;refine gI (fn:=f104) (TN i) g func104 hg ?_;refine qN hN ?_;refine qO hO ?_;refine BF ⟨b1,.cells #[pt nb 0] 69,.z,false⟩ (fun _=>⟨h1.r,h1.z,fun h=>(by cases h),fun h=>absurd rfl h⟩) (by kernel_rfl) ?_;refine BF ⟨b2,.cells #[iv v.slot,iv v.b.r,iv v.b.n,iv v.w.k,iv v.w.c,iv v.w.s,iv v.w.n,iv v.w.v] 139,.z,false⟩ (fun _=>⟨h2.r,h2.z,fun h=>(by cases h),fun h=>absurd rfl h⟩) (by kernel_rfl) ?_;refine qR [] 8 [6,0,2,2,2,4,6,8,0,10,3] fun s1 g1 w1 c1=>?_;refine qS 6 [false,false,true,true] hN hO c1 (fun N2=>L8 N2 (hB.ch (c1.nil (TN i)) (AV i)) hT i hi v hba) fun g2 w2 x2 lt2 tl2 hN2 hO2 c2=>?_;refine qR [] 5 [0,1] fun s4 g4 w4 c4=>?_;refine qS 3 [true,true,false,false] hN2 hO2 c4 (fun N5=>D0 N5 hb { Cb 3 with vote:=v } s30 s30 ⟨Sv.nil _,fun h=>absurd rfl h⟩ (Rc.nil _ _)) fun g5 w5 x5 lt5 tl5 hN5 hO5 c5=>?_;refine qR [] 1 [] fun s7 g7 w7 c7=>?_;exact qF hN5 hO5 c7 (((((c1.nil (TN i)).trans (c2)).n c4).trans (c5)).n c7)
theorem Qk{b:Bal}{vs:List Vt}{x3:S3}{g:Gh}{w:World}{i nb ob:Nat}{p:Nod}{ls:List Let}{ts:List Tol}(h:NS i nb ob g w p ls ts){w0:World}(hB:Base w0 g w)(hT:Tabs w0)(hi:i<5)(hb:ls.length<90000000){b1 b2 b3:Nat}(h1:Box g w b1 #[pt nb 0] 69)(h2:Box g w b2 #[iv b.r,iv b.n] 74)(h3:Box g w b3 #[S3.v x3] 75)(hv:FSv g w x3 vs)(hb3:(p.rnd.heard i).vs.length<100000000) :
  Calls prog 56 #[pt b1 0,pt b2 0,pt b3 0] w (NP i nb ob g w (.tuple #[]) (if p.vo.p≠b then p else{ p with rnd:=p.rnd.hear i vs }) (if p.vo.p≠b then ls else(ls++BB i { Cb 0 with bal:=b } 5)) ts):=by
 obtain⟨x,lt,tl,hN,hO,hg⟩:=h;refine gI (fn:=f56) (TN i) g func56 hg ?_;refine qN hN ?_;refine qO hO ?_;refine BF ⟨b1,.cells #[pt nb 0] 69,.z,false⟩ (fun _=>⟨h1.r,h1.z,fun h=>(by cases h),fun h=>absurd rfl h⟩) (by kernel_rfl) ?_;refine BF ⟨b2,.cells #[iv b.r,iv b.n] 74,.z,false⟩ (fun _=>⟨h2.r,h2.z,fun h=>(by cases h),fun h=>absurd rfl h⟩) (by kernel_rfl) ?_;refine BF ⟨b3,.cells #[S3.v x3] 75,.z,false⟩ (fun _=>⟨h3.r,h3.z,fun h=>(by cases h),fun h=>absurd rfl h⟩) (by kernel_rfl) ?_;refine qR [] 10 [8,0,2,2,4,6,8,10,0,12,3] fun s1 g1 w1 c1=>?_;by_cases h1:p.vo.p≠b
 .refine qT 7 (.bool true) (fun _=>(LZ (x:=(.tmp 8)) (y:=(.tmp 9)) p.vo.p b h1)) ?_;refine qR [] 2 [] fun s2 g2 w2 c2=>?_;rw[if_pos h1,if_pos h1];exact qF hN hO (c1.n c2) ((c1.nil (TN i)).n c2)
 .have h10:p.vo.p=b:=by simpa using h1
  refine qT 7 (.bool false) (fun _=>(LY (x:=(.tmp 8)) (y:=(.tmp 9)) p.vo.p b h10)) ?_;rw[if_neg h1,if_neg h1];refine qR [] 14 [9,0,2,2,4,6,8,2,10,12,14,0,16,4] fun s4 g4 w4 c4=>?_;refine qS 9 [false,false,true,true,true] hN hO (c1.n c4) (fun N5=>Od N5 (hB.ch ((c1.nil (TN i)).n c4) (AV i)) hT i hi vs x3 (hv.ch ((c1.nil (TN i)).n c4) (AV i)) hb3) fun g5 w5 x5 lt5 tl5 hN5 hO5 c5=>?_;refine qR [] 5 [0,1] fun s7 g7 w7 c7=>?_;refine qS 3 [true,true,true,false,false] hN5 hO5 c7 (fun N8=>D0 N8 hb { Cb 0 with bal:=b } s30 s30 ⟨Sv.nil _,fun h=>absurd rfl h⟩ (Rc.nil _ _)) fun g8 w8 x8 lt8 tl8 hN8 hO8 c8=>?_;refine qR [] 1 [] fun s10 g10 w10 c10=>?_;exact qF hN8 hO8 c10 ((((((c1.nil (TN i)).n c4).trans (c5)).n c7).trans (c8)).n c10)
def Nod.runP(p:Nod)(i:Nat):Pend->Nod
 | .began b vs=>if p.vo.p≠b then p else{ p with rnd:=p.rnd.hear i vs }
 | .prop v=>p.count i v
 | _=>p
def Nod.sentP(p:Nod)(i:Nat):Pend->List Let
 | .began b vs=>if p.vo.p≠b then[]else BB i { Cb 0 with bal:=b } 5
 | .prom to b vs=>[{ Cb 1 with bal:=b,votes:=vs,what:=p.agreed,src:=i,dst:=to }]
 | .voted to v=>[{ Cb 4 with vote:=v,src:=i,dst:=to }]
 | .refuse to b=>[{ Cb 2 with bal:=b,src:=i,dst:=to }]
 | .prop v=>BB i { Cb 3 with vote:=v } 5
 | .askNews to=>[{ Cb 6 with slot:=p.agreed.length,src:=i,dst:=to }]
 | .start=>BB i (Cb 6) 5
 | .tell to slot=>[{ Cb 5 with src:=i,dst:=to,slot:=slot,what:=p.agreed.drop slot }]
def Pp(p:Nod)(i:Nat):Pend->Prop
 | .began _ _=>(p.rnd.heard i).vs.length<100000000
 | .prop _=>p.agreed.length<=40
 | .tell _ slot=>slot<=p.agreed.length
 | _=>True
theorem ZG{P:Program}{s:Xs}{i:Nat}{W:World}{S:Sem Next}{r:Result Next}(h:CK s i=some S)(hr:S.run P W=r):CD P s i W=some r:=by
 unfold CD;unfold CK at h;cases hx:opN s i with
 | none=>rw[hx]at h;cases h
 | some x =>
  rw[hx]at h
  simp only[Option.map_some,Option.some.injEq]at h ⊢;rw[h,hr]
theorem FE{g:Gh}{w:World}{i nb ob:Nat}{p:Nod}{ls:List Let}{ts:List Tol}(h:NS i nb ob g w p ls ts){w0:World}(hB:Base w0 g w)(hT:Tabs w0)(hi:i<5)(hb:ls.length<90000000){v:Value}(q:Pend)(hq:Pp p i q)(hv:J5 g w nb v q) :
  ∃ (F:FuncId) (cs:Array Value),v=.func (.func F) #[] cs/\(∀ W,(Go.callFunc F (#[]++cs)).run prog W=.ok (.enter F cs) W)/\Calls prog F cs w (NP i nb ob g w (.tuple #[]) (p.runP i q) (ls++p.sentP i q) ts):=by
 cases q with
 | began b vs =>
  obtain⟨b1,b2,b3,x,e,h1,h2,h3,h4⟩:=hv;refine⟨_,_,e,fun W=>by kernel_rfl,?_⟩;have:=Qk h hB hT hi hb h1 h2 h3 h4 hq;unfold Nod.runP Nod.sentP;by_cases hx:p.vo.p≠b
  .rw[if_pos hx,if_pos hx]at this;simp only[if_pos hx,List.append_nil];exact this
  .rw[if_neg hx,if_neg hx]at this;simp only[if_neg hx];exact this
 | prom to b vs =>
  obtain⟨b1,b2,b3,x,lb,l,e,h1,h2,h3,h4,h5,rfl,rfl⟩:=hv;exact⟨_,_,e,fun W=>(by kernel_rfl),FL h hb h1 h2 h3 h5 h4⟩
 | voted to u =>
  obtain⟨b1,b2,lb,l,e,h1,h2,h3,rfl,rfl⟩:=hv;exact⟨_,_,e,fun W=>(by kernel_rfl),G0 (b3:=0) h hb h1 h2 h3⟩
 | refuse to b =>
  obtain⟨b1,b2,b3,e,h1,h2,h3⟩:=hv;exact⟨_,_,e,fun W=>(by kernel_rfl),MQ h hb h1 h2 h3⟩
 | prop u =>
  obtain⟨b1,b2,e,h1,h2⟩:=hv;exact⟨_,_,e,fun W=>(by kernel_rfl),Lk h hB hT hi hb h1 h2 hq⟩
 | askNews to =>
  obtain⟨b1,b2,lb,l,e,h1,h2,h3,rfl⟩:=hv;exact⟨_,_,e,fun W=>(by kernel_rfl),KF (b3:=0) h hb h1 h2 h3⟩
 | start =>
  obtain⟨b1,e,h1⟩:=hv;exact⟨_,_,e,fun W=>(by kernel_rfl),OT (b2:=0) (b3:=0) h hb h1⟩
 | tell to slot =>
  obtain⟨b1,b2,lb,l,e,h1,h2,h3,rfl,rfl⟩:=hv;exact⟨_,_,e,fun W=>(by kernel_rfl),Iu (b3:=0) h hb h1 h2 h3 hq⟩
theorem Vi{x:S3}{d:List Int}(s:Int){n:Nat}{w:World}(h:Sl w x.v d)(hn:n<=d.length){N:Int}(hN:(n:Int)=N) :
  Calls prog 107 #[.agg #[x.v,iv s],iv N] w fun e w'=>∃ y:S3,e=.returned (.agg #[y.v,iv N])/\Sl w' y.v (d.take n)/\Nb w.heap.size y (d.take n)/\Bw w w':=by
 subst hN;refine(I6 x.v d s n w h hn).mono ?_;rintro e w' ⟨y,rfl,ho,hb⟩;obtain⟨y,rfl,hy,hw⟩:=Q6 (l:=d.take n) (by rw[List.length_take,Nat.min_eq_left hn];exact ho) (by rw[List.length_take];have:=h.len;omega) (fun z hz=>h.byte z (List.mem_of_mem_take hz));exact⟨y,rfl,hy,hw,hb⟩
theorem VK{x:S3}{d:List Int}(s:Int){w:World}(h:Sl w x.v d){t:Bool}(ht:decide (Bf d s)=t) :
  Calls prog 106 #[.agg #[x.v,iv s]] w fun e w'=>e=.returned (.bool t)/\Bw w w':=by
 subst ht;exact Kh x.v d s w h
theorem Zd{x:S3}{d:List Int}{s:Int}{w:World}(h:Sl w x.v d) :
  Calls prog 105 #[.agg #[x.v,iv s]] w fun e w'=>∃ y:S3,e=.returned (.tuple #[.agg #[y.v,iv (Is d s)],iv (CW d s)])/\Sl w' y.v (Hi d s)/\Nb w.heap.size y (Hi d s)/\Bw w w':=by
 refine kIn func105 ?_;refine kR 10 [0,0,1,0,0] fun σ1 w1 b1=>?_;obtain⟨t,ht⟩:∃ t,decide (Bf d s)=t:=⟨_,rfl⟩;refine kC 1 (VK s (h.below b1) ht) ?_;rintro _ w2 ⟨rfl,b2⟩;refine⟨_,rfl,b2,?_⟩;refine kR 2 [] fun σ3 w3 b3=>?_;by_cases h1:Bf d s
 .refine kI ((!t)) false (by rw[<- ht,decide_eq_true h1];rfl) ?_;rw[show CW d s=0 from if_pos h1,show Hi d s=d from if_pos h1,show Is d s=(d.length:Int)from if_pos h1];have hn:=Ir h;have hT:d.take d.length=d:=List.take_length;refine kR 7 [0,0] fun σ4 w4 b4=>?_;have B5:=(btr (btr (btr b1 b2) b3) b4);refine kC 4 (Vi s (n:=d.length) (N:=(x.n:Int)) (h.below B5) (Nat.le_refl _) (by rw[hn])) ?_;rintro _ w6 ⟨y,rfl,hy,hw,b6⟩;refine⟨_,rfl,b6,?_⟩;rw[hT]at hy hw
  rw[<- hn];refine kF 3 [1,0] fun σ7 w7 b7 q7=>?_;have B8:=((btr B5 b6).trans b7);exact qE2 2 3 94 1 (σ1 1) #[S3.v y,iv (x.n:Int)] (iv 0) fun K=>⟨y,rfl,(hy.kept q7),hw.mono B5.size,B8⟩
 .refine kI ((!t)) true (by rw[<- ht,decide_eq_false h1];rfl) ?_;rw[show CW d s=5 from if_neg h1,show Hi d s=[]from if_neg h1,show Is d s=0 from if_neg h1];refine kF 6 [1,0] fun σ9 w9 b9 q9=>?_;have B10:=((btr (btr b1 b2) b3).trans b9);exact qE2 2 3 94 1 (σ1 1) #[S3.v s30,iv 0] (iv 5) fun K=>⟨s30,rfl,D7 _,fun h=>absurd rfl h,B10⟩
theorem UI{x:S3}{d:List Int}{s k:Int}{w:World}(h:Sl w x.v d)(hk1:-9223372036854775808<=k)(hk2:k<=9223372036854775807) :
  Calls prog 66 #[.agg #[x.v,iv s],iv k] w fun e w'=>∃ y:S3,e=.returned (.tuple #[.agg #[y.v,iv (KZ d s k)],iv (IZ d s k)])/\Sl w' y.v (KY d s k)/\Nb w.heap.size y (KY d s k)/\Bw w w':=by
 refine kIn func66 ?_;refine kR 10 [0,0,1,0,0] fun σ1 w1 b1=>?_;obtain⟨t,ht⟩:∃ t,decide (Bf d s)=t:=⟨_,rfl⟩;refine kC 1 (VK s (h.below b1) ht) ?_;rintro _ w2 ⟨rfl,b2⟩;refine⟨_,rfl,b2,?_⟩;refine kR 2 [] fun σ3 w3 b3=>?_;by_cases h1:Bf d s
 .refine kI ((!t)) false (by rw[<- ht,decide_eq_true h1];rfl) ?_;refine kR 7 [] fun σ4 w4 b4=>?_;by_cases h2:k<0
  .refine kI ((decide (k<0))) true (decide_eq_true h2) ?_;have hE:IZ d s k=2:=(if_neg (fun g=>g h1)).trans (if_pos h2);rw[show KY d s k=[]from if_neg (by rw[hE];decide),show KZ d s k=0 from if_neg (by rw[hE];decide),hE];refine kF 6 [1,0] fun σ5 w5 b5 q5=>?_;have B6:=((btr (btr (btr b1 b2) b3) b4).trans b5);exact qE2 4 5 94 1 (σ1 1) #[S3.v s30,iv 0] (iv 2) fun K=>⟨s30,rfl,D7 _,fun h=>absurd rfl h,B6⟩
  .refine kI ((decide (k<0))) false (decide_eq_false h2) ?_;have hE:IZ d s k=0:=(if_neg (fun g=>g h1)).trans (if_neg h2);rw[show KY d s k=d.take (My d s k).toNat from if_pos hE,show KZ d s k=My d s k from if_pos hE,hE];have hn:=Ir h;have hl:=h.len;have hb:0<=s/\s<=(d.length:Int):=⟨h1.2.1,h1.2.2⟩;obtain⟨n,hN⟩:∃ n:Nat,(n:Int)=s+min k ((x.n:Int)-s):=⟨(s+min k ((x.n:Int)-s)).toNat,by omega⟩;have hC:My d s k=(n:Int):=by unfold My;split<;>omega
   have hnd:n<=d.length:=by omega
   rw[hC,Int.toNat_natCast,hN];refine kR 12 [0,0,0,0] fun σ7 w7 b7=>?_;refine kV 9 (iv ((x.n:Int)-s)) (eB (x:=(.tmp 19)) (y:=(.tmp 21)) (x.n:Int) s underlying3 (by omega)) ?_;refine kV 10 (iv (min k ((x.n:Int)-s))) (ce #[3,3] 3 k ((x.n:Int)-s)) ?_;refine kV 11 (iv (s+min k ((x.n:Int)-s))) (AN (x:=(.tmp 15)) (y:=(.tmp 23)) s (min k ((x.n:Int)-s)) underlying3 (by omega)) ?_;have B11:=(btr (btr (btr (btr b1 b2) b3) b4) b7);refine kC 12 (Vi s (n:=n) (h.below B11) hnd hN) ?_;rintro _ w12 ⟨y,rfl,hy,hw,b12⟩;refine⟨_,rfl,b12,?_⟩;refine kF 3 [1,0] fun σ13 w13 b13 q13=>?_;have B14:=((btr B11 b12).trans b13);exact qE2 4 5 94 1 (σ1 1) #[S3.v y,iv (s+min k ((x.n:Int)-s))] (iv 0) fun K=>⟨y,rfl,(hy.kept q13),hw.mono B11.size,B14⟩
 .refine kI ((!t)) true (by rw[<- ht,decide_eq_false h1];rfl) ?_;have hE:IZ d s k=5:=if_pos h1;rw[show KY d s k=[]from if_neg (by rw[hE];decide),show KZ d s k=0 from if_neg (by rw[hE];decide),hE];refine kF 6 [1,0] fun σ15 w15 b15 q15=>?_;have B16:=((btr (btr b1 b2) b3).trans b15);exact qE2 4 5 94 1 (σ1 1) #[S3.v s30,iv 0] (iv 5) fun K=>⟨s30,rfl,D7 _,fun h=>absurd rfl h,B16⟩
structure FzL(g:Gh)(w:World)(x:S3)(vs:List Value):Prop where
 n:x.n=vs.length
 at_:∀ j u,vs[j]?=some u->∃ b,x.a=some ⟨b,0,none⟩/\b<w.heap.size/\j<g.k b/\w.cell? ⟨b,j,none⟩=some u
theorem OwnS.fz{g:Gh}{w:World}{τ:Tg}{e:TypeId}{x:S3}{vs:List Value}(h:OwnS g w τ true e 1 x vs):FzL g w x vs:=by
 refine⟨by have:=h.len;omega,fun j u hj=>?_⟩;obtain⟨b,h1,h2,h3⟩:=h.cell hj;have hlt:j<vs.length:=(List.getElem?_eq_some_iff.1 hj).1;refine⟨b,h1,h2,?_,h3⟩;rcases h.ex with⟨h4,_⟩|⟨b',cur,h4,_,_,_,_,_,_,h8⟩
 .rw[h4]at h1;cases h1
 .rw[h1]at h4
  simp only[Option.some.injEq,Addr.mk.injEq,and_true]at h4;subst h4;rw[h8,if_pos rfl];exact hlt
theorem FzL.ch{B:Nat}{T:List Tg}{g g':Gh}{w w':World}{x:S3}{vs:List Value}(h:FzL g w x vs)(c:Cg B T g w g' w'):FzL g' w' x vs :=
 ⟨h.n,fun j u hj=>by
  obtain⟨b,h1,h2,h3,h4⟩:=h.at_ j u hj;exact⟨b,h1,Nat.lt_of_lt_of_le h2 c.size,Nat.lt_of_lt_of_le h3 (c.kap b h2),(c.pref b h2 j h3).trans h4⟩⟩
theorem ZP{W:World}{x:S3}{b off:Nat}(ha:x.a=some ⟨b,off,none⟩)(j:Nat)(hj:j<x.n):(Instr.indexAt 78 x.v (iv (j:Int))).run prog W=.ok (pt b (off+1*j)) W:=by
 unfold S3.v;rw[ha];exact OG (P:=prog) (e:=1) (z:=1) underlying78 (by kernel_rfl) (by kernel_rfl) hj _ rfl
def doneP(i:Nat):List Pend->Nod->List Let->Nod × List Let
 | [],p,ls=>(p,ls)
 | q::l,p,ls=>doneP i l (p.runP i q) (ls++p.sentP i q)
def F1(i:Nat):List Pend->Nod->List Let->Prop
 | [],_,_=>True
 | q::l,p,ls=>Pp p i q/\ls.length<90000000/\F1 i l (p.runP i q) (ls++p.sentP i q)
def Nod.syn(p:Nod):Nod:=if p.sy<(p.d.length:Int)then{ p with d:=Hi p.d p.sy,sy:=Is p.d p.sy }else p
theorem NL{l:List Pend}{j:Nat}{c:Pend}(h:l[j]?=some c):l.drop j=c::l.drop (j+1):=by
 obtain⟨h1,h2⟩:=List.getElem?_eq_some_iff.1 h;rw[<- h2];exact List.drop_eq_getElem_cons h1
theorem Ze{g:Gh}{w:World}{i nb ob:Nat}{p:Nod}{ls:List Let}{ts:List Tol}(h:NS i nb ob g w p ls ts){w0:World}(hB:Base w0 g w)(hT:Tabs w0)(hi:i<5)(hok:F1 i p.pend { p.syn with pend:=[] } ls)(hpb:p.pend.length<100000000) :
  Calls prog 62 #[pt nb 0] w (NP i nb ob g w (.tuple #[]) (if p.sy<(p.d.length:Int)/\CW p.d p.sy≠0 then(p,ls)else doneP i p.pend { p.syn with pend:=[] } ls).1 (if p.sy<(p.d.length:Int)/\CW p.d p.sy≠0 then(p,ls)else doneP i p.pend { p.syn with pend:=[] } ls).2 ts):=by
 obtain⟨x,lt,tl,hN,hO,hg⟩:=h;have htn:x.tape.n=p.d.length:=by obtain⟨a,cap,hh⟩:=hN.tape.s.shapeT;have:=hN.tape.s.len;simp only[S3.v,Value.slice.injEq]at hh;exact hh.2.1
 refine gI (fn:=f62) (TN i) g func62 hg ?_;refine qN hN ?_;refine qO hO ?_;obtain⟨pv,hP,hPs⟩:=hN.pend;have hF:=hP.fz;have hpn:x.synced.n=p.pend.length:=by rw[hF.n];exact hPs.len
 refine qR [] 16 [12,0,2,4,6,8,0,10,12,14,16,18,0,20,22] fun s1 g1 w1 c1=>?_;by_cases h1:p.sy<(x.tape.n:Int)
 .refine qI ((decide (p.sy<(x.tape.n:Int)))) true (decide_eq_true (by omega)) ?_;refine qR [] 6 [0] fun s2 g2 w2 c2=>?_;refine Ae fun Kq=>?_;have hS:=(hN.tape.ch (c1.trans c2)).s;have hG:∀ z,w2.heap.size<=z->g2.t z=.z:=fun z hz=>(Kq.new z hz).1;refine qC 4 (Zd (s:=p.sy) hS) ?_;rintro e' w3 ⟨tz,rfl,hy3,hn3,b3⟩;refine⟨_,rfl,b3,?_⟩;have c3:=Cg.ofBelow (B:=w.heap.size) (T:=[]) (g:=g2) b3;have htz:=Ir hy3;have hts:FSl _ _ tz _:=⟨hy3,fun hl a ha=>hG _ (hn3 hl a ha)⟩;refine qR [] 13 [0,0,2,0] fun s4 g4 w4 c4=>?_;by_cases h2:CW p.d p.sy≠0
  .refine qI (((CW p.d p.sy) != 0)) true (by simpa using h2) ?_;refine qE (.tuple #[]) fun K=>?_;rw[if_pos ⟨by omega,h2⟩];exact⟨_,rfl,(nsC hN hO (((c1.n c2).n c3).n c4) K),((((c1.nil (TN i)).n c2).n c3).n c4)⟩
  .refine qI (((CW p.d p.sy) != 0)) false (by simpa using h2) ?_;have hsy:p.syn={ p with d:=Hi p.d p.sy,sy:=Is p.d p.sy }:=if_pos (by omega);rw[show(if p.sy<(p.d.length:Int)/\CW p.d p.sy≠0 then(p,ls)else doneP i p.pend { p.syn with pend:=[] } ls)=doneP i p.pend ({ p with d:=Hi p.d p.sy,sy:=Is p.d p.sy,pend:=[] }:Nod) ls from by rw[if_neg (by rintro⟨_,h⟩;exact h2 h),hsy]];rw[show{ p.syn with pend:=[] }=({ p with d:=Hi p.d p.sy,sy:=Is p.d p.sy,pend:=[] }:Nod)from by rw[hsy]]at hok
   refine qR [.n 0 i] 32 [2,0,1,0,0,1] fun s7 g7 w7 c7=>?_;refine GM [true,true,false] ?_;refine Br 51 [(42,S3.v x.synced),(43,iv (x.synced.n:Int)),(44,iv 0)] [false,false] [] (fun k g' w' e L=>∃ (j:Nat) (q:Nod) (l2:List Let),k=p.pend.length-j/\j<=p.pend.length/\e=[(42,S3.v x.synced),(43,iv (x.synced.n:Int)),(44,iv (j:Int))]/\L=[]/\NS i nb ob g' w' q l2 ts/\doneP i (p.pend.drop j) q l2=doneP i p.pend ({ p with d:=Hi p.d p.sy,sy:=Is p.d p.sy,pend:=[] }:Nod) ls/\F1 i (p.pend.drop j) q l2/\Cg w.heap.size (TN i) g w g' w') (by kernel_rfl) (by kernel_rfl) (by kernel_rfl) (by kernel_rfl) p.pend.length (fun K=>?_) ?_
   .have C8:=((((c1.nil ([.n 0 i]:List Tg)).n c2).n c3).n c4).trans (c7);have Z8:Tg.z∉([.n 0 i]:List Tg):=by simp
    exact⟨0,({ p with d:=Hi p.d p.sy,sy:=Is p.d p.sy,pend:=[] }:Nod),ls,rfl,by omega,rfl,rfl,⟨({ x with tape:=tz,synced:=s30 }:NX),lt,tl,K.nd 0 ((hts.ch c4).ch c7) (hN.votes.ch C8 Z8) (AZ hN.heard C8 Z8) ⟨[],OwnS.nil _ _ _ _ _ _,⟨rfl,fun k v q h=>by cases h⟩⟩ (hN.queue.ch C8) (hN.agreed.ch C8) (hN.wants.ch C8) (hN.asked.ch C8) hN.upm,hO.ch C8 Z8 (by simp<;>omega),K.new⟩,rfl,hok,(((((c1.nil (TN i)).n c2).n c3).n c4).trans (c7.mono (by simp[TN])))⟩
   .rintro k gr wr _ zr _ ⟨j,q,l2,rfl,hj,rfl,rfl,hM,hI,hK,hC⟩ J hJ;obtain⟨xr,ltr,tlr,hNr,hOr,hgr⟩:=id hM;refine qN hNr ?_;refine qO hOr ?_;refine qR [] 5 [] fun s9 g9 w9 c9=>?_;by_cases h5:j<p.pend.length
    .refine qI ((decide ((j:Int)<(x.synced.n:Int)))) true (decide_eq_true (by omega)) ?_;obtain⟨pd,hpd⟩:∃ pd,p.pend[j]?=some pd:=⟨_,List.getElem?_eq_getElem h5⟩;obtain⟨v,hv⟩:∃ v,pv[j]?=some v:=⟨_,List.getElem?_eq_getElem (by rw[hPs.len];exact h5)⟩;rw[NL hpd]at hI hK
     obtain⟨hK1,hK2,hK3⟩:=hK;have hFr:=hF.ch hC;obtain⟨bx,hxa,hbx,hkx,hcx⟩:=hFr.at_ j v hv;have hVr:=(hPs.at_ j v pd hv hpd).ch hC (AV i);refine qR [] 5 [] fun s10 g10 w10 c10=>?_;refine qV 0 (pt bx (0+1*j)) (ZP hxa j (by omega)) ?_;refine Ae fun K=>?_;have N13:NS i nb ob g10 w10 q l2 ts:=(nsC hNr hOr (c9.n c10) K);obtain⟨F2,cs2,e2,hcf,_⟩:=FE N13 (hB.ch (((hC.n c9).n c10)) (AV i)) hT hi hK2 pd hK1 (hVr.ch ((c9.nil (TN i)).n c10) (AV i));subst e2;have hFz:=hFr.ch (c9.trans c10);refine qV 1 (.func (.func F2) #[] cs2) (CV (ty:=1) (b:=bx) (k:=0+1*j) (v:=.func (.func F2) #[] cs2) underlying1 rfl (by rw[Nat.zero_add,Nat.one_mul];obtain⟨b2,h2,_,_,h4⟩:=hFz.at_ j _ hv;rw[hxa]at h2;simp only[Option.some.injEq,Addr.mk.injEq,and_true]at h2;subst h2;exact h4)) ?_;refine qR [] 4 [] fun s14 g14 w14 c14=>?_;refine Ae fun K=>?_;have N15:NS i nb ob g14 w14 q l2 ts:=(nsC hNr hOr ((c9.n c10).n c14) K);obtain⟨F3,cs3,e3,_,hcall⟩:=FE N15 (hB.ch ((((hC.n c9).n c10).n c14)) (AV i)) hT hi hK2 pd hK1 (hVr.ch (((c9.nil (TN i)).n c10).n c14) (AV i));simp only[Value.func.injEq,Fn.func.injEq,true_and]at e3;obtain⟨rfl,rfl⟩:=e3;refine PS 1 F2 cs2 (TN i) [false,false] (fun W=>ZG (by kernel_rfl) (hcf W)) (by kernel_rfl) (by kernel_rfl) (by kernel_rfl) hcall ?_;rintro e' w15 ⟨g15,rfl,M15,c15⟩;refine⟨_,g15,rfl,c15,M15.new,?_⟩;replace c15:=c15.ret (B:=w.heap.size);refine qR [] 3 [] fun s17 g17 w17 c17=>?_;refine qV 0 (iv ((j:Int)+1)) (AN (x:=(.tmp 44)) (y:=(.const (iv 1))) (j:Int) 1 underlying3 (by omega)) ?_;refine qR [] 2 [] fun s18 g18 w18 c18=>?_;exact qB [] fun z K0 K=>hJ (p.pend.length-(j+1)) _ _ _ z _ (by omega) ⟨j+1,q.runP i pd,l2++q.sentP i pd,rfl,by omega,rfl,rfl,NS.ch0 M15 (c17.trans c18) K0.new,hI,hK3,((((((hC.n c9).n c10).n c14).trans c15).n c17).n c18)⟩ K
    .refine qI ((decide ((j:Int)<(x.synced.n:Int)))) false (decide_eq_false (by omega)) ?_;refine qR [] 1 [] fun s19 g19 w19 c19=>?_;obtain rfl:j=p.pend.length:=by omega
     rw[List.drop_length]at hI
     rw[<- hI];exact qF hNr hOr (c9.n c19) ((hC.n c9).n c19)
 .refine qI ((decide (p.sy<(x.tape.n:Int)))) false (decide_eq_false (by omega)) ?_;have hsy:p.syn=p:=if_neg (by omega);rw[show(if p.sy<(p.d.length:Int)/\CW p.d p.sy≠0 then(p,ls)else doneP i p.pend { p.syn with pend:=[] } ls)=doneP i p.pend ({ p with pend:=[] }:Nod) ls from by rw[if_neg (by rintro⟨h,_⟩;omega),hsy]];rw[show{ p.syn with pend:=[] }=({ p with pend:=[] }:Nod)from by rw[hsy]]at hok
  refine qR [.n 0 i] 25 [0,0,1] fun s21 g21 w21 c21=>?_;refine Br 51 [(42,S3.v x.synced),(43,iv (x.synced.n:Int)),(44,iv 0)] [false,false] [] (fun k g' w' e L=>∃ (j:Nat) (q:Nod) (l2:List Let),k=p.pend.length-j/\j<=p.pend.length/\e=[(42,S3.v x.synced),(43,iv (x.synced.n:Int)),(44,iv (j:Int))]/\L=[]/\NS i nb ob g' w' q l2 ts/\doneP i (p.pend.drop j) q l2=doneP i p.pend ({ p with pend:=[] }:Nod) ls/\F1 i (p.pend.drop j) q l2/\Cg w.heap.size (TN i) g w g' w') (by kernel_rfl) (by kernel_rfl) (by kernel_rfl) (by kernel_rfl) p.pend.length (fun K=>?_) ?_
  .have C22:=(c1.nil ([.n 0 i]:List Tg)).trans (c21);have Z22:Tg.z∉([.n 0 i]:List Tg):=by simp
   exact⟨0,({ p with pend:=[] }:Nod),ls,rfl,by omega,rfl,rfl,⟨({ x with synced:=s30 }:NX),lt,tl,K.nd 0 (hN.tape.ch C22 Z22) (hN.votes.ch C22 Z22) (AZ hN.heard C22 Z22) ⟨[],OwnS.nil _ _ _ _ _ _,⟨rfl,fun k v q h=>by cases h⟩⟩ (hN.queue.ch C22) (hN.agreed.ch C22) (hN.wants.ch C22) (hN.asked.ch C22) hN.upm,hO.ch C22 Z22 (by simp<;>omega),K.new⟩,rfl,hok,((c1.nil (TN i)).trans (c21.mono (by simp[TN])))⟩
  .rintro k gr wr _ zr _ ⟨j,q,l2,rfl,hj,rfl,rfl,hM,hI,hK,hC⟩ J hJ;obtain⟨xr,ltr,tlr,hNr,hOr,hgr⟩:=id hM;refine qN hNr ?_;refine qO hOr ?_;refine qR [] 5 [] fun s23 g23 w23 c23=>?_;by_cases h5:j<p.pend.length
   .refine qI ((decide ((j:Int)<(x.synced.n:Int)))) true (decide_eq_true (by omega)) ?_;obtain⟨pd,hpd⟩:∃ pd,p.pend[j]?=some pd:=⟨_,List.getElem?_eq_getElem h5⟩;obtain⟨v,hv⟩:∃ v,pv[j]?=some v:=⟨_,List.getElem?_eq_getElem (by rw[hPs.len];exact h5)⟩;rw[NL hpd]at hI hK
    obtain⟨hK1,hK2,hK3⟩:=hK;have hFr:=hF.ch hC;obtain⟨bx,hxa,hbx,hkx,hcx⟩:=hFr.at_ j v hv;have hVr:=(hPs.at_ j v pd hv hpd).ch hC (AV i);refine qR [] 5 [] fun s24 g24 w24 c24=>?_;refine qV 0 (pt bx (0+1*j)) (ZP hxa j (by omega)) ?_;refine Ae fun K=>?_;have N27:NS i nb ob g24 w24 q l2 ts:=(nsC hNr hOr (c23.n c24) K);obtain⟨F2,cs2,e2,hcf,_⟩:=FE N27 (hB.ch (((hC.n c23).n c24)) (AV i)) hT hi hK2 pd hK1 (hVr.ch ((c23.nil (TN i)).n c24) (AV i));subst e2;have hFz:=hFr.ch (c23.trans c24);refine qV 1 (.func (.func F2) #[] cs2) (CV (ty:=1) (b:=bx) (k:=0+1*j) (v:=.func (.func F2) #[] cs2) underlying1 rfl (by rw[Nat.zero_add,Nat.one_mul];obtain⟨b2,h2,_,_,h4⟩:=hFz.at_ j _ hv;rw[hxa]at h2;simp only[Option.some.injEq,Addr.mk.injEq,and_true]at h2;subst h2;exact h4)) ?_;refine qR [] 4 [] fun s28 g28 w28 c28=>?_;refine Ae fun K=>?_;have N29:NS i nb ob g28 w28 q l2 ts:=(nsC hNr hOr ((c23.n c24).n c28) K);obtain⟨F3,cs3,e3,_,hcall⟩:=FE N29 (hB.ch ((((hC.n c23).n c24).n c28)) (AV i)) hT hi hK2 pd hK1 (hVr.ch (((c23.nil (TN i)).n c24).n c28) (AV i));simp only[Value.func.injEq,Fn.func.injEq,true_and]at e3;obtain⟨rfl,rfl⟩:=e3;refine PS 1 F2 cs2 (TN i) [false,false] (fun W=>ZG (by kernel_rfl) (hcf W)) (by kernel_rfl) (by kernel_rfl) (by kernel_rfl) hcall ?_;rintro e' w29 ⟨g29,rfl,M29,c29⟩;refine⟨_,g29,rfl,c29,M29.new,?_⟩;replace c29:=c29.ret (B:=w.heap.size);refine qR [] 3 [] fun s31 g31 w31 c31=>?_;refine qV 0 (iv ((j:Int)+1)) (AN (x:=(.tmp 44)) (y:=(.const (iv 1))) (j:Int) 1 underlying3 (by omega)) ?_;refine qR [] 2 [] fun s32 g32 w32 c32=>?_;exact qB [] fun z K0 K=>hJ (p.pend.length-(j+1)) _ _ _ z _ (by omega) ⟨j+1,q.runP i pd,l2++q.sentP i pd,rfl,by omega,rfl,rfl,NS.ch0 M29 (c31.trans c32) K0.new,hI,hK3,((((((hC.n c23).n c24).n c28).trans c29).n c31).n c32)⟩ K
   .refine qI ((decide ((j:Int)<(x.synced.n:Int)))) false (decide_eq_false (by omega)) ?_;refine qR [] 1 [] fun s33 g33 w33 c33=>?_;obtain rfl:j=p.pend.length:=by omega
    rw[List.drop_length]at hI
    rw[<- hI];exact qF hNr hOr (c23.n c33) ((hC.n c23).n c33)
def Rd(p:Nod)(i j:Nat):Bool:=decide (j≠i/\p.rnd.taught j<p.agreed.length)
def Jo(p:Nod)(i k:Nat):Nat->Nat:=fun j=>if decide (j<k)&&Rd p i j then p.agreed.length else p.rnd.taught j
def Iw(p:Nod)(i k:Nat):Nod:={ p with rnd:={ p.rnd with taught:=Jo p i k } }
def DU(p:Nod)(i:Nat):Nat->List Let
 | 0=>[]
 | k+1=>DU p i k++(if Rd p i k then[{ Cb 5 with src:=i,dst:=k,slot:=p.rnd.taught k,what:=p.agreed.drop (p.rnd.taught k) }]else[])
theorem RV(p:Nod)(i k:Nat):(DU p i k).length<=k:=by
 induction k with
 | zero=>exact Nat.le_refl _
 | succ k ih=>unfold DU;rw[List.length_append];split<;>simp<;>omega
theorem TX(p:Nod)(i:Nat):Iw p i 0=p:=by unfold Iw Jo;simp
theorem RW{p:Nod}{i k:Nat}(h:Rd p i k=false):Jo p i (k+1)=Jo p i k:=by
 funext j
 unfold Jo;by_cases e:j=k
 .subst e;simp[h]
 .rw[show decide (j<k+1)=decide (j<k)from decide_eq_decide.2 (by omega)]
theorem Xf{p:Nod}{i k:Nat}(h:Rd p i k=true):upN (Jo p i k) k p.agreed.length=Jo p i (k+1):=by
 funext j
 unfold upN Jo;by_cases e:j=k
 .subst e;simp[h]
 .rw[if_neg e,show decide (j<k+1)=decide (j<k)from decide_eq_decide.2 (by omega)]
theorem TY{g:Gh}{w:World}{i nb ob:Nat}{p:Nod}{ls:List Let}{ts:List Tol}(h:NS i nb ob g w p ls ts)(hb:ls.length<90000000) :
  Calls prog 63 #[pt nb 0] w (NP i nb ob g w (.tuple #[]) (if p.leads then Iw p i 5 else p) (if p.leads then ls++DU p i 5 else ls) ts):=by
 obtain⟨x,lt,tl,hN,hO,hg⟩:=h;refine gI (fn:=f63) (TN i) g func63 hg ?_;refine qN hN ?_;refine qO hO ?_;refine qR [] 4 [] fun s1 g1 w1 c1=>?_;by_cases h1:p.leads=false
 .refine Ae fun K=>?_;have N3:NS i nb ob g1 w1 p ls ts:=(nsC hN hO c1 K);refine qC 1 (Ef N3 h1) ?_;rintro e' w4 ⟨rfl,b4⟩;refine⟨_,rfl,b4,?_⟩;have c4:=Cg.ofBelow (B:=w.heap.size) (T:=[]) (g:=g1) b4;refine qR [] 3 [] fun s5 g5 w5 c5=>?_;refine qE (.tuple #[]) fun K=>?_;rw[h1,if_neg (by simp),if_neg (by simp)];exact⟨_,rfl,(nsC hN hO ((c1.n c4).n c5) K),(((c1.nil (TN i)).n c4).n c5)⟩
 .have h10:p.leads=true:=by simpa using h1
  refine Ae fun K=>?_;have N8:NS i nb ob g1 w1 p ls ts:=(nsC hN hO c1 K);refine qC 1 (Ef N8 h10) ?_;rintro e' w9 ⟨rfl,b9⟩;refine⟨_,rfl,b9,?_⟩;have c9:=Cg.ofBelow (B:=w.heap.size) (T:=[]) (g:=g1) b9;rw[if_pos h10,if_pos h10];refine qR [] 15 [0] fun s10 g10 w10 c10=>?_;refine Br 51 [(0,pt nb 0),(12,.agg #[iv (p.rnd.taught 0:Int),iv (p.rnd.taught 1:Int),iv (p.rnd.taught 2:Int),iv (p.rnd.taught 3:Int),iv (p.rnd.taught 4:Int)]),(13,iv 0)] [false,false] [] (fun k g' w' e L=>∃ k0:Nat,k=5-k0/\k0<=5/\e=[(0,pt nb 0),(12,.agg #[iv (p.rnd.taught 0:Int),iv (p.rnd.taught 1:Int),iv (p.rnd.taught 2:Int),iv (p.rnd.taught 3:Int),iv (p.rnd.taught 4:Int)]),(13,iv (k0:Int))]/\L=[]/\NS i nb ob g' w' (Iw p i k0) (ls++DU p i k0) ts/\Cg w.heap.size (TN i) g w g' w') (by kernel_rfl) (by kernel_rfl) (by kernel_rfl) (by kernel_rfl) 5 (fun K=>?_) ?_
  .have C11:=(c1.n c9).n c10;exact⟨0,rfl,by omega,rfl,rfl,(by rw[TX,show ls++DU p i 0=ls from List.append_nil _];exact(nsC hN hO C11 K)),(((c1.nil (TN i)).n c9).n c10)⟩
  .rintro k gr wr _ zr _ ⟨k0,rfl,hk0,rfl,rfl,hM,hC⟩ J hJ;obtain⟨xr,ltr,tlr,hNr,hOr,hgr⟩:=hM;have htl:=RV p i k0;refine qN hNr ?_;refine qO hOr ?_;have han:xr.agreed.n=p.agreed.length:=hNr.agreed.num;refine qR [] 5 [] fun s12 g12 w12 c12=>?_;by_cases h2:k0<5
   .refine qI ((decide ((k0:Int)<5))) true (decide_eq_true (by omega)) ?_;refine qR [] 6 [] fun s13 g13 w13 c13=>?_;refine Yb 1 (iv (p.rnd.taught k0:Int)) (fun K=>(by rcases five h2 with rfl|rfl|rfl|rfl|rfl<;>kernel_rfl)) (by kernel_rfl) ?_;refine qR [] 10 [0] fun s14 g14 w14 c14=>?_;by_cases h3:k0≠i
    .refine qV 5 (.bool true) (Gs (t:=3) (m:=(k0:Int)) (n:=(i:Int)) (x:=(.tmp 17)) (y:=(.tmp 21)) (by simp;omega)) ?_;refine qR [] 11 [0] fun s15 g15 w15 c15=>?_;by_cases h4:(p.rnd.taught k0:Int)<(xr.agreed.n:Int)
     .have hx:Rd p i k0=true:=decide_eq_true ⟨by omega,by omega⟩;refine qI ((decide ((p.rnd.taught k0:Int)<(xr.agreed.n:Int)))) true (decide_eq_true (by omega)) ?_;refine qR [] 5 [] fun s16 g16 w16 c16=>?_;refine qS 3 [false,false] hNr hOr ((((c12.n c13).n c14).n c15).n c16) (fun N17=>Hm N17 (by rw[List.length_append];omega) k0 (p.rnd.taught k0) (by show _<=p.agreed.length;omega)) fun g17 w17 x17 lt17 tl17 hN17 hO17 c17=>?_;refine qR [] 14 [13,0,2,4,6,8,10,12,0,14,16,18,20,22] fun s19 g19 w19 c19=>?_;have han1:x17.agreed.n=p.agreed.length:=hN17.agreed.num;refine BG 51 (fun g' w' e L=>e=[(0,pt nb 0),(12,.agg #[iv (p.rnd.taught 0:Int),iv (p.rnd.taught 1:Int),iv (p.rnd.taught 2:Int),iv (p.rnd.taught 3:Int),iv (p.rnd.taught 4:Int)]),(13,iv (k0:Int))]/\L=[⟨nb,.cells (Ax i ob ({ p with rnd:={ p.rnd with taught:=upN (Jo p i k0) k0 x17.agreed.n } }) x17) 96,.n 0 i,false⟩,⟨ob,.cells #[S3.v lt17,S3.v tl17] 66,.n 50 0,false⟩]/\True/\Cg w.heap.size ([.n 0 i]:List Tg) g19 w19 g' w') (by kernel_rfl) ?_ ?_
      .intro J hJ;rcases five h2 with rfl|rfl|rfl|rfl|rfl <;>
       (refine qR [.n 0 i] 3 [24,27,0,1] fun s21 g21 w21 c21=>?_;exact qB [true,true] fun z K0 K=>hJ _ _ _ z _ ⟨rfl,rfl,trivial,c21⟩ K)
      rintro g20 w20 _ z20 _ ⟨rfl,rfl,_,c20⟩;refine qR [] 2 [] fun s22 g22 w22 c22=>?_;refine qV 0 (iv ((k0:Int)+1)) (AN (x:=(.tmp 13)) (y:=(.const (iv 1))) (k0:Int) 1 underlying3 (by omega)) ?_;refine qR [] 2 [] fun s23 g23 w23 c23=>?_;refine qB [false,false] fun z K0 K=>hJ (5-(k0+1)) _ _ _ z _ (by omega) ⟨k0+1,rfl,by omega,rfl,rfl,?_,((((((((((hC.n c12).n c13).n c14).n c15).n c16).trans c17).n c19).trans (c20.mono (by simp[TN]))).n c22).n c23)⟩ K;have C24:=(((c19.nil ([.n 0 i]:List Tg)).trans (c20)).n c22).n c23;rw[show Iw p i (k0+1)={ p with rnd:={ p.rnd with taught:=upN (Jo p i k0) k0 x17.agreed.n } }from by unfold Iw;rw[<- Xf hx,han1],show ls++DU p i (k0+1)=(ls++DU p i k0++[{ Cb 5 with src:=i,dst:=k0,slot:=p.rnd.taught k0,what:=p.agreed.drop (p.rnd.taught k0) }])from by show ls++(DU p i k0++_)=_;rw[hx,if_pos rfl,List.append_assoc]];exact⟨x17,lt17,tl17,K0.ndu 0 hN17 C24,hO17.ch C24 (hn:=by simp<;>omega),K0.new⟩
     .have hx:Rd p i k0=false:=decide_eq_false (fun h=>h4 (by omega));refine qI ((decide ((p.rnd.taught k0:Int)<(xr.agreed.n:Int)))) false (decide_eq_false (by omega)) ?_;refine qR [] 3 [] fun s25 g25 w25 c25=>?_;refine qV 0 (iv ((k0:Int)+1)) (AN (x:=(.tmp 13)) (y:=(.const (iv 1))) (k0:Int) 1 underlying3 (by omega)) ?_;refine qR [] 2 [] fun s26 g26 w26 c26=>?_;refine qB [false,false] fun z K0 K=>hJ (5-(k0+1)) _ _ _ z _ (by omega) ⟨k0+1,rfl,by omega,rfl,rfl,?_,((((((hC.n c12).n c13).n c14).n c15).n c25).n c26)⟩ K;rw[show Iw p i (k0+1)={ p with rnd:={ p.rnd with taught:=Jo p i k0 } }from by unfold Iw;rw[RW hx],show ls++DU p i (k0+1)=ls++DU p i k0 from by show ls++(DU p i k0++_)=_;rw[hx];simp];exact(nsC hNr hOr (((((c12.n c13).n c14).n c15).n c25).n c26) K0)
    .have hx:Rd p i k0=false:=decide_eq_false (fun h=>h.1 (by omega));refine qV 5 (.bool false) (Gs (t:=3) (m:=(k0:Int)) (n:=(i:Int)) (x:=(.tmp 17)) (y:=(.tmp 21)) (by simp;omega)) ?_;refine qR [] 15 [] fun s28 g28 w28 c28=>?_;refine qV 0 (iv ((k0:Int)+1)) (AN (x:=(.tmp 13)) (y:=(.const (iv 1))) (k0:Int) 1 underlying3 (by omega)) ?_;refine qR [] 2 [] fun s29 g29 w29 c29=>?_;refine qB [false,false] fun z K0 K=>hJ (5-(k0+1)) _ _ _ z _ (by omega) ⟨k0+1,rfl,by omega,rfl,rfl,?_,(((((hC.n c12).n c13).n c14).n c28).n c29)⟩ K;rw[show Iw p i (k0+1)={ p with rnd:={ p.rnd with taught:=Jo p i k0 } }from by unfold Iw;rw[RW hx],show ls++DU p i (k0+1)=ls++DU p i k0 from by show ls++(DU p i k0++_)=_;rw[hx];simp];exact(nsC hNr hOr ((((c12.n c13).n c14).n c28).n c29) K0)
   .refine qI ((decide ((k0:Int)<5))) false (decide_eq_false (by omega)) ?_;refine qR [] 1 [] fun s31 g31 w31 c31=>?_;obtain rfl:k0=5:=by omega
    exact qF hNr hOr (c12.n c31) ((hC.n c12).n c31)
end
section
def Bn(l:List Vt):Prop:=B2 l/\∀ v∈l,0<=v.slot/\v.slot<=39
theorem Wu(l:List Vt)(a:Int)(h:B2 l)(hb:∀ v∈l,a<=v.slot/\v.slot<=39):l.length<=(40-a).toNat:=by
 induction l generalizing a with
 | nil=>exact Nat.zero_le _
 | cons u l ih =>
  obtain⟨h1,h2⟩:=h;have hu:=hb u List.mem_cons_self;have:=ih (u.slot+1) h2 fun v hv=>⟨by have:=h1 v hv;omega,(hb v (List.mem_cons_of_mem _ hv)).2⟩;rw[List.length_cons];omega
theorem Bn.len{l:List Vt}(h:Bn l):l.length<=40:=Wu l 0 h.1 h.2
theorem Bn.nil:Bn []:=⟨trivial,fun v h=>by cases h⟩
theorem Em{a:Acc}{v:Vt}(h:AW a v=0):AC a/\Am v/\¬ v.b.lt a.p:=by
 unfold AW at h;by_cases h1:AC a
 .rw[if_neg (fun g=>g h1)]at h
  by_cases h2:Am v
  .rw[if_neg (fun g=>g h2)]at h
   by_cases h3:v.b.lt a.p
   .rw[if_pos h3]at h;cases h
   .exact⟨h1,h2,h3⟩
  .rw[if_pos h2]at h;cases h
 .rw[if_pos h1]at h;cases h
theorem LW{a:Acc}{b:Bal}(h:BL a b=0):AC a/\Ad b/\¬ b.lt a.p:=by
 unfold BL at h;by_cases h1:AC a
 .rw[if_neg (fun g=>g h1)]at h
  by_cases h2:Ad b
  .rw[if_neg (fun g=>g h2)]at h
   by_cases h3:b.lt a.p
   .rw[if_pos h3]at h;cases h
   .exact⟨h1,h2,h3⟩
  .rw[if_pos h2]at h;cases h
 .rw[if_pos h1]at h;cases h
theorem Fc{l:List Vt}{v:Vt}(h:Bn l)(hv:Am v):Bn (Bk l v) :=
 ⟨LI v h.1,fun u hu=>by
  rcases(Kb h.1).1 hu with rfl|⟨h2,_⟩
  .exact hv.1
  .exact h.2 u h2⟩
theorem SR(a:Acc)(l:List Vt)(h:Bn a.vs):Bn (IA a l).vs:=by
 induction l generalizing a with
 | nil=>exact h
 | cons v l ih =>
  rw[IA];refine ih _ ?_;by_cases hv:AW a v=0
  .rw[if_pos hv];show Bn (Dc a v);rw[(Rg hv).2];exact Fc h (Em hv).2.1
  .rw[if_neg hv];exact h
def POk(k:Nat):Pend->Prop
 | .began b vs=>Bn vs
 | .prom to b vs=>to<5/\Bm b/\Bn vs
 | .voted to v=>to<5
 | .refuse to b=>to<5/\Bm b
 | .prop v=>True
 | .askNews to=>to<5
 | .start=>True
 | .tell to slot=>to<5/\slot<=k
theorem POk.mono{k m:Nat}{q:Pend}(h:POk k q)(hk:k<=m):POk m q:=by
 cases q<;>first|exact h|exact⟨h.1,Nat.le_trans h.2 hk⟩
def Pend.wt:Pend->Nat
 | .began _ _=>4
 | .prop _=>4
 | .start=>4
 | _=>1
def At:List Pend->Nat
 | []=>0
 | q::l=>q.wt+At l
theorem E7(l:List Pend)(q:Pend):At (l++[q])=At l+q.wt:=by
 induction l with
 | nil=>simp[At]
 | cons x l ih=>simp only[List.cons_append,At,ih];omega
theorem Dj(l:List Pend):l.length<=At l:=by
 induction l with
 | nil=>exact Nat.le_refl _
 | cons x l ih =>
  rw[At,List.length_cons];have:1<=x.wt:=by cases x<;>simp[Pend.wt]
  omega
structure NOk(n:Nat)(p:Nod):Prop where
 ag:p.agreed.length<=40
 dn:p.done<=p.agreed.length
 qu:p.rnd.queue.length<=40
 wa:p.wants.length<=n
 ask:∀ c,(p.asked c).isSome=true->c∈p.wants
 ro:0<=p.rounds/\p.rounds<=65536
 vp:Bm p.vo.p
 vs:Bn p.vo.vs
 he:∀ j,Bn (p.rnd.heard j).vs
 pe:∀ q∈p.pend,POk p.agreed.length q
structure LOk(l:Let):Prop where
 kd:l.kind<7
 src:l.src<5
 dst:l.dst<5
 bal:Bm l.bal
 vs:Bn l.votes
 wh:l.what.length<=40
 sl:l.kind=5->l.slot+l.what.length<=40
theorem Bm.b0:Bm Ch:=.inr ⟨rfl,rfl⟩
theorem Bm.rng{b:Bal}(h:Bm b):0<=b.r/\b.r<=65536/\0<=b.n/\b.n<=4:=by
 rcases h with⟨h1,h2⟩|⟨h1,h2⟩<;>omega
section
variable{n:Nat}{p:Nod}
theorem NOk.wait(h:NOk n p){q:Pend}(hq:POk p.agreed.length q):NOk n (p.wait q) :=
 { h with pe:=fun r hr=>(List.mem_append.1 hr).elim (h.pe r) fun h1=>(List.mem_singleton.1 h1)▸hq }
theorem NOk.promise(h:NOk n p)(b:Bal):NOk n (p.promise b).1/\(p.promise b).1.pend=p.pend/\(p.promise b).1.agreed=p.agreed/\Bn (p.promise b).2.1/\((p.promise b).2.2=0->Ad b):=by
 unfold Nod.promise;by_cases h1:BL p.vo b≠0
 .rw[if_pos h1];exact⟨h,rfl,rfl,Bn.nil,fun g=>absurd g h1⟩
 .rw[if_neg h1];have h2:=LW (Decidable.byContradiction h1);by_cases h3:b=p.vo.p
  .rw[if_pos h3];exact⟨{ h with vp:=.inl h2.2.1,vs:=h.vs },rfl,rfl,h.vs,fun _=>h2.2.1⟩
  .rw[if_neg h3];by_cases h4:Cu p.d p.sy (Ad b) (BA b)≠0
   .rw[if_pos h4];exact⟨h,rfl,rfl,Bn.nil,fun g=>absurd g h4⟩
   .rw[if_neg h4];exact⟨{ h with vp:=.inl h2.2.1,vs:=h.vs },rfl,rfl,h.vs,fun _=>h2.2.1⟩
theorem NOk.vote(h:NOk n p)(v:Vt):NOk n (p.vote v).1/\(p.vote v).1.pend=p.pend/\(p.vote v).1.agreed=p.agreed/\(p.vote v).1.rnd=p.rnd:=by
 unfold Nod.vote;by_cases h1:AW p.vo v≠0
 .rw[if_pos h1];exact⟨h,rfl,rfl,rfl⟩
 .rw[if_neg h1];have h2:=Em (Decidable.byContradiction h1);by_cases h3:v∈p.vo.vs
  .rw[if_pos h3];exact⟨{ h with vp:=.inl h2.2.1.2.1,vs:=Fc h.vs h2.2.1 },rfl,rfl,rfl⟩
  .rw[if_neg h3];by_cases h4:Cu p.d p.sy (Am v) (B1 v)≠0
   .rw[if_pos h4];exact⟨h,rfl,rfl,rfl⟩
   .rw[if_neg h4];exact⟨{ h with vp:=.inl h2.2.1.2.1,vs:=Fc h.vs h2.2.1 },rfl,rfl,rfl⟩
theorem NOk.refuse(h:NOk n p){to:Nat}(hto:to<5)(e:Int):NOk n (p.refuse to e)/\(p.refuse to e).agreed=p.agreed/\At (p.refuse to e).pend<=At p.pend+1:=by
 unfold Nod.refuse;split
 .exact⟨h.wait ⟨hto,h.vp⟩,rfl,by show At (p.pend++[_])<=_;rw[E7];exact Nat.le_refl _⟩
 .exact⟨h,rfl,Nat.le_succ _⟩
theorem Yu(k:Nat)(r:Rnd)(l:List Cmd)(h:l.length<=40):(ME k r l).length<=40/\l.length<=(ME k r l).length:=by
 induction k generalizing l with
 | zero=>exact⟨h,Nat.le_refl _⟩
 | succ k ih =>
  rw[ME];split
  .rename_i h1
   have h2:=UB h1;have:=ih (l++[Ct r.accs (l.length:Int)]) (by simp;omega);simp at this;exact⟨this.1,by omega⟩
  .exact⟨h,Nat.le_refl _⟩
theorem NOk.grow(h:NOk n p){l:List Cmd}(h1:l.length<=40)(h2:p.agreed.length<=l.length):NOk n { p with agreed:=l } :=
 { h with ag:=h1,dn:=Nat.le_trans h.dn h2,pe:=fun q hq=>(h.pe q hq).mono h2 }
theorem NOk.learnC(h:NOk n p):NOk n p.learnC/\p.learnC.pend=p.pend/\p.agreed.length<=p.learnC.agreed.length :=
 have:=Yu 41 p.rnd p.agreed h.ag
 ⟨h.grow this.1 this.2,rfl,this.2⟩
theorem NOk.learn(h:NOk n p){slot:Nat}{what:List Cmd}(h1:slot<=p.agreed.length)(h2:slot+what.length<=40):NOk n (p.learn slot what)/\(p.learn slot what).pend=p.pend/\p.agreed.length<=(p.learn slot what).agreed.length:=by
 have ha:=h.ag;refine⟨h.grow ?_ ?_,rfl,?_⟩
 .rw[List.length_append,List.length_drop];omega
 .rw[List.length_append];omega
 .show _<=(p.agreed++_).length;rw[List.length_append];omega
theorem Xj{α:Type}{f:Nat->α}{P:α->Prop}(h:∀ j,P (f j))(i:Nat){x:α}(hx:P x):∀ j,P (upN f i x j):=by
 intro j;unfold upN;split
 .exact hx
 .exact h j
theorem NOk.hear(h:NOk n p)(j:Nat){vs:List Vt}(hv:Bn vs):NOk n { p with rnd:=p.rnd.hear j vs } :=
 { h with qu:=h.qu,he:=Xj (P:=fun a:Acc=>Bn a.vs) h.he j (SR _ _ hv) }
theorem NOk.count(h:NOk n p)(j:Nat)(v:Vt):NOk n (p.count j v)/\(p.count j v).pend=p.pend/\p.agreed.length<=(p.count j v).agreed.length:=by
 unfold Nod.count;by_cases h1:v.b≠p.rnd.bal
 .rw[if_pos h1];exact⟨h,rfl,Nat.le_refl _⟩
 .rw[if_neg h1];by_cases h2:AW (p.rnd.heard j) v≠0
  .rw[if_pos h2];exact⟨h,rfl,Nat.le_refl _⟩
  .rw[if_neg h2];have h3:=Decidable.byContradiction h2;have:NOk n { p with rnd:={ p.rnd with heard:=upN p.rnd.heard j ⟨BY (p.rnd.heard j) v,Dc (p.rnd.heard j) v⟩ } } :=
    { h with qu:=h.qu,he:=Xj (P:=fun a:Acc=>Bn a.vs) h.he j (by show Bn (Dc _ v);rw[(Rg h3).2];exact Fc (h.he j) (Em h3).2.1) }
   exact this.learnC
theorem NOk.enqueue(h:NOk n p)(l:List Cmd):NOk n (p.enqueue l)/\(p.enqueue l).pend=p.pend/\(p.enqueue l).agreed=p.agreed:=by
 unfold Nod.enqueue;split
 .exact⟨{ h with qu:=XR _ _ h.qu,he:=h.he },rfl,rfl⟩
 .exact⟨h,rfl,rfl⟩
theorem NOk.take(h:NOk n p){l:Let}(hl:LOk l):NOk n (p.take l)/\At (p.take l).pend<=At p.pend+1/\p.agreed.length<=(p.take l).agreed.length:=by
 have ha:=h.ag;unfold Nod.take;have hw:∀ {P:Nod} {q:Pend},P.pend=p.pend->q.wt=1->At (P.wait q).pend<=At p.pend+1:=fun{P q} e e2=>by
  show At (P.pend++[q])<=_;rw[E7,e,e2];exact Nat.le_refl _
 split
 .have hp:=h.promise l.bal;split
  .have:=h.refuse hl.src (p.promise l.bal).2.2;exact⟨this.1,this.2.2,by rw[this.2.1];exact Nat.le_refl _⟩
  .rename_i h1
   exact⟨hp.1.wait ⟨hl.src,.inl (hp.2.2.2.2 (Decidable.byContradiction h1)),hp.2.2.2.1⟩,hw hp.2.1 rfl,by show _<=(p.promise l.bal).1.agreed.length;rw[hp.2.2.1];exact Nat.le_refl _⟩
 .have hk:=h.learn (slot:=0) (what:=l.what) (Nat.zero_le _) (by have:=hl.wh;omega);simp only;split
  .exact⟨hk.1,by rw[hk.2.1];omega,hk.2.2⟩
  .have h2:=hk.1.hear l.src (vs:=l.votes) hl.vs;have h3:NOk n { p.learn 0 l.what with rnd:={ (p.learn 0 l.what).rnd.hear l.src l.votes with taught:=upN (p.learn 0 l.what).rnd.taught l.src l.what.length } }:={ h2 with qu:=h2.qu,he:=h2.he };have h4:=h3.learnC;exact⟨h4.1,by rw[h4.2.1];show At (p.learn 0 l.what).pend<=_;rw[hk.2.1];omega,Nat.le_trans hk.2.2 h4.2.2⟩
 .have hr:=h.ro;have hb:=hl.bal.rng;exact⟨{ h with ro:=by show 0<=max p.rounds l.bal.r/\max p.rounds l.bal.r<=65536;omega },Nat.le_succ _,Nat.le_refl _⟩
 .have hp:=h.vote l.vote;split
  .have:=h.refuse hl.src (p.vote l.vote).2;exact⟨this.1,this.2.2,by rw[this.2.1];exact Nat.le_refl _⟩
  .exact⟨hp.1.wait hl.src,hw hp.2.1 rfl,by show _<=(p.vote l.vote).1.agreed.length;rw[hp.2.2.1];exact Nat.le_refl _⟩
 .have:=h.count l.src l.vote;exact⟨this.1,by rw[this.2.1];omega,this.2.2⟩
 .rename_i hk
  split
  .exact⟨h.wait hl.src,hw rfl rfl,Nat.le_refl _⟩
  .have:=h.learn (slot:=l.slot) (what:=l.what) (by omega) (hl.sl hk);exact⟨this.1,by rw[this.2.1];omega,this.2.2⟩
 .have he:=h.enqueue l.what;simp only;split
  .rename_i h1
   exact⟨he.1.wait ⟨hl.src,Nat.le_of_lt h1⟩,hw he.2.1 rfl,by show _<=(p.enqueue l.what).agreed.length;rw[he.2.2];exact Nat.le_refl _⟩
  .exact⟨he.1,by rw[he.2.1];omega,by rw[he.2.2];exact Nat.le_refl _⟩
 .exact⟨h,Nat.le_succ _,Nat.le_refl _⟩
end
end
section
open Go.RowKit
def Fb(l:List Int)(n:Nat):List Int:=l++List.replicate (n-l.length) 0
def GO(l:List Int):List Int:=if 64<l.length then dig l else l
def fk(l:List Int):List Int:=Fb (GO l) 64
def AU(k:List Int)(m:Int):List Int:=k.map fun x=>bits .xor .u8 x m
def D4(key b:List Int):List Int:=dig (AU (fk key) 92++dig (AU (fk key) 54++b))
theorem Lc(l:List Int)(n:Nat)(h:l.length<=n):(Fb l n).length=n:=by simp[Fb];omega
theorem NR{l:List Int}(h:∀ x∈l,0<=x/\x<256)(n:Nat):∀ x∈Fb l n,0<=x/\x<256:=by
 intro x hx;rcases List.mem_append.1 hx with h1|h1
 .exact h x h1
 .rw[List.eq_of_mem_replicate h1];omega
theorem MB(l:List Int):(GO l).length<=64:=by
 unfold GO;split
 .rw[Ay];omega
 .omega
theorem Qg{l:List Int}(h:∀ x∈l,0<=x/\x<256):∀ x∈GO l,0<=x/\x<256:=by
 unfold GO;split
 .exact CS l
 .exact h
theorem Ec(l:List Int):(fk l).length=64:=Lc _ _ (MB l)
theorem XW{l:List Int}(h:∀ x∈l,0<=x/\x<256):∀ x∈fk l,0<=x/\x<256:=NR (Qg h) 64
theorem Ey(l:List Int)(m:Int):(AU l m).length=l.length:=by simp[AU]
theorem Ke{l:List Int}(h:∀ x∈l,0<=x/\x<256){m:Int}(hm:0<=m/\m<256):∀ x∈AU l m,0<=x/\x<256:=by
 intro x hx;obtain⟨y,hy,rfl⟩:=List.mem_map.1 hx;have hb:=h y hy;rw[u8_xor _ _ hb.1 hb.2 hm.1 hm.2];have:y.toNat ^^^ m.toNat<256:=Nat.xor_lt_two_pow (n:=8) (by omega) (by omega);omega
theorem CU(k b:List Int):(D4 k b).length=32:=rfl
theorem LO(k b:List Int):∀ x∈D4 k b,0<=x/\x<256:=CS _
theorem LH:(prog.info? 5).map (·.size)=some 1:=by kernel_rfl
theorem IQ(l:List Int):splice ((List.replicate 64 (0:Int)).map (Value.int .u8)) 0 (l.map (Value.int .u8))=(Fb l 64).map (Value.int .u8):=by
 have e:(List.replicate 64 (0:Int)).map (Value.int .u8)=List.replicate 64 (Value.int .u8 0):=List.map_replicate;rw[e];simp only[splice,Fb,List.take_zero,List.nil_append,List.length_map,Nat.zero_add,List.drop_replicate,List.map_append,List.map_replicate]
theorem Ht{P:Program}{ops:Array Oper}{rest:List Oper}{o:Oper}{a:Act}{w:World}{Q:Exit->Act->World->Prop}(hgd:o.guard=none)(ty:TypeId)(x y:Operand)(ho:o.op=.store ty x y)
  (g:Nat)(cells:Array Value)(hx:a.eval x=.pointer (some ⟨g,0,none⟩))(hy:a.eval y=.agg cells)
  (t:TypeId)(old:Array Value)(hg:w.heap[g]?=some (.cells old t (0,0)))(hi:(P.info? ty).map (·.size)=some cells.size)
  (hold:old.size=cells.size)(h1:cells.all (·.oneCell')=true)(B:Nat)(w0:World)(hb:Below B w0 w)(hBg:B<=g)
  (h:∀ w',w'.heap[g]?=some (.cells cells t (0,0))->Below B w0 w'->wpList P ops Q rest (a.put o.dst undef) w'):wpList P ops Q (o::rest) a w :=
 wpList_store_row hgd ty x y ho g cells hx hy t old hg hi hold h1 (h _ (setRow_heap w g _ _ t _ hg) (Bo hb hBg _))
theorem Sl.copySrc{w:World}{sp:Option Addr}{n c:Nat}{l:List Int}(h:Sl w (.slice sp n c) l)(hp:0<l.length):∃ ad,sp=some ad/\∀ (j:Nat) (v:Value),(l.map (Value.int .u8))[j]?=some v->w.cell? (ad.add j)=some v:=by
 obtain⟨⟨a,cap,e,hc,hn,h1⟩,hla,hba⟩:=h;simp only[Value.slice.injEq]at e;obtain⟨rfl,rfl,rfl⟩:=e;rcases h1 with rfl|⟨b,off,rfl,_,hcell⟩
 .simp at hp
 .refine⟨_,rfl,fun j v hj=>?_⟩;have hjl:j<l.length:=by
   have:=(List.getElem?_eq_some_iff.1 hj).1;simpa using this
  have hadd:(⟨b,off,none⟩:Addr).add j=⟨b,off+j,none⟩:=by unfold Addr.add;split<;>simp_all
  rw[hadd,hcell j hjl];simp[List.getElem?_eq_getElem hjl]at hj
  rw[AK hjl,hj]
theorem NT(v:Value)(l:List Int)(w:World)(h:Sl w v l)(hl:l.length<=100000)(ht:AA w) :
  Calls prog 143 #[v] w fun e w'=>e=.returned (.agg (AI (fk l)))/\Bw w w':=by
 have hs:=h;obtain⟨⟨a,cap,rfl,hc,hn,h1⟩,hla,hba⟩:=h;have H1:Hid _:=h1;have hsz:(prog.info? 223).map (·.size)=some (AI (fk l)).size:=by rw[Aw,Ec];kernel_rfl
 clear h1 hba;by_cases hk:64<l.length
 .have ek:GO l=dig l:=by unfold GO;rw[if_pos hk]
  have EK:Hid (fk l=Fb (dig l) 64):=by unfold Hid fk;rw[ek]
  clear ek;go_enter func143,ntmps143
  go_wp2_with fail
  generalize hW0:w.alloc _=W0;have hb0:Bw w W0:=by rw[<- hW0];exact(Below.refl _ _).alloc (Nat.le_refl _) _
  have hr0:W0.heap[w.heap.size]?=some (.cells (AI (List.replicate 64 0)) 223 (0,0)):=by rw[<- hW0];exact heap_alloc_new _ _
  have hs0:W0.heap.size=w.heap.size+1:=by rw[<- hW0];simp
  clear hW0;refine(Ev _ l W0 (hs.below hb0) hl (ht.below hb0)).mono ?_;rintro e w1 ⟨v1,rfl,ho1,hb1⟩;obtain⟨g1,c1,hv,hgB,hgs,hcp,hcell,_⟩:=Dw ho1 (E3 (Ay l));subst hv;have hr1:w1.heap[w.heap.size]?=some (.cells (AI (List.replicate 64 0)) 223 (0,0)):=(hb1.block _ (by omega)).trans hr0;have hB1:Bw w w1:=hb0.trans (hb1.mono hb0.size);have hz1:w.heap.size<w1.heap.size:=(Array.getElem?_eq_some_iff.1 hr1).1;have s1:Sl w1 (.slice (some ⟨g1,0,none⟩) (dig l).length c1) (dig l):=Sl.ofOwns ho1 (by rw[Ay];omega) (CS l);go_wp2_with (refine wpList_copy_splice rfl _ _ 25 25 rfl 5 underlying25 LH _ _ _ _ _ _ rfl rfl w1.heap.size 0 ((List.replicate 64 (0:Int)).map (Value.int .u8)) 223 (heap_alloc_new _ _) ((dig l).map (Value.int .u8)) (by rw[List.length_map,Ay];rfl) (fun _=>⟨rfl,(s1.below ((Below.refl _ _).alloc (Nat.le_refl _) _)).copySrc (by rw[Ay];omega)⟩) (by rw[List.length_map,Ay];simp) (Ee _) w1.heap.size _ (Below.refl _ _) (Nat.le_refl _) ?_)
  intro w2 H2 hb2;have hr2:w2.heap[w1.heap.size]?=some (.cells (AI (fk l)) 223 (0,0)):=by
   have h3:w2.heap[w1.heap.size]?=some (.cells (splice ((List.replicate 64 (0:Int)).map (Value.int .u8)) 0 ((dig l).map (Value.int .u8))).toArray 223 (0,0)):=H2.out;rw[IQ]at h3
   rw[EK.out];exact h3
  have hB2:Bw w w2:=(hB1.alloc hB1.size _).trans (hb2.mono (by omega));have hq2:w2.heap[w.heap.size]?=some (.cells (AI (List.replicate 64 0)) 223 (0,0)):=by
   rw[hb2.block _ hz1,heap_alloc_old _ _ hz1];exact hr1
  clear H2 hb2 hr1 hr0 hs0 hb0 hb1 hcell ho1 s1 hgs hgB;go_wp2_with (first|(refine wpList_load_row rfl 223 _ rfl w1.heap.size rfl 223 _ (0,0) _ hr2 underlying223 rfl hsz ?_)|(refine wpList_store_row rfl 223 _ _ rfl w.heap.size _ rfl rfl 223 _ hq2 hsz (by rw[Aw,Aw,Ec];rfl) (J8 _) ?_))
  refine bodyPost_ret (v:=.agg (AI (fk l))) (results_cell_row rfl _ _ w.heap.size 223 _ (0,0) _ rfl (setRow_heap w2 w.heap.size _ _ 223 _ hq2) underlying223 rfl hsz) rfl ⟨rfl,Bo hB2 (Nat.le_refl _) _⟩
 .have ek:GO l=l:=by unfold GO;rw[if_neg hk]
  have EK:Hid (fk l=Fb l 64):=by unfold Hid fk;rw[ek]
  clear ek;go_enter func143,ntmps143
  go_wp2_with (refine wpList_copy_splice rfl _ _ 25 25 rfl 5 underlying25 LH _ _ _ _ _ _ rfl rfl (w.heap.size+1) 0 ((List.replicate 64 (0:Int)).map (Value.int .u8)) 223 (heap_alloc2_new _ _ _) (l.map (Value.int .u8)) (by rw[List.length_map];exact(Nat.min_eq_left (show l.length<=64 by omega)).symm) (fun hp=>⟨rfl,(hs.below (((Below.refl _ _).alloc (Nat.le_refl _) _).alloc (by simp) _)).copySrc (by simpa using hp)⟩) (by rw[List.length_map,List.length_map,List.length_replicate];omega) (Ee _) (w.heap.size+1) _ (Below.refl _ _) (Nat.le_refl _) ?_)
  intro w2 H2 hb2;have hr2:w2.heap[w.heap.size+1]?=some (.cells (AI (fk l)) 223 (0,0)):=by
   have h3:w2.heap[w.heap.size+1]?=some (.cells (splice ((List.replicate 64 (0:Int)).map (Value.int .u8)) 0 (l.map (Value.int .u8))).toArray 223 (0,0)):=H2.out;rw[IQ]at h3
   rw[EK.out];exact h3
  have hB2:Bw w w2:=(((Below.refl _ _).alloc (Nat.le_refl _) _).alloc (by simp) _).trans (hb2.mono (by omega));have hq2:w2.heap[w.heap.size]?=some (.cells (AI (List.replicate 64 0)) 223 (0,0)):=by
   rw[hb2.block _ (by omega)];exact heap_alloc2_old _ _ _
  clear H2 hb2;go_wp2_with (first|(refine wpList_load_row rfl 223 _ rfl (w.heap.size+1) rfl 223 _ (0,0) _ hr2 underlying223 rfl hsz ?_)|(refine wpList_store_row rfl 223 _ _ rfl w.heap.size _ rfl rfl 223 _ hq2 hsz (by rw[Aw,Aw,Ec];rfl) (J8 _) ?_))
  refine bodyPost_ret (v:=.agg (AI (fk l))) (results_cell_row rfl _ _ w.heap.size 223 _ (0,0) _ rfl (setRow_heap w2 w.heap.size _ _ 223 _ hq2) underlying223 rfl hsz) rfl ⟨rfl,Bo hB2 (Nat.le_refl _) _⟩
theorem Yk(l:List Int)(hl:l.length=64)(j:Nat)(hj:j<64):∀ w,(Instr.index 223 (.agg (AI l)) (.int .i64 (j:Int))).run prog w=.ok (.int .u8 (l.getD j 0)) w:=by
 intro w;have hg:(AI l)[j]?=some (.int .u8 (l.getD j 0)):=by
  simp[AI,List.getElem?_eq_getElem (show j<l.length by omega),List.getD]
 have h0:(0:Int)<=j/\(j:Int)<64:=by omega
 simp[Instr.index,run_underlying underlying223,asIntOf,h0,part,hg];intro h;omega
theorem Kf(k:List Int)(m:Int)(w:World)(hk:k.length=64)(hm:0<=m/\m<256)(hb:∀ x∈k,0<=x/\x<256) :
  Calls prog 145 #[.agg (AI k),.int .u8 m] w fun e w'=>∃ v',e=.returned v'/\w'.ownsRow w.heap.size 5 1 v' (AU k m).length ((AU k m).map (Value.int .u8))/\Bw w w':=by
 obtain⟨i0,hi,hz0,hz1,hz2⟩:=info_parts As;have hsz:(prog.info? 223).map (·.size)=some (AI k).size:=by rw[Aw,hk];kernel_rfl
 have HK:Hid (k.length=64):=hk;clear hk;go_enter func145,ntmps145
 go_wp2_with (at_make;refine wpList_make_own _ rfl _ _ 25 rfl w.heap.size 5 i0 (.int .u8 0) 1 underlying25 hi hz0 hz1 _ _ _ 64 rfl rfl (by omega) (by rw[hz2];omega) (by unfold maxLen;omega) (by simp) ?_)
 intro w1 ho1 hg1;have hb1:Bw w w1:=((Below.refl _ _).alloc (Nat.le_refl _) _).grown hg1 (by simp) (by simp);have hrow:w1.heap[w.heap.size]?=some (.cells (AI k) 223 (0,0)):=by
  rw[hg1.block w.heap.size (by simp) (by simp)];exact heap_alloc_new _ _
 have ho1':w1.ownsRow w.heap.size 5 1 (.slice (some ⟨w.heap.size+1,0,none⟩) 0 64) (AU (k.take 0) m).length ((AU (k.take 0) m).map (Value.int .u8)):=ho1;clear ho1 hg1;go_wp2_with (refine wpList_load_row rfl 223 _ rfl w.heap.size rfl 223 _ (0,0) _ hrow underlying223 rfl hsz ?_)
 go_loopw [5,10] (fun v i wr=>∃ j:Nat,j<=64/\i=.int .i64 j/\wr.ownsRow w.heap.size 5 1 v (AU (k.take j) m).length ((AU (k.take j) m).map (Value.int .u8))/\Bw w wr) (fun _ i _=>64-(intOf i).toNat)
 case atStart=>exact⟨0,by omega,rfl,ho1',hb1⟩
 case round =>
  clear ho1' hb1 hrow;obtain⟨j,hj,rfl,hown,hbw⟩:=hrel;have hlt:=hown.lt;by_cases hj64:j<64
  .have hix:=Yk k HK.out j hj64;have hlen:(AU (k.take j) m).length<=64:=by rw[Ey,List.length_take];omega
   have HT:Hid (AU (k.take (j+1)) m=AU (k.take j) m++[bits .xor .u8 (k.getD j 0) m]):=by
    unfold Hid;have hjl:j<k.length:=by rw[HK.out];exact hj64
    rw[List.take_succ_eq_append_getElem hjl,AK hjl,AU,List.map_append];rfl
   have hxb:=Aj hb j;have hyb:0<=bits .xor .u8 (k.getD j 0) m/\bits .xor .u8 (k.getD j 0) m<256:=by
    rw[u8_xor _ _ hxb.1 hxb.2 hm.1 hm.2];have:(k.getD j 0).toNat ^^^ m.toNat<256:=Nat.xor_lt_two_pow (n:=8) (by omega) (by omega);omega
   have HY:Hid (0<=bits .xor .u8 (k.getD j 0) m/\bits .xor .u8 (k.getD j 0) m<256):=hyb;generalize AU (k.take j) m=pre at hown HT hlen;generalize k.getD j 0=x at hix HT hxb hyb HY;clear hyb hxb;go_wp2_with (at_builtin;refine Aa _ rfl _ _ 25 rfl w.heap.size 5 underlying25 As _ _ rfl rfl pre _ (hown.alloc _) (Sl.one _ _ _ rfl HY.out) (by simp;omega) (by have:=hbw.size;simp;omega) ?_)
   intro v' w' ho hg;have ho':w'.ownsRow w.heap.size 5 1 v' (pre++[bits .xor .u8 x m]).length ((pre++[bits .xor .u8 x m]).map (Value.int .u8)):=by simpa using ho
   have hb':Bw w w':=(hbw.alloc hbw.size _).grown hg (by have:=hbw.size;simp;omega) (fun k hk=>(hlt k hk).1);clear ho hg hown hlt hbw;go_wp2
   go_roundw
   case rel=>exact⟨j+1,by omega,by go_num,by rw[HT.out];exact ho',hb'⟩
   case measure=>simp[intOf];omega
  .have HJ:Hid (k.take j=k):=by unfold Hid;exact List.take_of_length_le (by rw[HK.out];omega)
   go_wp2
   go_ret;refine⟨u5,rfl,?_,hbw⟩;rw[HJ.out]at hown
   exact hown
theorem MF(vk vb:Value)(k b:List Int)(w:World)(hk:Sl w vk k)(hb:Sl w vb b)(hkl:k.length<=100000)(hbl:b.length<=90000)(ht:AA w) :
  Calls prog 112 #[vk,vb] w fun e w'=>∃ v',e=.returned v'/\Fresh w w' v' (D4 k b):=by
 have hsz:(prog.info? 223).map (·.size)=some (AI (fk k)).size:=by rw[Aw,Ec];kernel_rfl
 have hfb:=XW hk.byte;have hfl:=Ec k;have HF:Hid (D4 k b=dig (AU (fk k) 92++dig (AU (fk k) 54++b))):=rfl;go_enter func112,ntmps112
 go_wp2_with fail
 refine(NT vk k w hk hkl ht).mono ?_;rintro e w1 ⟨rfl,hb1⟩;generalize fk k=K at hsz hfb hfl HF ⊢;go_wp2_with (refine Ht rfl 223 _ _ rfl w1.heap.size _ rfl rfl 223 _ (heap_alloc_new _ _) hsz (by rw[Aw,hfl];rfl) (J8 _) w.heap.size w (hb1.alloc hb1.size _) hb1.size ?_)
 intro w2 hrow hb2;have hz:w1.heap.size<w2.heap.size:=(Array.getElem?_eq_some_iff.1 hrow).1;go_wp2_with (refine wpList_load_row rfl 223 _ rfl w1.heap.size rfl 223 _ (0,0) _ hrow underlying223 rfl hsz ?_)
 refine(Kf K 54 w2 hfl (by omega) hfb).mono ?_;rintro e w3 ⟨v3,rfl,ho3,hb3⟩;have hB3:Bw w w3:=hb2.trans (hb3.mono hb2.size);have hlt3:=ho3.lt;have lm54:(AU K 54).length=64:=by rw[Ey,hfl]
 have lm92:(AU K 92).length=64:=by rw[Ey,hfl]
 have bm54:=Ke hfb (m:=54) (by omega);have bm92:=Ke hfb (m:=92) (by omega);go_wp2_with (at_builtin;refine Aa _ rfl _ _ 25 rfl w2.heap.size 5 underlying25 As _ _ rfl rfl (AU K 54) b ho3 (hb.below hB3) (by omega) hb3.size ?_)
 intro v4 w4 ho4 hg4;have hb4:Bw w2 w4:=hb3.grown hg4 hb3.size (fun k hk=>(hlt3 k hk).1);have hB4:Bw w w4:=hb2.trans (hb4.mono hb2.size);have ho4':w4.ownsRow w2.heap.size 5 1 v4 (AU K 54++b).length ((AU K 54++b).map (Value.int .u8)):=by simpa[lm54]using ho4
 have by4:∀ x∈AU K 54++b,0<=x/\x<256:=fun x hx=>by
  rcases List.mem_append.1 hx with h|h
  .exact bm54 x h
  .exact hb.byte x h
 have ly4:(AU K 54++b).length<=91000:=by rw[List.length_append,lm54];omega
 clear ho4 hg4 ho3 hlt3;generalize AU K 54++b=L4 at ho4' by4 ly4 HF;go_wp2_with fail
 refine(Ev v4 L4 w4 (Sl.ofOwns ho4' (by omega) by4) (by omega) (ht.below hB4)).mono ?_;rintro e w5 ⟨v5,rfl,ho5,hb5⟩;have hb5':Bw w2 w5:=hb4.trans (hb5.mono hb4.size);have s5:Sl w5 v5 (dig L4):=Sl.ofOwns ho5 (by rw[Ay];omega) (CS L4);have l5:=Ay L4;have y5:=CS L4;generalize dig L4=D at s5 HF l5 y5;have hrow5:w5.heap[w1.heap.size]?=some (.cells (AI K) 223 (0,0)):=(hb5'.block _ hz).trans hrow;clear ho4' ho5;go_wp2_with (refine wpList_load_row rfl 223 _ rfl w1.heap.size rfl 223 _ (0,0) _ hrow5 underlying223 rfl hsz ?_)
 refine(Kf K 92 w5 hfl (by omega) hfb).mono ?_;rintro e w6 ⟨v6,rfl,ho6,hb6⟩;have hlt6:=ho6.lt;go_wp2_with (at_builtin;refine Aa _ rfl _ _ 25 rfl w5.heap.size 5 underlying25 As _ _ rfl rfl (AU K 92) D ho6 (s5.below hb6) (by omega) hb6.size ?_)
 intro v7 w7 ho7 hg7;have hb7:Bw w5 w7:=hb6.grown hg7 hb6.size (fun k hk=>(hlt6 k hk).1);have hB5:Bw w w5:=hb2.trans (hb5'.mono hb2.size);have hB7:Bw w w7:=hB5.trans (hb7.mono hB5.size);have ho7':w7.ownsRow w5.heap.size 5 1 v7 (AU K 92++D).length ((AU K 92++D).map (Value.int .u8)):=by simpa[lm92,l5]using ho7
 have by7:∀ x∈AU K 92++D,0<=x/\x<256:=fun x hx=>by
  rcases List.mem_append.1 hx with h|h
  .exact bm92 x h
  .exact y5 x h
 have ly7:(AU K 92++D).length<=96:=by rw[List.length_append,lm92];omega
 clear ho7 hg7 ho6 hlt6;generalize AU K 92++D=L7 at ho7' by7 ly7 HF;go_wp2_with fail
 refine(Ev v7 L7 w7 (Sl.ofOwns ho7' (by omega) by7) (by omega) (ht.below hB7)).mono ?_;rintro e w8 ⟨v8,rfl,ho8,hb8⟩;go_wp2
 go_ret;refine⟨v8,rfl,?_⟩;rw[HF.out];exact Fresh.ofOwns (AM ho8 hB7.size) (E3 (Ay L7)) (by rw[Ay];omega) (CS L7) (hB7.trans (hb8.mono hB7.size))
theorem ZX(vk vb:Value)(k b:List Int)(w:World)(hk:Sl w vk k)(hb:Sl w vb b)(hkl:k.length<=256)(hbl:b.length<=2000)(ht:AA w) :
  Calls prog 110 #[vk,vb] w fun e w'=>∃ v',e=.returned (.tuple #[v',.int .i64 0])/\Fresh w w' v' (D4 k b):=by
 have hs:=hk;have hs2:=hb;obtain⟨⟨a,cap,rfl,_,_,_⟩,hla,hba⟩:=hk;obtain⟨⟨a2,cap2,rfl,_,_,_⟩,hla2,hba2⟩:=hb;clear hba hba2;go_enter func110,ntmps110
 go_wp2_with fail
 refine(MF _ _ k b w hs hs2 (by omega) (by omega) ht).mono ?_;rintro e w1 ⟨v1,rfl,hf⟩;go_wp2
 go_ret2
 exact⟨v1,rfl,hf⟩
theorem MK(va vi:Value)(a i:List Int)(c:Int)(w:World)(ha:Sl w va a)(hi:Sl w vi i)(hal:a.length<=1000)(hil:i.length<=1000)(hc:0<=c/\c<256) :
  Calls prog 142 #[va,vi,.int .u8 c] w fun e w'=>∃ v',e=.returned v'/\w'.ownsRow w.heap.size 5 1 v' (a++i++[c]).length ((a++i++[c]).map (Value.int .u8))/\Bw w w':=by
 obtain⟨i0,hi0,hz0,hz1,hz2⟩:=info_parts As;have hs:=ha;have hs2:=hi;obtain⟨⟨aa,cap,rfl,_,_,_⟩,hla,hba⟩:=ha;obtain⟨⟨a2,cap2,rfl,_,_,_⟩,hla2,hba2⟩:=hi;clear hba hba2;go_enter func142,ntmps142
 go_wp2_with (at_make;refine wpList_make_own _ rfl _ _ 25 rfl w.heap.size 5 i0 (.int .u8 0) 1 underlying25 hi0 hz0 hz1 _ _ _ (a.length+i.length+1) rfl rfl (by omega) (by rw[hz2];omega) (by unfold maxLen;omega) (Nat.le_refl _) ?_)
 intro w1 ho1 hg1;have hb1:Bw w w1:=(Below.refl _ _).grown hg1 (Nat.le_refl _) (by simp);have ho1':w1.ownsRow w.heap.size 5 1 (.slice (some ⟨w.heap.size,0,none⟩) 0 (a.length+i.length+1)) ([]:List Int).length (([]:List Int).map (Value.int .u8)):=ho1;clear ho1 hg1;go_wp2_with (at_builtin;refine Aa _ rfl _ _ 25 rfl w.heap.size 5 underlying25 As _ _ rfl rfl [] a ho1' (hs.below hb1) (by simp;omega) hb1.size ?_)
 intro v2 w2 ho2 hg2;have ho2':w2.ownsRow w.heap.size 5 1 v2 a.length (a.map (Value.int .u8)):=by simpa using ho2
 have hb2:Bw w w2:=hb1.grown hg2 hb1.size (by simp[Value.ownBlock]);have hlt2:=ho2'.lt;clear ho1' hg2 hb1 ho2;go_wp2_with (at_builtin;refine Aa _ rfl _ _ 25 rfl w.heap.size 5 underlying25 As _ _ rfl rfl a i ho2' (hs2.below hb2) (by omega) hb2.size ?_)
 intro v3 w3 ho3 hg3;have ho3':w3.ownsRow w.heap.size 5 1 v3 (a++i).length ((a++i).map (Value.int .u8)):=by simpa using ho3
 have hb3:Bw w w3:=hb2.grown hg3 hb2.size (fun k hk=>(hlt2 k hk).1);have hlt3:=ho3'.lt;clear ho2' hg3 hb2 ho3 hlt2;go_wp2_with (at_builtin;refine Aa _ rfl _ _ 25 rfl w.heap.size 5 underlying25 As _ _ rfl rfl (a++i) [c] (ho3'.alloc _) (Sl.one _ _ _ rfl hc) (by simp;omega) (by have:=hb3.size;simp;omega) ?_)
 intro v4 w4 ho4 hg4;have ho4':w4.ownsRow w.heap.size 5 1 v4 (a++i++[c]).length ((a++i++[c]).map (Value.int .u8)):=by simpa using ho4
 have hb4:Bw w w4:=(hb3.alloc hb3.size _).grown hg4 (by have:=hb3.size;simp;omega) (fun k hk=>(hlt3 k hk).1);clear ho3' hg4 hb3 ho4 hlt3;go_wp2
 go_ret;exact⟨v4,rfl,ho4',hb4⟩
theorem Sl.grown{w w':World}{b off n cap:Nat}{l:List Int}{row:Option Nat}(h:Sl w (.slice (some ⟨b,off,none⟩) n cap) l)(hg:w.grownBy w' row)(hne:some b≠row):Sl w' (.slice (some ⟨b,off,none⟩) n cap) l:=by
 obtain⟨⟨a,cap',e,hc,hn,h1⟩,h2,h3⟩:=h;refine⟨⟨a,cap',e,hc,hn,?_⟩,h2,h3⟩;simp only[Value.slice.injEq]at e;obtain⟨rfl,_,_⟩:=e;rcases h1 with h1|⟨b',off',e',hbs,hcell⟩
 .exact .inl h1
 .simp only[Option.some.injEq,Addr.mk.injEq,and_true]at e';obtain⟨rfl,rfl⟩:=e';refine .inr ⟨b,off,rfl,Nat.lt_of_lt_of_le hbs hg.size,fun i hi=>?_⟩;rw[<- hcell i hi];exact World.cell?_of_block (w:=w) (hg.block b hbs hne)
def blk(key info:List Int):Nat->List Int
 | 0=>[]
 | i+1=>D4 key (blk key info i++info++[(i:Int)+1])
def AR(key info:List Int):Nat->List Int
 | 0=>[]
 | i+1=>AR key info i++blk key info (i+1)
def EZ(key info:List Int)(n:Nat):List Int:=(AR key info 16).take n
theorem Gc(key info:List Int)(i:Nat):(blk key info (i+1)).length=32:=CU _ _
theorem Ux(key info:List Int)(i:Nat):∀ x∈blk key info i,0<=x/\x<256:=by
 cases i with
 | zero=>intro x hx;cases hx
 | succ i=>exact LO _ _
theorem aF(key info:List Int)(i:Nat):(blk key info i).length<=32:=by
 cases i with
 | zero=>simp[blk]
 | succ i=>rw[Gc];omega
theorem Cd(key info:List Int)(i:Nat):(AR key info i).length=32*i:=by
 induction i with
 | zero=>rfl
 | succ i ih=>rw[AR,List.length_append,ih,Gc];omega
theorem OX(key info:List Int)(i:Nat):∀ x∈AR key info i,0<=x/\x<256:=by
 induction i with
 | zero=>intro x hx;cases hx
 | succ i ih =>
  intro x hx;rcases List.mem_append.1 hx with h|h
  .exact ih x h
  .exact Ux key info (i+1) x h
theorem OY(key info:List Int)(n i j:Nat)(hn:n<=32*i):(AR key info (i+j)).take n=(AR key info i).take n:=by
 induction j with
 | zero=>rfl
 | succ j ih=>rw[<- Nat.add_assoc,AR,List.take_append_of_le_length (by rw[Cd];omega),ih]
theorem SE(key info:List Int)(n i:Nat):(AR key info (i+1)).take n=(AR key info i).take n++(blk key info (i+1)).take (n-32*i):=by
 rw[AR,List.take_append,Cd]
theorem PP(vk vi:Value)(k i:List Int)(n:Nat)(w:World)(hk:Sl w vk k)(hi:Sl w vi i)(hkl:k.length<=1000)(hil:i.length<=900)(hn:n<=512)(ht:AA w) :
  Calls prog 111 #[vk,vi,.int .i64 n] w fun e w'=>∃ v',e=.returned v'/\w'.ownsRow w.heap.size 5 1 v' (EZ k i n).length ((EZ k i n).map (Value.int .u8))/\Bw w w':=by
 obtain⟨i0,hi0,hz0,hz1,hz2⟩:=info_parts As;go_enter func111,ntmps111
 go_wp2_with (at_make;refine wpList_make_own _ rfl _ _ 25 rfl w.heap.size 5 i0 (.int .u8 0) 1 underlying25 hi0 hz0 hz1 _ _ _ n rfl rfl (by omega) (by rw[hz2];omega) (by unfold maxLen;omega) (Nat.le_refl _) ?_)
 intro w1 ho1 hg1;have hb1:Bw w w1:=(Below.refl _ _).grown hg1 (Nat.le_refl _) (by simp);have ho1':w1.ownsRow w.heap.size 5 1 (.slice (some ⟨w.heap.size,0,none⟩) 0 n) ((AR k i 0).take n).length (((AR k i 0).take n).map (Value.int .u8)):=by simpa[AR]using ho1
 clear ho1 hg1;go_wp2_with fail
 go_loopw [7,8,9] (fun v b c wr=>∃ j:Nat,j<=16/\c=.int .u8 ((j:Int)+1)/\(∃ m cap,v=.slice (some ⟨m,0,none⟩) (min (32*j) n) cap)/\Sl wr b (blk k i j)/\wr.ownsRow w.heap.size 5 1 v ((AR k i j).take n).length (((AR k i j).take n).map (Value.int .u8))/\Bw w wr) (fun _ _ c _=>(17-intOf c).toNat)
 case atStart=>exact⟨0,by omega,rfl,⟨w.heap.size,n,by simp⟩,Sl.nil _ _,ho1',hb1⟩
 case round =>
  clear ho1' hb1;obtain⟨j,hj,rfl,⟨m,cap,rfl⟩,sb,hown,hb⟩:=hrel;have hlt:=hown.lt;by_cases hc:32*j<n
  .have hmin:min (32*j) n=32*j:=by omega
   rw[hmin]at hown hlt ⊢
   have hmw:m<wr.heap.size:=(hlt m rfl).2;have hlen:((AR k i j).take n).length=32*j:=by rw[List.length_take,Cd];omega
   have hbl:=aF k i j;have hj15:j<=15:=by omega
   have HB:Hid (blk k i (j+1)=D4 k (blk k i j++i++[(j:Int)+1])):=rfl;have HS:=SE k i n j;have HSS:Hid _:=HS;have yb:∀ x∈blk k i j++i++[(j:Int)+1],0<=x/\x<256:=fun x hx=>by
    rcases List.mem_append.1 hx with h|h
    .rcases List.mem_append.1 h with h|h
     .exact sb.byte x h
     .exact hi.byte x h
    .obtain rfl:x=(j:Int)+1:=by simpa using h
     omega
   clear HS hmin;go_wp2_with fail
   refine(MK _ vi (blk k i j) i ((j:Int)+1) wr sb (hi.below hb) (by omega) (by omega) (by omega)).mono ?_;rintro e w2 ⟨v2,rfl,ho2,hb2⟩;have hB2:Bw w w2:=hb.trans (hb2.mono hb.size);have l2:(blk k i j++i++[(j:Int)+1]).length<=2000:=by simp;omega
   have s2:=Sl.ofOwns ho2 (by omega) yb;go_wp2_with fail
   refine(MF vk v2 k _ w2 (hk.below hB2) s2 (by omega) (by omega) (ht.below hB2)).mono ?_;rintro e w3 ⟨v3,rfl,f3⟩;rw[<- HB.out]at f3
   obtain⟨g3,c3,hv3,_,hc3⟩:=f3.shape;have s3:=f3.sl;have hb3:=f3.bel;have l3:=Gc k i j;rw[l3]at hv3 hc3
   subst hv3;clear HB f3 s2 ho2 l2 yb sb;have ho3:=hown;have hown3:w3.ownsRow w.heap.size 5 1 (.slice (some ⟨m,0,none⟩) (32*j) cap) ((AR k i j).take n).length (((AR k i j).take n).map (Value.int .u8)):=by
    refine hown.kept (row:=none) ⟨(hb2.trans (hb3.mono hb2.size)).os,(hb2.trans (hb3.mono hb2.size)).tape,(hb2.trans (hb3.mono hb2.size)).output,(hb2.trans (hb3.mono hb2.size)).size,fun q hq _=>(hb2.trans (hb3.mono hb2.size)).block q hq⟩ (.inr (by simp[Value.ownBlock]))
   have hB3:Bw w w3:=hB2.trans (hb3.mono hB2.size);have hlt3:=hown3.lt;have HL:Hid ((AR k i (j+1)).take n=(AR k i j).take n++(blk k i (j+1)).take (n-32*j)):=HSS.out;clear HSS ho3 hown hlt;have hM:((blk k i (j+1)).take (n-32*j)).length=min (n-32*j) 32:=by rw[List.length_take,l3]
   have sM:Sl w3 (.slice (some ⟨g3,0,none⟩) (min (n-32*j) 32) c3) ((blk k i (j+1)).take (n-32*j)):=by
    by_cases hq:n-32*j<=32
    .rw[Nat.min_eq_left hq];exact s3.take (n-32*j) (by omega)
    .rw[Nat.min_eq_right (by omega),List.take_of_length_le (by omega)];exact s3
   have HN:=s3;have hlt2:((AR k i (j+1)).take n).length=min (32*(j+1)) n:=by rw[List.length_take,Cd];omega
   have HL2:Hid (((AR k i (j+1)).take n).length=min (32*(j+1)) n):=hlt2;clear HN hlt2;generalize (blk k i (j+1)).take (n-32*j)=M at sM hM HL;generalize (AR k i j).take n=P at hown3 hlt3 hlen HL;have SB:Sl w3 (.slice (some ⟨g3,0,none⟩) 32 c3) (blk k i (j+1)):=s3;clear s3;have hmin:(min (32:Int) ((n:Int)-32*(j:Int))).toNat=min (n-32*j) 32:=by omega
   have sM':Sl w3 (.slice (some ⟨g3,0,none⟩) (min (32:Int) ((n:Int)-32*(j:Int))).toNat c3) M:=by rw[hmin];exact sM
   have hmlt:m<w2.heap.size:=Nat.lt_of_lt_of_le hmw hb2.size;clear hmin sM;go_wp2_with (at_builtin;refine Aa _ rfl _ _ 25 rfl w.heap.size 5 underlying25 As _ _ rfl rfl P M hown3 sM' (by omega) hB3.size ?_)
   intro v4 w4 ho4 hg4;have ho4':w4.ownsRow w.heap.size 5 1 v4 (P++M).length ((P++M).map (Value.int .u8)):=by simpa[hlen,hM]using ho4
   have hb4:Bw w w4:=hB3.grown hg4 hB3.size (fun k hk=>(hlt3 k hk).1);have SB4:Sl w4 (.slice (some ⟨g3,0,none⟩) 32 c3) (blk k i (j+1)):=SB.grown hg4 (by simp[Value.ownBlock];omega);obtain⟨g4,c4,hv4,_,_,_,_,_⟩:=Dw ho4' (by intro e;have:=congrArg List.length e;rw[List.length_append,hlen,hM]at this;simp at this;omega);have hPM:(P++M).length=min (32*(j+1)) n:=by rw[<- HL.out];exact HL2.out
   rw[<- HL.out]at ho4'
   rw[hPM]at hv4
   subst hv4;clear ho4 hg4 hown3 hlt3 hB3 SB sM' hM HL HL2 hPM hlen;go_wp2
   go_roundw
   case rel=>exact⟨j+1,by omega,by go_num,⟨g4,c4,rfl⟩,SB4,ho4',hb4⟩
   case measure=>simp[intOf];omega
  .have hmin:min (32*j) n=n:=by omega
   rw[hmin]at hown ⊢
   have HQ:Hid (EZ k i n=(AR k i j).take n):=by
    unfold Hid EZ;have:=OY k i n j (16-j) (by omega);rw[show j+(16-j)=16 by omega]at this
    exact this
   go_wp2
   go_ret;refine⟨_,rfl,?_,hb⟩;rw[HQ.out];exact hown
theorem GH(k i:List Int)(n:Nat)(h:n<=512):(EZ k i n).length=n:=by
 unfold EZ;rw[List.length_take,Cd];omega
theorem JM(k i:List Int)(n:Nat):∀ x∈EZ k i n,0<=x/\x<256:=fun x hx=>OX k i 16 x (List.mem_of_mem_take hx)
theorem Rk(v0 v1 v2:Value)(l0 l1 l2:List Int)(n:Nat)(w:World)(h0:Sl w v0 l0)(h1:Sl w v1 l1)(h2:Sl w v2 l2)(hl0:l0.length<=256)(hl1:l1.length<=256)(hl2:l2.length<=256)(hn:n<=512)(ht:AA w) :
  Calls prog 73 #[v0,v1,v2,.int .i64 n] w fun e w'=>∃ v',e=.returned (.tuple #[v',.int .i64 0])/\w'.ownsRow w.heap.size 5 1 v' (EZ (D4 l1 l0) l2 n).length ((EZ (D4 l1 l0) l2 n).map (Value.int .u8))/\Bw w w':=by
 have s0:=h0;have s1:=h1;have s2:=h2;obtain⟨⟨a0,c0,rfl,_,_,_⟩,_,_⟩:=h0;obtain⟨⟨a1,c1,rfl,_,_,_⟩,_,_⟩:=h1;obtain⟨⟨a2,c2,rfl,_,_,_⟩,_,_⟩:=h2;have d0:decide ((256:Int)<(l0.length:Int))=false:=by simp;omega
 have d1:decide ((256:Int)<(l1.length:Int))=false:=by simp;omega
 have d2:decide ((256:Int)<(l2.length:Int))=false:=by simp;omega
 have d3:decide ((n:Int)<0)=false:=by simp
 have d4:decide ((512:Int)<(n:Int))=false:=by simp;omega
 go_enter func73,ntmps73
 go_wp2_with fail
 refine(MF _ _ l1 l0 w s1 s0 (by omega) (by omega) ht).mono ?_;rintro e w1 ⟨v1,rfl,f1⟩;have lm:=CU l1 l0;go_wp2_with fail
 refine(PP v1 _ (D4 l1 l0) l2 n w1 f1.sl (s2.below f1.bel) (by omega) (by omega) hn (ht.below f1.bel)).mono ?_;rintro e w2 ⟨v2,rfl,ho2,hb2⟩;go_wp2
 go_ret2
 exact⟨v2,rfl,AM ho2 f1.bel.size,f1.bel.trans (hb2.mono f1.bel.size)⟩
def FJ(c:Int):List Int:=EZ (D4 [99,108,105,101,110,116] [c]) [] 32
def FI:List Int:=EZ (D4 [105,115,115,117,101,114] [255]) [] 32
theorem Fd(c:Int):(FJ c).length=32:=GH _ _ 32 (by omega)
theorem IB:FI.length=32:=GH _ _ 32 (by omega)
theorem SY(c:Int):∀ x∈FJ c,0<=x/\x<256:=JM _ _ _
theorem ST:∀ x∈FI,0<=x/\x<256:=JM _ _ _
theorem Sl.sixM(w:World)(l:List Int)(e:TypeId)(fr:Nat × Nat){g:Nat}(hg:g=w.heap.size)(hl:l.length=6)(hb:∀ x∈l,0<=x/\x<256):Sl (w.alloc (.cells (l.map (Value.int .u8)).toArray e fr)) (.slice (some ⟨g,0,none⟩) 6 6) l:=by
 subst hg;refine⟨⟨_,6,by rw[hl],by omega,by simp,.inr ⟨w.heap.size,0,rfl,by simp,fun i hi=>?_⟩⟩,by omega,hb⟩;rw[cell_of_row _ _ (0+i) _ _ _ (heap_alloc_new w _)];simp[List.getElem?_eq_getElem hi,List.getD]
end
end Go.Proofs.YtalbmmghmoggcaaGreatDoor
