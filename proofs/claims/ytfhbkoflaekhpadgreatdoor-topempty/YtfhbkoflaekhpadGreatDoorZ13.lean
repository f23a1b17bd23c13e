/- Part 13 of the walk. -/
import Derived.LoopN
import Derived.Test.YtfhbkoflaekhpadGreatDoorZ12
set_option maxRecDepth 100000
set_option maxHeartbeats 4000000
open Go.Proofs.Tryz
set_option linter.unusedVariables false
namespace Go.Proofs.YtfhbkoflaekhpadGreatDoor
section
open Go.RowKit
section
variable{P:Program}{fn:Func}{R:Ending→World→Prop}{B:Nat}{T:List Tg}{g:Gh}{w:World}
theorem bF{s:Xs}(k n:Nat)(e0:List (Nat × Value))(m:List Bool)(L0:List Sh)(hl:QM s.K=true)(hn:s.f.n=n)(he:e0.map (fun p=>lk s.f.z s.f.e p.1)=e0.map (·.2))(hL:Br (AB m s.L)=L0)
  (h:∀ J:Nat→Act→World→Prop,(∀ (m:Nat) (e:List (Nat × Value)) (z:Nat→Value) (L:List Sh) (g:Gh) (w:World),GG P fn R B T (ah s n (J m) e z L) g w→Kn B g w L→J (m+1) (⟨n,e,z⟩:Fm).act w)→∀ z,GG P fn R B T (ah s n (J k) e0 z L0) g w):GG P fn R B T s g w:=by
 refine gFm e0 he fun z=>?_;obtain⟨K,f,L⟩:=s;simp only at hn;subst hn;have hL':Br (AB m L)=L0:=hL;have hc:GG P fn R B T ⟨K,⟨f.n,e0,z⟩,Br (AB m L)⟩ g w→GG P fn R B T ⟨K,⟨f.n,e0,z⟩,L⟩ g w:=fun h=>⟨fun hK=>h.ex (hK.sub (CV m L)).clr⟩;refine hc ?_;rw[hL'];cases K with
 | nil=>cases hl
 | cons t K =>
  cases t with
  | c x =>
   cases x with
   | loop b =>
    refine⟨fun hK=>?_⟩;exact wp_loop_rounds (k+1) ((h (Code.rounds P b (Kq P (bodyPost P fn R) K)) (fun m e z L g w hG hK=>hG.ex hK) z).ex hK)
   | _=>cases hl
  | _=>cases hl
end
theorem LT{v:Vt}{g:Gh}{w:World}{i nb ob:Nat}{p:Nod}{ls:List Let}{ts:List Tol}(h:NS i nb ob g w p ls ts){w0:World}(hB:Base w0 g w)(hT:Tabs w0)(hi:i<5)(hb:ls.length<90000000){b1 b2:Nat}(h1:Box g w b1 #[pt nb 0] 69)(h2:Box g w b2 #[iv v.slot,iv v.b.r,iv v.b.n,iv v.w.k,iv v.w.c,iv v.w.s,iv v.w.n,iv v.w.v] 139)(hba:p.agreed.length≤40) :
  Calls prog 105 #[pt b1 0,pt b2 0] w (NP i nb ob g w (.tuple #[]) (p.count i v) (ls++BO i { Cn 3 with vote:=v } 5) ts):=by
 obtain⟨x,lt,tl,hN,hO,hg⟩:=h;refine gI (fn:=f105) (TN i) g func105 hg ?_;refine qN hN ?_;refine qO hO ?_;refine BM ⟨b1,.cells #[pt nb 0] 69,.z,false⟩ (fun _=>⟨h1.r,h1.z,fun h=>(by cases h),fun h=>absurd rfl h⟩) (by kernel_rfl) ?_;refine BM ⟨b2,.cells #[iv v.slot,iv v.b.r,iv v.b.n,iv v.w.k,iv v.w.c,iv v.w.s,iv v.w.n,iv v.w.v] 139,.z,false⟩ (fun _=>⟨h2.r,h2.z,fun h=>(by cases h),fun h=>absurd rfl h⟩) (by kernel_rfl) ?_;refine qR [] 8 [6,0,2,2,2,4,6,8,0,10,3] fun s1 g1 w1 c1=>?_;refine qS 6 [false,false,true,true] hN hO c1 (fun N2=>Mr N2 (hB.ch (c1.nil (TN i)) (Be i)) hT i hi v hba) fun g2 w2 x2 lt2 tl2 hN2 hO2 c2=>?_;refine qR [] 5 [0,1] fun s4 g4 w4 c4=>?_;refine qS 3 [true,true,false,false] hN2 hO2 c4 (fun N5=>DH N5 hb { Cn 3 with vote:=v } s30 s30 ⟨Sv.nil _,fun h=>absurd rfl h⟩ (Rc.nil _ _)) fun g5 w5 x5 lt5 tl5 hN5 hO5 c5=>?_;refine qR [] 1 [] fun s7 g7 w7 c7=>?_;exact qF hN5 hO5 c7 (((((c1.nil (TN i)).trans (c2)).n c4).trans (c5)).n c7)
theorem QT{b:Bal}{vs:List Vt}{x3:S3}{g:Gh}{w:World}{i nb ob:Nat}{p:Nod}{ls:List Let}{ts:List Tol}(h:NS i nb ob g w p ls ts){w0:World}(hB:Base w0 g w)(hT:Tabs w0)(hi:i<5)(hb:ls.length<90000000){b1 b2 b3:Nat}(h1:Box g w b1 #[pt nb 0] 69)(h2:Box g w b2 #[iv b.r,iv b.n] 74)(h3:Box g w b3 #[S3.v x3] 75)(hv:FSv g w x3 vs)(hb3:(p.rnd.heard i).vs.length<100000000) :
  Calls prog 57 #[pt b1 0,pt b2 0,pt b3 0] w (NP i nb ob g w (.tuple #[]) (if p.vo.p≠b then p else{ p with rnd:=p.rnd.hear i vs }) (if p.vo.p≠b then ls else(ls++BO i { Cn 0 with bal:=b } 5)) ts):=by
 obtain⟨x,lt,tl,hN,hO,hg⟩:=h;refine gI (fn:=f57) (TN i) g func57 hg ?_;refine qN hN ?_;refine qO hO ?_;refine BM ⟨b1,.cells #[pt nb 0] 69,.z,false⟩ (fun _=>⟨h1.r,h1.z,fun h=>(by cases h),fun h=>absurd rfl h⟩) (by kernel_rfl) ?_;refine BM ⟨b2,.cells #[iv b.r,iv b.n] 74,.z,false⟩ (fun _=>⟨h2.r,h2.z,fun h=>(by cases h),fun h=>absurd rfl h⟩) (by kernel_rfl) ?_;refine BM ⟨b3,.cells #[S3.v x3] 75,.z,false⟩ (fun _=>⟨h3.r,h3.z,fun h=>(by cases h),fun h=>absurd rfl h⟩) (by kernel_rfl) ?_;refine qR [] 10 [8,0,2,2,4,6,8,10,0,12,3] fun s1 g1 w1 c1=>?_;by_cases h1:p.vo.p≠b
 ·refine qT 7 (.bool true) (fun _=>(MK (x:=(.tmp 8)) (y:=(.tmp 9)) p.vo.p b h1)) ?_;refine qR [] 2 [] fun s2 g2 w2 c2=>?_;rw[if_pos h1,if_pos h1];exact qF hN hO (c1.n c2) ((c1.nil (TN i)).n c2)
 ·have h10:p.vo.p=b:=by simpa using h1
  refine qT 7 (.bool false) (fun _=>(MJ (x:=(.tmp 8)) (y:=(.tmp 9)) p.vo.p b h10)) ?_;rw[if_neg h1,if_neg h1];refine qR [] 14 [9,0,2,2,4,6,8,2,10,12,14,0,16,4] fun s4 g4 w4 c4=>?_;refine qS 9 [false,false,true,true,true] hN hO (c1.n c4) (fun N5=>OP N5 (hB.ch ((c1.nil (TN i)).n c4) (Be i)) hT i hi vs x3 (hv.ch ((c1.nil (TN i)).n c4) (Be i)) hb3) fun g5 w5 x5 lt5 tl5 hN5 hO5 c5=>?_;refine qR [] 5 [0,1] fun s7 g7 w7 c7=>?_;refine qS 3 [true,true,true,false,false] hN5 hO5 c7 (fun N8=>DH N8 hb { Cn 0 with bal:=b } s30 s30 ⟨Sv.nil _,fun h=>absurd rfl h⟩ (Rc.nil _ _)) fun g8 w8 x8 lt8 tl8 hN8 hO8 c8=>?_;refine qR [] 1 [] fun s10 g10 w10 c10=>?_;exact qF hN8 hO8 c10 ((((((c1.nil (TN i)).n c4).trans (c5)).n c7).trans (c8)).n c10)
def Nod.runP(p:Nod)(i:Nat):Pend→Nod
 | .began b vs=>if p.vo.p≠b then p else{ p with rnd:=p.rnd.hear i vs }
 | .prop v=>p.count i v
 | _=>p
def Nod.sentP(p:Nod)(i:Nat):Pend→List Let
 | .began b vs=>if p.vo.p≠b then[]else BO i { Cn 0 with bal:=b } 5
 | .prom to b vs=>[{ Cn 1 with bal:=b,votes:=vs,what:=p.agreed,src:=i,dst:=to }]
 | .voted to v=>[{ Cn 4 with vote:=v,src:=i,dst:=to }]
 | .refuse to b=>[{ Cn 2 with bal:=b,src:=i,dst:=to }]
 | .prop v=>BO i { Cn 3 with vote:=v } 5
 | .askNews to=>[{ Cn 6 with slot:=p.agreed.length,src:=i,dst:=to }]
 | .start=>BO i (Cn 6) 5
 | .tell to slot=>[{ Cn 5 with src:=i,dst:=to,slot:=slot,what:=p.agreed.drop slot }]
def PY(p:Nod)(i:Nat):Pend→Prop
 | .began _ _=>(p.rnd.heard i).vs.length<100000000
 | .prop _=>p.agreed.length≤40
 | .tell _ slot=>slot≤p.agreed.length
 | _=>True
theorem bC{P:Program}{s:Xs}{i:Nat}{W:World}{S:Sem Next}{r:Result Next}(h:CZ s i=some S)(hr:S.run P W=r):CE P s i W=some r:=by
 unfold CE;unfold CZ at h;cases hx:opN s i with
 | none=>rw[hx]at h;cases h
 | some x =>
  rw[hx]at h
  simp only[Option.map_some,Option.some.injEq]at h ⊢;rw[h,hr]
theorem Gd{g:Gh}{w:World}{i nb ob:Nat}{p:Nod}{ls:List Let}{ts:List Tol}(h:NS i nb ob g w p ls ts){w0:World}(hB:Base w0 g w)(hT:Tabs w0)(hi:i<5)(hb:ls.length<90000000){v:Value}(q:Pend)(hq:PY p i q)(hv:JY g w nb v q) :
  ∃ (F:FuncId) (cs:Array Value),v=.func (.func F) #[] cs∧(∀ W,(Go.callFunc F (#[]++cs)).run prog W=.ok (.enter F cs) W)∧Calls prog F cs w (NP i nb ob g w (.tuple #[]) (p.runP i q) (ls++p.sentP i q) ts):=by
 cases q with
 | began b vs =>
  obtain⟨b1,b2,b3,x,e,h1,h2,h3,h4⟩:=hv;refine⟨_,_,e,fun W=>by kernel_rfl,?_⟩;have:=QT h hB hT hi hb h1 h2 h3 h4 hq;unfold Nod.runP Nod.sentP;by_cases hx:p.vo.p≠b
  ·rw[if_pos hx,if_pos hx]at this;simp only[if_pos hx,List.append_nil];exact this
  ·rw[if_neg hx,if_neg hx]at this;simp only[if_neg hx];exact this
 | prom to b vs =>
  obtain⟨b1,b2,b3,x,lb,l,e,h1,h2,h3,h4,h5,rfl,rfl⟩:=hv;exact⟨_,_,e,fun W=>(by kernel_rfl),Gq h hb h1 h2 h3 h5 h4⟩
 | voted to u =>
  obtain⟨b1,b2,lb,l,e,h1,h2,h3,rfl,rfl⟩:=hv;exact⟨_,_,e,fun W=>(by kernel_rfl),GY (b3:=0) h hb h1 h2 h3⟩
 | refuse to b =>
  obtain⟨b1,b2,b3,e,h1,h2,h3⟩:=hv;exact⟨_,_,e,fun W=>(by kernel_rfl),NK h hb h1 h2 h3⟩
 | prop u =>
  obtain⟨b1,b2,e,h1,h2⟩:=hv;exact⟨_,_,e,fun W=>(by kernel_rfl),LT h hB hT hi hb h1 h2 hq⟩
 | askNews to =>
  obtain⟨b1,b2,lb,l,e,h1,h2,h3,rfl⟩:=hv;exact⟨_,_,e,fun W=>(by kernel_rfl),Lp (b3:=0) h hb h1 h2 h3⟩
 | start =>
  obtain⟨b1,e,h1⟩:=hv;exact⟨_,_,e,fun W=>(by kernel_rfl),PD (b2:=0) (b3:=0) h hb h1⟩
 | tell to slot =>
  obtain⟨b1,b2,lb,l,e,h1,h2,h3,rfl,rfl⟩:=hv;exact⟨_,_,e,fun W=>(by kernel_rfl),IJ (b3:=0) h hb h1 h2 h3 hq⟩
theorem Wc{x:S3}{d:List Int}(s:Int){n:Nat}{w:World}(h:Sl w x.v d)(hn:n≤d.length){N:Int}(hN:(n:Int)=N) :
  Calls prog 108 #[.agg #[x.v,iv s],iv N] w fun e w'=>∃ y:S3,e=.returned (.agg #[y.v,iv N])∧Sl w' y.v (d.take n)∧Nb w.heap.size y (d.take n)∧Bw w w':=by
 subst hN;refine(IW x.v d s n w h hn).mono ?_;rintro e w' ⟨y,rfl,ho,hb⟩;obtain⟨y,rfl,hy,hw⟩:=Rp (l:=d.take n) (by rw[List.length_take,Nat.min_eq_left hn];exact ho) (by rw[List.length_take];have:=h.len;omega) (fun z hz=>h.byte z (List.mem_of_mem_take hz));exact⟨y,rfl,hy,hw,hb⟩
theorem WR{x:S3}{d:List Int}(s:Int){w:World}(h:Sl w x.v d){t:Bool}(ht:decide (AY d s)=t) :
  Calls prog 107 #[.agg #[x.v,iv s]] w fun e w'=>e=.returned (.bool t)∧Bw w w':=by
 subst ht;exact KH x.v d s w h
theorem aE{x:S3}{d:List Int}{s:Int}{w:World}(h:Sl w x.v d) :
  Calls prog 106 #[.agg #[x.v,iv s]] w fun e w'=>∃ y:S3,e=.returned (.tuple #[.agg #[y.v,iv (Ig d s)],iv (CN d s)])∧Sl w' y.v (GX d s)∧Nb w.heap.size y (GX d s)∧Bw w w':=by
 refine kIn func106 ?_;refine kR 10 [0,0,1,0,0] fun σ1 w1 b1=>?_;obtain⟨t,ht⟩:∃ t,decide (AY d s)=t:=⟨_,rfl⟩;refine kC 1 (WR s (h.below b1) ht) ?_;rintro _ w2 ⟨rfl,b2⟩;refine⟨_,rfl,b2,?_⟩;refine kR 2 [] fun σ3 w3 b3=>?_;by_cases h1:AY d s
 ·refine kI ((!t)) false (by rw[← ht,decide_eq_true h1];rfl) ?_;rw[show CN d s=0 from if_pos h1,show GX d s=d from if_pos h1,show Ig d s=(d.length:Int)from if_pos h1];have hn:=IH h;have hT:d.take d.length=d:=List.take_length;refine kR 7 [0,0] fun σ4 w4 b4=>?_;have B5:=(btr (btr (btr b1 b2) b3) b4);refine kC 4 (Wc s (n:=d.length) (N:=(x.n:Int)) (h.below B5) (Nat.le_refl _) (by rw[hn])) ?_;rintro _ w6 ⟨y,rfl,hy,hw,b6⟩;refine⟨_,rfl,b6,?_⟩;rw[hT]at hy hw
  rw[← hn];refine kF 3 [1,0] fun σ7 w7 b7 q7=>?_;have B8:=((btr B5 b6).trans b7);exact qE2 2 3 94 1 (σ1 1) #[S3.v y,iv (x.n:Int)] (iv 0) fun K=>⟨y,rfl,(hy.kept q7),hw.mono B5.size,B8⟩
 ·refine kI ((!t)) true (by rw[← ht,decide_eq_false h1];rfl) ?_;rw[show CN d s=5 from if_neg h1,show GX d s=[]from if_neg h1,show Ig d s=0 from if_neg h1];refine kF 6 [1,0] fun σ9 w9 b9 q9=>?_;have B10:=((btr (btr b1 b2) b3).trans b9);exact qE2 2 3 94 1 (σ1 1) #[S3.v s30,iv 0] (iv 5) fun K=>⟨s30,rfl,DP _,fun h=>absurd rfl h,B10⟩
theorem V7{x:S3}{d:List Int}{s k:Int}{w:World}(h:Sl w x.v d)(hk1:-9223372036854775808≤k)(hk2:k≤9223372036854775807) :
  Calls prog 67 #[.agg #[x.v,iv s],iv k] w fun e w'=>∃ y:S3,e=.returned (.tuple #[.agg #[y.v,iv (J0 d s k)],iv (Gk d s k)])∧Sl w' y.v (Jz d s k)∧Nb w.heap.size y (Jz d s k)∧Bw w w':=by
 refine kIn func67 ?_;refine kR 10 [0,0,1,0,0] fun σ1 w1 b1=>?_;obtain⟨t,ht⟩:∃ t,decide (AY d s)=t:=⟨_,rfl⟩;refine kC 1 (WR s (h.below b1) ht) ?_;rintro _ w2 ⟨rfl,b2⟩;refine⟨_,rfl,b2,?_⟩;refine kR 2 [] fun σ3 w3 b3=>?_;by_cases h1:AY d s
 ·refine kI ((!t)) false (by rw[← ht,decide_eq_true h1];rfl) ?_;refine kR 7 [] fun σ4 w4 b4=>?_;by_cases h2:k<0
  ·refine kI ((decide (k<0))) true (decide_eq_true h2) ?_;have hE:Gk d s k=2:=(if_neg (fun g=>g h1)).trans (if_pos h2);rw[show Jz d s k=[]from if_neg (by rw[hE];decide),show J0 d s k=0 from if_neg (by rw[hE];decide),hE];refine kF 6 [1,0] fun σ5 w5 b5 q5=>?_;have B6:=((btr (btr (btr b1 b2) b3) b4).trans b5);exact qE2 4 5 94 1 (σ1 1) #[S3.v s30,iv 0] (iv 2) fun K=>⟨s30,rfl,DP _,fun h=>absurd rfl h,B6⟩
  ·refine kI ((decide (k<0))) false (decide_eq_false h2) ?_;have hE:Gk d s k=0:=(if_neg (fun g=>g h1)).trans (if_neg h2);rw[show Jz d s k=d.take (Fw d s k).toNat from if_pos hE,show J0 d s k=Fw d s k from if_pos hE,hE];have hn:=IH h;have hl:=h.len;have hb:0≤s∧s≤(d.length:Int):=⟨h1.2.1,h1.2.2⟩;obtain⟨n,hN⟩:∃ n:Nat,(n:Int)=s+min k ((x.n:Int)-s):=⟨(s+min k ((x.n:Int)-s)).toNat,by omega⟩;have hC:Fw d s k=(n:Int):=by unfold Fw;split<;>omega
   have hnd:n≤d.length:=by omega
   rw[hC,Int.toNat_natCast,hN];refine kR 12 [0,0,0,0] fun σ7 w7 b7=>?_;refine kV 9 (iv ((x.n:Int)-s)) (ge (x:=(.tmp 19)) (y:=(.tmp 21)) (x.n:Int) s underlying3 (by omega)) ?_;refine kV 10 (iv (min k ((x.n:Int)-s))) (dS #[3,3] 3 k ((x.n:Int)-s)) ?_;refine kV 11 (iv (s+min k ((x.n:Int)-s))) (AF (x:=(.tmp 15)) (y:=(.tmp 23)) s (min k ((x.n:Int)-s)) underlying3 (by omega)) ?_;have B11:=(btr (btr (btr (btr b1 b2) b3) b4) b7);refine kC 12 (Wc s (n:=n) (h.below B11) hnd hN) ?_;rintro _ w12 ⟨y,rfl,hy,hw,b12⟩;refine⟨_,rfl,b12,?_⟩;refine kF 3 [1,0] fun σ13 w13 b13 q13=>?_;have B14:=((btr B11 b12).trans b13);exact qE2 4 5 94 1 (σ1 1) #[S3.v y,iv (s+min k ((x.n:Int)-s))] (iv 0) fun K=>⟨y,rfl,(hy.kept q13),hw.mono B11.size,B14⟩
 ·refine kI ((!t)) true (by rw[← ht,decide_eq_false h1];rfl) ?_;have hE:Gk d s k=5:=if_pos h1;rw[show Jz d s k=[]from if_neg (by rw[hE];decide),show J0 d s k=0 from if_neg (by rw[hE];decide),hE];refine kF 6 [1,0] fun σ15 w15 b15 q15=>?_;have B16:=((btr (btr b1 b2) b3).trans b15);exact qE2 4 5 94 1 (σ1 1) #[S3.v s30,iv 0] (iv 5) fun K=>⟨s30,rfl,DP _,fun h=>absurd rfl h,B16⟩
structure FzL(g:Gh)(w:World)(x:S3)(vs:List Value):Prop where
 n:x.n=vs.length
 at_:∀ j u,vs[j]?=some u→∃ b,x.a=some ⟨b,0,none⟩∧b<w.heap.size∧j<g.k b∧w.cell? ⟨b,j,none⟩=some u
theorem OwnS.fz{g:Gh}{w:World}{τ:Tg}{e:TypeId}{x:S3}{vs:List Value}(h:OwnS g w τ true e 1 x vs):FzL g w x vs:=by
 refine⟨by have:=h.len;omega,fun j u hj=>?_⟩;obtain⟨b,h1,h2,h3⟩:=h.cell hj;have hlt:j<vs.length:=(List.getElem?_eq_some_iff.1 hj).1;refine⟨b,h1,h2,?_,h3⟩;rcases h.ex with⟨h4,_⟩|⟨b',cur,h4,_,_,_,_,_,_,h8⟩
 ·rw[h4]at h1;cases h1
 ·rw[h1]at h4
  simp only[Option.some.injEq,Addr.mk.injEq,and_true]at h4;subst h4;rw[h8,if_pos rfl];exact hlt
theorem FzL.ch{B:Nat}{T:List Tg}{g g':Gh}{w w':World}{x:S3}{vs:List Value}(h:FzL g w x vs)(c:Cg B T g w g' w'):FzL g' w' x vs :=
 ⟨h.n,fun j u hj=>by
  obtain⟨b,h1,h2,h3,h4⟩:=h.at_ j u hj;exact⟨b,h1,Nat.lt_of_lt_of_le h2 c.size,Nat.lt_of_lt_of_le h3 (c.kap b h2),(c.pref b h2 j h3).trans h4⟩⟩
theorem bL{W:World}{x:S3}{b off:Nat}(ha:x.a=some ⟨b,off,none⟩)(j:Nat)(hj:j<x.n):(Instr.indexAt 78 x.v (iv (j:Int))).run prog W=.ok (pt b (off+1*j)) W:=by
 unfold S3.v;rw[ha];exact Pw (P:=prog) (e:=1) (z:=1) underlying78 (by kernel_rfl) (by kernel_rfl) hj _ rfl
def doneP(i:Nat):List Pend→Nod→List Let→Nod × List Let
 | [],p,ls=>(p,ls)
 | q::l,p,ls=>doneP i l (p.runP i q) (ls++p.sentP i q)
def FT(i:Nat):List Pend→Nod→List Let→Prop
 | [],_,_=>True
 | q::l,p,ls=>PY p i q∧ls.length<90000000∧FT i l (p.runP i q) (ls++p.sentP i q)
def Nod.syn(p:Nod):Nod:=if p.sy<(p.d.length:Int)then{ p with d:=GX p.d p.sy,sy:=Ig p.d p.sy }else p
theorem OD{l:List Pend}{j:Nat}{c:Pend}(h:l[j]?=some c):l.drop j=c::l.drop (j+1):=by
 obtain⟨h1,h2⟩:=List.getElem?_eq_some_iff.1 h;rw[← h2];exact List.drop_eq_getElem_cons h1
theorem aF{g:Gh}{w:World}{i nb ob:Nat}{p:Nod}{ls:List Let}{ts:List Tol}(h:NS i nb ob g w p ls ts){w0:World}(hB:Base w0 g w)(hT:Tabs w0)(hi:i<5)(hok:FT i p.pend { p.syn with pend:=[] } ls)(hpb:p.pend.length<100000000) :
  Calls prog 63 #[pt nb 0] w (NP i nb ob g w (.tuple #[]) (if p.sy<(p.d.length:Int)∧CN p.d p.sy≠0 then(p,ls)else doneP i p.pend { p.syn with pend:=[] } ls).1 (if p.sy<(p.d.length:Int)∧CN p.d p.sy≠0 then(p,ls)else doneP i p.pend { p.syn with pend:=[] } ls).2 ts):=by
 obtain⟨x,lt,tl,hN,hO,hg⟩:=h;have htn:x.tape.n=p.d.length:=by obtain⟨a,cap,hh⟩:=hN.tape.s.shapeT;have:=hN.tape.s.len;simp only[S3.v,Value.slice.injEq]at hh;exact hh.2.1
 refine gI (fn:=f63) (TN i) g func63 hg ?_;refine qN hN ?_;refine qO hO ?_;obtain⟨pv,hP,hPs⟩:=hN.pend;have hF:=hP.fz;have hpn:x.synced.n=p.pend.length:=by rw[hF.n];exact hPs.len
 refine qR [] 16 [12,0,2,4,6,8,0,10,12,14,16,18,0,20,22] fun s1 g1 w1 c1=>?_;by_cases h1:p.sy<(x.tape.n:Int)
 ·refine qI ((decide (p.sy<(x.tape.n:Int)))) true (decide_eq_true (by omega)) ?_;refine qR [] 6 [0] fun s2 g2 w2 c2=>?_;refine Af fun Kq=>?_;have hS:=(hN.tape.ch (c1.trans c2)).s;have hG:∀ z,w2.heap.size≤z→g2.t z=.z:=fun z hz=>(Kq.new z hz).1;refine qC 4 (aE (s:=p.sy) hS) ?_;rintro e' w3 ⟨tz,rfl,hy3,hn3,b3⟩;refine⟨_,rfl,b3,?_⟩;have c3:=Cg.ofBelow (B:=w.heap.size) (T:=[]) (g:=g2) b3;have htz:=IH hy3;have hts:FSl _ _ tz _:=⟨hy3,fun hl a ha=>hG _ (hn3 hl a ha)⟩;refine qR [] 13 [0,0,2,0] fun s4 g4 w4 c4=>?_;by_cases h2:CN p.d p.sy≠0
  ·refine qI (((CN p.d p.sy) != 0)) true (by simpa using h2) ?_;refine qE (.tuple #[]) fun K=>?_;rw[if_pos ⟨by omega,h2⟩];exact⟨_,rfl,(nsC hN hO (((c1.n c2).n c3).n c4) K),((((c1.nil (TN i)).n c2).n c3).n c4)⟩
  ·refine qI (((CN p.d p.sy) != 0)) false (by simpa using h2) ?_;have hsy:p.syn={ p with d:=GX p.d p.sy,sy:=Ig p.d p.sy }:=if_pos (by omega);rw[show(if p.sy<(p.d.length:Int)∧CN p.d p.sy≠0 then(p,ls)else doneP i p.pend { p.syn with pend:=[] } ls)=doneP i p.pend ({ p with d:=GX p.d p.sy,sy:=Ig p.d p.sy,pend:=[] }:Nod) ls from by rw[if_neg (by rintro⟨_,h⟩;exact h2 h),hsy]];rw[show{ p.syn with pend:=[] }=({ p with d:=GX p.d p.sy,sy:=Ig p.d p.sy,pend:=[] }:Nod)from by rw[hsy]]at hok
   refine qR [.n 0 i] 32 [2,0,1,0,0,1] fun s7 g7 w7 c7=>?_;refine Hm [true,true,false] ?_;refine BC 51 [(42,S3.v x.synced),(43,iv (x.synced.n:Int)),(44,iv 0)] [false,false] [] (fun k g' w' e L=>∃ (j:Nat) (q:Nod) (l2:List Let),k=p.pend.length-j∧j≤p.pend.length∧e=[(42,S3.v x.synced),(43,iv (x.synced.n:Int)),(44,iv (j:Int))]∧L=[]∧NS i nb ob g' w' q l2 ts∧doneP i (p.pend.drop j) q l2=doneP i p.pend ({ p with d:=GX p.d p.sy,sy:=Ig p.d p.sy,pend:=[] }:Nod) ls∧FT i (p.pend.drop j) q l2∧Cg w.heap.size (TN i) g w g' w') (by kernel_rfl) (by kernel_rfl) (by kernel_rfl) (by kernel_rfl) p.pend.length (fun K=>?_) ?_
   ·have C8:=((((c1.nil ([.n 0 i]:List Tg)).n c2).n c3).n c4).trans (c7);have Z8:Tg.z∉([.n 0 i]:List Tg):=by simp
    exact⟨0,({ p with d:=GX p.d p.sy,sy:=Ig p.d p.sy,pend:=[] }:Nod),ls,rfl,by omega,rfl,rfl,⟨({ x with tape:=tz,synced:=s30 }:NX),lt,tl,K.nd 0 ((hts.ch c4).ch c7) (hN.votes.ch C8 Z8) (Bi hN.heard C8 Z8) ⟨[],OwnS.nil _ _ _ _ _ _,⟨rfl,fun k v q h=>by cases h⟩⟩ (hN.queue.ch C8) (hN.agreed.ch C8) (hN.wants.ch C8) (hN.asked.ch C8) hN.upm,hO.ch C8 Z8 (by simp<;>omega),K.new⟩,rfl,hok,(((((c1.nil (TN i)).n c2).n c3).n c4).trans (c7.mono (by simp[TN])))⟩
   ·rintro k gr wr _ zr _ ⟨j,q,l2,rfl,hj,rfl,rfl,hM,hI,hK,hC⟩ J hJ;obtain⟨xr,ltr,tlr,hNr,hOr,hgr⟩:=id hM;refine qN hNr ?_;refine qO hOr ?_;refine qR [] 5 [] fun s9 g9 w9 c9=>?_;by_cases h5:j<p.pend.length
    ·refine qI ((decide ((j:Int)<(x.synced.n:Int)))) true (decide_eq_true (by omega)) ?_;obtain⟨pd,hpd⟩:∃ pd,p.pend[j]?=some pd:=⟨_,List.getElem?_eq_getElem h5⟩;obtain⟨v,hv⟩:∃ v,pv[j]?=some v:=⟨_,List.getElem?_eq_getElem (by rw[hPs.len];exact h5)⟩;rw[OD hpd]at hI hK
     obtain⟨hK1,hK2,hK3⟩:=hK;have hFr:=hF.ch hC;obtain⟨bx,hxa,hbx,hkx,hcx⟩:=hFr.at_ j v hv;have hVr:=(hPs.at_ j v pd hv hpd).ch hC (Be i);refine qR [] 5 [] fun s10 g10 w10 c10=>?_;refine qV 0 (pt bx (0+1*j)) (bL hxa j (by omega)) ?_;refine Af fun K=>?_;have N13:NS i nb ob g10 w10 q l2 ts:=(nsC hNr hOr (c9.n c10) K);obtain⟨F2,cs2,e2,hcf,_⟩:=Gd N13 (hB.ch (((hC.n c9).n c10)) (Be i)) hT hi hK2 pd hK1 (hVr.ch ((c9.nil (TN i)).n c10) (Be i));subst e2;have hFz:=hFr.ch (c9.trans c10);refine qV 1 (.func (.func F2) #[] cs2) (CX (ty:=1) (b:=bx) (k:=0+1*j) (v:=.func (.func F2) #[] cs2) underlying1 rfl (by rw[Nat.zero_add,Nat.one_mul];obtain⟨b2,h2,_,_,h4⟩:=hFz.at_ j _ hv;rw[hxa]at h2;simp only[Option.some.injEq,Addr.mk.injEq,and_true]at h2;subst h2;exact h4)) ?_;refine qR [] 4 [] fun s14 g14 w14 c14=>?_;refine Af fun K=>?_;have N15:NS i nb ob g14 w14 q l2 ts:=(nsC hNr hOr ((c9.n c10).n c14) K);obtain⟨F3,cs3,e3,_,hcall⟩:=Gd N15 (hB.ch ((((hC.n c9).n c10).n c14)) (Be i)) hT hi hK2 pd hK1 (hVr.ch (((c9.nil (TN i)).n c10).n c14) (Be i));simp only[Value.func.injEq,Fn.func.injEq,true_and]at e3;obtain⟨rfl,rfl⟩:=e3;refine QB 1 F2 cs2 (TN i) [false,false] (fun W=>bC (by kernel_rfl) (hcf W)) (by kernel_rfl) (by kernel_rfl) (by kernel_rfl) hcall ?_;rintro e' w15 ⟨g15,rfl,M15,c15⟩;refine⟨_,g15,rfl,c15,M15.new,?_⟩;replace c15:=c15.ret (B:=w.heap.size);refine qR [] 3 [] fun s17 g17 w17 c17=>?_;refine qV 0 (iv ((j:Int)+1)) (AF (x:=(.tmp 44)) (y:=(.const (iv 1))) (j:Int) 1 underlying3 (by omega)) ?_;refine qR [] 2 [] fun s18 g18 w18 c18=>?_;exact qB [] fun z K0 K=>hJ (p.pend.length-(j+1)) _ _ _ z _ (by omega) ⟨j+1,q.runP i pd,l2++q.sentP i pd,rfl,by omega,rfl,rfl,NS.ch0 M15 (c17.trans c18) K0.new,hI,hK3,((((((hC.n c9).n c10).n c14).trans c15).n c17).n c18)⟩ K
    ·refine qI ((decide ((j:Int)<(x.synced.n:Int)))) false (decide_eq_false (by omega)) ?_;refine qR [] 1 [] fun s19 g19 w19 c19=>?_;obtain rfl:j=p.pend.length:=by omega
     rw[List.drop_length]at hI
     rw[← hI];exact qF hNr hOr (c9.n c19) ((hC.n c9).n c19)
 ·refine qI ((decide (p.sy<(x.tape.n:Int)))) false (decide_eq_false (by omega)) ?_;have hsy:p.syn=p:=if_neg (by omega);rw[show(if p.sy<(p.d.length:Int)∧CN p.d p.sy≠0 then(p,ls)else doneP i p.pend { p.syn with pend:=[] } ls)=doneP i p.pend ({ p with pend:=[] }:Nod) ls from by rw[if_neg (by rintro⟨h,_⟩;omega),hsy]];rw[show{ p.syn with pend:=[] }=({ p with pend:=[] }:Nod)from by rw[hsy]]at hok
  refine qR [.n 0 i] 25 [0,0,1] fun s21 g21 w21 c21=>?_;refine BC 51 [(42,S3.v x.synced),(43,iv (x.synced.n:Int)),(44,iv 0)] [false,false] [] (fun k g' w' e L=>∃ (j:Nat) (q:Nod) (l2:List Let),k=p.pend.length-j∧j≤p.pend.length∧e=[(42,S3.v x.synced),(43,iv (x.synced.n:Int)),(44,iv (j:Int))]∧L=[]∧NS i nb ob g' w' q l2 ts∧doneP i (p.pend.drop j) q l2=doneP i p.pend ({ p with pend:=[] }:Nod) ls∧FT i (p.pend.drop j) q l2∧Cg w.heap.size (TN i) g w g' w') (by kernel_rfl) (by kernel_rfl) (by kernel_rfl) (by kernel_rfl) p.pend.length (fun K=>?_) ?_
  ·have C22:=(c1.nil ([.n 0 i]:List Tg)).trans (c21);have Z22:Tg.z∉([.n 0 i]:List Tg):=by simp
   exact⟨0,({ p with pend:=[] }:Nod),ls,rfl,by omega,rfl,rfl,⟨({ x with synced:=s30 }:NX),lt,tl,K.nd 0 (hN.tape.ch C22 Z22) (hN.votes.ch C22 Z22) (Bi hN.heard C22 Z22) ⟨[],OwnS.nil _ _ _ _ _ _,⟨rfl,fun k v q h=>by cases h⟩⟩ (hN.queue.ch C22) (hN.agreed.ch C22) (hN.wants.ch C22) (hN.asked.ch C22) hN.upm,hO.ch C22 Z22 (by simp<;>omega),K.new⟩,rfl,hok,((c1.nil (TN i)).trans (c21.mono (by simp[TN])))⟩
  ·rintro k gr wr _ zr _ ⟨j,q,l2,rfl,hj,rfl,rfl,hM,hI,hK,hC⟩ J hJ;obtain⟨xr,ltr,tlr,hNr,hOr,hgr⟩:=id hM;refine qN hNr ?_;refine qO hOr ?_;refine qR [] 5 [] fun s23 g23 w23 c23=>?_;by_cases h5:j<p.pend.length
   ·refine qI ((decide ((j:Int)<(x.synced.n:Int)))) true (decide_eq_true (by omega)) ?_;obtain⟨pd,hpd⟩:∃ pd,p.pend[j]?=some pd:=⟨_,List.getElem?_eq_getElem h5⟩;obtain⟨v,hv⟩:∃ v,pv[j]?=some v:=⟨_,List.getElem?_eq_getElem (by rw[hPs.len];exact h5)⟩;rw[OD hpd]at hI hK
    obtain⟨hK1,hK2,hK3⟩:=hK;have hFr:=hF.ch hC;obtain⟨bx,hxa,hbx,hkx,hcx⟩:=hFr.at_ j v hv;have hVr:=(hPs.at_ j v pd hv hpd).ch hC (Be i);refine qR [] 5 [] fun s24 g24 w24 c24=>?_;refine qV 0 (pt bx (0+1*j)) (bL hxa j (by omega)) ?_;refine Af fun K=>?_;have N27:NS i nb ob g24 w24 q l2 ts:=(nsC hNr hOr (c23.n c24) K);obtain⟨F2,cs2,e2,hcf,_⟩:=Gd N27 (hB.ch (((hC.n c23).n c24)) (Be i)) hT hi hK2 pd hK1 (hVr.ch ((c23.nil (TN i)).n c24) (Be i));subst e2;have hFz:=hFr.ch (c23.trans c24);refine qV 1 (.func (.func F2) #[] cs2) (CX (ty:=1) (b:=bx) (k:=0+1*j) (v:=.func (.func F2) #[] cs2) underlying1 rfl (by rw[Nat.zero_add,Nat.one_mul];obtain⟨b2,h2,_,_,h4⟩:=hFz.at_ j _ hv;rw[hxa]at h2;simp only[Option.some.injEq,Addr.mk.injEq,and_true]at h2;subst h2;exact h4)) ?_;refine qR [] 4 [] fun s28 g28 w28 c28=>?_;refine Af fun K=>?_;have N29:NS i nb ob g28 w28 q l2 ts:=(nsC hNr hOr ((c23.n c24).n c28) K);obtain⟨F3,cs3,e3,_,hcall⟩:=Gd N29 (hB.ch ((((hC.n c23).n c24).n c28)) (Be i)) hT hi hK2 pd hK1 (hVr.ch (((c23.nil (TN i)).n c24).n c28) (Be i));simp only[Value.func.injEq,Fn.func.injEq,true_and]at e3;obtain⟨rfl,rfl⟩:=e3;refine QB 1 F2 cs2 (TN i) [false,false] (fun W=>bC (by kernel_rfl) (hcf W)) (by kernel_rfl) (by kernel_rfl) (by kernel_rfl) hcall ?_;rintro e' w29 ⟨g29,rfl,M29,c29⟩;refine⟨_,g29,rfl,c29,M29.new,?_⟩;replace c29:=c29.ret (B:=w.heap.size);refine qR [] 3 [] fun s31 g31 w31 c31=>?_;refine qV 0 (iv ((j:Int)+1)) (AF (x:=(.tmp 44)) (y:=(.const (iv 1))) (j:Int) 1 underlying3 (by omega)) ?_;refine qR [] 2 [] fun s32 g32 w32 c32=>?_;exact qB [] fun z K0 K=>hJ (p.pend.length-(j+1)) _ _ _ z _ (by omega) ⟨j+1,q.runP i pd,l2++q.sentP i pd,rfl,by omega,rfl,rfl,NS.ch0 M29 (c31.trans c32) K0.new,hI,hK3,((((((hC.n c23).n c24).n c28).trans c29).n c31).n c32)⟩ K
   ·refine qI ((decide ((j:Int)<(x.synced.n:Int)))) false (decide_eq_false (by omega)) ?_;refine qR [] 1 [] fun s33 g33 w33 c33=>?_;obtain rfl:j=p.pend.length:=by omega
    rw[List.drop_length]at hI
    rw[← hI];exact qF hNr hOr (c23.n c33) ((hC.n c23).n c33)
def RP(p:Nod)(i j:Nat):Bool:=decide (j≠i∧p.rnd.taught j<p.agreed.length)
def JH(p:Nod)(i k:Nat):Nat→Nat:=fun j=>if decide (j<k)&&RP p i j then p.agreed.length else p.rnd.taught j
def GZ(p:Nod)(i k:Nat):Nod:={ p with rnd:={ p.rnd with taught:=JH p i k } }
def Dw(p:Nod)(i:Nat):Nat→List Let
 | 0=>[]
 | k+1=>Dw p i k++(if RP p i k then[{ Cn 5 with src:=i,dst:=k,slot:=p.rnd.taught k,what:=p.agreed.drop (p.rnd.taught k) }]else[])
theorem SR(p:Nod)(i k:Nat):(Dw p i k).length≤k:=by
 induction k with
 | zero=>exact Nat.le_refl _
 | succ k ih=>unfold Dw;rw[List.length_append];split<;>simp<;>omega
theorem UO(p:Nod)(i:Nat):GZ p i 0=p:=by unfold GZ JH;simp
theorem SS{p:Nod}{i k:Nat}(h:RP p i k=false):JH p i (k+1)=JH p i k:=by
 funext j
 unfold JH;by_cases e:j=k
 ·subst e;simp[h]
 ·rw[show decide (j<k+1)=decide (j<k)from decide_eq_decide.2 (by omega)]
theorem Ye{p:Nod}{i k:Nat}(h:RP p i k=true):upN (JH p i k) k p.agreed.length=JH p i (k+1):=by
 funext j
 unfold upN JH;by_cases e:j=k
 ·subst e;simp[h]
 ·rw[if_neg e,show decide (j<k+1)=decide (j<k)from decide_eq_decide.2 (by omega)]
theorem UP{g:Gh}{w:World}{i nb ob:Nat}{p:Nod}{ls:List Let}{ts:List Tol}(h:NS i nb ob g w p ls ts)(hb:ls.length<90000000) :
  Calls prog 64 #[pt nb 0] w (NP i nb ob g w (.tuple #[]) (if p.leads then GZ p i 5 else p) (if p.leads then ls++Dw p i 5 else ls) ts):=by
 obtain⟨x,lt,tl,hN,hO,hg⟩:=h;refine gI (fn:=f64) (TN i) g func64 hg ?_;refine qN hN ?_;refine qO hO ?_;refine qR [] 4 [] fun s1 g1 w1 c1=>?_;by_cases h1:p.leads=false
 ·refine Af fun K=>?_;have N3:NS i nb ob g1 w1 p ls ts:=(nsC hN hO c1 K);refine qC 1 (Ez N3 h1) ?_;rintro e' w4 ⟨rfl,b4⟩;refine⟨_,rfl,b4,?_⟩;have c4:=Cg.ofBelow (B:=w.heap.size) (T:=[]) (g:=g1) b4;refine qR [] 3 [] fun s5 g5 w5 c5=>?_;refine qE (.tuple #[]) fun K=>?_;rw[h1,if_neg (by simp),if_neg (by simp)];exact⟨_,rfl,(nsC hN hO ((c1.n c4).n c5) K),(((c1.nil (TN i)).n c4).n c5)⟩
 ·have h10:p.leads=true:=by simpa using h1
  refine Af fun K=>?_;have N8:NS i nb ob g1 w1 p ls ts:=(nsC hN hO c1 K);refine qC 1 (Ez N8 h10) ?_;rintro e' w9 ⟨rfl,b9⟩;refine⟨_,rfl,b9,?_⟩;have c9:=Cg.ofBelow (B:=w.heap.size) (T:=[]) (g:=g1) b9;rw[if_pos h10,if_pos h10];refine qR [] 15 [0] fun s10 g10 w10 c10=>?_;refine BC 51 [(0,pt nb 0),(12,.agg #[iv (p.rnd.taught 0:Int),iv (p.rnd.taught 1:Int),iv (p.rnd.taught 2:Int),iv (p.rnd.taught 3:Int),iv (p.rnd.taught 4:Int)]),(13,iv 0)] [false,false] [] (fun k g' w' e L=>∃ k0:Nat,k=5-k0∧k0≤5∧e=[(0,pt nb 0),(12,.agg #[iv (p.rnd.taught 0:Int),iv (p.rnd.taught 1:Int),iv (p.rnd.taught 2:Int),iv (p.rnd.taught 3:Int),iv (p.rnd.taught 4:Int)]),(13,iv (k0:Int))]∧L=[]∧NS i nb ob g' w' (GZ p i k0) (ls++Dw p i k0) ts∧Cg w.heap.size (TN i) g w g' w') (by kernel_rfl) (by kernel_rfl) (by kernel_rfl) (by kernel_rfl) 5 (fun K=>?_) ?_
  ·have C11:=(c1.n c9).n c10;exact⟨0,rfl,by omega,rfl,rfl,(by rw[UO,show ls++Dw p i 0=ls from List.append_nil _];exact(nsC hN hO C11 K)),(((c1.nil (TN i)).n c9).n c10)⟩
  ·rintro k gr wr _ zr _ ⟨k0,rfl,hk0,rfl,rfl,hM,hC⟩ J hJ;obtain⟨xr,ltr,tlr,hNr,hOr,hgr⟩:=hM;have htl:=SR p i k0;refine qN hNr ?_;refine qO hOr ?_;have han:xr.agreed.n=p.agreed.length:=hNr.agreed.num;refine qR [] 5 [] fun s12 g12 w12 c12=>?_;by_cases h2:k0<5
   ·refine qI ((decide ((k0:Int)<5))) true (decide_eq_true (by omega)) ?_;refine qR [] 6 [] fun s13 g13 w13 c13=>?_;refine Zb 1 (iv (p.rnd.taught k0:Int)) (fun K=>(by rcases five h2 with rfl|rfl|rfl|rfl|rfl<;>kernel_rfl)) (by kernel_rfl) ?_;refine qR [] 10 [0] fun s14 g14 w14 c14=>?_;by_cases h3:k0≠i
    ·refine qV 5 (.bool true) (FD (t:=3) (m:=(k0:Int)) (n:=(i:Int)) (x:=(.tmp 17)) (y:=(.tmp 21)) (by simp;omega)) ?_;refine qR [] 11 [0] fun s15 g15 w15 c15=>?_;by_cases h4:(p.rnd.taught k0:Int)<(xr.agreed.n:Int)
     ·have hx:RP p i k0=true:=decide_eq_true ⟨by omega,by omega⟩;refine qI ((decide ((p.rnd.taught k0:Int)<(xr.agreed.n:Int)))) true (decide_eq_true (by omega)) ?_;refine qR [] 5 [] fun s16 g16 w16 c16=>?_;refine qS 3 [false,false] hNr hOr ((((c12.n c13).n c14).n c15).n c16) (fun N17=>Ij N17 (by rw[List.length_append];omega) k0 (p.rnd.taught k0) (by show _≤p.agreed.length;omega)) fun g17 w17 x17 lt17 tl17 hN17 hO17 c17=>?_;refine qR [] 14 [13,0,2,4,6,8,10,12,0,14,16,18,20,22] fun s19 g19 w19 c19=>?_;have han1:x17.agreed.n=p.agreed.length:=hN17.agreed.num;refine BN 51 (fun g' w' e L=>e=[(0,pt nb 0),(12,.agg #[iv (p.rnd.taught 0:Int),iv (p.rnd.taught 1:Int),iv (p.rnd.taught 2:Int),iv (p.rnd.taught 3:Int),iv (p.rnd.taught 4:Int)]),(13,iv (k0:Int))]∧L=[⟨nb,.cells (AA i ob ({ p with rnd:={ p.rnd with taught:=upN (JH p i k0) k0 x17.agreed.n } }) x17) 96,.n 0 i,false⟩,⟨ob,.cells #[S3.v lt17,S3.v tl17] 66,.n 50 0,false⟩]∧True∧Cg w.heap.size ([.n 0 i]:List Tg) g19 w19 g' w') (by kernel_rfl) ?_ ?_
      ·intro J hJ;rcases five h2 with rfl|rfl|rfl|rfl|rfl <;>
       (refine qR [.n 0 i] 3 [24,27,0,1] fun s21 g21 w21 c21=>?_;exact qB [true,true] fun z K0 K=>hJ _ _ _ z _ ⟨rfl,rfl,trivial,c21⟩ K)
      rintro g20 w20 _ z20 _ ⟨rfl,rfl,_,c20⟩;refine qR [] 2 [] fun s22 g22 w22 c22=>?_;refine qV 0 (iv ((k0:Int)+1)) (AF (x:=(.tmp 13)) (y:=(.const (iv 1))) (k0:Int) 1 underlying3 (by omega)) ?_;refine qR [] 2 [] fun s23 g23 w23 c23=>?_;refine qB [false,false] fun z K0 K=>hJ (5-(k0+1)) _ _ _ z _ (by omega) ⟨k0+1,rfl,by omega,rfl,rfl,?_,((((((((((hC.n c12).n c13).n c14).n c15).n c16).trans c17).n c19).trans (c20.mono (by simp[TN]))).n c22).n c23)⟩ K;have C24:=(((c19.nil ([.n 0 i]:List Tg)).trans (c20)).n c22).n c23;rw[show GZ p i (k0+1)={ p with rnd:={ p.rnd with taught:=upN (JH p i k0) k0 x17.agreed.n } }from by unfold GZ;rw[← Ye hx,han1],show ls++Dw p i (k0+1)=(ls++Dw p i k0++[{ Cn 5 with src:=i,dst:=k0,slot:=p.rnd.taught k0,what:=p.agreed.drop (p.rnd.taught k0) }])from by show ls++(Dw p i k0++_)=_;rw[hx,if_pos rfl,List.append_assoc]];exact⟨x17,lt17,tl17,K0.ndu 0 hN17 C24,hO17.ch C24 (hn:=by simp<;>omega),K0.new⟩
     ·have hx:RP p i k0=false:=decide_eq_false (fun h=>h4 (by omega));refine qI ((decide ((p.rnd.taught k0:Int)<(xr.agreed.n:Int)))) false (decide_eq_false (by omega)) ?_;refine qR [] 3 [] fun s25 g25 w25 c25=>?_;refine qV 0 (iv ((k0:Int)+1)) (AF (x:=(.tmp 13)) (y:=(.const (iv 1))) (k0:Int) 1 underlying3 (by omega)) ?_;refine qR [] 2 [] fun s26 g26 w26 c26=>?_;refine qB [false,false] fun z K0 K=>hJ (5-(k0+1)) _ _ _ z _ (by omega) ⟨k0+1,rfl,by omega,rfl,rfl,?_,((((((hC.n c12).n c13).n c14).n c15).n c25).n c26)⟩ K;rw[show GZ p i (k0+1)={ p with rnd:={ p.rnd with taught:=JH p i k0 } }from by unfold GZ;rw[SS hx],show ls++Dw p i (k0+1)=ls++Dw p i k0 from by show ls++(Dw p i k0++_)=_;rw[hx];simp];exact(nsC hNr hOr (((((c12.n c13).n c14).n c15).n c25).n c26) K0)
    ·have hx:RP p i k0=false:=decide_eq_false (fun h=>h.1 (by omega));refine qV 5 (.bool false) (FD (t:=3) (m:=(k0:Int)) (n:=(i:Int)) (x:=(.tmp 17)) (y:=(.tmp 21)) (by simp;omega)) ?_;refine qR [] 15 [] fun s28 g28 w28 c28=>?_;refine qV 0 (iv ((k0:Int)+1)) (AF (x:=(.tmp 13)) (y:=(.const (iv 1))) (k0:Int) 1 underlying3 (by omega)) ?_;refine qR [] 2 [] fun s29 g29 w29 c29=>?_;refine qB [false,false] fun z K0 K=>hJ (5-(k0+1)) _ _ _ z _ (by omega) ⟨k0+1,rfl,by omega,rfl,rfl,?_,(((((hC.n c12).n c13).n c14).n c28).n c29)⟩ K;rw[show GZ p i (k0+1)={ p with rnd:={ p.rnd with taught:=JH p i k0 } }from by unfold GZ;rw[SS hx],show ls++Dw p i (k0+1)=ls++Dw p i k0 from by show ls++(Dw p i k0++_)=_;rw[hx];simp];exact(nsC hNr hOr ((((c12.n c13).n c14).n c28).n c29) K0)
   ·refine qI ((decide ((k0:Int)<5))) false (decide_eq_false (by omega)) ?_;refine qR [] 1 [] fun s31 g31 w31 c31=>?_;obtain rfl:k0=5:=by omega
    exact qF hNr hOr (c12.n c31) ((hC.n c12).n c31)
end
section
def Bz(l:List Vt):Prop:=BA l∧∀ v∈l,0≤v.slot∧v.slot≤39
theorem X2(l:List Vt)(a:Int)(h:BA l)(hb:∀ v∈l,a≤v.slot∧v.slot≤39):l.length≤(40-a).toNat:=by
 induction l generalizing a with
 | nil=>exact Nat.zero_le _
 | cons u l ih =>
  obtain⟨h1,h2⟩:=h;have hu:=hb u List.mem_cons_self;have:=ih (u.slot+1) h2 fun v hv=>⟨by have:=h1 v hv;omega,(hb v (List.mem_cons_of_mem _ hv)).2⟩;rw[List.length_cons];omega
theorem Bz.len{l:List Vt}(h:Bz l):l.length≤40:=X2 l 0 h.1 h.2
theorem Bz.nil:Bz []:=⟨trivial,fun v h=>by cases h⟩
theorem BK{a:Acc}{v:Vt}(h:AT a v=0):Ao a∧Aj v∧¬ v.b.lt a.p:=by
 unfold AT at h;by_cases h1:Ao a
 ·rw[if_neg (fun g=>g h1)]at h
  by_cases h2:Aj v
  ·rw[if_neg (fun g=>g h2)]at h
   by_cases h3:v.b.lt a.p
   ·rw[if_pos h3]at h;cases h
   ·exact⟨h1,h2,h3⟩
  ·rw[if_pos h2]at h;cases h
 ·rw[if_pos h1]at h;cases h
theorem Ge{a:Acc}{b:Bal}(h:BG a b=0):Ao a∧Ad b∧¬ b.lt a.p:=by
 unfold BG at h;by_cases h1:Ao a
 ·rw[if_neg (fun g=>g h1)]at h
  by_cases h2:Ad b
  ·rw[if_neg (fun g=>g h2)]at h
   by_cases h3:b.lt a.p
   ·rw[if_pos h3]at h;cases h
   ·exact⟨h1,h2,h3⟩
  ·rw[if_pos h2]at h;cases h
 ·rw[if_pos h1]at h;cases h
theorem F1{l:List Vt}{v:Vt}(h:Bz l)(hv:Aj v):Bz (Bf l v) :=
 ⟨I2 v h.1,fun u hu=>by
  rcases(D9 h.1).1 hu with rfl|⟨h2,_⟩
  ·exact hv.1
  ·exact h.2 u h2⟩
theorem TG(a:Acc)(l:List Vt)(h:Bz a.vs):Bz (Gw a l).vs:=by
 induction l generalizing a with
 | nil=>exact h
 | cons v l ih =>
  rw[Gw];refine ih _ ?_;by_cases hv:AT a v=0
  ·rw[if_pos hv];show Bz (Dg a v);rw[(Lx hv).2];exact F1 h (BK hv).2.1
  ·rw[if_neg hv];exact h
def POk(k:Nat):Pend→Prop
 | .began b vs=>Bz vs
 | .prom to b vs=>to<5∧AQ b∧Bz vs
 | .voted to v=>to<5
 | .refuse to b=>to<5∧AQ b
 | .prop v=>True
 | .askNews to=>to<5
 | .start=>True
 | .tell to slot=>to<5∧slot≤k
theorem POk.mono{k m:Nat}{q:Pend}(h:POk k q)(hk:k≤m):POk m q:=by
 cases q<;>first|exact h|exact⟨h.1,Nat.le_trans h.2 hk⟩
def Pend.wt:Pend→Nat
 | .began _ _=>4
 | .prop _=>4
 | .start=>4
 | _=>1
def Au:List Pend→Nat
 | []=>0
 | q::l=>q.wt+Au l
theorem ER(l:List Pend)(q:Pend):Au (l++[q])=Au l+q.wt:=by
 induction l with
 | nil=>simp[Au]
 | cons x l ih=>simp only[List.cons_append,Au,ih];omega
theorem D0(l:List Pend):l.length≤Au l:=by
 induction l with
 | nil=>exact Nat.le_refl _
 | cons x l ih =>
  rw[Au,List.length_cons];have:1≤x.wt:=by cases x<;>simp[Pend.wt]
  omega
structure NOk(n:Nat)(p:Nod):Prop where
 ag:p.agreed.length≤40
 dn:p.done≤p.agreed.length
 qu:p.rnd.queue.length≤40
 wa:p.wants.length≤n
 ask:∀ c,(p.asked c).isSome=true→c∈p.wants
 ro:0≤p.rounds∧p.rounds≤65536
 vp:AQ p.vo.p
 vs:Bz p.vo.vs
 he:∀ j,Bz (p.rnd.heard j).vs
 pe:∀ q∈p.pend,POk p.agreed.length q
structure LOk(l:Let):Prop where
 kd:l.kind<7
 src:l.src<5
 dst:l.dst<5
 bal:AQ l.bal
 vs:Bz l.votes
 wh:l.what.length≤40
 sl:l.kind=5→l.slot+l.what.length≤40
theorem AQ.b0:AQ CB:=.inr ⟨rfl,rfl⟩
theorem AQ.rng{b:Bal}(h:AQ b):0≤b.r∧b.r≤65536∧0≤b.n∧b.n≤4:=by
 rcases h with⟨h1,h2⟩|⟨h1,h2⟩<;>omega
section
variable{n:Nat}{p:Nod}
theorem NOk.wait(h:NOk n p){q:Pend}(hq:POk p.agreed.length q):NOk n (p.wait q) :=
 { h with pe:=fun r hr=>(List.mem_append.1 hr).elim (h.pe r) fun h1=>(List.mem_singleton.1 h1)▸hq }
theorem NOk.promise(h:NOk n p)(b:Bal):NOk n (p.promise b).1∧(p.promise b).1.pend=p.pend∧(p.promise b).1.agreed=p.agreed∧Bz (p.promise b).2.1∧((p.promise b).2.2=0→Ad b):=by
 unfold Nod.promise;by_cases h1:BG p.vo b≠0
 ·rw[if_pos h1];exact⟨h,rfl,rfl,Bz.nil,fun g=>absurd g h1⟩
 ·rw[if_neg h1];have h2:=Ge (Decidable.byContradiction h1);by_cases h3:b=p.vo.p
  ·rw[if_pos h3];exact⟨{ h with vp:=.inl h2.2.1,vs:=h.vs },rfl,rfl,h.vs,fun _=>h2.2.1⟩
  ·rw[if_neg h3];by_cases h4:CD p.d p.sy (Ad b) (Bk b)≠0
   ·rw[if_pos h4];exact⟨h,rfl,rfl,Bz.nil,fun g=>absurd g h4⟩
   ·rw[if_neg h4];exact⟨{ h with vp:=.inl h2.2.1,vs:=h.vs },rfl,rfl,h.vs,fun _=>h2.2.1⟩
theorem NOk.vote(h:NOk n p)(v:Vt):NOk n (p.vote v).1∧(p.vote v).1.pend=p.pend∧(p.vote v).1.agreed=p.agreed∧(p.vote v).1.rnd=p.rnd:=by
 unfold Nod.vote;by_cases h1:AT p.vo v≠0
 ·rw[if_pos h1];exact⟨h,rfl,rfl,rfl⟩
 ·rw[if_neg h1];have h2:=BK (Decidable.byContradiction h1);by_cases h3:v∈p.vo.vs
  ·rw[if_pos h3];exact⟨{ h with vp:=.inl h2.2.1.2.1,vs:=F1 h.vs h2.2.1 },rfl,rfl,rfl⟩
  ·rw[if_neg h3];by_cases h4:CD p.d p.sy (Aj v) (Ba v)≠0
   ·rw[if_pos h4];exact⟨h,rfl,rfl,rfl⟩
   ·rw[if_neg h4];exact⟨{ h with vp:=.inl h2.2.1.2.1,vs:=F1 h.vs h2.2.1 },rfl,rfl,rfl⟩
theorem NOk.refuse(h:NOk n p){to:Nat}(hto:to<5)(e:Int):NOk n (p.refuse to e)∧(p.refuse to e).agreed=p.agreed∧Au (p.refuse to e).pend≤Au p.pend+1:=by
 unfold Nod.refuse;split
 ·exact⟨h.wait ⟨hto,h.vp⟩,rfl,by show Au (p.pend++[_])≤_;rw[ER];exact Nat.le_refl _⟩
 ·exact⟨h,rfl,Nat.le_succ _⟩
theorem Zw(k:Nat)(r:Rnd)(l:List Cmd)(h:l.length≤40):(KD k r l).length≤40∧l.length≤(KD k r l).length:=by
 induction k generalizing l with
 | zero=>exact⟨h,Nat.le_refl _⟩
 | succ k ih =>
  rw[KD];split
  ·rename_i h1
   have h2:=V0 h1;have:=ih (l++[Cl r.accs (l.length:Int)]) (by simp;omega);simp at this;exact⟨this.1,by omega⟩
  ·exact⟨h,Nat.le_refl _⟩
theorem NOk.grow(h:NOk n p){l:List Cmd}(h1:l.length≤40)(h2:p.agreed.length≤l.length):NOk n { p with agreed:=l } :=
 { h with ag:=h1,dn:=Nat.le_trans h.dn h2,pe:=fun q hq=>(h.pe q hq).mono h2 }
theorem NOk.learnC(h:NOk n p):NOk n p.learnC∧p.learnC.pend=p.pend∧p.agreed.length≤p.learnC.agreed.length :=
 have:=Zw 41 p.rnd p.agreed h.ag
 ⟨h.grow this.1 this.2,rfl,this.2⟩
theorem NOk.learn(h:NOk n p){slot:Nat}{what:List Cmd}(h1:slot≤p.agreed.length)(h2:slot+what.length≤40):NOk n (p.learn slot what)∧(p.learn slot what).pend=p.pend∧p.agreed.length≤(p.learn slot what).agreed.length:=by
 have ha:=h.ag;refine⟨h.grow ?_ ?_,rfl,?_⟩
 ·rw[List.length_append,List.length_drop];omega
 ·rw[List.length_append];omega
 ·show _≤(p.agreed++_).length;rw[List.length_append];omega
theorem Yj{α:Type}{f:Nat→α}{P:α→Prop}(h:∀ j,P (f j))(i:Nat){x:α}(hx:P x):∀ j,P (upN f i x j):=by
 intro j;unfold upN;split
 ·exact hx
 ·exact h j
theorem NOk.hear(h:NOk n p)(j:Nat){vs:List Vt}(hv:Bz vs):NOk n { p with rnd:=p.rnd.hear j vs } :=
 { h with qu:=h.qu,he:=Yj (P:=fun a:Acc=>Bz a.vs) h.he j (TG _ _ hv) }
theorem NOk.count(h:NOk n p)(j:Nat)(v:Vt):NOk n (p.count j v)∧(p.count j v).pend=p.pend∧p.agreed.length≤(p.count j v).agreed.length:=by
 unfold Nod.count;by_cases h1:v.b≠p.rnd.bal
 ·rw[if_pos h1];exact⟨h,rfl,Nat.le_refl _⟩
 ·rw[if_neg h1];by_cases h2:AT (p.rnd.heard j) v≠0
  ·rw[if_pos h2];exact⟨h,rfl,Nat.le_refl _⟩
  ·rw[if_neg h2];have h3:=Decidable.byContradiction h2;have:NOk n { p with rnd:={ p.rnd with heard:=upN p.rnd.heard j ⟨Ck (p.rnd.heard j) v,Dg (p.rnd.heard j) v⟩ } } :=
    { h with qu:=h.qu,he:=Yj (P:=fun a:Acc=>Bz a.vs) h.he j (by show Bz (Dg _ v);rw[(Lx h3).2];exact F1 (h.he j) (BK h3).2.1) }
   exact this.learnC
theorem NOk.enqueue(h:NOk n p)(l:List Cmd):NOk n (p.enqueue l)∧(p.enqueue l).pend=p.pend∧(p.enqueue l).agreed=p.agreed:=by
 unfold Nod.enqueue;split
 ·exact⟨{ h with qu:=YQ _ _ h.qu,he:=h.he },rfl,rfl⟩
 ·exact⟨h,rfl,rfl⟩
theorem NOk.take(h:NOk n p){l:Let}(hl:LOk l):NOk n (p.take l)∧Au (p.take l).pend≤Au p.pend+1∧p.agreed.length≤(p.take l).agreed.length:=by
 have ha:=h.ag;unfold Nod.take;have hw:∀ {P:Nod} {q:Pend},P.pend=p.pend→q.wt=1→Au (P.wait q).pend≤Au p.pend+1:=fun{P q} e e2=>by
  show Au (P.pend++[q])≤_;rw[ER,e,e2];exact Nat.le_refl _
 split
 ·have hp:=h.promise l.bal;split
  ·have:=h.refuse hl.src (p.promise l.bal).2.2;exact⟨this.1,this.2.2,by rw[this.2.1];exact Nat.le_refl _⟩
  ·rename_i h1
   exact⟨hp.1.wait ⟨hl.src,.inl (hp.2.2.2.2 (Decidable.byContradiction h1)),hp.2.2.2.1⟩,hw hp.2.1 rfl,by show _≤(p.promise l.bal).1.agreed.length;rw[hp.2.2.1];exact Nat.le_refl _⟩
 ·have hk:=h.learn (slot:=0) (what:=l.what) (Nat.zero_le _) (by have:=hl.wh;omega);simp only;split
  ·exact⟨hk.1,by rw[hk.2.1];omega,hk.2.2⟩
  ·have h2:=hk.1.hear l.src (vs:=l.votes) hl.vs;have h3:NOk n { p.learn 0 l.what with rnd:={ (p.learn 0 l.what).rnd.hear l.src l.votes with taught:=upN (p.learn 0 l.what).rnd.taught l.src l.what.length } }:={ h2 with qu:=h2.qu,he:=h2.he };have h4:=h3.learnC;exact⟨h4.1,by rw[h4.2.1];show Au (p.learn 0 l.what).pend≤_;rw[hk.2.1];omega,Nat.le_trans hk.2.2 h4.2.2⟩
 ·have hr:=h.ro;have hb:=hl.bal.rng;exact⟨{ h with ro:=by show 0≤max p.rounds l.bal.r∧max p.rounds l.bal.r≤65536;omega },Nat.le_succ _,Nat.le_refl _⟩
 ·have hp:=h.vote l.vote;split
  ·have:=h.refuse hl.src (p.vote l.vote).2;exact⟨this.1,this.2.2,by rw[this.2.1];exact Nat.le_refl _⟩
  ·exact⟨hp.1.wait hl.src,hw hp.2.1 rfl,by show _≤(p.vote l.vote).1.agreed.length;rw[hp.2.2.1];exact Nat.le_refl _⟩
 ·have:=h.count l.src l.vote;exact⟨this.1,by rw[this.2.1];omega,this.2.2⟩
 ·rename_i hk
  split
  ·exact⟨h.wait hl.src,hw rfl rfl,Nat.le_refl _⟩
  ·have:=h.learn (slot:=l.slot) (what:=l.what) (by omega) (hl.sl hk);exact⟨this.1,by rw[this.2.1];omega,this.2.2⟩
 ·have he:=h.enqueue l.what;simp only;split
  ·rename_i h1
   exact⟨he.1.wait ⟨hl.src,Nat.le_of_lt h1⟩,hw he.2.1 rfl,by show _≤(p.enqueue l.what).agreed.length;rw[he.2.2];exact Nat.le_refl _⟩
  ·exact⟨he.1,by rw[he.2.1];omega,by rw[he.2.2];exact Nat.le_refl _⟩
 ·exact⟨h,Nat.le_succ _,Nat.le_refl _⟩
end
end
end Go.Proofs.YtfhbkoflaekhpadGreatDoor
