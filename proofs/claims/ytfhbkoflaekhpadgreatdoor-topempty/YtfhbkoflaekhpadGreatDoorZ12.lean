/- Part 12 of the walk. -/
import Derived.Test.YtfhbkoflaekhpadGreatDoorZ11
set_option maxRecDepth 100000
set_option maxHeartbeats 4000000
open Go.Proofs.Tryz
set_option linter.unusedVariables false
namespace Go.Proofs.YtfhbkoflaekhpadGreatDoor
open Go.RowKit
def Iz(l:List Int)(j:Nat):List Int:=(l.take j).flatMap Ac
theorem T4(l:List Int)(j:Nat)(h:j<l.length):Iz l (j+1)=Iz l j++Ac (l.getD j 0):=by
 unfold Iz;rw[List.take_succ_eq_append_getElem h,List.flatMap_append,AN h];simp
theorem OE(l:List Int)(j:Nat):(Iz l j).length≤4*j:=by
 unfold Iz;induction l generalizing j with
 | nil=>simp
 | cons x l ih =>
  cases j with
  | zero=>simp
  | succ j =>
   have:=ih j;rw[List.take_succ_cons,List.flatMap_cons,List.length_append,Ca];omega
theorem T3(k c s n v:Int):Iz [k,c,s,n,v] 5=Ds k c s n v:=rfl
def T5(k c s n v:Int):List Int:=if AZ k c s n v=0 then Ds k c s n v else[]
theorem Sj{k c s n v:Int}(h:AZ k c s n v=0):T5 k c s n v=Ds k c s n v:=if_pos h
theorem YP{k c s n v:Int}(h:¬ AZ k c s n v=0):T5 k c s n v=[]:=if_neg h
def Ng:Array Value:=(List.replicate 20 (Value.int .u8 0)).toArray
theorem d8(w:World):(Instr.makeSlice 25 (.int .i64 0) (.int .i64 20)).run prog w=.ok (.slice (some ⟨w.heap.size,0,none⟩) 0 20) (w.alloc (.cells Ng 5)):=by
 obtain⟨i,hi,hz,hsz,hby⟩:=info_parts At;rw[run_makeSlice (P:=prog) w 25 5 i (.int .u8 0) underlying25 hi hz .i64 .i64 0 20 (by omega) (by omega) (by rw[hsz];decide) (by rw[hby];decide) (by omega),hsz];have e:madeCells (Value.int .u8 0).cells ((20:Int).toNat*1)=Ng:=by kernel_rfl
 rw[e];rfl
theorem Bc.num{w:World}{g:Nat}{k c s n v:Int}(h:Bc w g k c s n v)(j:Nat)(hj:j<5):w.cell? ⟨g,j,none⟩=some (.int .i64 ([k,c,s,n,v].getD j 0)):=by
 obtain⟨c0,c1,c2,c3,c4⟩:=Et h.row;rcases(by omega:j=0∨j=1∨j=2∨j=3∨j=4)with rfl|rfl|rfl|rfl|rfl
 ·exact c0
 ·exact c1
 ·exact c2
 ·exact c3
 ·exact c4
theorem Rq{w w':World}{base e:Nat}{v:Value}{n:Nat}{xs:List Value}(h:w.ownsRow base e 1 v n xs)(hk:∀ k,v.ownBlock=some k→w'.heap[k]?=w.heap[k]?):w'.ownsRow base e 1 v n xs:=by
 refine⟨h.1,?_⟩;rcases h.2 with h2|⟨g,cap,cur,hv,hb,hg,hr⟩
 ·exact .inl h2
 ·exact .inr ⟨g,cap,cur,hv,hb,(hk g (by rw[hv];rfl)).trans hg,hr⟩
theorem Ji{w w':World}{base e:Nat}{v:Value}{n:Nat}{xs:List Value}(h:w.ownsRow base e 1 v n xs)(hb:Bw w w'):w'.ownsRow base e 1 v n xs :=
 Rq h fun k hk=>hb.block k (h.lt k hk).2
theorem Q3(k c s n v:Int)(w:World)(ht:NTab w) :
  Calls prog 37 #[.agg (cmA k c s n v)] w fun e w'=>∃ v',e=.returned (.tuple #[v',.int .i64 (AZ k c s n v)])∧w'.ownsRow w.heap.size 5 1 v' (T5 k c s n v).length ((T5 k c s n v).map (Value.int .u8))∧Bw w w':=by
 have bb:Bw w (w.alloc (.cells (cmA k c s n v) 41)):=(Below.refl _ _).alloc (Nat.le_refl _) _;have bc:=Bc.made w k c s n v;have hT:=ht.below bb;have hi:=FX k c s n v;generalize hW:w.alloc (.cells (cmA k c s n v) 41)=W at bb bc hT;clear ht;go_enter func37,ntmps37
 go_wp2_with (refine wpList_load_row rfl 41 _ rfl w.heap.size rfl 41 _ (0,0) _ bc.row underlying41 rfl hi ?_)
 clear hW;refine(DB k c s n v W hT).mono ?_;rintro e w1 ⟨rfl,b1⟩;have d1:Bw w w1:=bb.trans (b1.mono bb.size);replace bc:=bc.below b1;clear b1 bb hT;by_cases h1:AZ k c s n v=0
 ·have HE:Hid (T5 k c s n v=Iz [k,c,s,n,v] 5):=(Sj h1).trans (T3 k c s n v).symm;have hz:=Eu h1;have HS:Hid (∀ j,j<5→0≤[k,c,s,n,v].getD j 0∧[k,c,s,n,v].getD j 0<2147483648):=by
   unfold Hid;obtain⟨hk,hc⟩:=hz;unfold InC at hc;intro j hj;rcases(by omega:j=0∨j=1∨j=2∨j=3∨j=4)with rfl|rfl|rfl|rfl|rfl
   ·show 0≤k∧k<2147483648;omega
   ·show 0≤c∧c<2147483648;omega
   ·show 0≤s∧s<2147483648;omega
   ·show 0≤n∧n<2147483648;omega
   ·show 0≤v∧v<2147483648;omega
  have HL:Hid ([k,c,s,n,v].length=5):=rfl;have HZ:Hid (AZ k c s n v=0):=h1;rw[h1];clear hz h1;have hmk:=d8 w1;have b2:Below w1.heap.size w1 (w1.alloc (.cells Ng 5)):=(Below.refl _ _).alloc (Nat.le_refl _) _;have ho0:(w1.alloc (.cells Ng 5)).ownsRow w1.heap.size 5 1 (.slice (some ⟨w1.heap.size,0,none⟩) 0 20) ([]:List Int).length (([]:List Int).map (Value.int .u8)) :=
   ⟨rfl,.inr ⟨w1.heap.size,20,Ng,rfl,Nat.le_refl _,heap_alloc_new _ _,by decide,by simp[maxLen],rfl,rfl⟩⟩
  have HO0:Hid _:=ho0;clear ho0;generalize w1.alloc (.cells Ng 5)=W2 at hmk b2 HO0;go_wp2_with fail
  refine(Gy w.heap.size W2).mono ?_;rintro e w3 ⟨rfl,b3⟩;have HO3:Hid (w3.ownsRow w1.heap.size 5 1 (.slice (some ⟨w1.heap.size,0,none⟩) 0 20) ([]:List Int).length (([]:List Int).map (Value.int .u8))):=Ji HO0.out b3;have d3:Below w1.heap.size w1 w3:=b2.trans (b3.mono b2.size);have z3:=d3.size;clear HO0 b2 b3 hmk;have hlt:=bc.lt;have hN:∀ wr,Below w1.heap.size w1 wr→∀ j,j<5→wr.cell? ⟨w.heap.size,j,none⟩=some (.int .i64 ([k,c,s,n,v].getD j 0)):=fun wr hb j hj=>(bc.below hb).num j hj;have HN:Hid _:=hN;clear bc hN;generalize [k,c,s,n,v]=L at HE HS HN HL;have hBz:w1.heap.size≤w1.heap.size:=Nat.le_refl _;have hwB:w.heap.size≤w1.heap.size:=d1.size;generalize hB:w1.heap.size=B at d3 z3 HO3 HN hlt hwB;replace hBz:B≤w1.heap.size:=by omega
  clear hB;have hix:=Pt w.heap.size;go_wp2_with fail
  go_loopw [5,15] (fun v iv wr=>∃ j:Nat,j≤5∧iv=.int .i64 (j:Int)∧wr.ownsRow B 5 1 v (Iz L j).length ((Iz L j).map (Value.int .u8))∧Below B w1 wr) (fun _ iv _=>(5-intOf iv).toNat)
  case atStart=>exact⟨0,by omega,rfl,HO3.out,d3⟩
  case round =>
   obtain⟨j,hj,rfl,hown,hbel⟩:=hrel;by_cases hj5:j<5
   ·have hji:(j:Int)<5:=by omega
    have hij:=hix j hj5;have hcj:=HN.out _ hbel j hj5;have hsj:=HS.out j hj5;have HK:Hid (Iz L (j+1)=Iz L j++Ac (L.getD j 0)):=T4 L j (by rw[HL.out];omega);have HQ:=OE L j;have HO:Hid _:=hown;have hz:B≤wr.heap.size:=Nat.le_trans hBz hbel.size;clear hown hix HO3;generalize L.getD j 0=X at hcj hsj HK;go_wp2_with fail
    refine(G0 _ _ X B wr HO.out hz (by omega) hsj.1 hsj.2).mono ?_;rintro e w5 ⟨v5,rfl,o5,b5⟩;have HO5:Hid (w5.ownsRow B 5 1 v5 (Iz L (j+1)).length ((Iz L (j+1)).map (Value.int .u8))):=by unfold Hid;rw[HK.out];exact o5
    have d5:=hbel.trans b5;clear o5 b5 HO HK HQ hcj hij hsj;go_wp2
    go_roundw
    case rel=>exact⟨j+1,by omega,by go_num,HO5.out,d5⟩
    case measure=>simp[intOf];omega
   ·obtain rfl:j=5:=by omega
    rw[show((5:Nat):Int)=5 from rfl];have HO:Hid _:=hown;clear hown hix HO3;go_wp2
    go_ret2
    rw[HE.out,HZ.out];exact⟨_,rfl,AP HO.out hwB,d1.trans (hbel.mono hwB)⟩
 ·have HE:Hid (T5 k c s n v=[]):=YP h1;go_wp2
  go_ret2
  rw[HE.out];exact⟨_,rfl,World.ownsRow_nil _ _ _ _,d1⟩
theorem Jg{P:Program}{fn:Func}{p u:Tmp}{ty:TypeId}(h:fn.results=#[.cell p ty,.tmp u])(tmps:Array Value)(w:World)(g:Nat)(t:TypeId)(cs:Array Value)(fr:Nat × Nat)(d:TypeDesc)
  (hp:tmps.getD p undef=.pointer (some ⟨g,0,none⟩))(hg:w.heap[g]?=some (.cells cs t fr))
  (hu:P.underlying ty=some d)(hd:(match d with|.struct _|.array _ _=>true|_=>false)=true)(hi:(P.info? ty).map (·.size)=some cs.size) :
  (results fn tmps).run P w=.ok (.tuple #[.agg cs,tmps.getD u undef]) w:=by
 have hp':tmps[p]?.getD undef=.pointer (some ⟨g,0,none⟩):=by simpa using hp
 simp[results,h,hp',asAddr,run_loadVar_row w g t ty cs fr d hg hu hd hi]
theorem Sc(k c s n v:Int):(cmA k c s n v).all (·.oneCell')=true:=by simp[cmA,Value.oneCell']
def Nb(B:Nat)(y:S3)(l:List Int):Prop:=l≠[]→∀ a,y.a=some a→B≤a.block
theorem Nb.mono{B C:Nat}{y:S3}{l:List Int}(h:Nb B y l)(hc:C≤B):Nb C y l:=fun hl a ha=>Nat.le_trans hc (h hl a ha)
theorem Rp{w:World}{B:Nat}{y:Value}{l:List Int}(h:w.ownsRow B 5 1 y l.length (l.map (Value.int .u8)))(hl:l.length≤140737488351232)(hb:∀ x∈l,0≤x∧x<256):∃ z:S3,y=z.v∧Sl w z.v l∧Nb B z l:=by
 have hs:=Sl.ofOwns h hl hb;rcases h.2 with⟨rfl,h0⟩|⟨b,cap,cur,rfl,hbb,_⟩
 ·exact⟨s30,rfl,hs,fun hn=>absurd (List.eq_nil_of_length_eq_zero h0) hn⟩
 ·exact⟨⟨some ⟨b,0,none⟩,l.length,cap⟩,rfl,hs,fun _ a ha=>by simp only[Option.some.injEq]at ha;subst ha;exact hbb⟩
theorem XS{w:World}{y:Value}{l:List Vt}(hs:Sv w y l):∃ z:S3,y=z.v:=by
 obtain⟨a,c,rfl⟩:=hs.shape;exact⟨⟨a,l.length,c⟩,rfl⟩
theorem gn(w:World):Sv w (.slice none 0 0) []:=⟨⟨none,0,rfl,Nat.le_refl _,fun _=>rfl,.inl rfl⟩,by simp⟩
theorem dK{b:Bal}{w:World}(hN:NTab w){E:Int}(hE:(if Ad b then 0 else 2)=E) :
  Calls prog 99 #[.agg #[iv 0,iv 0,S3.v s30],.agg #[iv b.r,iv b.n]] w fun e w'=>∃ (r n:Int) (y z:S3),e=.returned (.tuple #[.agg #[iv r,iv n,y.v],z.v,iv E])∧Bw w w':=by
 refine(Pr ⟨0,0⟩ (.slice none 0 0) [] b w (gn w) hN).mono ?_;rintro e w' ⟨y,z,rfl,hy,hz,hb⟩;obtain⟨y,rfl⟩:=XS hy;obtain⟨z,rfl⟩:=XS hz;have h1:BG ⟨⟨0,0⟩,[]⟩ b=E:=(ZQ b).trans hE;rw[h1];exact⟨_,_,y,z,rfl,hb⟩
theorem Ec{d:List Int}{s:Int}{may:Prop}[Decidable may] {b:List Int} {E:Int} (h:CD d s may b=E) (h0:E≠0):Fd d s may b=[]∧FS d s may b=0:=⟨if_neg (by rw[h];exact h0),if_neg (by rw[h];exact h0)⟩
theorem XL{b:Bal}(hb:Ad b){w:World}:Calls prog 136 #[.agg #[iv b.r,iv b.n]] w fun e w'=>∃ y:S3,e=.returned y.v∧Sl w' y.v (Bk b)∧Bw w w':=by
 refine(NT b hb w).mono ?_;rintro e w' ⟨y,rfl,ho,h⟩;obtain⟨z,rfl,hz⟩:=F9 (l:=Bk b) ho (by rw[show(Bk b).length=9 from rfl];decide) (Ur b);exact⟨z,rfl,hz,h⟩
theorem Te{x v:S3}{d b:List Int}(s:Int){w:World}(h:Sl w x.v d)(hv:Sl w v.v b)(hb:b.length≤255)(hd:d.length+5+b.length≤100000)(ht:AD w) :
  Calls prog 135 #[.agg #[x.v,iv s],v.v] w fun e w'=>∃ y:S3,e=.returned (.tuple #[.agg #[y.v,iv s],iv 0])∧Sl w' y.v (d++AG b)∧Nb w.heap.size y (d++AG b)∧Bw w w':=by
 refine(L5 x.v d s v.v b w h hv hb (by omega) ht).mono ?_;rintro e w' ⟨y,rfl,ho,hw⟩;obtain⟨z,rfl,hz,hn⟩:=Rp ho (by rw[List.length_append,Bb];omega) (fun x hx=>(List.mem_append.1 hx).elim (h.byte x) (KY hv.byte hb x));exact⟨z,rfl,hz,hn,hw⟩
theorem bY{v:Vt}{w:World}(hN:NTab w){E:Int}(hE:(if Aj v then 0 else 2)=E) :
  Calls prog 101 #[.agg #[iv 0,iv 0,S3.v s30],.agg #[iv v.slot,iv v.b.r,iv v.b.n,iv v.w.k,iv v.w.c,iv v.w.s,iv v.w.n,iv v.w.v]] w fun e w'=>∃ (r n:Int) (y:S3),e=.returned (.tuple #[.agg #[iv r,iv n,y.v],iv E])∧Bw w w':=by
 refine(Qb ⟨0,0⟩ (.slice none 0 0) [] v w (gn w) hN).mono ?_;rintro e w' ⟨y,rfl,hy,hb⟩;obtain⟨y,rfl⟩:=XS hy;have h1:AT ⟨⟨0,0⟩,[]⟩ v=E:=(aX v).trans hE;rw[h1];exact⟨_,_,y,rfl,hb⟩
theorem VQ{m:Cmd}{w:World}(hN:NTab w)(h0:m.e=0) :
  Calls prog 37 #[.agg #[iv m.k,iv m.c,iv m.s,iv m.n,iv m.v]] w fun e w'=>∃ y:S3,e=.returned (.tuple #[y.v,iv 0])∧Sl w' y.v (Ds m.k m.c m.s m.n m.v)∧Bw w w':=by
 refine(Q3 m.k m.c m.s m.n m.v w hN).mono ?_;rintro e w' ⟨y,rfl,ho,hb⟩;have h1:AZ m.k m.c m.s m.n m.v=0:=h0;rw[Sj h1]at ho
 rw[h1];obtain⟨y,rfl,hy⟩:=F9 ho (by rw[DR];decide) (Mn _ _ _ _ _);exact⟨y,rfl,hy,hb⟩
theorem XT{v:Vt}(hv:Aj v){x:S3}{w:World}(hx:Sl w x.v (Ds v.w.k v.w.c v.w.s v.w.n v.w.v)) :
  Calls prog 156 #[.agg #[iv v.slot,iv v.b.r,iv v.b.n,iv v.w.k,iv v.w.c,iv v.w.s,iv v.w.n,iv v.w.v],x.v] w fun e w'=>∃ y:S3,e=.returned y.v∧Sl w' y.v (Ba v)∧Bw w w':=by
 refine(NV v hv x.v w hx).mono ?_;rintro e w' ⟨y,rfl,ho,h⟩;obtain⟨z,rfl,hz⟩:=F9 (l:=Ba v) ho (by rw[PU];decide) (UV v);exact⟨z,rfl,hz,h⟩
theorem X4{d:List Int}{s:Int}{k:Nat}(h:GR d s k=0):d.length+k≤100000:=by
 unfold GR at h;split at h
 ·cases h
 ·split at h
  ·cases h
  ·omega
theorem Js{x:S3}{d:List Int}{s:Int}{b:Bal}{w:World}(h:Sl w x.v d)(hT:AD w)(hN:NTab w) :
  Calls prog 100 #[.agg #[x.v,iv s],.agg #[iv b.r,iv b.n]] w fun e w'=>∃ y:S3,e=.returned (.tuple #[.agg #[y.v,iv (FS d s (Ad b) (Bk b))],iv (CD d s (Ad b) (Bk b))])∧Sl w' y.v (Fd d s (Ad b) (Bk b))∧Nb w.heap.size y (Fd d s (Ad b) (Bk b))∧Bw w w':=by
 obtain⟨E0,hE0⟩:∃ E0,GR d s 14=E0:=⟨_,rfl⟩;obtain⟨E1,hE1⟩:∃ E1:Int,(if Ad b then 0 else 2)=E1:=⟨_,rfl⟩;have hW:CD d s (Ad b) (Bk b)=if E0≠0 then E0 else E1:=by rw[← hE0,← hE1];rfl
 refine kIn func100 ?_;refine kR 11 [0,0,0,0,1,0,0] fun σ1 w1 b1=>?_;refine kC 1 ((hE0▸Gu x.v d s 14 (by decide) _ (h.below b1))) ?_;rintro _ w2 ⟨rfl,b2⟩;refine⟨_,rfl,b2,?_⟩;refine kR 7 [] fun σ3 w3 b3=>?_;by_cases h1:E0≠0
 ·refine kI ((E0 != 0)) true (by simpa using h1) ?_;refine kF 7 [2,0] fun σ4 w4 b4 q4=>?_;have hw:=hW.trans (if_pos h1);rw[hw,(Ec hw h1).1,(Ec hw h1).2];have B5:=((btr (btr b1 b2) b3).trans b4);exact qE2 4 5 94 2 (σ1 2) #[S3.v s30,iv 0] (iv E0) fun K=>⟨s30,rfl,DP _,fun h=>absurd rfl h,B5⟩
 ·refine kI ((E0 != 0)) false (by simpa using h1) ?_;have h10:E0=0:=by simpa using h1
  have hd:=X4 (hE0.trans h10);refine kR 6 [1] fun σ6 w6 b6=>?_;have B7:=(btr (btr (btr b1 b2) b3) b6);refine kC 2 (dK (hN.below B7) hE1) ?_;rintro _ w8 ⟨r,n,ya,za,rfl,b8⟩;refine⟨_,rfl,b8,?_⟩;refine kR 14 [1,0,3,0] fun σ9 w9 b9=>?_;by_cases h2:E1≠0
  ·refine kI ((E1 != 0)) true (by simpa using h2) ?_;refine kF 7 [2,0] fun σ10 w10 b10 q10=>?_;have hw:=hW.trans (if_neg h1);rw[hw,(Ec hw h2).1,(Ec hw h2).2];have B11:=((btr (btr B7 b8) b9).trans b10);exact qE2 4 5 94 2 (σ1 2) #[S3.v s30,iv 0] (iv E1) fun K=>⟨s30,rfl,DP _,fun h=>absurd rfl h,B11⟩
  ·refine kI ((E1 != 0)) false (by simpa using h2) ?_;have h20:E1=0:=by simpa using h2
   have hmay:Ad b:=by by_cases g:Ad b;exact g;rw[if_neg g,h20]at hE1;cases hE1
   have hw:CD d s (Ad b) (Bk b)=0:=hW.trans ((if_neg h1).trans h20);rw[hw,show Fd d s (Ad b) (Bk b)=d++AG (Bk b)from if_pos hw,show FS d s (Ad b) (Bk b)=s from if_pos hw];refine kR 4 [2,2,1] fun σ12 w12 b12=>?_;refine W6 33 (fun w' e L=>∃ (y:S3),e=[(4,pt (σ1 2) 0),(5,iv 0)]∧L=[⟨(σ1 0),.cells #[S3.v x,iv s] 94,.z,false⟩,⟨(σ1 1),.cells #[iv b.r,iv b.n] 74,.z,false⟩,⟨(σ1 2),.cells #[S3.v y,iv s] 94,.l,false⟩,⟨(σ9 0),.cells #[iv r,iv n,S3.v ya] 77,.l,false⟩]∧Sl w' y.v (d++AG (Bk b))∧Nb w.heap.size y (d++AG (Bk b))∧Bw w w') ?_ ?_
   ·intro J hJ;refine TP 0 2 ?_ ?_
    ·refine kR 1 [0] fun σ14 w14 b14=>?_;refine kC 2 (XL hmay) ?_;rintro _ w15 ⟨yb15,rfl,hb15,b15⟩;refine⟨_,rfl,b15,?_⟩;have B17:=(btr (btr (btr (btr (btr B7 b8) b9) b12) b14) b15);refine kC 3 (Te s (h.below B17) hb15 (by rw[show(Bk b).length=9 from rfl];decide) (by rw[show(Bk b).length=9 from rfl];omega) (hT.below B17)) ?_;rintro _ w18 ⟨y18,rfl,hy18,hn18,b18⟩;refine⟨_,rfl,b18,?_⟩;refine kF 5 [8,10,13,2,0,14] fun σ19 w19 b19 q19=>?_;have B20:=((btr B17 b18).trans b19);exact kB [true,true,true,true] fun z K=>hJ _ _ z _ ⟨y18,rfl,rfl,(hy18.kept q19),hn18.mono B17.size,B20⟩ K
    ·refine kC 2 (XL hmay) ?_;rintro _ w22 ⟨yb22,rfl,hb22,b22⟩;refine⟨_,rfl,b22,?_⟩;refine kR 1 [1,0] fun σ23 w23 b23=>?_;have B24:=(btr (btr (btr (btr (btr B7 b8) b9) b12) b22) b23);refine kC 3 (Te s (h.below B24) (hb22.below b23) (by rw[show(Bk b).length=9 from rfl];decide) (by rw[show(Bk b).length=9 from rfl];omega) (hT.below B24)) ?_;rintro _ w25 ⟨y25,rfl,hy25,hn25,b25⟩;refine⟨_,rfl,b25,?_⟩;refine kF 5 [8,10,13,2,0,14] fun σ26 w26 b26 q26=>?_;have B27:=((btr B24 b25).trans b26);exact kB [true,true,true,true] fun z K=>hJ _ _ z _ ⟨y25,rfl,rfl,(hy25.kept q26),hn25.mono B24.size,B27⟩ K
   ·rintro w13 _ z13 _ ⟨y,rfl,rfl,hy,hn,hb⟩;exact qE2 4 5 94 2 (σ1 2) #[S3.v y,iv s] (iv 0) fun K=>⟨y,rfl,hy,hn,hb⟩
theorem PI{x:S3}{d:List Int}{s:Int}{v:Vt}{w:World}(h:Sl w x.v d)(hT:AD w)(hN:NTab w) :
  Calls prog 124 #[.agg #[x.v,iv s],.agg #[iv v.slot,iv v.b.r,iv v.b.n,iv v.w.k,iv v.w.c,iv v.w.s,iv v.w.n,iv v.w.v]] w fun e w'=>∃ y:S3,e=.returned (.tuple #[.agg #[y.v,iv (FS d s (Aj v) (Ba v))],iv (CD d s (Aj v) (Ba v))])∧Sl w' y.v (Fd d s (Aj v) (Ba v))∧Nb w.heap.size y (Fd d s (Aj v) (Ba v))∧Bw w w':=by
 obtain⟨E0,hE0⟩:∃ E0,GR d s 38=E0:=⟨_,rfl⟩;obtain⟨E1,hE1⟩:∃ E1:Int,(if Aj v then 0 else 2)=E1:=⟨_,rfl⟩;have hW:CD d s (Aj v) (Ba v)=if E0≠0 then E0 else E1:=by rw[← hE0,← hE1];rfl
 refine kIn func124 ?_;refine kR 11 [0,0,0,0,1,0,0] fun σ1 w1 b1=>?_;refine kC 1 ((hE0▸Gu x.v d s 38 (by decide) _ (h.below b1))) ?_;rintro _ w2 ⟨rfl,b2⟩;refine⟨_,rfl,b2,?_⟩;refine kR 7 [] fun σ3 w3 b3=>?_;by_cases h1:E0≠0
 ·refine kI ((E0 != 0)) true (by simpa using h1) ?_;refine kF 7 [2,0] fun σ4 w4 b4 q4=>?_;have hw:=hW.trans (if_pos h1);rw[hw,(Ec hw h1).1,(Ec hw h1).2];have B5:=((btr (btr b1 b2) b3).trans b4);exact qE2 4 5 94 2 (σ1 2) #[S3.v s30,iv 0] (iv E0) fun K=>⟨s30,rfl,DP _,fun h=>absurd rfl h,B5⟩
 ·refine kI ((E0 != 0)) false (by simpa using h1) ?_;have h10:E0=0:=by simpa using h1
  have hd:=X4 (hE0.trans h10);refine kR 6 [1] fun σ6 w6 b6=>?_;have B7:=(btr (btr (btr b1 b2) b3) b6);refine kC 2 (bY (hN.below B7) hE1) ?_;rintro _ w8 ⟨r,n,ya,rfl,b8⟩;refine⟨_,rfl,b8,?_⟩;refine kR 12 [1,0,3,0] fun σ9 w9 b9=>?_;by_cases h2:E1≠0
  ·refine kI ((E1 != 0)) true (by simpa using h2) ?_;refine kF 7 [2,0] fun σ10 w10 b10 q10=>?_;have hw:=hW.trans (if_neg h1);rw[hw,(Ec hw h2).1,(Ec hw h2).2];have B11:=((btr (btr B7 b8) b9).trans b10);exact qE2 4 5 94 2 (σ1 2) #[S3.v s30,iv 0] (iv E1) fun K=>⟨s30,rfl,DP _,fun h=>absurd rfl h,B11⟩
  ·refine kI ((E1 != 0)) false (by simpa using h2) ?_;have h20:E1=0:=by simpa using h2
   have hmay:Aj v:=by by_cases g:Aj v;exact g;rw[if_neg g,h20]at hE1;cases hE1
   refine kR 5 [1] fun σ12 w12 b12=>?_;have B13:=(btr (btr (btr B7 b8) b9) b12);refine kC 2 (VQ (m:=v.w) (hN.below B13) hmay.2.2) ?_;rintro _ w14 ⟨yc,rfl,hyc,b14⟩;refine⟨_,rfl,b14,?_⟩;refine kR 18 [3,2,1,4] fun σ15 w15 b15=>?_;have hw:CD d s (Aj v) (Ba v)=0:=hW.trans ((if_neg h1).trans h20);rw[hw,show Fd d s (Aj v) (Ba v)=d++AG (Ba v)from if_pos hw,show FS d s (Aj v) (Ba v)=s from if_pos hw];refine W6 44 (fun w' e L=>∃ (y:S3),e=[(4,pt (σ1 2) 0),(5,iv 0)]∧L=[⟨(σ1 0),.cells #[S3.v x,iv s] 94,.z,false⟩,⟨(σ1 1),.cells #[iv v.slot,iv v.b.r,iv v.b.n,iv v.w.k,iv v.w.c,iv v.w.s,iv v.w.n,iv v.w.v] 139,.z,false⟩,⟨(σ1 2),.cells #[S3.v y,iv s] 94,.l,false⟩,⟨(σ9 0),.cells #[iv r,iv n,S3.v ya] 77,.l,false⟩]∧Sl w' y.v (d++AG (Ba v))∧Nb w.heap.size y (d++AG (Ba v))∧Bw w w') ?_ ?_
   ·intro J hJ;refine TP 0 3 ?_ ?_
    ·refine kR 1 [0] fun σ18 w18 b18=>?_;refine kC 3 (XT hmay ((hyc.below b15).below b18)) ?_;rintro _ w19 ⟨yb19,rfl,hb19,b19⟩;refine⟨_,rfl,b19,?_⟩;have B21:=(btr (btr (btr (btr B13 b14) b15) b18) b19);refine kC 4 (Te s (h.below B21) hb19 (by rw[show(Ba v).length=33 from rfl];decide) (by rw[show(Ba v).length=33 from rfl];omega) (hT.below B21)) ?_;rintro _ w22 ⟨y22,rfl,hy22,hn22,b22⟩;refine⟨_,rfl,b22,?_⟩;refine kF 5 [10,12,15,2,0,16] fun σ23 w23 b23 q23=>?_;have B24:=((btr B21 b22).trans b23);exact kB [true,true,true,true] fun z K=>hJ _ _ z _ ⟨y22,rfl,rfl,(hy22.kept q23),hn22.mono B21.size,B24⟩ K
    ·refine kC 3 (XT hmay (hyc.below b15)) ?_;rintro _ w26 ⟨yb26,rfl,hb26,b26⟩;refine⟨_,rfl,b26,?_⟩;refine kR 1 [1,0] fun σ27 w27 b27=>?_;have B28:=(btr (btr (btr (btr B13 b14) b15) b26) b27);refine kC 4 (Te s (h.below B28) (hb26.below b27) (by rw[show(Ba v).length=33 from rfl];decide) (by rw[show(Ba v).length=33 from rfl];omega) (hT.below B28)) ?_;rintro _ w29 ⟨y29,rfl,hy29,hn29,b29⟩;refine⟨_,rfl,b29,?_⟩;refine kF 5 [10,12,15,2,0,16] fun σ30 w30 b30 q30=>?_;have B31:=((btr B28 b29).trans b30);exact kB [true,true,true,true] fun z K=>hJ _ _ z _ ⟨y29,rfl,rfl,(hy29.kept q30),hn29.mono B28.size,B31⟩ K
   ·rintro w17 _ z17 _ ⟨y,rfl,rfl,hy,hn,hb⟩;exact qE2 4 5 94 2 (σ1 2) #[S3.v y,iv s] (iv 0) fun K=>⟨y,rfl,hy,hn,hb⟩
theorem EL{g:Gh}{w:World}{i nb ob:Nat}{p:Nod}{ls:List Let}{ts:List Tol}(h:NS i nb ob g w p ls ts){w0:World}(hB:Base w0 g w)(hT:Tabs w0)(b:Bal) :
  Calls prog 55 #[pt nb 0,.agg #[iv b.r,iv b.n]] w fun e w'=>∃ (y:S3) (g':Gh),e=.returned (.tuple #[y.v,iv (p.promise b).2.2])∧FSv g' w' y (p.promise b).2.1∧NS i nb ob g' w' (p.promise b).1 ls ts∧Cg w.heap.size (TN i) g w g' w':=by
 obtain⟨x,lt,tl,hN,hO,hg⟩:=h;have hA:p.vo=⟨p.vo.p,p.vo.vs⟩:=rfl;refine gI (fn:=f55) (TN i) g func55 hg ?_;refine qN hN ?_;refine qO hO ?_;refine qR [] 14 [0,0,15,0,2,4,6,8,0,10,2] fun s1 g1 w1 c1=>?_;refine BN 55 (fun g' w' e L=>∃ (ys zs:S3) (bA:Nat),e=[(0,pt nb 0),(3,pt (s1 0) 0),(6,pt bA 0),(7,S3.v zs),(8,iv (BG p.vo b))]∧L=[⟨nb,.cells (AA i ob p x) 96,.n 0 i,false⟩,⟨ob,.cells #[S3.v lt,S3.v tl] 66,.n 50 0,false⟩,⟨(s1 0),.cells #[iv b.r,iv b.n] 74,.z,false⟩,⟨bA,.cells #[iv (Fl p.vo b).r,iv (Fl p.vo b).n,S3.v ys] 77,.l,false⟩]∧FSv g' w' ys (Fk p.vo b)∧FSv g' w' zs (Fk p.vo b)∧Cg w.heap.size [] g w g' w') (by kernel_rfl) ?_ ?_
 ·intro J hJ;refine CF 6 11 (by kernel_rfl) ?_ ?_
  ·refine Af fun Kq4=>?_;have hS4:=(hN.votes.ch c1).s;have hB4:=hB.ch c1;have hG4:∀ z,w1.heap.size≤z→g1.t z=.z:=fun z hz=>(Kq4.new z hz).1;refine qC 6 (C6 p.vo.p _ p.vo.vs b w1 hS4 (hB4.tn hT)) ?_;rintro e' w5 ⟨y5,z5,rfl,hy5,hz5,b5⟩;refine⟨_,rfl,b5,?_⟩;have c5:=Cg.ofBelow (B:=w.heap.size) (T:=[]) (g:=g1) b5;obtain⟨ys5,rfl,hyn5,hys5⟩:=Du hy5 hG4 (Nat.le_trans (CL _ _) hS4.len);obtain⟨zs5,rfl,hzn5,hzs5⟩:=Du hz5 hG4 (Nat.le_trans (CL _ _) hS4.len);refine qR [] 9 [14,16,18,20,23,1,0,25,3,0,26,28] fun s6 g6 w6 c6=>?_;exact qB [true,true,true,true] fun z K0 K=>hJ _ _ _ z _ ⟨ys5,zs5,(s6 0),rfl,rfl,(hys5.ch c6),(hzs5.ch c6),((c1.trans c5).trans c6)⟩ K
  ·refine qR [] 1 [1,0] fun s7 g7 w7 c7=>?_;refine Af fun Kq8=>?_;have hS8:=(hN.votes.ch (c1.trans c7)).s;have hB8:=hB.ch (c1.trans c7);have hG8:∀ z,w7.heap.size≤z→g7.t z=.z:=fun z hz=>(Kq8.new z hz).1;refine qC 6 (C6 p.vo.p _ p.vo.vs b w7 hS8 (hB8.tn hT)) ?_;rintro e' w9 ⟨y9,z9,rfl,hy9,hz9,b9⟩;refine⟨_,rfl,b9,?_⟩;have c9:=Cg.ofBelow (B:=w.heap.size) (T:=[]) (g:=g7) b9;obtain⟨ys9,rfl,hyn9,hys9⟩:=Du hy9 hG8 (Nat.le_trans (CL _ _) hS8.len);obtain⟨zs9,rfl,hzn9,hzs9⟩:=Du hz9 hG8 (Nat.le_trans (CL _ _) hS8.len);refine qR [] 8 [14,16,18,20,25,3,0,26,28] fun s10 g10 w10 c10=>?_;exact qB [true,true,true,true] fun z K0 K=>hJ _ _ _ z _ ⟨ys9,zs9,(s7 0),rfl,rfl,(hys9.ch c10),(hzs9.ch c10),(((c1.trans c7).trans c9).trans c10)⟩ K
 ·rintro g2 w2 _ z2 _ ⟨ys,zs,bA,rfl,rfl,hys,hzs,hc⟩;refine qR [] 6 [] fun s11 g11 w11 c11=>?_;by_cases h1:BG p.vo b≠0
  ·refine qI (((BG p.vo b) != 0)) true (by simpa using h1) ?_;refine qR [] 6 [] fun s12 g12 w12 c12=>?_;refine qE (.tuple #[S3.v s30,iv (BG p.vo b)]) fun K=>?_;rw[show p.promise b=(p,[],(BG p.vo b))from if_pos h1];exact⟨s30,_,rfl,⟨Sv.nil _,fun h=>absurd rfl h⟩,(nsC hN hO ((hc.n c11).n c12) K),(((hc.nil (TN i)).n c11).n c12)⟩
  ·refine qI (((BG p.vo b) != 0)) false (by simpa using h1) ?_;have h10:BG p.vo b=0:=by simpa using h1
   obtain⟨e1,e2⟩:=dL h10;rw[e2]at hys hzs
   refine qR [] 11 [8,0,2,2,4,6,8,10,12,0] fun s14 g14 w14 c14=>?_;by_cases h2:b=p.vo.p
   ·refine qT 7 (.bool false) (fun _=>(MJ (x:=(.tmp 25)) (y:=(.tmp 31)) b p.vo.p h2)) ?_;refine qR [.n 0 i] 18 [3,0,1] fun s15 g15 w15 c15=>?_;refine qE (.tuple #[S3.v zs,iv 0]) fun K=>?_;rw[show p.promise b=({ p with vo:=⟨b,p.vo.vs⟩ },p.vo.vs,0)from by unfold Nod.promise;rw[if_neg (by simpa using h10),if_pos h2]];have C16:=(((hc.nil ([.n 0 i]:List Tg)).n c11).n c14).trans (c15);have Z16:Tg.z∉([.n 0 i]:List Tg):=by simp
    obtain⟨q1,q2,q3⟩:=K.isN 0 nb (.cells (AA i ob { p with vo:=⟨Fl p.vo b,p.vo.vs⟩ } { x with votes:=ys }) 96) 0 i (by kernel_rfl);rw[e1]at q1
    obtain⟨q4,q5,q6⟩:=K.isN 1 ob (.cells #[S3.v lt,S3.v tl] 66) 50 0 (by kernel_rfl);exact⟨zs,_,rfl,(((hzs.ch c11).ch c14).ch c15),⟨{ x with votes:=ys },lt,tl,⟨q1,q2,q3,hN.tape.ch C16 Z16,(((hys.ch c11).ch c14).ch c15),Bi hN.heard C16 Z16,BF hN.pend C16 Z16 (by simp),hN.queue.ch C16,hN.agreed.ch C16,hN.wants.ch C16,hN.asked.ch C16,hN.upm⟩,⟨q4,q5,q6,Dt hO.lets C16 Z16 (by simp),hO.told.ch C16⟩,K.new⟩,((((hc.nil (TN i)).n c11).n c14).trans (c15.mono (by simp[TN])))⟩
   ·refine qT 7 (.bool true) (fun _=>(MK (x:=(.tmp 25)) (y:=(.tmp 31)) b p.vo.p h2)) ?_;refine qR [] 9 [12,0,2,4,6,0,8,2] fun s17 g17 w17 c17=>?_;refine BN 55 (fun g' w' e L=>∃ (tz:S3) (bT:Nat),e=[(0,pt nb 0),(6,pt bA 0),(7,S3.v zs),(9,pt bT 0),(10,iv (CD p.d p.sy (Ad b) (Bk b)))]∧L=[⟨nb,.cells (AA i ob p x) 96,.n 0 i,false⟩,⟨ob,.cells #[S3.v lt,S3.v tl] 66,.n 50 0,false⟩,⟨(s1 0),.cells #[iv b.r,iv b.n] 74,.z,false⟩,⟨bA,.cells #[iv (Fl p.vo b).r,iv (Fl p.vo b).n,S3.v ys] 77,.l,false⟩,⟨bT,.cells #[S3.v tz,iv (FS p.d p.sy (Ad b) (Bk b))] 94,.l,false⟩]∧FSl g' w' tz (Fd p.d p.sy (Ad b) (Bk b))∧FSv g' w' ys p.vo.vs∧FSv g' w' zs p.vo.vs∧Cg w.heap.size [] g w g' w') (by kernel_rfl) ?_ ?_
    ·intro J hJ;refine CF 5 9 (by kernel_rfl) ?_ ?_
     ·refine Af fun Kq20=>?_;have hS20:=(hN.tape.ch (((hc.trans c11).trans c14).trans c17) (by simp)).s;have hB20:=hB.ch (((hc.trans c11).trans c14).trans c17) (by simp);have hG20:∀ z,w17.heap.size≤z→g17.t z=.z:=fun z hz=>(Kq20.new z hz).1;refine qC 5 (Js (s:=p.sy) (b:=b) hS20 (hB20.tt hT) (hB20.tn hT)) ?_;rintro e' w21 ⟨ts21,rfl,hy21,hn21,b21⟩;refine⟨_,rfl,b21,?_⟩;have c21:=Cg.ofBelow (B:=w.heap.size) (T:=[]) (g:=g17) b21;have hts21:FSl _ _ ts21 _:=⟨hy21,fun hl a ha=>hG20 _ (hn21 hl a ha)⟩;refine qR [] 7 [12,14,16,19,1,0,21,4,0,22] fun s22 g22 w22 c22=>?_;exact qB [true,true,true,true,true] fun z K0 K=>hJ _ _ _ z _ ⟨ts21,(s22 0),rfl,rfl,(hts21.ch c22),(((((hys.ch c11).ch c14).ch c17).ch c21).ch c22),(((((hzs.ch c11).ch c14).ch c17).ch c21).ch c22),(((((hc.trans c11).trans c14).trans c17).trans c21).trans c22)⟩ K
     ·refine qR [] 1 [1,0] fun s23 g23 w23 c23=>?_;refine Af fun Kq24=>?_;have hS24:=(hN.tape.ch ((((hc.trans c11).trans c14).trans c17).trans c23) (by simp)).s;have hB24:=hB.ch ((((hc.trans c11).trans c14).trans c17).trans c23) (by simp);have hG24:∀ z,w23.heap.size≤z→g23.t z=.z:=fun z hz=>(Kq24.new z hz).1;refine qC 5 (Js (s:=p.sy) (b:=b) hS24 (hB24.tt hT) (hB24.tn hT)) ?_;rintro e' w25 ⟨ts25,rfl,hy25,hn25,b25⟩;refine⟨_,rfl,b25,?_⟩;have c25:=Cg.ofBelow (B:=w.heap.size) (T:=[]) (g:=g23) b25;have hts25:FSl _ _ ts25 _:=⟨hy25,fun hl a ha=>hG24 _ (hn25 hl a ha)⟩;refine qR [] 6 [12,14,16,21,4,0,22] fun s26 g26 w26 c26=>?_;exact qB [true,true,true,true,true] fun z K0 K=>hJ _ _ _ z _ ⟨ts25,(s23 0),rfl,rfl,(hts25.ch c26),((((((hys.ch c11).ch c14).ch c17).ch c23).ch c25).ch c26),((((((hzs.ch c11).ch c14).ch c17).ch c23).ch c25).ch c26),((((((hc.trans c11).trans c14).trans c17).trans c23).trans c25).trans c26)⟩ K
    ·rintro g18 w18 _ z18 _ ⟨tz,bT,rfl,rfl,htz,hys,hzs,hc⟩;refine qR [] 6 [] fun s27 g27 w27 c27=>?_;by_cases h3:CD p.d p.sy (Ad b) (Bk b)≠0
     ·refine qI (((CD p.d p.sy (Ad b) (Bk b)) != 0)) true (by simpa using h3) ?_;refine qR [] 6 [] fun s28 g28 w28 c28=>?_;refine qE (.tuple #[S3.v s30,iv (CD p.d p.sy (Ad b) (Bk b))]) fun K=>?_;rw[show p.promise b=(p,[],(CD p.d p.sy (Ad b) (Bk b)))from by unfold Nod.promise;rw[if_neg (by simpa using h10),if_neg h2,if_pos h3]];exact⟨s30,_,rfl,⟨Sv.nil _,fun h=>absurd rfl h⟩,(nsC hN hO ((hc.n c27).n c28) K),(((hc.nil (TN i)).n c27).n c28)⟩
     ·refine qI (((CD p.d p.sy (Ad b) (Bk b)) != 0)) false (by simpa using h3) ?_;refine qR [.n 0 i] 23 [4,0,1,3,0,1] fun s30 g30 w30 c30=>?_;refine qE (.tuple #[S3.v zs,iv 0]) fun K=>?_;rw[show p.promise b=({ p with d:=Fd p.d p.sy (Ad b) (Bk b),sy:=FS p.d p.sy (Ad b) (Bk b),vo:=⟨b,p.vo.vs⟩ },p.vo.vs,0)from by unfold Nod.promise;rw[if_neg (by simpa using h10),if_neg h2,if_neg h3]];have C31:=((hc.nil ([.n 0 i]:List Tg)).n c27).trans (c30);have Z31:Tg.z∉([.n 0 i]:List Tg):=by simp
      obtain⟨q1,q2,q3⟩:=K.isN 0 nb (.cells (AA i ob { p with d:=Fd p.d p.sy (Ad b) (Bk b),sy:=FS p.d p.sy (Ad b) (Bk b),vo:=⟨Fl p.vo b,p.vo.vs⟩ } { x with votes:=ys,tape:=tz }) 96) 0 i (by kernel_rfl);rw[e1]at q1
      obtain⟨q4,q5,q6⟩:=K.isN 1 ob (.cells #[S3.v lt,S3.v tl] 66) 50 0 (by kernel_rfl);exact⟨zs,_,rfl,((hzs.ch c27).ch c30),⟨{ x with votes:=ys,tape:=tz },lt,tl,⟨q1,q2,q3,((htz.ch c27).ch c30),((hys.ch c27).ch c30),Bi hN.heard C31 Z31,BF hN.pend C31 Z31 (by simp),hN.queue.ch C31,hN.agreed.ch C31,hN.wants.ch C31,hN.asked.ch C31,hN.upm⟩,⟨q4,q5,q6,Dt hO.lets C31 Z31 (by simp),hO.told.ch C31⟩,K.new⟩,(((hc.nil (TN i)).n c27).trans (c30.mono (by simp[TN])))⟩
def QI(l:List Vt)(v:Vt):Int:=if v∈l then((l.findIdx fun u=>decide (u=v)):Int)else -1
theorem Ws(l:List Vt)(v:Vt):decide (0≤QI l v)=decide (v∈l):=by
 unfold QI;by_cases hm:v∈l
 ·rw[if_pos hm,decide_eq_true hm];exact decide_eq_true (by omega)
 ·rw[if_neg hm,decide_eq_false hm];rfl
theorem Zh{l:List Vt}{v:Vt}{j:Nat}(h:l[j]?=some v)(hb:∀ i,i<j→l[i]?≠some v):QI l v=(j:Int):=by
 have hm:v∈l:=List.mem_of_getElem? h;obtain⟨hj,hv⟩:=List.getElem?_eq_some_iff.1 h;unfold QI;rw[if_pos hm]
 congr 1
 rw[List.findIdx_eq hj];exact⟨by simp[hv],fun i hi=>by have:=hb i hi;rw[List.getElem?_eq_getElem (by omega)]at this;simpa using this⟩
theorem QK{w:World}{x:S3}{l:List Vt}(h:Sv w x.v l)(hb:l.length<100000000)(v:Vt) :
  Calls prog 155 #[x.v,.agg #[iv v.slot,iv v.b.r,iv v.b.n,iv v.w.k,iv v.w.c,iv v.w.s,iv v.w.n,iv v.w.v]] w fun e w'=>e=.returned (iv (QI l v))∧Bw w w':=by
 have hn:x.n=l.length:=by obtain⟨a,cap,hh⟩:=h.shape;simp only[Value.slice.injEq]at hh;exact hh.2.1
 refine gI (fn:=f155) [] gh0 func155 (fun _ _=>⟨rfl,rfl⟩) ?_;refine qR [] 13 [0,0] fun s1 g1 w1 c1=>?_;refine BC 19 [(0,S3.v x),(3,pt (s1 0) 0),(7,iv (x.n:Int)),(8,iv 0)] [true] [⟨(s1 0),.cells #[iv v.slot,iv v.b.r,iv v.b.n,iv v.w.k,iv v.w.c,iv v.w.s,iv v.w.n,iv v.w.v] 139,.z,false⟩] (fun k g' w' e L=>∃ j:Nat,k=l.length-j∧j≤l.length∧e=[(0,S3.v x),(3,pt (s1 0) 0),(7,iv (x.n:Int)),(8,iv (j:Int))]∧L=[⟨(s1 0),.cells #[iv v.slot,iv v.b.r,iv v.b.n,iv v.w.k,iv v.w.c,iv v.w.s,iv v.w.n,iv v.w.v] 139,.z,false⟩]∧(∀ i,i<j→l[i]?≠some v)∧Cg w.heap.size [] gh0 w g' w') (by kernel_rfl) (by kernel_rfl) (by kernel_rfl) (by kernel_rfl) l.length (fun K=>?_) ?_
 ·exact⟨0,rfl,by omega,rfl,rfl,fun i hi=>absurd hi (by omega),c1⟩
 ·rintro k gr wr _ zr _ ⟨j,rfl,hj,rfl,rfl,hI,hC⟩ J hJ;refine qR [] 5 [] fun s2 g2 w2 c2=>?_;by_cases h1:j<l.length
  ·refine qI ((decide ((j:Int)<(x.n:Int)))) true (decide_eq_true (by omega)) ?_;obtain⟨vj,hvj⟩:∃ vj,l[j]?=some vj:=⟨_,List.getElem?_eq_getElem h1⟩;obtain⟨bx,ox,hxa,hbx,hcell⟩:=h.spot j vj hvj;refine qR [] 13 [6,0,0,2,4] fun s3 g3 w3 c3=>?_;refine qT 3 (pt bx (ox+8*j)) (fun _=>(bP hxa j (by omega))) ?_;have hW:=Cg.below (hC.trans (c2.trans c3)) (fun _ _=>List.not_mem_nil);refine qV 4 (.agg #[iv vj.slot,iv vj.b.r,iv vj.b.n,iv vj.w.k,iv vj.w.c,iv vj.w.s,iv vj.w.n,iv vj.w.v]) (fT vj fun i u hu=>(hW.cell (p:=⟨bx,ox+8*j+i,none⟩) hbx).trans (hcell i u hu)) ?_;refine qT 5 (.bool (decide (v=vj))) (fun _=>(fP (x:=(.tmp 11)) (y:=(.tmp 15)) v vj)) ?_;refine qR [] 1 [] fun s6 g6 w6 c6=>?_;by_cases h3:v=vj
   ·refine qI (decide (v=vj)) true (decide_eq_true h3) ?_;refine qR [] 5 [] fun s7 g7 w7 c7=>?_;exact qE (iv (j:Int)) fun K=>⟨by rw[Zh (by rw[h3];exact hvj) hI],Cg.below (hC.trans (((c2.trans c3).trans c6).trans c7)) (fun _ _=>List.not_mem_nil)⟩
   ·refine qI (decide (v=vj)) false (decide_eq_false h3) ?_;refine qR [] 3 [] fun s8 g8 w8 c8=>?_;refine qV 0 (iv ((j:Int)+1)) (AF (x:=(.tmp 8)) (y:=(.const (iv 1))) (j:Int) 1 underlying3 (by omega)) ?_;refine qR [] 2 [] fun s9 g9 w9 c9=>?_;refine qB [true] fun z K0 K=>hJ (l.length-(j+1)) _ _ _ z _ (by omega) ⟨j+1,rfl,by omega,rfl,rfl,fun i hi=>?_,hC.trans ((((c2.trans c3).trans c6).trans c8).trans c9)⟩ K;rcases Nat.lt_or_ge i j with h4|h4
    ·exact hI i h4
    ·rw[show i=j by omega,hvj];intro h5;exact h3 (by simpa using h5.symm)
  ·refine qI ((decide ((j:Int)<(x.n:Int)))) false (decide_eq_false (by omega)) ?_;refine qR [] 5 [] fun s10 g10 w10 c10=>?_;have hne:v∉l:=fun hm=>by obtain⟨i,hi⟩:=List.mem_iff_getElem?.1 hm;exact hI i (by have:=(List.getElem?_eq_some_iff.1 hi).1;omega) hi
   exact qE (iv (-1)) fun K=>⟨by unfold QI;rw[if_neg hne],Cg.below (hC.trans (c2.trans c10)) (fun _ _=>List.not_mem_nil)⟩
theorem LH{w:World}{x:S3}{l:List Vt}(h:Sv w x.v l)(hb:l.length<100000000)(v:Vt) :
  Calls prog 123 #[x.v,.agg #[iv v.slot,iv v.b.r,iv v.b.n,iv v.w.k,iv v.w.c,iv v.w.s,iv v.w.n,iv v.w.v]] w fun e w'=>e=.returned (.bool (decide (v∈l)))∧Bw w w':=by
 refine gI (fn:=f123) [] gh0 func123 (fun _ _=>⟨rfl,rfl⟩) ?_;refine qR [] 9 [0,0,0] fun s1 g1 w1 c1=>?_;have hB1:=Cg.below c1 (fun _ _=>List.not_mem_nil);refine qC 2 (QK (h.below hB1) hb v) ?_;rintro e' w2 ⟨rfl,b2⟩;refine⟨_,rfl,b2,?_⟩;have c2:=Cg.ofBelow (B:=w.heap.size) (T:=[]) (g:=g1) b2;refine qR [] 3 [] fun s3 g3 w3 c3=>?_;exact qE (.bool (decide (0≤QI l v))) fun K=>⟨by rw[Ws],Cg.below ((c1.trans c2).trans c3) (fun _ _=>List.not_mem_nil)⟩
theorem ME{g:Gh}{w:World}{i nb ob:Nat}{p:Nod}{ls:List Let}{ts:List Tol}(h:NS i nb ob g w p ls ts){w0:World}(hB:Base w0 g w)(hT:Tabs w0)(v:Vt)(hb:p.vo.vs.length<100000000) :
  Calls prog 87 #[pt nb 0,.agg #[iv v.slot,iv v.b.r,iv v.b.n,iv v.w.k,iv v.w.c,iv v.w.s,iv v.w.n,iv v.w.v]] w (NP i nb ob g w (iv (p.vote v).2) (p.vote v).1 ls ts):=by
 obtain⟨x,lt,tl,hN,hO,hg⟩:=h;refine gI (fn:=f87) (TN i) g func87 hg ?_;refine qN hN ?_;refine qO hO ?_;refine qR [] 13 [0,0,13,0,2,4,6,8,0,10,2] fun s1 g1 w1 c1=>?_;refine BN 52 (fun g' w' e L=>∃ (ys:S3) (bA:Nat),e=[(0,pt nb 0),(3,pt (s1 0) 0),(5,pt bA 0),(6,iv (AT p.vo v))]∧L=[⟨nb,.cells (AA i ob p x) 96,.n 0 i,false⟩,⟨ob,.cells #[S3.v lt,S3.v tl] 66,.n 50 0,false⟩,⟨(s1 0),.cells #[iv v.slot,iv v.b.r,iv v.b.n,iv v.w.k,iv v.w.c,iv v.w.s,iv v.w.n,iv v.w.v] 139,.z,false⟩,⟨bA,.cells #[iv (Ck p.vo v).r,iv (Ck p.vo v).n,S3.v ys] 77,.l,false⟩]∧FSv g' w' ys (Dg p.vo v)∧Cg w.heap.size [] g w g' w') (by kernel_rfl) ?_ ?_
 ·intro J hJ;refine CF 6 10 (by kernel_rfl) ?_ ?_
  ·refine Af fun Kq4=>?_;have hS4:=(hN.votes.ch c1).s;have hB4:=hB.ch c1;have hG4:∀ z,w1.heap.size≤z→g1.t z=.z:=fun z hz=>(Kq4.new z hz).1;refine qC 6 (BP p.vo.p _ p.vo.vs v w1 hS4 (hB4.tn hT)) ?_;rintro e' w5 ⟨y5,rfl,hy5,hl5,b5⟩;refine⟨_,rfl,b5,?_⟩;have c5:=Cg.ofBelow (B:=w.heap.size) (T:=[]) (g:=g1) b5;obtain⟨ys5,rfl,hyn5,hys5⟩:=Du hy5 hG4 (by omega);refine qR [] 7 [14,16,18,21,1,0,23,3,0,24] fun s6 g6 w6 c6=>?_;exact qB [true,true,true,true] fun z K0 K=>hJ _ _ _ z _ ⟨ys5,(s6 0),rfl,rfl,(hys5.ch c6),((c1.trans c5).trans c6)⟩ K
  ·refine qR [] 1 [1,0] fun s7 g7 w7 c7=>?_;refine Af fun Kq8=>?_;have hS8:=(hN.votes.ch (c1.trans c7)).s;have hB8:=hB.ch (c1.trans c7);have hG8:∀ z,w7.heap.size≤z→g7.t z=.z:=fun z hz=>(Kq8.new z hz).1;refine qC 6 (BP p.vo.p _ p.vo.vs v w7 hS8 (hB8.tn hT)) ?_;rintro e' w9 ⟨y9,rfl,hy9,hl9,b9⟩;refine⟨_,rfl,b9,?_⟩;have c9:=Cg.ofBelow (B:=w.heap.size) (T:=[]) (g:=g7) b9;obtain⟨ys9,rfl,hyn9,hys9⟩:=Du hy9 hG8 (by omega);refine qR [] 6 [14,16,18,23,3,0,24] fun s10 g10 w10 c10=>?_;exact qB [true,true,true,true] fun z K0 K=>hJ _ _ _ z _ ⟨ys9,(s7 0),rfl,rfl,(hys9.ch c10),(((c1.trans c7).trans c9).trans c10)⟩ K
 ·rintro g2 w2 _ z2 _ ⟨ys,bA,rfl,rfl,hys,hc⟩;refine qR [] 6 [] fun s11 g11 w11 c11=>?_;by_cases h1:AT p.vo v≠0
  ·refine qI (((AT p.vo v) != 0)) true (by simpa using h1) ?_;refine qR [] 5 [] fun s12 g12 w12 c12=>?_;refine qE (iv (AT p.vo v)) fun K=>?_;rw[show p.vote v=(p,(AT p.vo v))from if_pos h1];exact⟨_,rfl,(nsC hN hO ((hc.n c11).n c12) K),(((hc.nil (TN i)).n c11).n c12)⟩
  ·refine qI (((AT p.vo v) != 0)) false (by simpa using h1) ?_;have h10:AT p.vo v=0:=by simpa using h1
   obtain⟨e1,e2⟩:=Lx h10;rw[e2]at hys
   refine qR [] 11 [9,0,2,4,6,8,10,0,12,2] fun s14 g14 w14 c14=>?_;have hS1:=(hN.votes.ch ((hc.trans c11).trans c14) (by simp)).s;refine qC 7 (LH hS1 hb v) ?_;rintro e' w15 ⟨rfl,b15⟩;refine⟨_,rfl,b15,?_⟩;have c15:=Cg.ofBelow (B:=w.heap.size) (T:=[]) (g:=g14) b15;refine qR [] 2 [16] fun s16 g16 w16 c16=>?_;by_cases h2:v∈p.vo.vs
   ·refine qI ((!(decide (v∈p.vo.vs)))) false (by simpa using h2) ?_;refine qR [.n 0 i] 14 [3,0,1] fun s17 g17 w17 c17=>?_;refine qE (iv 0) fun K=>?_;rw[show p.vote v=({ p with vo:=⟨v.b,Bf p.vo.vs v⟩ },0)from by unfold Nod.vote;rw[if_neg (by simpa using h10),if_pos h2]];have C18:=(((((hc.nil ([.n 0 i]:List Tg)).n c11).n c14).n c15).n c16).trans (c17);have Z18:Tg.z∉([.n 0 i]:List Tg):=by simp
    obtain⟨q1,q2,q3⟩:=K.isN 0 nb (.cells (AA i ob { p with vo:=⟨Ck p.vo v,Bf p.vo.vs v⟩ } { x with votes:=ys }) 96) 0 i (by kernel_rfl);rw[e1]at q1
    obtain⟨q4,q5,q6⟩:=K.isN 1 ob (.cells #[S3.v lt,S3.v tl] 66) 50 0 (by kernel_rfl);exact⟨_,rfl,⟨{ x with votes:=ys },lt,tl,⟨q1,q2,q3,hN.tape.ch C18 Z18,(((((hys.ch c11).ch c14).ch c15).ch c16).ch c17),Bi hN.heard C18 Z18,BF hN.pend C18 Z18 (by simp),hN.queue.ch C18,hN.agreed.ch C18,hN.wants.ch C18,hN.asked.ch C18,hN.upm⟩,⟨q4,q5,q6,Dt hO.lets C18 Z18 (by simp),hO.told.ch C18⟩,K.new⟩,((((((hc.nil (TN i)).n c11).n c14).n c15).n c16).trans (c17.mono (by simp[TN])))⟩
   ·refine qI ((!(decide (v∈p.vo.vs)))) true (by simpa using h2) ?_;refine qR [] 7 [12,0,2,4,6,0,8,2] fun s19 g19 w19 c19=>?_;refine BN 52 (fun g' w' e L=>∃ (tz:S3) (bT:Nat),e=[(0,pt nb 0),(5,pt bA 0),(7,pt bT 0),(8,iv (CD p.d p.sy (Aj v) (Ba v)))]∧L=[⟨nb,.cells (AA i ob p x) 96,.n 0 i,false⟩,⟨ob,.cells #[S3.v lt,S3.v tl] 66,.n 50 0,false⟩,⟨(s1 0),.cells #[iv v.slot,iv v.b.r,iv v.b.n,iv v.w.k,iv v.w.c,iv v.w.s,iv v.w.n,iv v.w.v] 139,.z,false⟩,⟨bA,.cells #[iv (Ck p.vo v).r,iv (Ck p.vo v).n,S3.v ys] 77,.l,false⟩,⟨bT,.cells #[S3.v tz,iv (FS p.d p.sy (Aj v) (Ba v))] 94,.l,false⟩]∧FSl g' w' tz (Fd p.d p.sy (Aj v) (Ba v))∧FSv g' w' ys (Bf p.vo.vs v)∧Cg w.heap.size [] g w g' w') (by kernel_rfl) ?_ ?_
    ·intro J hJ;refine CF 5 9 (by kernel_rfl) ?_ ?_
     ·refine Af fun Kq22=>?_;have hS22:=(hN.tape.ch (((((hc.trans c11).trans c14).trans c15).trans c16).trans c19) (by simp)).s;have hB22:=hB.ch (((((hc.trans c11).trans c14).trans c15).trans c16).trans c19) (by simp);have hG22:∀ z,w19.heap.size≤z→g19.t z=.z:=fun z hz=>(Kq22.new z hz).1;refine qC 5 (PI (s:=p.sy) (v:=v) hS22 (hB22.tt hT) (hB22.tn hT)) ?_;rintro e' w23 ⟨ts23,rfl,hy23,hn23,b23⟩;refine⟨_,rfl,b23,?_⟩;have c23:=Cg.ofBelow (B:=w.heap.size) (T:=[]) (g:=g19) b23;have hts23:FSl _ _ ts23 _:=⟨hy23,fun hl a ha=>hG22 _ (hn23 hl a ha)⟩;refine qR [] 7 [12,14,16,19,1,0,21,4,0,22] fun s24 g24 w24 c24=>?_;exact qB [true,true,true,true,true] fun z K0 K=>hJ _ _ _ z _ ⟨ts23,(s24 0),rfl,rfl,(hts23.ch c24),(((((((hys.ch c11).ch c14).ch c15).ch c16).ch c19).ch c23).ch c24),(((((((hc.trans c11).trans c14).trans c15).trans c16).trans c19).trans c23).trans c24)⟩ K
     ·refine qR [] 1 [1,0] fun s25 g25 w25 c25=>?_;refine Af fun Kq26=>?_;have hS26:=(hN.tape.ch ((((((hc.trans c11).trans c14).trans c15).trans c16).trans c19).trans c25) (by simp)).s;have hB26:=hB.ch ((((((hc.trans c11).trans c14).trans c15).trans c16).trans c19).trans c25) (by simp);have hG26:∀ z,w25.heap.size≤z→g25.t z=.z:=fun z hz=>(Kq26.new z hz).1;refine qC 5 (PI (s:=p.sy) (v:=v) hS26 (hB26.tt hT) (hB26.tn hT)) ?_;rintro e' w27 ⟨ts27,rfl,hy27,hn27,b27⟩;refine⟨_,rfl,b27,?_⟩;have c27:=Cg.ofBelow (B:=w.heap.size) (T:=[]) (g:=g25) b27;have hts27:FSl _ _ ts27 _:=⟨hy27,fun hl a ha=>hG26 _ (hn27 hl a ha)⟩;refine qR [] 6 [12,14,16,21,4,0,22] fun s28 g28 w28 c28=>?_;exact qB [true,true,true,true,true] fun z K0 K=>hJ _ _ _ z _ ⟨ts27,(s25 0),rfl,rfl,(hts27.ch c28),((((((((hys.ch c11).ch c14).ch c15).ch c16).ch c19).ch c25).ch c27).ch c28),((((((((hc.trans c11).trans c14).trans c15).trans c16).trans c19).trans c25).trans c27).trans c28)⟩ K
    ·rintro g20 w20 _ z20 _ ⟨tz,bT,rfl,rfl,htz,hys,hc⟩;refine qR [] 6 [] fun s29 g29 w29 c29=>?_;by_cases h3:CD p.d p.sy (Aj v) (Ba v)≠0
     ·refine qI (((CD p.d p.sy (Aj v) (Ba v)) != 0)) true (by simpa using h3) ?_;refine qR [] 5 [] fun s30 g30 w30 c30=>?_;refine qE (iv (CD p.d p.sy (Aj v) (Ba v))) fun K=>?_;rw[show p.vote v=(p,(CD p.d p.sy (Aj v) (Ba v)))from by unfold Nod.vote;rw[if_neg (by simpa using h10),if_neg h2,if_pos h3]];exact⟨_,rfl,(nsC hN hO ((hc.n c29).n c30) K),(((hc.nil (TN i)).n c29).n c30)⟩
     ·refine qI (((CD p.d p.sy (Aj v) (Ba v)) != 0)) false (by simpa using h3) ?_;refine qR [.n 0 i] 21 [4,0,1,3,0,1] fun s32 g32 w32 c32=>?_;refine qE (iv 0) fun K=>?_;rw[show p.vote v=({ p with d:=Fd p.d p.sy (Aj v) (Ba v),sy:=FS p.d p.sy (Aj v) (Ba v),vo:=⟨v.b,Bf p.vo.vs v⟩ },0)from by unfold Nod.vote;rw[if_neg (by simpa using h10),if_neg h2,if_neg h3]];have C33:=((hc.nil ([.n 0 i]:List Tg)).n c29).trans (c32);have Z33:Tg.z∉([.n 0 i]:List Tg):=by simp
      obtain⟨q1,q2,q3⟩:=K.isN 0 nb (.cells (AA i ob { p with d:=Fd p.d p.sy (Aj v) (Ba v),sy:=FS p.d p.sy (Aj v) (Ba v),vo:=⟨Ck p.vo v,Bf p.vo.vs v⟩ } { x with votes:=ys,tape:=tz }) 96) 0 i (by kernel_rfl);rw[e1]at q1
      obtain⟨q4,q5,q6⟩:=K.isN 1 ob (.cells #[S3.v lt,S3.v tl] 66) 50 0 (by kernel_rfl);exact⟨_,rfl,⟨{ x with votes:=ys,tape:=tz },lt,tl,⟨q1,q2,q3,((htz.ch c29).ch c32),((hys.ch c29).ch c32),Bi hN.heard C33 Z33,BF hN.pend C33 Z33 (by simp),hN.queue.ch C33,hN.agreed.ch C33,hN.wants.ch C33,hN.asked.ch C33,hN.upm⟩,⟨q4,q5,q6,Dt hO.lets C33 Z33 (by simp),hO.told.ch C33⟩,K.new⟩,(((hc.nil (TN i)).n c29).trans (c32.mono (by simp[TN])))⟩
theorem KS{p:Nod}{b:Bal}(h:(p.promise b).2.2≠0):(p.promise b).1=p:=by
 unfold Nod.promise at h ⊢;split
 ·rfl
 ·rename_i h1
  rw[if_neg h1]at h
  split
  ·rename_i h2;rw[if_pos h2]at h;exact absurd rfl h
  ·rename_i h2
   rw[if_neg h2]at h
   split
   ·rfl
   ·rename_i h3;rw[if_neg h3]at h;exact absurd rfl h
theorem SY{p:Nod}{v:Vt}(h:(p.vote v).2≠0):(p.vote v).1=p:=by
 unfold Nod.vote at h ⊢;split
 ·rfl
 ·rename_i h1
  rw[if_neg h1]at h
  split
  ·rename_i h2;rw[if_pos h2]at h;exact absurd rfl h
  ·rename_i h2
   rw[if_neg h2]at h
   split
   ·rfl
   ·rename_i h3;rw[if_neg h3]at h;exact absurd rfl h
theorem Hz(p:Nod)(b:Bal):(p.promise b).1.pend=p.pend:=by
 unfold Nod.promise
 repeat' split
 all_goals rfl
theorem Na(p:Nod)(v:Vt):(p.vote v).1.pend=p.pend:=by
 unfold Nod.vote
 repeat' split
 all_goals rfl
theorem Ii{g:Gh}{w:World}{i nb ob:Nat}{p:Nod}{ls:List Let}{ts:List Tol}(h:NS i nb ob g w p ls ts){w0:World}(hB:Base w0 g w)(hT:Tabs w0)(lb:Nat)(l:Let)(hl:Cj g w lb l)(hk:l.kind=0)(hb:p.pend.length<100000000) :
  Calls prog 43 #[pt nb 0,pt lb 0] w (NP i nb ob g w (.tuple #[]) (p.take l) ls ts):=by
 obtain⟨x,lt,tl,hN,hO,hg⟩:=h;refine gI (fn:=f43) (TN i) g func43 hg ?_;refine qN hN ?_;refine qO hO ?_;have hLL:=hl;obtain⟨vs,wh,hl1,hl2,hl3⟩:=hl;refine BM ⟨lb,.cells (EG l vs wh) 141,.z,false⟩ (fun _=>⟨hl1.r,hl1.z,fun h=>(by cases h),fun h=>absurd rfl h⟩) (by kernel_rfl) ?_;refine qR [] 12 [0,0,0,0,5,0,3,2,4,4,6,8,2] fun s1 g1 w1 c1=>?_;refine BN 27 (fun g' w' e L=>∃ (yv:S3) (b4:Nat),e=[(2,pt (s1 0) 0),(3,pt (s1 1) 0),(4,pt b4 0),(5,iv (p.promise l.bal).2.2)]∧L=[⟨lb,.cells (EG l vs wh) 141,.z,false⟩,⟨(s1 0),.cells #[pt nb 0] 69,.z,false⟩,⟨(s1 1),.cells #[pt lb 0] 142,.z,false⟩,⟨b4,.cells #[S3.v yv] 75,.l,false⟩]∧FSv g' w' yv (p.promise l.bal).2.1∧NS i nb ob g' w' (p.promise l.bal).1 ls ts∧Cg w.heap.size (TN i) g w g' w') (by kernel_rfl) ?_ ?_
 ·intro J hJ;refine CF 5 9 (by kernel_rfl) ?_ ?_
  ·refine Af fun K=>?_;have N4:NS i nb ob g1 w1 p ls ts:=(nsC hN hO c1 K);refine qG 5 (TN i) [false,false,true,true,true] (EL N4 (hB.ch (c1.nil (TN i)) (Be i)) hT l.bal) ?_;rintro e' w4 ⟨y4,g4,rfl,hy4,M4,c4⟩;refine⟨_,g4,rfl,c4,M4.new,?_⟩;replace c4:=c4.ret (B:=w.heap.size);refine qR [] 7 [12,14,16,19,1,0,21,3,0,22] fun s6 g6 w6 c6=>?_;exact qB [true,true,true,true] fun z K0 K=>hJ _ _ _ z _ ⟨y4,(s6 0),rfl,rfl,(hy4.ch c6),NS.ch0 M4 c6 K0.new,(((c1.nil (TN i)).trans (c4)).n c6)⟩ K
  ·refine qR [] 1 [1,0] fun s7 g7 w7 c7=>?_;refine Af fun K=>?_;have N8:NS i nb ob g7 w7 p ls ts:=(nsC hN hO (c1.n c7) K);refine qG 5 (TN i) [false,false,true,true,true,true] (EL N8 (hB.ch ((c1.nil (TN i)).n c7) (Be i)) hT l.bal) ?_;rintro e' w8 ⟨y8,g8,rfl,hy8,M8,c8⟩;refine⟨_,g8,rfl,c8,M8.new,?_⟩;replace c8:=c8.ret (B:=w.heap.size);refine qR [] 6 [12,14,16,21,3,0,22] fun s10 g10 w10 c10=>?_;exact qB [true,true,true,true] fun z K0 K=>hJ _ _ _ z _ ⟨y8,(s7 0),rfl,rfl,(hy8.ch c10),NS.ch0 M8 c10 K0.new,((((c1.nil (TN i)).n c7).trans (c8)).n c10)⟩ K
 ·rintro g2 w2 _ z2 _ ⟨yv,b4,rfl,rfl,hyv,hM,hc⟩;obtain⟨x1,lt1,tl1,hN1,hO1,hg1⟩:=hM;refine qN hN1 ?_;refine qO hO1 ?_;refine fA 3 b4 (by kernel_rfl) fun g11 c11=>?_;refine qR [] 6 [] fun s12 g12 w12 c12=>?_;by_cases h1:(p.promise l.bal).2.2≠0
  ·refine qI (((p.promise l.bal).2.2 != 0)) true (by simpa using h1) ?_;refine qR [] 8 [6,0,1,2,2,4,6,8,0,10] fun s13 g13 w13 c13=>?_;have hp:=KS h1;rw[show p.take l=p.refuse l.src (p.promise l.bal).2.2 from by unfold Nod.take;rw[hk];exact if_pos h1];refine Af fun K=>?_;have N14:NS i nb ob g13 w13 ((p.promise l.bal).1) ls ts:=(nsC hN1 hO1 ((c11.n c12).n c13) K);rw[hp]at N14
   refine qS0 6 [true,true,true,true,false,false] (La N14 hb l.src (p.promise l.bal).2.2) fun g14 w14 x14 lt14 tl14 hN14 hO14 c14=>?_;refine qR [] 1 [] fun s16 g16 w16 c16=>?_;exact qF hN14 hO14 c16 ((((((hc).n c11).n c12).n c13).trans (c14)).n c16)
  ·refine qI (((p.promise l.bal).2.2 != 0)) false (by simpa using h1) ?_;refine qR [] 4 [1] fun s18 g18 w18 c18=>?_;rw[show p.take l=(p.promise l.bal).1.wait (.prom l.src l.bal (p.promise l.bal).2.1)from by unfold Nod.take;rw[hk];exact if_neg h1];refine Af fun K=>?_;obtain⟨z1,z2⟩:=K.isZ 1 (s1 0) (.cells #[pt nb 0] 69) false (by kernel_rfl);obtain⟨z3,z4⟩:=K.isZ 2 (s1 1) (.cells #[pt lb 0] 142) false (by kernel_rfl);obtain⟨z5,z6⟩:=K.isZ 3 b4 (.cells #[S3.v yv] 75) false (by kernel_rfl);have N19:NS i nb ob g18 w18 ((p.promise l.bal).1) ls ts:=(nsC hN1 hO1 ((c11.n c12).n c18) K);refine qS0 2 [true,true,true,true,false,false] (AJ N19 (by rw[Hz];exact hb) _ _ (.prom l.src l.bal (p.promise l.bal).2.1) ⟨(s1 0),(s1 1),b4,yv,lb,l,rfl,⟨z1,z2⟩,⟨z3,z4⟩,⟨z5,z6⟩,(((hyv.ch c11).ch c12).ch c18),hLL.ch ((((hc).n c11).n c12).n c18) (Be i),rfl,rfl⟩) fun g19 w19 x19 lt19 tl19 hN19 hO19 c19=>?_;refine qR [] 1 [] fun s21 g21 w21 c21=>?_;exact qF hN19 hO19 c21 ((((((hc).n c11).n c12).n c18).trans (c19)).n c21)
theorem IK{g:Gh}{w:World}{i nb ob:Nat}{p:Nod}{ls:List Let}{ts:List Tol}(h:NS i nb ob g w p ls ts){w0:World}(hB:Base w0 g w)(hT:Tabs w0)(lb:Nat)(l:Let)(hl:Cj g w lb l)(hk:l.kind=3)(hb:p.pend.length<100000000)(hb2:p.vo.vs.length<100000000) :
  Calls prog 46 #[pt nb 0,pt lb 0] w (NP i nb ob g w (.tuple #[]) (p.take l) ls ts):=by
 obtain⟨x,lt,tl,hN,hO,hg⟩:=h;refine gI (fn:=f46) (TN i) g func46 hg ?_;refine qN hN ?_;refine qO hO ?_;have hLL:=hl;obtain⟨vs,wh,hl1,hl2,hl3⟩:=hl;refine BM ⟨lb,.cells (EG l vs wh) 141,.z,false⟩ (fun _=>⟨hl1.r,hl1.z,fun h=>(by cases h),fun h=>absurd rfl h⟩) (by kernel_rfl) ?_;refine qR [] 13 [0,0,0,0,5,0,3,2,4,4,6,8,2] fun s1 g1 w1 c1=>?_;refine qS 5 [false,false,true,true,true] hN hO c1 (fun N2=>ME N2 (hB.ch (c1.nil (TN i)) (Be i)) hT l.vote hb2) fun g2 w2 x2 lt2 tl2 hN2 hO2 c2=>?_;refine qR [] 7 [12] fun s4 g4 w4 c4=>?_;by_cases h1:(p.vote l.vote).2≠0
 ·refine qI (((p.vote l.vote).2 != 0)) true (by simpa using h1) ?_;refine qR [] 8 [6,0,1,2,2,4,6,8,0,10] fun s5 g5 w5 c5=>?_;have hp:=SY h1;rw[show p.take l=p.refuse l.src (p.vote l.vote).2 from by unfold Nod.take;rw[hk];exact if_pos h1];refine Af fun K=>?_;have N6:NS i nb ob g5 w5 ((p.vote l.vote).1) ls ts:=(nsC hN2 hO2 (c4.n c5) K);rw[hp]at N6
  refine qS0 6 [true,true,true,false,false] (La N6 hb l.src (p.vote l.vote).2) fun g6 w6 x6 lt6 tl6 hN6 hO6 c6=>?_;refine qR [] 1 [] fun s8 g8 w8 c8=>?_;exact qF hN6 hO6 c8 ((((((c1.nil (TN i)).trans (c2)).n c4).n c5).trans (c6)).n c8)
 ·refine qI (((p.vote l.vote).2 != 0)) false (by simpa using h1) ?_;refine qR [] 4 [1] fun s10 g10 w10 c10=>?_;rw[show p.take l=(p.vote l.vote).1.wait (.voted l.src l.vote)from by unfold Nod.take;rw[hk];exact if_neg h1];refine Af fun K=>?_;obtain⟨z1,z2⟩:=K.isZ 1 (s1 0) (.cells #[pt nb 0] 69) false (by kernel_rfl);obtain⟨z3,z4⟩:=K.isZ 2 (s1 1) (.cells #[pt lb 0] 142) false (by kernel_rfl);have N11:NS i nb ob g10 w10 ((p.vote l.vote).1) ls ts:=(nsC hN2 hO2 (c4.n c10) K);refine qS0 2 [true,true,true,false,false] (AJ N11 (by rw[Na];exact hb) _ _ (.voted l.src l.vote) ⟨(s1 0),(s1 1),lb,l,rfl,⟨z1,z2⟩,⟨z3,z4⟩,hLL.ch ((((c1.nil (TN i)).trans (c2)).n c4).n c10) (Be i),rfl,rfl⟩) fun g11 w11 x11 lt11 tl11 hN11 hO11 c11=>?_;refine qR [] 1 [] fun s13 g13 w13 c13=>?_;exact qF hN11 hO11 c13 ((((((c1.nil (TN i)).trans (c2)).n c4).n c10).trans (c11)).n c13)
theorem NW{g:Gh}{w:World}{i nb ob:Nat}{p:Nod}{ls:List Let}{ts:List Tol}(h:NS i nb ob g w p ls ts)(lb:Nat)(l:Let)(hl:Cj g w lb l)(hk:l.kind=5)(hb:p.pend.length<100000000)(hb2:p.agreed.length<100000000)(hb3:l.what.length<100000000) :
  Calls prog 48 #[pt nb 0,pt lb 0] w (NP i nb ob g w (.tuple #[]) (p.take l) ls ts):=by
 obtain⟨x,lt,tl,hN,hO,hg⟩:=h;refine gI (fn:=f48) (TN i) g func48 hg ?_;refine qN hN ?_;refine qO hO ?_;have hLL:=hl;have hn:=hN.agreed.num;obtain⟨vs,wh,hl1,hl2,hl3⟩:=hl;refine BM ⟨lb,.cells (EG l vs wh) 141,.z,false⟩ (fun _=>⟨hl1.r,hl1.z,fun h=>(by cases h),fun h=>absurd rfl h⟩) (by kernel_rfl) ?_;refine qR [] 20 [0,0,0,0,11,0,4,2,4,6,2,8,3,10,12,14,16,0,18,20] fun s1 g1 w1 c1=>?_;by_cases h1:p.agreed.length<l.slot
 ·refine qI ((decide ((x.agreed.n:Int)<(l.slot:Int)))) true (decide_eq_true (by omega)) ?_;refine qR [] 4 [3] fun s2 g2 w2 c2=>?_;rw[show p.take l=p.wait (.askNews l.src)from by unfold Nod.take;rw[hk];exact if_pos h1];refine Af fun K=>?_;obtain⟨z1,z2⟩:=K.isZ 3 (s1 0) (.cells #[pt nb 0] 69) false (by kernel_rfl);obtain⟨z3,z4⟩:=K.isZ 4 (s1 1) (.cells #[pt lb 0] 142) false (by kernel_rfl);have N3:NS i nb ob g2 w2 p ls ts:=(nsC hN hO (c1.n c2) K);refine qS0 2 [false,false,true,true,true] (AJ N3 hb _ _ (.askNews l.src) ⟨(s1 0),(s1 1),lb,l,rfl,⟨z1,z2⟩,⟨z3,z4⟩,hLL.ch ((c1.nil (TN i)).n c2) (Be i),rfl⟩) fun g3 w3 x3 lt3 tl3 hN3 hO3 c3=>?_;refine qR [] 1 [] fun s5 g5 w5 c5=>?_;exact qF hN3 hO3 c5 ((((c1.nil (TN i)).n c2).trans (c3)).n c5)
 ·refine qI ((decide ((x.agreed.n:Int)<(l.slot:Int)))) false (decide_eq_false (by omega)) ?_;refine qR [] 11 [9,0,3,2,4,4,6,8,2,10,4,12,14,16,2] fun s7 g7 w7 c7=>?_;rw[show p.take l=p.learn l.slot l.what from by unfold Nod.take;rw[hk];exact if_neg h1];refine qS 9 [false,false,true,true,true] hN hO (c1.n c7) (fun N8=>M2 N8 l.slot l.what wh (hl3.ch ((c1.nil (TN i)).n c7) (Be i)) (by omega) hb2 hb3) fun g8 w8 x8 lt8 tl8 hN8 hO8 c8=>?_;refine qR [] 1 [] fun s10 g10 w10 c10=>?_;exact qF hN8 hO8 c10 ((((c1.nil (TN i)).n c7).trans (c8)).n c10)
end Go.Proofs.YtfhbkoflaekhpadGreatDoor
