/- Part 16 of the walk. -/
import Derived.Test.YtalbmmghmoggcabGreatDoorZ15
set_option maxRecDepth 100000
set_option maxHeartbeats 4000000
open Go.Proofs.Tryz
set_option linter.unusedVariables false
namespace Go.Proofs.YtalbmmghmoggcabGreatDoor
open Go.RowKit
section
def H8(l:List Int)(j:Nat):List Int:=(l.take j).flatMap Ag
theorem S1(l:List Int)(j:Nat)(h:j<l.length):H8 l (j+1)=H8 l j++Ag (l.getD j 0):=by
 unfold H8;rw[fJ h,List.flatMap_append,AL h];simp
theorem ND(l:List Int)(j:Nat):(H8 l j).length<=4*j:=by
 unfold H8;induction l generalizing j with
 | nil=>simp
 | cons x l ih =>
  cases j with
  | zero=>simp
  | succ j =>
   have:=ih j;rw[gl,hY,N',BQ];omega
theorem Sz(k c s n v:Int):H8 [k,c,s,n,v] 5=H7 k c s n v:=rfl
def S2(k c s n v:Int):List Int:=if AU k c s n v=0 then H7 k c s n v else[]
variable{B base e i nb ob:Nat}{E c k n s:Int}{b:Bal}{d:List Int}{g:Gh}{l:List Vt}{ls:List Let}{p:Nod}{ts:List Tol}{v:Vt}{w w' w0:World}{x:S3}{xs:List Value}{y:Value}
theorem Rk{v:Int}(h:AU k c s n v=0):S2 k c s n v=H7 k c s n v:=if_pos h
theorem XA{v:Int}(h:¬ AU k c s n v=0):S2 k c s n v=[]:=if_neg h
def Mf:Array Value:=(List.replicate 20 (Value.int .u8 0)).toArray
theorem aW(w:World):(Instr.makeSlice 25 (.int .i64 0) (.int .i64 20)).run prog w=.ok (.slice (some ⟨w.heap.size,0,none⟩) 0 20) (w.alloc (.cells Mf 5)):=by
 obtain⟨i,hi,hz,hsz,hby⟩:=info_parts As;rw[run_makeSlice (P:=prog) w 25 5 i (.int .u8 0) underlying25 hi hz .i64 .i64 0 20 (by omega) (by omega) (by rw[hsz];decide) (by rw[hby];decide) (by omega),hsz];have e:madeCells (Value.int .u8 0).cells ((20:Int).toNat*1)=Mf:=by kernel_rfl
 rw[e];rfl
theorem Bc.num{g:Nat}{v:Int}(h:Bc w g k c s n v)(j:Nat)(hj:j<5):w.cell? ⟨g,j,none⟩=some (.int .i64 ([k,c,s,n,v].getD j 0)):=by
 obtain⟨c0,c1,c2,c3,c4⟩:=DZ h.row;rcases(by omega:j=0\/j=1\/j=2\/j=3\/j=4)with rfl|rfl|rfl|rfl|rfl
 .exact c0
 .exact c1
 .exact c2
 .exact c3
 .exact c4
theorem Qu{v:Value}{n:Nat}(h:w.ownsRow base e 1 v n xs)(hk:∀ k,v.ownBlock=some k->w'.heap[k]?=w.heap[k]?):w'.ownsRow base e 1 v n xs:=by
 refine⟨h.1,?_⟩;rcases h.2 with h2|⟨g,cap,cur,hv,hb,hg,hr⟩
 .exact .inl h2
 .exact .inr ⟨g,cap,cur,hv,hb,(hk g (by rw[hv];rfl)).trans hg,hr⟩
theorem IC{v:Value}{n:Nat}(h:w.ownsRow base e 1 v n xs)(hb:Bw w w'):w'.ownsRow base e 1 v n xs :=
 Qu h λk hk=>hb.block k (h.lt k hk).2
theorem PB(k c s n v:Int)(w:World)(ht:NTab w) :
  Calls prog 35 #[.agg (cmA k c s n v)] w λe w'=>∃ v',e=.returned (.tuple #[v',.int .i64 (AU k c s n v)])/\w'.ownsRow w.heap.size 5 1 v' (S2 k c s n v).length ((S2 k c s n v).map (Value.int .u8))/\Bw w w':=by
 have bb:Bw w (w.alloc (.cells (cmA k c s n v) 53)):=(Below.refl _ _).alloc (A' _) _;have bc:=Bc.made w k c s n v;have hT:=ht.below bb;have hi:=F6 k c s n v;generalize hW:w.alloc (.cells (cmA k c s n v) 53)=W at bb bc hT;clear ht;go_enter func35,ntmps35
 go_wp2_with (refine wpList_load_row rfl 53 _ rfl w.heap.size rfl 53 _ (0,0) _ bc.row underlying53 rfl hi ?_)
 clear hW;refine(Dt k c s n v W hT).mono ?_;rintro e w1 ⟨rfl,b1⟩;have d1:Bw w w1:=bb.trans (b1.mono bb.size);replace bc:=bc.below b1;clear b1 bb hT;by_cases h1:AU k c s n v=0
 .have HE:Hid (S2 k c s n v=H8 [k,c,s,n,v] 5):=(Rk h1).trans (Sz k c s n v).symm;have hz:=F5 h1;have HS:Hid (∀ j,j<5->0<=[k,c,s,n,v].getD j 0/\[k,c,s,n,v].getD j 0<2147483648):=by
   unfold Hid;obtain⟨hk,hc⟩:=hz;unfold InC at hc;intro j hj;rcases(by omega:j=0\/j=1\/j=2\/j=3\/j=4)with rfl|rfl|rfl|rfl|rfl
   .show 0<=k/\k<2147483648;omega
   .show 0<=c/\c<2147483648;omega
   .show 0<=s/\s<2147483648;omega
   .show 0<=n/\n<2147483648;omega
   .show 0<=v/\v<2147483648;omega
  have HL:Hid ([k,c,s,n,v].length=5):=rfl;have HZ:Hid (AU k c s n v=0):=h1;rw[h1];clear hz h1;have hmk:=aW w1;have b2:Below w1.heap.size w1 (w1.alloc (.cells Mf 5)):=(Below.refl _ _).alloc (A' _) _;have ho0:(w1.alloc (.cells Mf 5)).ownsRow w1.heap.size 5 1 (.slice (some ⟨w1.heap.size,0,none⟩) 0 20) ([]:List Int).length (([]:List Int).map (Value.int .u8)) :=
   ⟨rfl,.inr ⟨w1.heap.size,20,Mf,rfl,A' _,heap_alloc_new _ _,by decide,by simp[maxLen],rfl,rfl⟩⟩
  have HO0:Hid _:=ho0;clear ho0;generalize w1.alloc (.cells Mf 5)=W2 at hmk b2 HO0;go_wp2_with fail
  refine(FS w.heap.size W2).mono ?_;rintro e w3 ⟨rfl,b3⟩;have HO3:Hid (w3.ownsRow w1.heap.size 5 1 (.slice (some ⟨w1.heap.size,0,none⟩) 0 20) ([]:List Int).length (([]:List Int).map (Value.int .u8))):=IC HO0.out b3;have d3:Below w1.heap.size w1 w3:=b2.trans (b3.mono b2.size);have z3:=d3.size;clear HO0 b2 b3 hmk;have hlt:=bc.lt;have hN:∀ wr,Below w1.heap.size w1 wr->∀ j,j<5->wr.cell? ⟨w.heap.size,j,none⟩=some (.int .i64 ([k,c,s,n,v].getD j 0)):=λwr hb j hj=>(bc.below hb).num j hj;have HN:Hid _:=hN;clear bc hN;generalize [k,c,s,n,v]=L at HE HS HN HL;have hBz:w1.heap.size<=w1.heap.size:=A' _;have hwB:w.heap.size<=w1.heap.size:=d1.size;generalize hB:w1.heap.size=B at d3 z3 HO3 HN hlt hwB;replace hBz:B<=w1.heap.size:=by omega
  clear hB;have hix:=O3 w.heap.size;go_wp2_with fail
  go_loopw [5,15] (λv iv wr=>∃ j:Nat,j<=5/\iv=.int .i64 (j:Int)/\wr.ownsRow B 5 1 v (H8 L j).length ((H8 L j).map (Value.int .u8))/\Below B w1 wr) (λ_ iv _=>(5-intOf iv).toNat)
  case atStart=>exact⟨0,by omega,rfl,HO3.out,d3⟩
  case round =>
   obtain⟨j,hj,rfl,hown,hbel⟩:=hrel;by_cases hj5:j<5
   .have hji:(j:Int)<5:=by omega
    have hij:=hix j hj5;have hcj:=HN.out _ hbel j hj5;have hsj:=HS.out j hj5;have HK:Hid (H8 L (j+1)=H8 L j++Ag (L.getD j 0)):=S1 L j (by rw[HL.out];omega);have HQ:=ND L j;have HO:Hid _:=hown;have hz:B<=wr.heap.size:=fy hBz hbel.size;clear hown hix HO3;generalize L.getD j 0=X at hcj hsj HK;go_wp2_with fail
    refine(FV _ _ X B wr HO.out hz (by omega) hsj.1 hsj.2).mono ?_;rintro e w5 ⟨v5,rfl,o5,b5⟩;have HO5:Hid (w5.ownsRow B 5 1 v5 (H8 L (j+1)).length ((H8 L (j+1)).map (Value.int .u8))):=by unfold Hid;rw[HK.out];exact o5
    have d5:=hbel.trans b5;clear o5 b5 HO HK HQ hcj hij hsj;go_wp2
    go_roundw
    case rel=>exact⟨j+1,by omega,by go_num,HO5.out,d5⟩
    case measure=>simp[intOf];omega
   .obtain rfl:j=5:=by omega
    rw[show((5:Nat):Int)=5 from rfl];have HO:Hid _:=hown;clear hown hix HO3;go_wp2
    go_ret2
    rw[HE.out,HZ.out];exact⟨_,rfl,AN HO.out hwB,d1.trans (hbel.mono hwB)⟩
 .have HE:Hid (S2 k c s n v=[]):=XA h1;go_wp2
  go_ret2
  rw[HE.out];exact⟨_,rfl,World.ownsRow_nil _ _ _ _,d1⟩
theorem IA{P:Program}{fn:Func}{p u:Tmp}{ty:TypeId}(h:fn.results=#[.cell p ty,.tmp u])(tmps:Array Value)(w:World)(g:Nat)(t:TypeId)(cs:Array Value)(fr:Nat × Nat)(d:TypeDesc)(hp:tmps.getD p undef=.pointer (some ⟨g,0,none⟩))(hg:w.heap[g]?=some (.cells cs t fr))(hu:P.underlying ty=some d)(hd:(match d with|.struct _|.array _ _=>true|_=>false)=true)(hi:(P.info? ty).map (·.size)=some cs.size) :
  (results fn tmps).run P w=.ok (.tuple #[.agg cs,tmps.getD u undef]) w:=by
 have hp':tmps[p]?.getD undef=.pointer (some ⟨g,0,none⟩):=by simpa using hp
 simp[results,h,hp',asAddr,run_loadVar_row w g t ty cs fr d hg hu hd hi]
theorem Rf(k c s n v:Int):(cmA k c s n v).all (·.oneCell')=true:=by simp[cmA,Value.oneCell']
def Nb(B:Nat)(y:S3)(l:List Int):Prop:=l≠[]->∀ a,y.a=some a->B<=a.block
theorem Nb.mono{C:Nat}{y:S3}{l:List Int}(h:Nb B y l)(hc:C<=B):Nb C y l:=λhl a ha=>fy hc (h hl a ha)
theorem Qt{l:List Int}(h:w.ownsRow B 5 1 y l.length (l.map (Value.int .u8)))(hl:l.length<=140737488351232)(hb:∀ x∈l,0<=x/\x<256):∃ z:S3,y=z.v/\Sl w z.v l/\Nb B z l:=by
 have hs:=Sl.ofOwns h hl hb;rcases h.2 with⟨rfl,h0⟩|⟨b,cap,cur,rfl,hbb,_⟩
 .exact⟨s30,rfl,hs,λhn=>absurd (fw h0) hn⟩
 .exact⟨⟨some ⟨b,0,none⟩,l.length,cap⟩,rfl,hs,λ_ a ha=>by simp only[U']at ha;subst ha;exact hbb⟩
theorem WC(hs:Sv w y l):∃ z:S3,y=z.v:=by
 obtain⟨a,c,rfl⟩:=hs.shape;exact⟨⟨a,l.length,c⟩,rfl⟩
theorem ep(w:World):Sv w (.slice none 0 0) []:=⟨⟨none,0,rfl,A' _,λ_=>rfl,.inl rfl⟩,by simp⟩
theorem bC(hN:NTab w)(hE:(if Ad b then 0 else 2)=E) :
  Calls prog 97 #[.agg #[iv 0,iv 0,S3.v s30],.agg #[iv b.r,iv b.n]] w λe w'=>∃ (r n:Int) (y z:S3),e=.returned (.tuple #[.agg #[iv r,iv n,y.v],z.v,iv E])/\Bw w w':=by
 refine(O0 ⟨0,0⟩ (.slice none 0 0) [] b w (ep w) hN).mono ?_;rintro e w' ⟨y,z,rfl,hy,hz,hb⟩;obtain⟨y,rfl⟩:=WC hy;obtain⟨z,rfl⟩:=WC hz;have h1:BN ⟨⟨0,0⟩,[]⟩ b=E:=(Yy b).trans hE;rw[h1];exact⟨_,_,y,z,rfl,hb⟩
theorem DK{may:Prop}[Decidable may]{b:List Int}(h:CN d s may b=E)(h0:E≠0):Gy d s may b=[]/\Iw d s may b=0:=⟨if_neg (by rw[h];exact h0),if_neg (by rw[h];exact h0)⟩
theorem Ww(hb:Ad b):Calls prog 134 #[.agg #[iv b.r,iv b.n]] w λe w'=>∃ y:S3,e=.returned y.v/\Sl w' y.v (BA b)/\Bw w w':=by
 refine(MJ b hb w).mono ?_;rintro e w' ⟨y,rfl,ho,h⟩;obtain⟨z,rfl,hz⟩:=Fg (l:=BA b) ho (by rw[show(BA b).length=9 from rfl];decide) (Tj b);exact⟨z,rfl,hz,h⟩
theorem RW{v:S3}{b:List Int}(s:Int)(h:Sl w x.v d)(hv:Sl w v.v b)(hb:b.length<=255)(hd:d.length+5+b.length<=100000)(ht:AA w) :
  Calls prog 133 #[.agg #[x.v,iv s],v.v] w λe w'=>∃ y:S3,e=.returned (.tuple #[.agg #[y.v,iv s],iv 0])/\Sl w' y.v (d++BH b)/\Nb w.heap.size y (d++BH b)/\Bw w w':=by
 refine(KI x.v d s v.v b w h hv hb (by omega) ht).mono ?_;rintro e w' ⟨y,rfl,ho,hw⟩;obtain⟨z,rfl,hz,hn⟩:=Qt ho (by rw[N',GZ];omega) (λx hx=>(Y'.1 hx).elim (h.byte x) (Ku hv.byte hb x));exact⟨z,rfl,hz,hn,hw⟩
theorem ZK(hN:NTab w)(hE:(if Am v then 0 else 2)=E) :
  Calls prog 99 #[.agg #[iv 0,iv 0,S3.v s30],.agg #[iv v.slot,iv v.b.r,iv v.b.n,iv v.w.k,iv v.w.c,iv v.w.s,iv v.w.n,iv v.w.v]] w λe w'=>∃ (r n:Int) (y:S3),e=.returned (.tuple #[.agg #[iv r,iv n,y.v],iv E])/\Bw w w':=by
 refine(Pk ⟨0,0⟩ (.slice none 0 0) [] v w (ep w) hN).mono ?_;rintro e w' ⟨y,rfl,hy,hb⟩;obtain⟨y,rfl⟩:=WC hy;have h1:AX ⟨⟨0,0⟩,[]⟩ v=E:=(Zf v).trans hE;rw[h1];exact⟨_,_,y,rfl,hb⟩
theorem UN{m:Cmd}(hN:NTab w)(h0:m.e=0) :
  Calls prog 35 #[.agg #[iv m.k,iv m.c,iv m.s,iv m.n,iv m.v]] w λe w'=>∃ y:S3,e=.returned (.tuple #[y.v,iv 0])/\Sl w' y.v (H7 m.k m.c m.s m.n m.v)/\Bw w w':=by
 refine(PB m.k m.c m.s m.n m.v w hN).mono ?_;rintro e w' ⟨y,rfl,ho,hb⟩;have h1:AU m.k m.c m.s m.n m.v=0:=h0;rw[Rk h1]at ho
 rw[h1];obtain⟨y,rfl,hy⟩:=Fg ho (by rw[EV];decide) (Lt _ _ _ _ _);exact⟨y,rfl,hy,hb⟩
theorem WD(hv:Am v)(hx:Sl w x.v (H7 v.w.k v.w.c v.w.s v.w.n v.w.v)) :
  Calls prog 154 #[.agg #[iv v.slot,iv v.b.r,iv v.b.n,iv v.w.k,iv v.w.c,iv v.w.s,iv v.w.n,iv v.w.v],x.v] w λe w'=>∃ y:S3,e=.returned y.v/\Sl w' y.v (B1 v)/\Bw w w':=by
 refine(ML v hv x.v w hx).mono ?_;rintro e w' ⟨y,rfl,ho,h⟩;obtain⟨z,rfl,hz⟩:=Fg (l:=B1 v) ho (by rw[Pc];decide) (TS v);exact⟨z,rfl,hz,h⟩
theorem Wg{k:Nat}(h:Je d s k=0):d.length+k<=100000:=by
 unfold Je at h;split at h
 .cases h
 .split at h
  .cases h
  .omega
theorem IM(h:Sl w x.v d)(hT:AA w)(hN:NTab w) :
  Calls prog 98 #[.agg #[x.v,iv s],.agg #[iv b.r,iv b.n]] w λe w'=>∃ y:S3,e=.returned (.tuple #[.agg #[y.v,iv (Iw d s (Ad b) (BA b))],iv (CN d s (Ad b) (BA b))])/\Sl w' y.v (Gy d s (Ad b) (BA b))/\Nb w.heap.size y (Gy d s (Ad b) (BA b))/\Bw w w':=by
 obtain⟨E0,hE0⟩:∃ E0,Je d s 14=E0:=⟨_,rfl⟩;obtain⟨E1,hE1⟩:∃ E1:Int,(if Ad b then 0 else 2)=E1:=⟨_,rfl⟩;have hW:CN d s (Ad b) (BA b)=if E0≠0 then E0 else E1:=by rw[<- hE0,<- hE1];rfl
 refine kIn func98 ?_;refine kR 11 [0,0,0,0,1,0,0] λσ1 w1 b1=>?_;refine kC 1 ((hE0▸FO x.v d s 14 (by decide) _ (h.below b1))) ?_;rintro _ w2 ⟨rfl,b2⟩;refine⟨_,rfl,b2,?_⟩;refine kR 7 [] λσ3 w3 b3=>?_;by_cases h1:E0≠0
 .refine kI ((E0 != 0)) true (by simpa using h1) ?_;refine kF 7 [2,0] λσ4 w4 b4 q4=>?_;have hw:=hW.trans (if_pos h1);rw[hw,(DK hw h1).1,(DK hw h1).2];have B5:=((btr (btr b1 b2) b3).trans b4);exact qE2 4 5 93 2 (σ1 2) #[S3.v s30,iv 0] (iv E0) λK=>⟨s30,rfl,D7 _,λh=>absurd rfl h,B5⟩
 .refine kI ((E0 != 0)) false (by simpa using h1) ?_;have h10:E0=0:=by simpa using h1
  have hd:=Wg (hE0.trans h10);refine kR 6 [1] λσ6 w6 b6=>?_;have B7:=(btr (btr (btr b1 b2) b3) b6);refine kC 2 (bC (hN.below B7) hE1) ?_;rintro _ w8 ⟨r,n,ya,za,rfl,b8⟩;refine⟨_,rfl,b8,?_⟩;refine kR 14 [1,0,3,0] λσ9 w9 b9=>?_;by_cases h2:E1≠0
  .refine kI ((E1 != 0)) true (by simpa using h2) ?_;refine kF 7 [2,0] λσ10 w10 b10 q10=>?_;have hw:=hW.trans (if_neg h1);rw[hw,(DK hw h2).1,(DK hw h2).2];have B11:=((btr (btr B7 b8) b9).trans b10);exact qE2 4 5 93 2 (σ1 2) #[S3.v s30,iv 0] (iv E1) λK=>⟨s30,rfl,D7 _,λh=>absurd rfl h,B11⟩
  .refine kI ((E1 != 0)) false (by simpa using h2) ?_;have h20:E1=0:=by simpa using h2
   have hmay:Ad b:=by by_cases g:Ad b;exact g;rw[if_neg g,h20]at hE1;cases hE1
   have hw:CN d s (Ad b) (BA b)=0:=hW.trans ((if_neg h1).trans h20);rw[hw,show Gy d s (Ad b) (BA b)=d++BH (BA b)from if_pos hw,show Iw d s (Ad b) (BA b)=s from if_pos hw];refine kR 4 [2,2,1] λσ12 w12 b12=>?_;refine Vl 33 (λw' e L=>∃ (y:S3),e=[(4,pt (σ1 2) 0),(5,iv 0)]/\L=[⟨(σ1 0),.cells #[S3.v x,iv s] 93,.z,false⟩,⟨(σ1 1),.cells #[iv b.r,iv b.n] 73,.z,false⟩,⟨(σ1 2),.cells #[S3.v y,iv s] 93,.l,false⟩,⟨(σ9 0),.cells #[iv r,iv n,S3.v ya] 76,.l,false⟩]/\Sl w' y.v (d++BH (BA b))/\Nb w.heap.size y (d++BH (BA b))/\Bw w w') ?_ ?_
   .intro J hJ;refine SK 0 2 ?_ ?_
    .refine kR 1 [0] λσ14 w14 b14=>?_;refine kC 2 (Ww hmay) ?_;rintro _ w15 ⟨yb15,rfl,hb15,b15⟩;refine⟨_,rfl,b15,?_⟩;have B17:=(btr (btr (btr (btr (btr B7 b8) b9) b12) b14) b15);refine kC 3 (RW s (h.below B17) hb15 (by rw[show(BA b).length=9 from rfl];decide) (by rw[show(BA b).length=9 from rfl];omega) (hT.below B17)) ?_;rintro _ w18 ⟨y18,rfl,hy18,hn18,b18⟩;refine⟨_,rfl,b18,?_⟩;refine kF 5 [8,10,13,2,0,14] λσ19 w19 b19 q19=>?_;have B20:=((btr B17 b18).trans b19);exact kB [true,true,true,true] λz K=>hJ _ _ z _ ⟨y18,rfl,rfl,(hy18.kept q19),hn18.mono B17.size,B20⟩ K
    .refine kC 2 (Ww hmay) ?_;rintro _ w22 ⟨yb22,rfl,hb22,b22⟩;refine⟨_,rfl,b22,?_⟩;refine kR 1 [1,0] λσ23 w23 b23=>?_;have B24:=(btr (btr (btr (btr (btr B7 b8) b9) b12) b22) b23);refine kC 3 (RW s (h.below B24) (hb22.below b23) (by rw[show(BA b).length=9 from rfl];decide) (by rw[show(BA b).length=9 from rfl];omega) (hT.below B24)) ?_;rintro _ w25 ⟨y25,rfl,hy25,hn25,b25⟩;refine⟨_,rfl,b25,?_⟩;refine kF 5 [8,10,13,2,0,14] λσ26 w26 b26 q26=>?_;have B27:=((btr B24 b25).trans b26);exact kB [true,true,true,true] λz K=>hJ _ _ z _ ⟨y25,rfl,rfl,(hy25.kept q26),hn25.mono B24.size,B27⟩ K
   .rintro w13 _ z13 _ ⟨y,rfl,rfl,hy,hn,hb⟩;exact qE2 4 5 93 2 (σ1 2) #[S3.v y,iv s] (iv 0) λK=>⟨y,rfl,hy,hn,hb⟩
theorem OP(h:Sl w x.v d)(hT:AA w)(hN:NTab w) :
  Calls prog 122 #[.agg #[x.v,iv s],.agg #[iv v.slot,iv v.b.r,iv v.b.n,iv v.w.k,iv v.w.c,iv v.w.s,iv v.w.n,iv v.w.v]] w λe w'=>∃ y:S3,e=.returned (.tuple #[.agg #[y.v,iv (Iw d s (Am v) (B1 v))],iv (CN d s (Am v) (B1 v))])/\Sl w' y.v (Gy d s (Am v) (B1 v))/\Nb w.heap.size y (Gy d s (Am v) (B1 v))/\Bw w w':=by
 obtain⟨E0,hE0⟩:∃ E0,Je d s 38=E0:=⟨_,rfl⟩;obtain⟨E1,hE1⟩:∃ E1:Int,(if Am v then 0 else 2)=E1:=⟨_,rfl⟩;have hW:CN d s (Am v) (B1 v)=if E0≠0 then E0 else E1:=by rw[<- hE0,<- hE1];rfl
 refine kIn func122 ?_;refine kR 11 [0,0,0,0,1,0,0] λσ1 w1 b1=>?_;refine kC 1 ((hE0▸FO x.v d s 38 (by decide) _ (h.below b1))) ?_;rintro _ w2 ⟨rfl,b2⟩;refine⟨_,rfl,b2,?_⟩;refine kR 7 [] λσ3 w3 b3=>?_;by_cases h1:E0≠0
 .refine kI ((E0 != 0)) true (by simpa using h1) ?_;refine kF 7 [2,0] λσ4 w4 b4 q4=>?_;have hw:=hW.trans (if_pos h1);rw[hw,(DK hw h1).1,(DK hw h1).2];have B5:=((btr (btr b1 b2) b3).trans b4);exact qE2 4 5 93 2 (σ1 2) #[S3.v s30,iv 0] (iv E0) λK=>⟨s30,rfl,D7 _,λh=>absurd rfl h,B5⟩
 .refine kI ((E0 != 0)) false (by simpa using h1) ?_;have h10:E0=0:=by simpa using h1
  have hd:=Wg (hE0.trans h10);refine kR 6 [1] λσ6 w6 b6=>?_;have B7:=(btr (btr (btr b1 b2) b3) b6);refine kC 2 (ZK (hN.below B7) hE1) ?_;rintro _ w8 ⟨r,n,ya,rfl,b8⟩;refine⟨_,rfl,b8,?_⟩;refine kR 12 [1,0,3,0] λσ9 w9 b9=>?_;by_cases h2:E1≠0
  .refine kI ((E1 != 0)) true (by simpa using h2) ?_;refine kF 7 [2,0] λσ10 w10 b10 q10=>?_;have hw:=hW.trans (if_neg h1);rw[hw,(DK hw h2).1,(DK hw h2).2];have B11:=((btr (btr B7 b8) b9).trans b10);exact qE2 4 5 93 2 (σ1 2) #[S3.v s30,iv 0] (iv E1) λK=>⟨s30,rfl,D7 _,λh=>absurd rfl h,B11⟩
  .refine kI ((E1 != 0)) false (by simpa using h2) ?_;have h20:E1=0:=by simpa using h2
   have hmay:Am v:=by by_cases g:Am v;exact g;rw[if_neg g,h20]at hE1;cases hE1
   refine kR 5 [1] λσ12 w12 b12=>?_;have B13:=(btr (btr (btr B7 b8) b9) b12);refine kC 2 (UN (m:=v.w) (hN.below B13) hmay.2.2) ?_;rintro _ w14 ⟨yc,rfl,hyc,b14⟩;refine⟨_,rfl,b14,?_⟩;refine kR 18 [3,2,1,4] λσ15 w15 b15=>?_;have hw:CN d s (Am v) (B1 v)=0:=hW.trans ((if_neg h1).trans h20);rw[hw,show Gy d s (Am v) (B1 v)=d++BH (B1 v)from if_pos hw,show Iw d s (Am v) (B1 v)=s from if_pos hw];refine Vl 44 (λw' e L=>∃ (y:S3),e=[(4,pt (σ1 2) 0),(5,iv 0)]/\L=[⟨(σ1 0),.cells #[S3.v x,iv s] 93,.z,false⟩,⟨(σ1 1),.cells #[iv v.slot,iv v.b.r,iv v.b.n,iv v.w.k,iv v.w.c,iv v.w.s,iv v.w.n,iv v.w.v] 138,.z,false⟩,⟨(σ1 2),.cells #[S3.v y,iv s] 93,.l,false⟩,⟨(σ9 0),.cells #[iv r,iv n,S3.v ya] 76,.l,false⟩]/\Sl w' y.v (d++BH (B1 v))/\Nb w.heap.size y (d++BH (B1 v))/\Bw w w') ?_ ?_
   .intro J hJ;refine SK 0 3 ?_ ?_
    .refine kR 1 [0] λσ18 w18 b18=>?_;refine kC 3 (WD hmay ((hyc.below b15).below b18)) ?_;rintro _ w19 ⟨yb19,rfl,hb19,b19⟩;refine⟨_,rfl,b19,?_⟩;have B21:=(btr (btr (btr (btr B13 b14) b15) b18) b19);refine kC 4 (RW s (h.below B21) hb19 (by rw[show(B1 v).length=33 from rfl];decide) (by rw[show(B1 v).length=33 from rfl];omega) (hT.below B21)) ?_;rintro _ w22 ⟨y22,rfl,hy22,hn22,b22⟩;refine⟨_,rfl,b22,?_⟩;refine kF 5 [10,12,15,2,0,16] λσ23 w23 b23 q23=>?_;have B24:=((btr B21 b22).trans b23);exact kB [true,true,true,true] λz K=>hJ _ _ z _ ⟨y22,rfl,rfl,(hy22.kept q23),hn22.mono B21.size,B24⟩ K
    .refine kC 3 (WD hmay (hyc.below b15)) ?_;rintro _ w26 ⟨yb26,rfl,hb26,b26⟩;refine⟨_,rfl,b26,?_⟩;refine kR 1 [1,0] λσ27 w27 b27=>?_;have B28:=(btr (btr (btr (btr B13 b14) b15) b26) b27);refine kC 4 (RW s (h.below B28) (hb26.below b27) (by rw[show(B1 v).length=33 from rfl];decide) (by rw[show(B1 v).length=33 from rfl];omega) (hT.below B28)) ?_;rintro _ w29 ⟨y29,rfl,hy29,hn29,b29⟩;refine⟨_,rfl,b29,?_⟩;refine kF 5 [10,12,15,2,0,16] λσ30 w30 b30 q30=>?_;have B31:=((btr B28 b29).trans b30);exact kB [true,true,true,true] λz K=>hJ _ _ z _ ⟨y29,rfl,rfl,(hy29.kept q30),hn29.mono B28.size,B31⟩ K
   .rintro w17 _ z17 _ ⟨y,rfl,rfl,hy,hn,hb⟩;exact qE2 4 5 93 2 (σ1 2) #[S3.v y,iv s] (iv 0) λK=>⟨y,rfl,hy,hn,hb⟩
theorem Ey(h:NS i nb ob g w p ls ts)(hB:Base w0 g w)(hT:Tabs w0)(b:Bal) :
  Calls prog 53 #[pt nb 0,.agg #[iv b.r,iv b.n]] w λe w'=>∃ (y:S3) (g':Gh),e=.returned (.tuple #[y.v,iv (p.promise b).2.2])/\FSv g' w' y (p.promise b).2.1/\NS i nb ob g' w' (p.promise b).1 ls ts/\Cg w.heap.size (TN i) g w g' w':=by
 obtain⟨x,lt,tl,hN,hO,hg⟩:=h;have hA:p.vo=⟨p.vo.p,p.vo.vs⟩:=rfl;refine gI (fn:=f53) (TN i) g func53 hg ?_;refine qN hN ?_;refine qO hO ?_;refine qR [] 14 [0,0,15,0,2,4,6,8,0,10,2] λs1 g1 w1 c1=>?_;refine BG 55 (λg' w' e L=>∃ (ys zs:S3) (bA:Nat),e=[(0,pt nb 0),(3,pt (s1 0) 0),(6,pt bA 0),(7,S3.v zs),(8,iv (BN p.vo b))]/\L=[⟨nb,.cells (Ax i ob p x) 95,.n 0 i,false⟩,⟨ob,.cells #[S3.v lt,S3.v tl] 65,.n 50 0,false⟩,⟨(s1 0),.cells #[iv b.r,iv b.n] 73,.z,false⟩,⟨bA,.cells #[iv (EO p.vo b).r,iv (EO p.vo b).n,S3.v ys] 76,.l,false⟩]/\FSv g' w' ys (EN p.vo b)/\FSv g' w' zs (EN p.vo b)/\Cg w.heap.size [] g w g' w') (by kernel_rfl) ?_ ?_
 .intro J hJ;refine Cu 6 11 (by kernel_rfl) ?_ ?_
  .refine Ae λKq4=>?_;have hS4:=(hN.votes.ch c1).s;have hB4:=hB.ch c1;have hG4:∀ z,w1.heap.size<=z->g1.t z=.z:=λz hz=>(Kq4.new z hz).1;refine qC 6 (Cp p.vo.p _ p.vo.vs b w1 hS4 (hB4.tn hT)) ?_;rintro e' w5 ⟨y5,z5,rfl,hy5,hz5,b5⟩;refine⟨_,rfl,b5,?_⟩;have c5:=Cg.ofBelow (B:=w.heap.size) (T:=[]) (g:=g1) b5;obtain⟨ys5,rfl,hyn5,hys5⟩:=De hy5 hG4 (fy (Cz _ _) hS4.len);obtain⟨zs5,rfl,hzn5,hzs5⟩:=De hz5 hG4 (fy (Cz _ _) hS4.len);refine qR [] 9 [14,16,18,20,23,1,0,25,3,0,26,28] λs6 g6 w6 c6=>?_;exact qB [true,true,true,true] λz K0 K=>hJ _ _ _ z _ ⟨ys5,zs5,(s6 0),rfl,rfl,(hys5.ch c6),(hzs5.ch c6),((c1.trans c5).trans c6)⟩ K
  .refine qR [] 1 [1,0] λs7 g7 w7 c7=>?_;refine Ae λKq8=>?_;have hS8:=(hN.votes.ch (c1.trans c7)).s;have hB8:=hB.ch (c1.trans c7);have hG8:∀ z,w7.heap.size<=z->g7.t z=.z:=λz hz=>(Kq8.new z hz).1;refine qC 6 (Cp p.vo.p _ p.vo.vs b w7 hS8 (hB8.tn hT)) ?_;rintro e' w9 ⟨y9,z9,rfl,hy9,hz9,b9⟩;refine⟨_,rfl,b9,?_⟩;have c9:=Cg.ofBelow (B:=w.heap.size) (T:=[]) (g:=g7) b9;obtain⟨ys9,rfl,hyn9,hys9⟩:=De hy9 hG8 (fy (Cz _ _) hS8.len);obtain⟨zs9,rfl,hzn9,hzs9⟩:=De hz9 hG8 (fy (Cz _ _) hS8.len);refine qR [] 8 [14,16,18,20,25,3,0,26,28] λs10 g10 w10 c10=>?_;exact qB [true,true,true,true] λz K0 K=>hJ _ _ _ z _ ⟨ys9,zs9,(s7 0),rfl,rfl,(hys9.ch c10),(hzs9.ch c10),(((c1.trans c7).trans c9).trans c10)⟩ K
 .rintro g2 w2 _ z2 _ ⟨ys,zs,bA,rfl,rfl,hys,hzs,hc⟩;refine qR [] 6 [] λs11 g11 w11 c11=>?_;by_cases h1:BN p.vo b≠0
  .refine qI (((BN p.vo b) != 0)) true (by simpa using h1) ?_;refine qR [] 6 [] λs12 g12 w12 c12=>?_;refine qE (.tuple #[S3.v s30,iv (BN p.vo b)]) λK=>?_;rw[show p.promise b=(p,[],(BN p.vo b))from if_pos h1];exact⟨s30,_,rfl,⟨Sv.nil _,λh=>absurd rfl h⟩,(nsC hN hO ((hc.n c11).n c12) K),(((hc.nil (TN i)).n c11).n c12)⟩
  .refine qI (((BN p.vo b) != 0)) false (by simpa using h1) ?_;have h10:BN p.vo b=0:=by simpa using h1
   obtain⟨e1,e2⟩:=bD h10;rw[e2]at hys hzs
   refine qR [] 11 [8,0,2,2,4,6,8,10,12,0] λs14 g14 w14 c14=>?_;by_cases h2:b=p.vo.p
   .refine qT 7 (.bool false) (λ_=>(LQ (x:=(.tmp 25)) (y:=(.tmp 31)) b p.vo.p h2)) ?_;refine qR [.n 0 i] 18 [3,0,1] λs15 g15 w15 c15=>?_;refine qE (.tuple #[S3.v zs,iv 0]) λK=>?_;rw[show p.promise b=({ p with vo:=⟨b,p.vo.vs⟩ },p.vo.vs,0)from by unfold Nod.promise;rw[if_neg (by simpa using h10),if_pos h2]];have C16:=(((hc.nil ([.n 0 i]:List Tg)).n c11).n c14).trans (c15);have Z16:Tg.z∉([.n 0 i]:List Tg):=by simp
    obtain⟨q1,q2,q3⟩:=K.isN 0 nb (.cells (Ax i ob { p with vo:=⟨EO p.vo b,p.vo.vs⟩ } { x with votes:=ys }) 95) 0 i (by kernel_rfl);rw[e1]at q1
    obtain⟨q4,q5,q6⟩:=K.isN 1 ob (.cells #[S3.v lt,S3.v tl] 65) 50 0 (by kernel_rfl);exact⟨zs,_,rfl,(((hzs.ch c11).ch c14).ch c15),⟨{ x with votes:=ys },lt,tl,⟨q1,q2,q3,hN.tape.ch C16 Z16,(((hys.ch c11).ch c14).ch c15),Ba hN.heard C16 Z16,B0 hN.pend C16 Z16 (by simp),hN.queue.ch C16,hN.agreed.ch C16,hN.wants.ch C16,hN.asked.ch C16,hN.upm⟩,⟨q4,q5,q6,Dd hO.lets C16 Z16 (by simp),hO.told.ch C16⟩,K.new⟩,((((hc.nil (TN i)).n c11).n c14).trans (c15.mono (by simp[TN])))⟩
   .refine qT 7 (.bool true) (λ_=>(LR (x:=(.tmp 25)) (y:=(.tmp 31)) b p.vo.p h2)) ?_;refine qR [] 9 [12,0,2,4,6,0,8,2] λs17 g17 w17 c17=>?_;refine BG 55 (λg' w' e L=>∃ (tz:S3) (bT:Nat),e=[(0,pt nb 0),(6,pt bA 0),(7,S3.v zs),(9,pt bT 0),(10,iv (CN p.d p.sy (Ad b) (BA b)))]/\L=[⟨nb,.cells (Ax i ob p x) 95,.n 0 i,false⟩,⟨ob,.cells #[S3.v lt,S3.v tl] 65,.n 50 0,false⟩,⟨(s1 0),.cells #[iv b.r,iv b.n] 73,.z,false⟩,⟨bA,.cells #[iv (EO p.vo b).r,iv (EO p.vo b).n,S3.v ys] 76,.l,false⟩,⟨bT,.cells #[S3.v tz,iv (Iw p.d p.sy (Ad b) (BA b))] 93,.l,false⟩]/\FSl g' w' tz (Gy p.d p.sy (Ad b) (BA b))/\FSv g' w' ys p.vo.vs/\FSv g' w' zs p.vo.vs/\Cg w.heap.size [] g w g' w') (by kernel_rfl) ?_ ?_
    .intro J hJ;refine Cu 5 9 (by kernel_rfl) ?_ ?_
     .refine Ae λKq20=>?_;have hS20:=(hN.tape.ch (((hc.trans c11).trans c14).trans c17) (by simp)).s;have hB20:=hB.ch (((hc.trans c11).trans c14).trans c17) (by simp);have hG20:∀ z,w17.heap.size<=z->g17.t z=.z:=λz hz=>(Kq20.new z hz).1;refine qC 5 (IM (s:=p.sy) (b:=b) hS20 (hB20.tt hT) (hB20.tn hT)) ?_;rintro e' w21 ⟨ts21,rfl,hy21,hn21,b21⟩;refine⟨_,rfl,b21,?_⟩;have c21:=Cg.ofBelow (B:=w.heap.size) (T:=[]) (g:=g17) b21;have hts21:FSl _ _ ts21 _:=⟨hy21,λhl a ha=>hG20 _ (hn21 hl a ha)⟩;refine qR [] 7 [12,14,16,19,1,0,21,4,0,22] λs22 g22 w22 c22=>?_;exact qB [true,true,true,true,true] λz K0 K=>hJ _ _ _ z _ ⟨ts21,(s22 0),rfl,rfl,(hts21.ch c22),(((((hys.ch c11).ch c14).ch c17).ch c21).ch c22),(((((hzs.ch c11).ch c14).ch c17).ch c21).ch c22),(((((hc.trans c11).trans c14).trans c17).trans c21).trans c22)⟩ K
     .refine qR [] 1 [1,0] λs23 g23 w23 c23=>?_;refine Ae λKq24=>?_;have hS24:=(hN.tape.ch ((((hc.trans c11).trans c14).trans c17).trans c23) (by simp)).s;have hB24:=hB.ch ((((hc.trans c11).trans c14).trans c17).trans c23) (by simp);have hG24:∀ z,w23.heap.size<=z->g23.t z=.z:=λz hz=>(Kq24.new z hz).1;refine qC 5 (IM (s:=p.sy) (b:=b) hS24 (hB24.tt hT) (hB24.tn hT)) ?_;rintro e' w25 ⟨ts25,rfl,hy25,hn25,b25⟩;refine⟨_,rfl,b25,?_⟩;have c25:=Cg.ofBelow (B:=w.heap.size) (T:=[]) (g:=g23) b25;have hts25:FSl _ _ ts25 _:=⟨hy25,λhl a ha=>hG24 _ (hn25 hl a ha)⟩;refine qR [] 6 [12,14,16,21,4,0,22] λs26 g26 w26 c26=>?_;exact qB [true,true,true,true,true] λz K0 K=>hJ _ _ _ z _ ⟨ts25,(s23 0),rfl,rfl,(hts25.ch c26),((((((hys.ch c11).ch c14).ch c17).ch c23).ch c25).ch c26),((((((hzs.ch c11).ch c14).ch c17).ch c23).ch c25).ch c26),((((((hc.trans c11).trans c14).trans c17).trans c23).trans c25).trans c26)⟩ K
    .rintro g18 w18 _ z18 _ ⟨tz,bT,rfl,rfl,htz,hys,hzs,hc⟩;refine qR [] 6 [] λs27 g27 w27 c27=>?_;by_cases h3:CN p.d p.sy (Ad b) (BA b)≠0
     .refine qI (((CN p.d p.sy (Ad b) (BA b)) != 0)) true (by simpa using h3) ?_;refine qR [] 6 [] λs28 g28 w28 c28=>?_;refine qE (.tuple #[S3.v s30,iv (CN p.d p.sy (Ad b) (BA b))]) λK=>?_;rw[show p.promise b=(p,[],(CN p.d p.sy (Ad b) (BA b)))from by unfold Nod.promise;rw[if_neg (by simpa using h10),if_neg h2,if_pos h3]];exact⟨s30,_,rfl,⟨Sv.nil _,λh=>absurd rfl h⟩,(nsC hN hO ((hc.n c27).n c28) K),(((hc.nil (TN i)).n c27).n c28)⟩
     .refine qI (((CN p.d p.sy (Ad b) (BA b)) != 0)) false (by simpa using h3) ?_;refine qR [.n 0 i] 23 [4,0,1,3,0,1] λs30 g30 w30 c30=>?_;refine qE (.tuple #[S3.v zs,iv 0]) λK=>?_;rw[show p.promise b=({ p with d:=Gy p.d p.sy (Ad b) (BA b),sy:=Iw p.d p.sy (Ad b) (BA b),vo:=⟨b,p.vo.vs⟩ },p.vo.vs,0)from by unfold Nod.promise;rw[if_neg (by simpa using h10),if_neg h2,if_neg h3]];have C31:=((hc.nil ([.n 0 i]:List Tg)).n c27).trans (c30);have Z31:Tg.z∉([.n 0 i]:List Tg):=by simp
      obtain⟨q1,q2,q3⟩:=K.isN 0 nb (.cells (Ax i ob { p with d:=Gy p.d p.sy (Ad b) (BA b),sy:=Iw p.d p.sy (Ad b) (BA b),vo:=⟨EO p.vo b,p.vo.vs⟩ } { x with votes:=ys,tape:=tz }) 95) 0 i (by kernel_rfl);rw[e1]at q1
      obtain⟨q4,q5,q6⟩:=K.isN 1 ob (.cells #[S3.v lt,S3.v tl] 65) 50 0 (by kernel_rfl);exact⟨zs,_,rfl,((hzs.ch c27).ch c30),⟨{ x with votes:=ys,tape:=tz },lt,tl,⟨q1,q2,q3,((htz.ch c27).ch c30),((hys.ch c27).ch c30),Ba hN.heard C31 Z31,B0 hN.pend C31 Z31 (by simp),hN.queue.ch C31,hN.agreed.ch C31,hN.wants.ch C31,hN.asked.ch C31,hN.upm⟩,⟨q4,q5,q6,Dd hO.lets C31 Z31 (by simp),hO.told.ch C31⟩,K.new⟩,(((hc.nil (TN i)).n c27).trans (c30.mono (by simp[TN])))⟩
def PP(l:List Vt)(v:Vt):Int:=if v∈l then((l.findIdx λu=>decide (u=v)):Int)else -1
theorem Vh(l:List Vt)(v:Vt):decide (0<=PP l v)=decide (v∈l):=by
 unfold PP;by_cases hm:v∈l
 .rw[if_pos hm,I' hm];exact I' (by omega)
 .rw[if_neg hm,D' hm];rfl
theorem XR{j:Nat}(h:l[j]?=some v)(hb:∀ i,i<j->l[i]?≠some v):PP l v=(j:Int):=by
 have hm:v∈l:=fQ h;obtain⟨hj,hv⟩:=P'.1 h;unfold PP;rw[if_pos hm]
 congr 1
 rw[List.findIdx_eq hj];exact⟨by simp[hv],λi hi=>by have:=hb i hi;rw[E' (by omega)]at this;simpa using this⟩
theorem PR(h:Sv w x.v l)(hb:l.length<100000000)(v:Vt) :
  Calls prog 153 #[x.v,.agg #[iv v.slot,iv v.b.r,iv v.b.n,iv v.w.k,iv v.w.c,iv v.w.s,iv v.w.n,iv v.w.v]] w λe w'=>e=.returned (iv (PP l v))/\Bw w w':=by
 have hn:x.n=l.length:=by obtain⟨a,cap,hh⟩:=h.shape;simp only[Value.slice.injEq]at hh;exact hh.2.1
 refine gI (fn:=f153) [] gh0 func153 (λ_ _=>⟨rfl,rfl⟩) ?_;refine qR [] 13 [0,0] λs1 g1 w1 c1=>?_;refine Br 19 [(0,S3.v x),(3,pt (s1 0) 0),(7,iv (x.n:Int)),(8,iv 0)] [true] [⟨(s1 0),.cells #[iv v.slot,iv v.b.r,iv v.b.n,iv v.w.k,iv v.w.c,iv v.w.s,iv v.w.n,iv v.w.v] 138,.z,false⟩] (λk g' w' e L=>∃ j:Nat,k=l.length-j/\j<=l.length/\e=[(0,S3.v x),(3,pt (s1 0) 0),(7,iv (x.n:Int)),(8,iv (j:Int))]/\L=[⟨(s1 0),.cells #[iv v.slot,iv v.b.r,iv v.b.n,iv v.w.k,iv v.w.c,iv v.w.s,iv v.w.n,iv v.w.v] 138,.z,false⟩]/\(∀ i,i<j->l[i]?≠some v)/\Cg w.heap.size [] gh0 w g' w') (by kernel_rfl) (by kernel_rfl) (by kernel_rfl) (by kernel_rfl) l.length (λK=>?_) ?_
 .exact⟨0,rfl,by omega,rfl,rfl,λi hi=>absurd hi (by omega),c1⟩
 .rintro k gr wr _ zr _ ⟨j,rfl,hj,rfl,rfl,hI,hC⟩ J hJ;refine qR [] 5 [] λs2 g2 w2 c2=>?_;by_cases h1:j<l.length
  .refine qI ((decide ((j:Int)<(x.n:Int)))) true (I' (by omega)) ?_;obtain⟨vj,hvj⟩:∃ vj,l[j]?=some vj:=⟨_,E' h1⟩;obtain⟨bx,ox,hxa,hbx,hcell⟩:=h.spot j vj hvj;refine qR [] 13 [6,0,0,2,4] λs3 g3 w3 c3=>?_;refine qT 3 (pt bx (ox+8*j)) (λ_=>(ZD hxa j (by omega))) ?_;have hW:=Cg.below (hC.trans (c2.trans c3)) (λ_ _=>H');refine qV 4 (.agg #[iv vj.slot,iv vj.b.r,iv vj.b.n,iv vj.w.k,iv vj.w.c,iv vj.w.s,iv vj.w.n,iv vj.w.v]) (dM vj λi u hu=>(hW.cell (p:=⟨bx,ox+8*j+i,none⟩) hbx).trans (hcell i u hu)) ?_;refine qT 5 (.bool (decide (v=vj))) (λ_=>(dI (x:=(.tmp 11)) (y:=(.tmp 15)) v vj)) ?_;refine qR [] 1 [] λs6 g6 w6 c6=>?_;by_cases h3:v=vj
   .refine qI (decide (v=vj)) true (I' h3) ?_;refine qR [] 5 [] λs7 g7 w7 c7=>?_;exact qE (iv (j:Int)) λK=>⟨by rw[XR (by rw[h3];exact hvj) hI],Cg.below (hC.trans (((c2.trans c3).trans c6).trans c7)) (λ_ _=>H')⟩
   .refine qI (decide (v=vj)) false (D' h3) ?_;refine qR [] 3 [] λs8 g8 w8 c8=>?_;refine qV 0 (iv ((j:Int)+1)) (AK (x:=(.tmp 8)) (y:=(.const (iv 1))) (j:Int) 1 underlying3 (by omega)) ?_;refine qR [] 2 [] λs9 g9 w9 c9=>?_;refine qB [true] λz K0 K=>hJ (l.length-(j+1)) _ _ _ z _ (by omega) ⟨j+1,rfl,by omega,rfl,rfl,λi hi=>?_,hC.trans ((((c2.trans c3).trans c6).trans c8).trans c9)⟩ K;rcases gj i j with h4|h4
    .exact hI i h4
    .rw[show i=j by omega,hvj];intro h5;exact h3 (by simpa using h5.symm)
  .refine qI ((decide ((j:Int)<(x.n:Int)))) false (D' (by omega)) ?_;refine qR [] 5 [] λs10 g10 w10 c10=>?_;have hne:v∉l:=λhm=>by obtain⟨i,hi⟩:=ge.1 hm;exact hI i (by have:=(P'.1 hi).1;omega) hi
   exact qE (iv (-1)) λK=>⟨by unfold PP;rw[if_neg hne],Cg.below (hC.trans (c2.trans c10)) (λ_ _=>H')⟩
theorem KR(h:Sv w x.v l)(hb:l.length<100000000)(v:Vt) :
  Calls prog 121 #[x.v,.agg #[iv v.slot,iv v.b.r,iv v.b.n,iv v.w.k,iv v.w.c,iv v.w.s,iv v.w.n,iv v.w.v]] w λe w'=>e=.returned (.bool (decide (v∈l)))/\Bw w w':=by
 refine gI (fn:=f121) [] gh0 func121 (λ_ _=>⟨rfl,rfl⟩) ?_;refine qR [] 9 [0,0,0] λs1 g1 w1 c1=>?_;have hB1:=Cg.below c1 (λ_ _=>H');refine qC 2 (PR (h.below hB1) hb v) ?_;rintro e' w2 ⟨rfl,b2⟩;refine⟨_,rfl,b2,?_⟩;have c2:=Cg.ofBelow (B:=w.heap.size) (T:=[]) (g:=g1) b2;refine qR [] 3 [] λs3 g3 w3 c3=>?_;exact qE (.bool (decide (0<=PP l v))) λK=>⟨by rw[Vh],Cg.below ((c1.trans c2).trans c3) (λ_ _=>H')⟩
theorem LI(h:NS i nb ob g w p ls ts)(hB:Base w0 g w)(hT:Tabs w0)(v:Vt)(hb:p.vo.vs.length<100000000) :
  Calls prog 85 #[pt nb 0,.agg #[iv v.slot,iv v.b.r,iv v.b.n,iv v.w.k,iv v.w.c,iv v.w.s,iv v.w.n,iv v.w.v]] w (NP i nb ob g w (iv (p.vote v).2) (p.vote v).1 ls ts):=by
 obtain⟨x,lt,tl,hN,hO,hg⟩:=h;refine gI (fn:=f85) (TN i) g func85 hg ?_;refine qN hN ?_;refine qO hO ?_;refine qR [] 13 [0,0,13,0,2,4,6,8,0,10,2] λs1 g1 w1 c1=>?_;refine BG 52 (λg' w' e L=>∃ (ys:S3) (bA:Nat),e=[(0,pt nb 0),(3,pt (s1 0) 0),(5,pt bA 0),(6,iv (AX p.vo v))]/\L=[⟨nb,.cells (Ax i ob p x) 95,.n 0 i,false⟩,⟨ob,.cells #[S3.v lt,S3.v tl] 65,.n 50 0,false⟩,⟨(s1 0),.cells #[iv v.slot,iv v.b.r,iv v.b.n,iv v.w.k,iv v.w.c,iv v.w.s,iv v.w.n,iv v.w.v] 138,.z,false⟩,⟨bA,.cells #[iv (BX p.vo v).r,iv (BX p.vo v).n,S3.v ys] 76,.l,false⟩]/\FSv g' w' ys (Dc p.vo v)/\Cg w.heap.size [] g w g' w') (by kernel_rfl) ?_ ?_
 .intro J hJ;refine Cu 6 10 (by kernel_rfl) ?_ ?_
  .refine Ae λKq4=>?_;have hS4:=(hN.votes.ch c1).s;have hB4:=hB.ch c1;have hG4:∀ z,w1.heap.size<=z->g1.t z=.z:=λz hz=>(Kq4.new z hz).1;refine qC 6 (BJ p.vo.p _ p.vo.vs v w1 hS4 (hB4.tn hT)) ?_;rintro e' w5 ⟨y5,rfl,hy5,hl5,b5⟩;refine⟨_,rfl,b5,?_⟩;have c5:=Cg.ofBelow (B:=w.heap.size) (T:=[]) (g:=g1) b5;obtain⟨ys5,rfl,hyn5,hys5⟩:=De hy5 hG4 (by omega);refine qR [] 7 [14,16,18,21,1,0,23,3,0,24] λs6 g6 w6 c6=>?_;exact qB [true,true,true,true] λz K0 K=>hJ _ _ _ z _ ⟨ys5,(s6 0),rfl,rfl,(hys5.ch c6),((c1.trans c5).trans c6)⟩ K
  .refine qR [] 1 [1,0] λs7 g7 w7 c7=>?_;refine Ae λKq8=>?_;have hS8:=(hN.votes.ch (c1.trans c7)).s;have hB8:=hB.ch (c1.trans c7);have hG8:∀ z,w7.heap.size<=z->g7.t z=.z:=λz hz=>(Kq8.new z hz).1;refine qC 6 (BJ p.vo.p _ p.vo.vs v w7 hS8 (hB8.tn hT)) ?_;rintro e' w9 ⟨y9,rfl,hy9,hl9,b9⟩;refine⟨_,rfl,b9,?_⟩;have c9:=Cg.ofBelow (B:=w.heap.size) (T:=[]) (g:=g7) b9;obtain⟨ys9,rfl,hyn9,hys9⟩:=De hy9 hG8 (by omega);refine qR [] 6 [14,16,18,23,3,0,24] λs10 g10 w10 c10=>?_;exact qB [true,true,true,true] λz K0 K=>hJ _ _ _ z _ ⟨ys9,(s7 0),rfl,rfl,(hys9.ch c10),(((c1.trans c7).trans c9).trans c10)⟩ K
 .rintro g2 w2 _ z2 _ ⟨ys,bA,rfl,rfl,hys,hc⟩;refine qR [] 6 [] λs11 g11 w11 c11=>?_;by_cases h1:AX p.vo v≠0
  .refine qI (((AX p.vo v) != 0)) true (by simpa using h1) ?_;refine qR [] 5 [] λs12 g12 w12 c12=>?_;refine qE (iv (AX p.vo v)) λK=>?_;rw[show p.vote v=(p,(AX p.vo v))from if_pos h1];exact⟨_,rfl,(nsC hN hO ((hc.n c11).n c12) K),(((hc.nil (TN i)).n c11).n c12)⟩
  .refine qI (((AX p.vo v) != 0)) false (by simpa using h1) ?_;have h10:AX p.vo v=0:=by simpa using h1
   obtain⟨e1,e2⟩:=QU h10;rw[e2]at hys
   refine qR [] 11 [9,0,2,4,6,8,10,0,12,2] λs14 g14 w14 c14=>?_;have hS1:=(hN.votes.ch ((hc.trans c11).trans c14) (by simp)).s;refine qC 7 (KR hS1 hb v) ?_;rintro e' w15 ⟨rfl,b15⟩;refine⟨_,rfl,b15,?_⟩;have c15:=Cg.ofBelow (B:=w.heap.size) (T:=[]) (g:=g14) b15;refine qR [] 2 [16] λs16 g16 w16 c16=>?_;by_cases h2:v∈p.vo.vs
   .refine qI ((!(decide (v∈p.vo.vs)))) false (by simpa using h2) ?_;refine qR [.n 0 i] 14 [3,0,1] λs17 g17 w17 c17=>?_;refine qE (iv 0) λK=>?_;rw[show p.vote v=({ p with vo:=⟨v.b,Bk p.vo.vs v⟩ },0)from by unfold Nod.vote;rw[if_neg (by simpa using h10),if_pos h2]];have C18:=(((((hc.nil ([.n 0 i]:List Tg)).n c11).n c14).n c15).n c16).trans (c17);have Z18:Tg.z∉([.n 0 i]:List Tg):=by simp
    obtain⟨q1,q2,q3⟩:=K.isN 0 nb (.cells (Ax i ob { p with vo:=⟨BX p.vo v,Bk p.vo.vs v⟩ } { x with votes:=ys }) 95) 0 i (by kernel_rfl);rw[e1]at q1
    obtain⟨q4,q5,q6⟩:=K.isN 1 ob (.cells #[S3.v lt,S3.v tl] 65) 50 0 (by kernel_rfl);exact⟨_,rfl,⟨{ x with votes:=ys },lt,tl,⟨q1,q2,q3,hN.tape.ch C18 Z18,(((((hys.ch c11).ch c14).ch c15).ch c16).ch c17),Ba hN.heard C18 Z18,B0 hN.pend C18 Z18 (by simp),hN.queue.ch C18,hN.agreed.ch C18,hN.wants.ch C18,hN.asked.ch C18,hN.upm⟩,⟨q4,q5,q6,Dd hO.lets C18 Z18 (by simp),hO.told.ch C18⟩,K.new⟩,((((((hc.nil (TN i)).n c11).n c14).n c15).n c16).trans (c17.mono (by simp[TN])))⟩
   .refine qI ((!(decide (v∈p.vo.vs)))) true (by simpa using h2) ?_;refine qR [] 7 [12,0,2,4,6,0,8,2] λs19 g19 w19 c19=>?_;refine BG 52 (λg' w' e L=>∃ (tz:S3) (bT:Nat),e=[(0,pt nb 0),(5,pt bA 0),(7,pt bT 0),(8,iv (CN p.d p.sy (Am v) (B1 v)))]/\L=[⟨nb,.cells (Ax i ob p x) 95,.n 0 i,false⟩,⟨ob,.cells #[S3.v lt,S3.v tl] 65,.n 50 0,false⟩,⟨(s1 0),.cells #[iv v.slot,iv v.b.r,iv v.b.n,iv v.w.k,iv v.w.c,iv v.w.s,iv v.w.n,iv v.w.v] 138,.z,false⟩,⟨bA,.cells #[iv (BX p.vo v).r,iv (BX p.vo v).n,S3.v ys] 76,.l,false⟩,⟨bT,.cells #[S3.v tz,iv (Iw p.d p.sy (Am v) (B1 v))] 93,.l,false⟩]/\FSl g' w' tz (Gy p.d p.sy (Am v) (B1 v))/\FSv g' w' ys (Bk p.vo.vs v)/\Cg w.heap.size [] g w g' w') (by kernel_rfl) ?_ ?_
    .intro J hJ;refine Cu 5 9 (by kernel_rfl) ?_ ?_
     .refine Ae λKq22=>?_;have hS22:=(hN.tape.ch (((((hc.trans c11).trans c14).trans c15).trans c16).trans c19) (by simp)).s;have hB22:=hB.ch (((((hc.trans c11).trans c14).trans c15).trans c16).trans c19) (by simp);have hG22:∀ z,w19.heap.size<=z->g19.t z=.z:=λz hz=>(Kq22.new z hz).1;refine qC 5 (OP (s:=p.sy) (v:=v) hS22 (hB22.tt hT) (hB22.tn hT)) ?_;rintro e' w23 ⟨ts23,rfl,hy23,hn23,b23⟩;refine⟨_,rfl,b23,?_⟩;have c23:=Cg.ofBelow (B:=w.heap.size) (T:=[]) (g:=g19) b23;have hts23:FSl _ _ ts23 _:=⟨hy23,λhl a ha=>hG22 _ (hn23 hl a ha)⟩;refine qR [] 7 [12,14,16,19,1,0,21,4,0,22] λs24 g24 w24 c24=>?_;exact qB [true,true,true,true,true] λz K0 K=>hJ _ _ _ z _ ⟨ts23,(s24 0),rfl,rfl,(hts23.ch c24),(((((((hys.ch c11).ch c14).ch c15).ch c16).ch c19).ch c23).ch c24),(((((((hc.trans c11).trans c14).trans c15).trans c16).trans c19).trans c23).trans c24)⟩ K
     .refine qR [] 1 [1,0] λs25 g25 w25 c25=>?_;refine Ae λKq26=>?_;have hS26:=(hN.tape.ch ((((((hc.trans c11).trans c14).trans c15).trans c16).trans c19).trans c25) (by simp)).s;have hB26:=hB.ch ((((((hc.trans c11).trans c14).trans c15).trans c16).trans c19).trans c25) (by simp);have hG26:∀ z,w25.heap.size<=z->g25.t z=.z:=λz hz=>(Kq26.new z hz).1;refine qC 5 (OP (s:=p.sy) (v:=v) hS26 (hB26.tt hT) (hB26.tn hT)) ?_;rintro e' w27 ⟨ts27,rfl,hy27,hn27,b27⟩;refine⟨_,rfl,b27,?_⟩;have c27:=Cg.ofBelow (B:=w.heap.size) (T:=[]) (g:=g25) b27;have hts27:FSl _ _ ts27 _:=⟨hy27,λhl a ha=>hG26 _ (hn27 hl a ha)⟩;refine qR [] 6 [12,14,16,21,4,0,22] λs28 g28 w28 c28=>?_;exact qB [true,true,true,true,true] λz K0 K=>hJ _ _ _ z _ ⟨ts27,(s25 0),rfl,rfl,(hts27.ch c28),((((((((hys.ch c11).ch c14).ch c15).ch c16).ch c19).ch c25).ch c27).ch c28),((((((((hc.trans c11).trans c14).trans c15).trans c16).trans c19).trans c25).trans c27).trans c28)⟩ K
    .rintro g20 w20 _ z20 _ ⟨tz,bT,rfl,rfl,htz,hys,hc⟩;refine qR [] 6 [] λs29 g29 w29 c29=>?_;by_cases h3:CN p.d p.sy (Am v) (B1 v)≠0
     .refine qI (((CN p.d p.sy (Am v) (B1 v)) != 0)) true (by simpa using h3) ?_;refine qR [] 5 [] λs30 g30 w30 c30=>?_;refine qE (iv (CN p.d p.sy (Am v) (B1 v))) λK=>?_;rw[show p.vote v=(p,(CN p.d p.sy (Am v) (B1 v)))from by unfold Nod.vote;rw[if_neg (by simpa using h10),if_neg h2,if_pos h3]];exact⟨_,rfl,(nsC hN hO ((hc.n c29).n c30) K),(((hc.nil (TN i)).n c29).n c30)⟩
     .refine qI (((CN p.d p.sy (Am v) (B1 v)) != 0)) false (by simpa using h3) ?_;refine qR [.n 0 i] 21 [4,0,1,3,0,1] λs32 g32 w32 c32=>?_;refine qE (iv 0) λK=>?_;rw[show p.vote v=({ p with d:=Gy p.d p.sy (Am v) (B1 v),sy:=Iw p.d p.sy (Am v) (B1 v),vo:=⟨v.b,Bk p.vo.vs v⟩ },0)from by unfold Nod.vote;rw[if_neg (by simpa using h10),if_neg h2,if_neg h3]];have C33:=((hc.nil ([.n 0 i]:List Tg)).n c29).trans (c32);have Z33:Tg.z∉([.n 0 i]:List Tg):=by simp
      obtain⟨q1,q2,q3⟩:=K.isN 0 nb (.cells (Ax i ob { p with d:=Gy p.d p.sy (Am v) (B1 v),sy:=Iw p.d p.sy (Am v) (B1 v),vo:=⟨BX p.vo v,Bk p.vo.vs v⟩ } { x with votes:=ys,tape:=tz }) 95) 0 i (by kernel_rfl);rw[e1]at q1
      obtain⟨q4,q5,q6⟩:=K.isN 1 ob (.cells #[S3.v lt,S3.v tl] 65) 50 0 (by kernel_rfl);exact⟨_,rfl,⟨{ x with votes:=ys,tape:=tz },lt,tl,⟨q1,q2,q3,((htz.ch c29).ch c32),((hys.ch c29).ch c32),Ba hN.heard C33 Z33,B0 hN.pend C33 Z33 (by simp),hN.queue.ch C33,hN.agreed.ch C33,hN.wants.ch C33,hN.asked.ch C33,hN.upm⟩,⟨q4,q5,q6,Dd hO.lets C33 Z33 (by simp),hO.told.ch C33⟩,K.new⟩,(((hc.nil (TN i)).n c29).trans (c32.mono (by simp[TN])))⟩
theorem Ko(h:(p.promise b).2.2≠0):(p.promise b).1=p:=by
 unfold Nod.promise at h ⊢;split
 .rfl
 .rename_i h1
  rw[if_neg h1]at h
  split
  .rename_i h2;rw[if_pos h2]at h;exact absurd rfl h
  .rename_i h2
   rw[if_neg h2]at h
   split
   .rfl
   .rename_i h3;rw[if_neg h3]at h;exact absurd rfl h
theorem RR(h:(p.vote v).2≠0):(p.vote v).1=p:=by
 unfold Nod.vote at h ⊢;split
 .rfl
 .rename_i h1
  rw[if_neg h1]at h
  split
  .rename_i h2;rw[if_pos h2]at h;exact absurd rfl h
  .rename_i h2
   rw[if_neg h2]at h
   split
   .rfl
   .rename_i h3;rw[if_neg h3]at h;exact absurd rfl h
theorem GW(p:Nod)(b:Bal):(p.promise b).1.pend=p.pend:=by
 unfold Nod.promise
 repeat' split
 all_goals rfl
theorem Mb(p:Nod)(v:Vt):(p.vote v).1.pend=p.pend:=by
 unfold Nod.vote
 repeat' split
 all_goals rfl
theorem Hh(h:NS i nb ob g w p ls ts)(hB:Base w0 g w)(hT:Tabs w0)(lb:Nat)(l:Let)(hl:BW g w lb l)(hk:l.kind=0)(hb:p.pend.length<100000000) :
  Calls prog 41 #[pt nb 0,pt lb 0] w (NP i nb ob g w (.tuple #[]) (p.take l) ls ts):=by
 obtain⟨x,lt,tl,hN,hO,hg⟩:=h;refine gI (fn:=f41) (TN i) g func41 hg ?_;refine qN hN ?_;refine qO hO ?_;have hLL:=hl;obtain⟨vs,wh,hl1,hl2,hl3⟩:=hl;refine BF ⟨lb,.cells (Ev l vs wh) 140,.z,false⟩ (λ_=>⟨hl1.r,hl1.z,λh=>(by cases h),λh=>absurd rfl h⟩) (by kernel_rfl) ?_;refine qR [] 12 [0,0,0,0,5,0,3,2,4,4,6,8,2] λs1 g1 w1 c1=>?_;refine BG 27 (λg' w' e L=>∃ (yv:S3) (b4:Nat),e=[(2,pt (s1 0) 0),(3,pt (s1 1) 0),(4,pt b4 0),(5,iv (p.promise l.bal).2.2)]/\L=[⟨lb,.cells (Ev l vs wh) 140,.z,false⟩,⟨(s1 0),.cells #[pt nb 0] 68,.z,false⟩,⟨(s1 1),.cells #[pt lb 0] 141,.z,false⟩,⟨b4,.cells #[S3.v yv] 74,.l,false⟩]/\FSv g' w' yv (p.promise l.bal).2.1/\NS i nb ob g' w' (p.promise l.bal).1 ls ts/\Cg w.heap.size (TN i) g w g' w') (by kernel_rfl) ?_ ?_
 .intro J hJ;refine Cu 5 9 (by kernel_rfl) ?_ ?_
  .refine Ae λK=>?_;have N4:NS i nb ob g1 w1 p ls ts:=(nsC hN hO c1 K);refine qG 5 (TN i) [false,false,true,true,true] (Ey N4 (hB.ch (c1.nil (TN i)) (AW i)) hT l.bal) ?_;rintro e' w4 ⟨y4,g4,rfl,hy4,M4,c4⟩;refine⟨_,g4,rfl,c4,M4.new,?_⟩;replace c4:=c4.ret (B:=w.heap.size);refine qR [] 7 [12,14,16,19,1,0,21,3,0,22] λs6 g6 w6 c6=>?_;exact qB [true,true,true,true] λz K0 K=>hJ _ _ _ z _ ⟨y4,(s6 0),rfl,rfl,(hy4.ch c6),NS.ch0 M4 c6 K0.new,(((c1.nil (TN i)).trans (c4)).n c6)⟩ K
  .refine qR [] 1 [1,0] λs7 g7 w7 c7=>?_;refine Ae λK=>?_;have N8:NS i nb ob g7 w7 p ls ts:=(nsC hN hO (c1.n c7) K);refine qG 5 (TN i) [false,false,true,true,true,true] (Ey N8 (hB.ch ((c1.nil (TN i)).n c7) (AW i)) hT l.bal) ?_;rintro e' w8 ⟨y8,g8,rfl,hy8,M8,c8⟩;refine⟨_,g8,rfl,c8,M8.new,?_⟩;replace c8:=c8.ret (B:=w.heap.size);refine qR [] 6 [12,14,16,21,3,0,22] λs10 g10 w10 c10=>?_;exact qB [true,true,true,true] λz K0 K=>hJ _ _ _ z _ ⟨y8,(s7 0),rfl,rfl,(hy8.ch c10),NS.ch0 M8 c10 K0.new,((((c1.nil (TN i)).n c7).trans (c8)).n c10)⟩ K
 .rintro g2 w2 _ z2 _ ⟨yv,b4,rfl,rfl,hyv,hM,hc⟩;obtain⟨x1,lt1,tl1,hN1,hO1,hg1⟩:=hM;refine qN hN1 ?_;refine qO hO1 ?_;refine dp 3 b4 (by kernel_rfl) λg11 c11=>?_;refine qR [] 6 [] λs12 g12 w12 c12=>?_;by_cases h1:(p.promise l.bal).2.2≠0
  .refine qI (((p.promise l.bal).2.2 != 0)) true (by simpa using h1) ?_;refine qR [] 8 [6,0,1,2,2,4,6,8,0,10] λs13 g13 w13 c13=>?_;have hp:=Ko h1;rw[show p.take l=p.refuse l.src (p.promise l.bal).2.2 from by unfold Nod.take;rw[hk];exact if_pos h1];refine Ae λK=>?_;have N14:NS i nb ob g13 w13 ((p.promise l.bal).1) ls ts:=(nsC hN1 hO1 ((c11.n c12).n c13) K);rw[hp]at N14
   refine qS0 6 [true,true,true,true,false,false] (Kw N14 hb l.src (p.promise l.bal).2.2) λg14 w14 x14 lt14 tl14 hN14 hO14 c14=>?_;refine qR [] 1 [] λs16 g16 w16 c16=>?_;exact qF hN14 hO14 c16 ((((((hc).n c11).n c12).n c13).trans (c14)).n c16)
  .refine qI (((p.promise l.bal).2.2 != 0)) false (by simpa using h1) ?_;refine qR [] 4 [1] λs18 g18 w18 c18=>?_;rw[show p.take l=(p.promise l.bal).1.wait (.prom l.src l.bal (p.promise l.bal).2.1)from by unfold Nod.take;rw[hk];exact if_neg h1];refine Ae λK=>?_;obtain⟨z1,z2⟩:=K.isZ 1 (s1 0) (.cells #[pt nb 0] 68) false (by kernel_rfl);obtain⟨z3,z4⟩:=K.isZ 2 (s1 1) (.cells #[pt lb 0] 141) false (by kernel_rfl);obtain⟨z5,z6⟩:=K.isZ 3 b4 (.cells #[S3.v yv] 74) false (by kernel_rfl);have N19:NS i nb ob g18 w18 ((p.promise l.bal).1) ls ts:=(nsC hN1 hO1 ((c11.n c12).n c18) K);refine qS0 2 [true,true,true,true,false,false] (AG N19 (by rw[GW];exact hb) _ _ (.prom l.src l.bal (p.promise l.bal).2.1) ⟨(s1 0),(s1 1),b4,yv,lb,l,rfl,⟨z1,z2⟩,⟨z3,z4⟩,⟨z5,z6⟩,(((hyv.ch c11).ch c12).ch c18),hLL.ch ((((hc).n c11).n c12).n c18) (AW i),rfl,rfl⟩) λg19 w19 x19 lt19 tl19 hN19 hO19 c19=>?_;refine qR [] 1 [] λs21 g21 w21 c21=>?_;exact qF hN19 hO19 c21 ((((((hc).n c11).n c12).n c18).trans (c19)).n c21)
theorem Ip(h:NS i nb ob g w p ls ts)(hB:Base w0 g w)(hT:Tabs w0)(lb:Nat)(l:Let)(hl:BW g w lb l)(hk:l.kind=3)(hb:p.pend.length<100000000)(hb2:p.vo.vs.length<100000000) :
  Calls prog 44 #[pt nb 0,pt lb 0] w (NP i nb ob g w (.tuple #[]) (p.take l) ls ts):=by
 obtain⟨x,lt,tl,hN,hO,hg⟩:=h;refine gI (fn:=f44) (TN i) g func44 hg ?_;refine qN hN ?_;refine qO hO ?_;have hLL:=hl;obtain⟨vs,wh,hl1,hl2,hl3⟩:=hl;refine BF ⟨lb,.cells (Ev l vs wh) 140,.z,false⟩ (λ_=>⟨hl1.r,hl1.z,λh=>(by cases h),λh=>absurd rfl h⟩) (by kernel_rfl) ?_;refine qR [] 13 [0,0,0,0,5,0,3,2,4,4,6,8,2] λs1 g1 w1 c1=>?_;refine qS 5 [false,false,true,true,true] hN hO c1 (λN2=>LI N2 (hB.ch (c1.nil (TN i)) (AW i)) hT l.vote hb2) λg2 w2 x2 lt2 tl2 hN2 hO2 c2=>?_;refine qR [] 7 [12] λs4 g4 w4 c4=>?_;by_cases h1:(p.vote l.vote).2≠0
 .refine qI (((p.vote l.vote).2 != 0)) true (by simpa using h1) ?_;refine qR [] 8 [6,0,1,2,2,4,6,8,0,10] λs5 g5 w5 c5=>?_;have hp:=RR h1;rw[show p.take l=p.refuse l.src (p.vote l.vote).2 from by unfold Nod.take;rw[hk];exact if_pos h1];refine Ae λK=>?_;have N6:NS i nb ob g5 w5 ((p.vote l.vote).1) ls ts:=(nsC hN2 hO2 (c4.n c5) K);rw[hp]at N6
  refine qS0 6 [true,true,true,false,false] (Kw N6 hb l.src (p.vote l.vote).2) λg6 w6 x6 lt6 tl6 hN6 hO6 c6=>?_;refine qR [] 1 [] λs8 g8 w8 c8=>?_;exact qF hN6 hO6 c8 ((((((c1.nil (TN i)).trans (c2)).n c4).n c5).trans (c6)).n c8)
 .refine qI (((p.vote l.vote).2 != 0)) false (by simpa using h1) ?_;refine qR [] 4 [1] λs10 g10 w10 c10=>?_;rw[show p.take l=(p.vote l.vote).1.wait (.voted l.src l.vote)from by unfold Nod.take;rw[hk];exact if_neg h1];refine Ae λK=>?_;obtain⟨z1,z2⟩:=K.isZ 1 (s1 0) (.cells #[pt nb 0] 68) false (by kernel_rfl);obtain⟨z3,z4⟩:=K.isZ 2 (s1 1) (.cells #[pt lb 0] 141) false (by kernel_rfl);have N11:NS i nb ob g10 w10 ((p.vote l.vote).1) ls ts:=(nsC hN2 hO2 (c4.n c10) K);refine qS0 2 [true,true,true,false,false] (AG N11 (by rw[Mb];exact hb) _ _ (.voted l.src l.vote) ⟨(s1 0),(s1 1),lb,l,rfl,⟨z1,z2⟩,⟨z3,z4⟩,hLL.ch ((((c1.nil (TN i)).trans (c2)).n c4).n c10) (AW i),rfl,rfl⟩) λg11 w11 x11 lt11 tl11 hN11 hO11 c11=>?_;refine qR [] 1 [] λs13 g13 w13 c13=>?_;exact qF hN11 hO11 c13 ((((((c1.nil (TN i)).trans (c2)).n c4).n c10).trans (c11)).n c13)
theorem MM(h:NS i nb ob g w p ls ts)(lb:Nat)(l:Let)(hl:BW g w lb l)(hk:l.kind=5)(hb:p.pend.length<100000000)(hb2:p.agreed.length<100000000)(hb3:l.what.length<100000000) :
  Calls prog 46 #[pt nb 0,pt lb 0] w (NP i nb ob g w (.tuple #[]) (p.take l) ls ts):=by
 obtain⟨x,lt,tl,hN,hO,hg⟩:=h;refine gI (fn:=f46) (TN i) g func46 hg ?_;refine qN hN ?_;refine qO hO ?_;have hLL:=hl;have hn:=hN.agreed.num;obtain⟨vs,wh,hl1,hl2,hl3⟩:=hl;refine BF ⟨lb,.cells (Ev l vs wh) 140,.z,false⟩ (λ_=>⟨hl1.r,hl1.z,λh=>(by cases h),λh=>absurd rfl h⟩) (by kernel_rfl) ?_;refine qR [] 20 [0,0,0,0,11,0,4,2,4,6,2,8,3,10,12,14,16,0,18,20] λs1 g1 w1 c1=>?_;by_cases h1:p.agreed.length<l.slot
 .refine qI ((decide ((x.agreed.n:Int)<(l.slot:Int)))) true (I' (by omega)) ?_;refine qR [] 4 [3] λs2 g2 w2 c2=>?_;rw[show p.take l=p.wait (.askNews l.src)from by unfold Nod.take;rw[hk];exact if_pos h1];refine Ae λK=>?_;obtain⟨z1,z2⟩:=K.isZ 3 (s1 0) (.cells #[pt nb 0] 68) false (by kernel_rfl);obtain⟨z3,z4⟩:=K.isZ 4 (s1 1) (.cells #[pt lb 0] 141) false (by kernel_rfl);have N3:NS i nb ob g2 w2 p ls ts:=(nsC hN hO (c1.n c2) K);refine qS0 2 [false,false,true,true,true] (AG N3 hb _ _ (.askNews l.src) ⟨(s1 0),(s1 1),lb,l,rfl,⟨z1,z2⟩,⟨z3,z4⟩,hLL.ch ((c1.nil (TN i)).n c2) (AW i),rfl⟩) λg3 w3 x3 lt3 tl3 hN3 hO3 c3=>?_;refine qR [] 1 [] λs5 g5 w5 c5=>?_;exact qF hN3 hO3 c5 ((((c1.nil (TN i)).n c2).trans (c3)).n c5)
 .refine qI ((decide ((x.agreed.n:Int)<(l.slot:Int)))) false (D' (by omega)) ?_;refine qR [] 11 [9,0,3,2,4,4,6,8,2,10,4,12,14,16,2] λs7 g7 w7 c7=>?_;rw[show p.take l=p.learn l.slot l.what from by unfold Nod.take;rw[hk];exact if_neg h1];refine qS 9 [false,false,true,true,true] hN hO (c1.n c7) (λN8=>LC N8 l.slot l.what wh (hl3.ch ((c1.nil (TN i)).n c7) (AW i)) (by omega) hb2 hb3) λg8 w8 x8 lt8 tl8 hN8 hO8 c8=>?_;refine qR [] 1 [] λs10 g10 w10 c10=>?_;exact qF hN8 hO8 c10 ((((c1.nil (TN i)).n c7).trans (c8)).n c10)
end
end Go.Proofs.YtalbmmghmoggcabGreatDoor
