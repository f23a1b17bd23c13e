/- Part 24 of the walk. -/
import Derived.Lib.AppendZeros
import Derived.Test.YtalbmmghmoggcabGreatDoorZ23
set_option maxRecDepth 100000
set_option maxHeartbeats 4000000
open Go.Proofs.Tryz
set_option linter.unusedVariables false
namespace Go.Proofs.YtalbmmghmoggcabGreatDoor
open Go.RowKit
section
def LK(k:Nat):Int:=if k=1 then 2 else if k=2 then 1 else if k=3 then 4 else 0
variable{E c:Int}{key l:List Int}{w:World}{x y:S3}
theorem NTab.right(h:NTab w)(k:Nat)(h1:k<=3):w.cell? ⟨2,k*3,none⟩=some (.int .i64 (LK k)):=by
 rcases(by omega:k=0\/k=1\/k=2\/k=3)with rfl|rfl|rfl|rfl
 .exact h.cell 0 (by omega)
 .exact h.cell 3 (by omega)
 .exact h.cell 6 (by omega)
 .exact h.cell 9 (by omega)
theorem SE(k:Nat)(r:Int)(hk:k<=3)(h0:0<=r)(h1:r<=7):(bits .and .i64 r (LK k)=0)↔¬ Mg (k:Int) r:=by
 have all:∀ (i:Fin 4) (j:Fin 8),(bits .and .i64 ((j.val:Nat):Int) (LK i.val)=0)↔¬ Mg ((i.val:Nat):Int) ((j.val:Nat):Int):=by decide +kernel
 obtain⟨m,rfl⟩:=fO h0;exact all ⟨k,by omega⟩ ⟨m,by omega⟩
theorem Pm(tc tr tu k c s n v now:Int)(w:World)(ht:NTab w) :
  Calls prog 93 #[.agg (tkA tc tr tu),.agg (cmA k c s n v),.int .i64 now] w λe w'=>e=.returned (.int .i64 (DX tc tr tu k c s n v now))/\Bw w w':=by
 have b1:Bw w (w.alloc (.cells (tkA tc tr tu) 57)):=(Below.refl _ _).alloc (A' _) _;have bt:=Bt.made w tc tr tu;have z1:(w.alloc (.cells (tkA tc tr tu) 57)).heap.size=w.heap.size+1:=by simp
 have b2:Below (w.alloc (.cells (tkA tc tr tu) 57)).heap.size (w.alloc (.cells (tkA tc tr tu) 57)) ((w.alloc (.cells (tkA tc tr tu) 57)).alloc (.cells (cmA k c s n v) 53)):=(Below.refl _ _).alloc (A' _) _;have bc:=Bc.made (w.alloc (.cells (tkA tc tr tu) 57)) k c s n v;replace bt:=bt.below b2;have bb:=b1.trans (b2.mono b1.size);have hT:=ht.below bb;rw[z1]at bc
 clear b1 b2 ht z1;have hic:=F6 k c s n v;have hit:=Hk tc tr tu;generalize hW:(w.alloc (.cells (tkA tc tr tu) 57)).alloc (.cells (cmA k c s n v) 53)=W at bb bt bc hT;go_enter func93,ntmps93
 go_wp2_with (refine wpList_load_row rfl 57 _ rfl w.heap.size rfl 57 _ (0,0) _ bt.row underlying57 rfl hit ?_)
 clear hW;refine(Ic tc tr tu _).mono ?_;rintro e w1 ⟨rfl,b1⟩;have d1:Bw w w1:=bb.trans (b1.mono bb.size);replace bt:=bt.below b1;replace bc:=bc.below b1;replace hT:=hT.below b1;clear b1 bb;by_cases h1:CB tc tr tu
 .rw[I' h1];go_wp2_with (refine wpList_load_row rfl 53 _ rfl (w.heap.size+1) rfl 53 _ (0,0) _ bc.row underlying53 rfl hic ?_)
  refine(Dt k c s n v _ hT).mono ?_;rintro e w2 ⟨rfl,b2⟩;have d2:Bw w w2:=d1.trans (b2.mono d1.size);replace bt:=bt.below b2;replace bc:=bc.below b2;replace hT:=hT.below b2;clear b2 d1;by_cases h2:AU k c s n v=0
  .have hz:=F5 h2;obtain⟨m,rfl⟩:=fO hz.1.1;have k0:(0:Int)<=(m:Int):=by omega
   have k1:(m:Int)<4:=by omega
   have k2:m<4:=by omega
   have hR:=hT.right m (by omega);have hB:=SE m tr (by omega) h1.2.1.1 h1.2.1.2;obtain⟨c0,c1,c2,c3,c4⟩:=DZ bc.row;obtain⟨t0,t1,t2⟩:=Ir bt.row;have H1:Hid (CB tc tr tu):=h1;have H2:Hid (AU (m:Int) c s n v=0):=h2;rw[h2];clear h1 h2 hz bt bc hT;by_cases h3:c=tc
   .have h3':decide (c=tc)=true:=I' h3;by_cases h4:bits .and .i64 tr (LK m)=0
    .have HE:Hid (11=DX tc tr tu (m:Int) c s n v now):=(J1 H1.out H2.out (λg=>hB.1 h4 g.1)).symm;have H3:Hid (c=tc):=h3;clear hB H1 H2;subst h3;clear h3';generalize LK m=R at hR h4;go_wp2_with fail
     go_quiet (fail)
     have e1:Bw w (w2.drewN nq):=An d2 nq;generalize w2.drewN nq=w3 at e1 ⊢;go_wp2
     go_ret;exact⟨Az HE.out,e1⟩
    .have HR:Hid (Mg (m:Int) tr/\c=tc):=⟨Classical.not_not.1 λg=>h4 (hB.2 g),h3⟩;clear hB;subst h3;clear h3';generalize LK m=R at hR h4;go_wp2_with fail
     go_quiet (fail)
     have e1:Bw w (w2.drewN nq):=An d2 nq;have t2':(w2.drewN nq).cell? ⟨w.heap.size,2,none⟩=some (.int .i64 tu):=by simpa using t2
     generalize w2.drewN nq=w3 at e1 t2' ⊢;clear c0 c1 c2 c3 c4 t0 t1 t2 hR;go_wp2_with fail
     refine(Ei now tu _).mono ?_;rintro e w4 ⟨rfl,rfl⟩;by_cases h5:0<=now/\now<=tu
     .rw[I' h5];have HE:Hid (0=DX c tr tu (m:Int) c s n v now):=(Xl H1.out H2.out ⟨HR.out.1,rfl⟩ h5).symm;go_wp2
      go_ret;exact⟨Az HE.out,e1⟩
     .rw[D' h5];have HE:Hid (10=DX c tr tu (m:Int) c s n v now):=(Sa H1.out H2.out ⟨HR.out.1,rfl⟩ h5).symm;go_wp2
      go_ret;exact⟨Az HE.out,e1⟩
   .have h3':decide (c=tc)=false:=D' h3;have HE:Hid (11=DX tc tr tu (m:Int) c s n v now):=(J1 H1.out H2.out (λg=>h3 g.2)).symm;clear hB H1 H2;go_wp2_with fail
    go_quiet (fail)
    have e1:Bw w (w2.drewN nq):=An d2 nq;generalize w2.drewN nq=w3 at e1 ⊢;go_wp2
    go_ret;exact⟨Az HE.out,e1⟩
  .have HE:Hid (AU k c s n v=DX tc tr tu k c s n v now):=(Ud h1 h2).symm;go_wp2
   go_ret;exact⟨Az HE.out,d2⟩
 .rw[D' h1];have HE:Hid (2=DX tc tr tu k c s n v now):=(Ue h1).symm;go_wp2
  go_ret;exact⟨Az HE.out,d1⟩
theorem Vm(h0:0<=c)(ht:AA w)(hE:(if c<=7 then 0 else 2)=E) :
  Calls prog 36 #[iv c] w λe w'=>∃ y:S3,e=.returned (.tuple #[y.v,iv E])/\(E=0->Sl w' y.v (FI c))/\Bw w w':=by
 subst hE;by_cases h:c<=7
 .rw[if_pos h];refine(aQ c w h0 h ht).mono ?_;rintro e w' ⟨v,rfl,ho,hb⟩;obtain⟨y,rfl,hy⟩:=Fg ho (by rw[Fb];decide) (SL c);exact⟨y,rfl,λ_=>hy,hb⟩
 .rw[if_neg h];refine(aP c w (by omega)).mono ?_;rintro e w' ⟨rfl,rfl⟩;exact⟨s30,rfl,λh=>absurd h (by decide),Below.refl _ _⟩
theorem Ib(ht:AA w):Calls prog 34 #[] w λe w'=>∃ y:S3,e=.returned y.v/\Sl w' y.v FH/\Bw w w':=by
 refine(PU w ht).mono ?_;rintro e w' ⟨v,rfl,ho,hb⟩;obtain⟨y,rfl,hy⟩:=Fg ho (by rw[I7];decide) SH;exact⟨y,rfl,hy,hb⟩
theorem be(hk:Sl w x.v key)(hl:key.length=32) :
  Calls prog 155 #[x.v] w λe w'=>∃ y:S3,e=.returned (.tuple #[.agg #[y.v,iv 0,iv 0,.bool false,.bool false,.bool false,.bool false,.bool false,.bool false,.bool false,.bool false],iv 0])/\Sl w' y.v key/\Bw w w':=by
 refine(Ym x.v key w hk).mono ?_;rw[if_pos hl,if_pos hl];rintro e w' ⟨v,rfl,ho,hb⟩;obtain⟨y,rfl,hy⟩:=Fg ho hk.len hk.byte;exact⟨y,rfl,hy,hb⟩
theorem UM{l:List Bool}(h:l.length=8):∃ a b c d e f g k,l=[a,b,c,d,e,f,g,k]:=by
 match l,h with
 | [a,b,c,d,e,f,g,k],_=>exact⟨a,b,c,d,e,f,g,k,rfl⟩
theorem RK{r:List Int}(hk:Sl w x.v key)(hr:Sl w y.v r)(ht:Cf w)(hE:BS key 0 0 noB r=E) :
  Calls prog 156 #[.agg #[x.v,iv 0,iv 0,.bool false,.bool false,.bool false,.bool false,.bool false,.bool false,.bool false,.bool false],y.v] w λe w'=>∃ (c v:S3) (t:Int) (x0 x1 x2 x3 x4 x5 x6 x7:Bool),e=.returned (.tuple #[.agg #[c.v,iv 0,iv t,.bool x0,.bool x1,.bool x2,.bool x3,.bool x4,.bool x5,.bool x6,.bool x7],v.v,iv E])/\Sl w' v.v (if E=0 then IP key r else[])/\Bw w w':=by
 by_cases h:E=0
 .subst h;refine(YQ x.v key 0 0 noB y.v r w hk rfl hr ht hE _ rfl).mono ?_;rintro e w' ⟨v1,v2,rfl,h1,_,h2,hb⟩;obtain⟨c,rfl,_⟩:=RG h1;obtain⟨v,rfl,hv⟩:=RG h2;obtain⟨x0,x1,x2,x3,x4,x5,x6,x7,hx⟩:=UM (DH 0 noB (E2 (r.take 4)));rw[hx];exact⟨c,v,_,x0,x1,x2,x3,x4,x5,x6,x7,rfl,by rw[if_pos rfl];exact hv,hb⟩
 .refine(YP x.v key 0 0 noB y.v r w hk rfl hr ht E hE h).mono ?_;rintro e w' ⟨rfl,hb⟩;exact⟨s30,s30,0,false,false,false,false,false,false,false,false,rfl,by rw[if_neg h];exact D7 _,hb⟩
theorem Kr(hk:Sl w x.v key)(hb:Sl w y.v l)(ht:AA w)(hE:D6 key l=E) :
  Calls prog 124 #[x.v,y.v] w λe w'=>∃ a b c:Int,e=.returned (.tuple #[.agg #[iv a,iv b,iv c],iv E])/\(E=0->a=l.getD 0 0/\b=l.getD 1 0/\c=Ab l 2)/\Bw w w':=by
 subst hE;refine(Tk x.v y.v key l w hk hb ht).mono ?_;rintro e w' ⟨rfl,h⟩;by_cases h0:D6 key l=0
 .rw[RA h0];exact⟨_,_,_,rfl,λ_=>⟨rfl,rfl,rfl⟩,h⟩
 .rw[GX h0];exact⟨0,0,0,rfl,λg=>absurd g h0,h⟩
theorem Su(h:Sl w x.v l)(ht:NTab w)(hE:BY l=E) :
  Calls prog 125 #[x.v] w λe w'=>∃ m:Cmd,e=.returned (.tuple #[.agg #[iv m.k,iv m.c,iv m.s,iv m.n,iv m.v],iv E])/\(E=0->m=⟨Ab l 0,Ab l 4,Ab l 8,Ab l 12,Ab l 16⟩)/\Bw w w':=by
 subst hE;refine(JI x.v l w h ht).mono ?_;rintro e w' ⟨rfl,hb⟩;by_cases h0:BY l=0
 .rw[show IW l=_ from if_pos h0];exact⟨⟨Ab l 0,Ab l 4,Ab l 8,Ab l 12,Ab l 16⟩,rfl,λ_=>rfl,hb⟩
 .rw[show IW l=_ from if_neg h0];exact⟨⟨0,0,0,0,0⟩,rfl,λg=>absurd g h0,hb⟩
theorem Tb(h:Sl w x.v l)(hT:AA w)(hq:Cf w)(hE:Oq l=E){D:List Int}(hD:MB l=D) :
  Calls prog 123 #[x.v] w λe w'=>∃ y:S3,e=.returned (.tuple #[y.v,iv E])/\Sl w' y.v D/\Bw w w':=by
 have hn:=Im h;subst hE hD;refine kIn func123 ?_;refine kR 12 [] λσ1 w1 b1=>?_;by_cases h1:x.n=0
 .refine kI (((x.n:Int)==0)) true (by simp;omega) ?_;refine kR 5 [] λσ2 w2 b2=>?_;have B3:=(btr b1 b2);obtain rfl:l=[]:=fw (by omega);exact kE (.tuple #[S3.v s30,iv 13]) ⟨s30,rfl,D7 _,B3⟩
 .refine kI (((x.n:Int)==0)) false (by simp;omega) ?_;have hl0:¬ l=[]:=λe=>h1 (by rw[hn,e];rfl);obtain⟨bd,od,hix,hbs,hbc⟩:=OJ h (by omega);obtain⟨c,hc⟩:∃ c,l.getD 0 0=c:=⟨_,rfl⟩;have hcb:=Aj h.byte 0;rw[hc]at hbc hcb
  refine kR 4 [] λσ4 w4 b4=>?_;refine kV 1 (pt bd od) (hix _) ?_;have B6:=(btr b1 b4);refine kV 2 (.int .u8 c) (CJ underlying5 rfl ((Below.cell B6 (p:=⟨bd,od,none⟩) hbs).trans hbc)) ?_;refine kV 3 (iv c) (rUi hcb) ?_;obtain⟨E1,hE1⟩:∃ E1:Int,(if c<=7 then 0 else 2)=E1:=⟨_,rfl⟩;refine kC 4 (Vm hcb.1 (hT.below B6) hE1) ?_;rintro _ w9 ⟨yk,rfl,hyk,b9⟩;refine⟨_,rfl,b9,?_⟩;refine kR 12 [] λσ10 w10 b10=>?_;by_cases h2:E1≠0
  .refine kI ((E1 != 0)) true (by simpa using h2) ?_;refine kR 6 [] λσ11 w11 b11=>?_;have B12:=(btr (btr (btr B6 b9) b10) b11);have h7:¬ c<=7:=λg=>h2 (by rw[<- hE1,if_pos g]);have hE2:E1=2:=by rw[<- hE1,if_neg h7]
   have hO:Oq l=2:=(if_neg hl0).trans (if_pos (by rw[hc];omega));rw[hO,show MB l=[]from if_neg (by rw[hO];decide),hE2];exact kE (.tuple #[S3.v s30,iv 2]) ⟨s30,rfl,D7 _,B12⟩
  .refine kI ((E1 != 0)) false (by simpa using h2) ?_;have h20:E1=0:=by simpa using h2
   have h7:c<=7:=by by_cases g:c<=7;exact g;rw[if_neg g,h20]at hE1;cases hE1
   have hyk1:=hyk h20;refine kR 4 [] λσ13 w13 b13=>?_;refine kC 1 (be ((hyk1.below b10).below b13) (Fb c)) ?_;rintro _ w14 ⟨yc,rfl,hyc,b14⟩;refine⟨_,rfl,b14,?_⟩;obtain⟨y1,hy1,hyb,_⟩:=slB h 1 (by omega);obtain⟨E,hE⟩:∃ E,BS (FI c) 0 0 noB (l.drop 1)=E:=⟨_,rfl⟩;refine kR 19 [0,0,0,0,3,0,0,2] λσ15 w15 b15=>?_;refine kT 2 (S3.v y1) (λ_=>(hy1 _)) ?_;refine Vl 41 (λw' e L=>∃ (v:S3) (b7:Nat) (cs:Array Value),e=[(8,S3.v v),(5,iv E)]/\L=[⟨(σ15 0),.cells #[S3.v yc,iv 0,iv 0,.bool false,.bool false,.bool false,.bool false,.bool false,.bool false,.bool false,.bool false] 109,.z,false⟩,⟨b7,.cells cs 109,.l,false⟩]/\Sl w' v.v (if E=0 then IP (FI c) (l.drop 1)else[])/\Bw w w') ?_ ?_
   .intro J hJ;refine SK 3 8 ?_ ?_
    .have B19:=(btr (btr (btr (btr (btr B6 b9) b10) b13) b14) b15);refine kC 3 (RK (hyc.below b15) (hyb.below B19) (hq.below hq.pos B19) hE) ?_;rintro _ w20 ⟨cc20,v20,t20,x0,x1,x2,x3,x4,x5,x6,x7,rfl,hv20,b20⟩;refine⟨_,rfl,b20,?_⟩;refine kR 9 [8,10,12,14,17,1,0,19,1,0,20,22] λσ21 w21 b21=>?_;have B22:=(btr (btr B19 b20) b21);exact kB [true,true] λz K=>hJ _ _ z _ ⟨v20,(σ21 0),#[S3.v cc20,iv 0,iv t20,.bool x0,.bool x1,.bool x2,.bool x3,.bool x4,.bool x5,.bool x6,.bool x7],rfl,rfl,(hv20.below b21),B22⟩ K
    .refine kR 1 [1,0] λσ23 w23 b23=>?_;have B24:=(btr (btr (btr (btr (btr (btr B6 b9) b10) b13) b14) b15) b23);refine kC 3 (RK ((hyc.below b15).below b23) (hyb.below B24) (hq.below hq.pos B24) hE) ?_;rintro _ w25 ⟨cc25,v25,t25,x0,x1,x2,x3,x4,x5,x6,x7,rfl,hv25,b25⟩;refine⟨_,rfl,b25,?_⟩;refine kF 8 [8,10,12,14,19,1,0,20,22] λσ26 w26 b26 q26=>?_;have B27:=((btr B24 b25).trans b26);exact kB [true,true] λz K=>hJ _ _ z _ ⟨v25,(σ23 0),#[S3.v cc25,iv 0,iv t25,.bool x0,.bool x1,.bool x2,.bool x3,.bool x4,.bool x5,.bool x6,.bool x7],rfl,rfl,(hv25.kept q26),B27⟩ K
   .rintro w17 _ z17 _ ⟨v,b7,cs,rfl,rfl,hv,hb⟩;refine kR 7 [] λσ28 w28 b28=>?_;have B29:=(btr hb b28);have hO:Oq l=E:=(if_neg hl0).trans ((if_neg (by rw[hc];omega)).trans (by rw[hc];exact hE));have hOL:MB l=(if E=0 then IP (FI c) (l.drop 1)else[]):=by unfold MB;rw[hO,hc]
    rw[hO,hOL];exact kE (.tuple #[S3.v v,iv E]) ⟨v,rfl,(hv.below b28),B29⟩
theorem Pa(h:Sl w x.v l)(hT:AA w)(hq:Cf w)(hN:NTab w)(hE:unE l=E) :
  Calls prog 92 #[x.v] w λe w'=>∃ (a b c:Int) (m:Cmd),e=.returned (.tuple #[.agg #[iv a,iv b,iv c],.agg #[iv m.k,iv m.c,iv m.s,iv m.n,iv m.v],iv E])/\(E=0->a=(unT l).getD 0 0/\b=(unT l).getD 1 0/\c=Ab (unT l) 2/\m=⟨Ab (unQ l) 0,Ab (unQ l) 4,Ab (unQ l) 8,Ab (unQ l) 12,Ab (unQ l) 16⟩)/\Bw w w':=by
 obtain⟨E0,hE0⟩:∃ E0,Oq l=E0:=⟨_,rfl⟩;obtain⟨D,hD⟩:∃ D,MB l=D:=⟨_,rfl⟩;unfold unT unQ;unfold unE unT unQ at hE;rw[hD]at hE ⊢
 rw[hE0]at hE
 refine kIn func92 ?_;refine kR 9 [1,0,1,0] λσ1 w1 b1=>?_;refine kC 1 (Tb (h.below b1) (hT.below b1) (hq.below hq.pos b1) hE0 hD) ?_;rintro _ w2 ⟨y,rfl,hy,b2⟩;refine⟨_,rfl,b2,?_⟩;have hyn:=Im hy;refine kR 12 [] λσ3 w3 b3=>?_;by_cases h1:E0≠0
 .refine kI ((E0 != 0)) true (by simpa using h1) ?_;refine kF 9 [0,0,1,0] λσ4 w4 b4 q4=>?_;have B5:=((btr (btr b1 b2) b3).trans b4);have hEE:E0=E:=by rw[<- hE];rw[if_pos h1]
  rw[<- hEE];exact qE5 2 3 4 57 53 0 (σ1 0) 1 (σ1 1) #[iv 0,iv 0,iv 0] #[iv 0,iv 0,iv 0,iv 0,iv 0] (iv E0) λK=>⟨0,0,0,⟨0,0,0,0,0⟩,rfl,λh=>absurd h (by exact h1),B5⟩
 .refine kI ((E0 != 0)) false (by simpa using h1) ?_;rw[if_neg h1]at hE
  refine kR 8 [] λσ6 w6 b6=>?_;by_cases h2:y.n≠42
  .refine kI (((y.n:Int) != 42)) true (by simp;omega) ?_;refine kF 8 [0,0,1,0] λσ7 w7 b7 q7=>?_;have B8:=((btr (btr (btr b1 b2) b3) b6).trans b7);have hEE:3=E:=by rw[<- hE];rw[if_pos (by omega)]
   rw[<- hEE];exact qE5 2 3 4 57 53 0 (σ1 0) 1 (σ1 1) #[iv 0,iv 0,iv 0] #[iv 0,iv 0,iv 0,iv 0,iv 0] (iv 3) λK=>⟨0,0,0,⟨0,0,0,0,0⟩,rfl,λh=>absurd h (by decide),B8⟩
  .refine kI (((y.n:Int) != 42)) false (by simp;omega) ?_;rw[if_neg (by omega)]at hE
   obtain⟨y1,hy1,hyb⟩:=slT hy 22 (by omega);obtain⟨E1,hE1⟩:∃ E1,D6 FH (D.take 22)=E1:=⟨_,rfl⟩;rw[hE1]at hE
   refine kR 4 [10,2] λσ9 w9 b9=>?_;refine kT 2 (S3.v y1) (λ_=>(hy1 _)) ?_;refine Vl 45 (λw' e L=>∃ (a b c:Int) (b7:Nat),e=[(2,pt (σ1 0) 0),(3,pt (σ1 1) 0),(5,S3.v y),(6,iv E1),(7,pt b7 0)]/\L=[⟨(σ1 0),.cells #[iv 0,iv 0,iv 0] 57,.l,false⟩,⟨(σ1 1),.cells #[iv 0,iv 0,iv 0,iv 0,iv 0] 53,.l,false⟩,⟨b7,.cells #[iv a,iv b,iv c] 57,.l,false⟩]/\(E1=0->a=(D.take 22).getD 0 0/\b=(D.take 22).getD 1 0/\c=Ab (D.take 22) 2)/\Sl w' y.v D/\Bw w w') ?_ ?_
   .intro J hJ;refine SK 0 7 ?_ ?_
    .have B13:=(btr (btr (btr (btr b1 b2) b3) b6) b9);refine kC 0 (Ib (hT.below B13)) ?_;rintro _ w14 ⟨yi14,rfl,hyi14,b14⟩;refine⟨_,rfl,b14,?_⟩;refine SK 3 7 ?_ ?_
     .have B17:=(btr B13 b14);refine kC 3 (Kr hyi14 ((((hyb.below b3).below b6).below b9).below b14) (hT.below B17) hE1) ?_;rintro _ w18 ⟨a18,c18,d18,rfl,hp18,b18⟩;refine⟨_,rfl,b18,?_⟩;refine kR 7 [8,10,12,15,1,0,17,2,0,18] λσ19 w19 b19=>?_;have B20:=(btr (btr B17 b18) b19);exact kB [true,true,true] λz K=>hJ _ _ z _ ⟨a18,c18,d18,(σ19 0),rfl,rfl,hp18,((((((hy.below b3).below b6).below b9).below b14).below b18).below b19),B20⟩ K
     .refine kR 1 [1,0] λσ21 w21 b21=>?_;have B22:=(btr (btr B13 b14) b21);refine kC 3 (Kr (hyi14.below b21) (((((hyb.below b3).below b6).below b9).below b14).below b21) (hT.below B22) hE1) ?_;rintro _ w23 ⟨a23,c23,d23,rfl,hp23,b23⟩;refine⟨_,rfl,b23,?_⟩;refine kF 6 [8,10,12,17,2,0,18] λσ24 w24 b24 q24=>?_;have B25:=((btr B22 b23).trans b24);exact kB [true,true,true] λz K=>hJ _ _ z _ ⟨a23,c23,d23,(σ21 0),rfl,rfl,hp23,(((((((hy.below b3).below b6).below b9).below b14).below b21).below b23).kept q24),B25⟩ K
    .refine kR 1 [1,0] λσ26 w26 b26=>?_;have B27:=(btr (btr (btr (btr (btr b1 b2) b3) b6) b9) b26);refine kC 0 (Ib (hT.below B27)) ?_;rintro _ w28 ⟨yi28,rfl,hyi28,b28⟩;refine⟨_,rfl,b28,?_⟩;have B30:=(btr B27 b28);refine kC 3 (Kr hyi28 (((((hyb.below b3).below b6).below b9).below b26).below b28) (hT.below B30) hE1) ?_;rintro _ w31 ⟨a31,c31,d31,rfl,hp31,b31⟩;refine⟨_,rfl,b31,?_⟩;refine kF 6 [8,10,12,17,2,0,18] λσ32 w32 b32 q32=>?_;have B33:=((btr B30 b31).trans b32);exact kB [true,true,true] λz K=>hJ _ _ z _ ⟨a31,c31,d31,(σ26 0),rfl,rfl,hp31,(((((((hy.below b3).below b6).below b9).below b26).below b28).below b31).kept q32),B33⟩ K
   .rintro w11 _ z11 _ ⟨a,b,c,b7,rfl,rfl,hp,hyx,hb⟩;refine kR 6 [] λσ34 w34 b34=>?_;by_cases h3:E1≠0
    .refine kI ((E1 != 0)) true (by simpa using h3) ?_;refine kF 9 [0,0,1,0] λσ35 w35 b35 q35=>?_;have B36:=((btr hb b34).trans b35);have hEE:E1=E:=by rw[<- hE];rw[if_pos h3]
     rw[<- hEE];exact qE5 2 3 4 57 53 0 (σ1 0) 1 (σ1 1) #[iv 0,iv 0,iv 0] #[iv 0,iv 0,iv 0,iv 0,iv 0] (iv E1) λK=>⟨0,0,0,⟨0,0,0,0,0⟩,rfl,λh=>absurd h (by exact h3),B36⟩
    .refine kI ((E1 != 0)) false (by simpa using h3) ?_;have h30:E1=0:=by simpa using h3
     rw[if_neg h3]at hE
     obtain⟨y3,hy3,hyd⟩:=slB (hyx.below b34) 22 (by omega);refine kR 4 [] λσ37 w37 b37=>?_;refine kV 1 (S3.v y3) (hy3 _) ?_;have B39:=(btr (btr hb b34) b37);refine kC 2 (Su (hyd.1.below b37) (hN.below B39) hE) ?_;rintro _ w40 ⟨m,rfl,hm,b40⟩;refine⟨_,rfl,b40,?_⟩;refine kR 11 [0,0,3,0,3,0,2,4] λσ41 w41 b41=>?_;refine Vl 45 (λw' e L=>∃ (_:Unit),e=[(2,pt (σ1 0) 0),(3,pt (σ1 1) 0),(4,iv E)]/\L=[⟨(σ1 0),.cells #[iv a,iv b,iv c] 57,.l,false⟩,⟨(σ1 1),.cells #[iv m.k,iv m.c,iv m.s,iv m.n,iv m.v] 53,.l,false⟩,⟨b7,.cells #[iv a,iv b,iv c] 57,.l,false⟩,⟨(σ41 0),.cells #[iv m.k,iv m.c,iv m.s,iv m.n,iv m.v] 53,.z,false⟩]/\Bw w w') ?_ ?_
     .intro J hJ;refine SK 1 3 ?_ ?_
      .refine kF 5 [3,7,0,0,9,1,0,10] λσ43 w43 b43 q43=>?_;have B44:=((btr (btr B39 b40) b41).trans b43);exact kB [true,true,true,true] λz K=>hJ _ _ z _ ⟨(),rfl,rfl,B44⟩ K
      .refine kF 5 [0,0,3,3,9,1,0,10] λσ45 w45 b45 q45=>?_;have B46:=((btr (btr B39 b40) b41).trans b45);exact kB [true,true,true,true] λz K=>hJ _ _ z _ ⟨(),rfl,rfl,B46⟩ K
     .rintro w42 _ z42 _ ⟨_,rfl,rfl,hb2⟩;exact qE5 2 3 4 57 53 0 (σ1 0) 1 (σ1 1) #[iv a,iv b,iv c] #[iv m.k,iv m.c,iv m.s,iv m.n,iv m.v] (iv E) λK=>⟨a,b,c,m,rfl,λh=>⟨(hp h30).1,(hp h30).2.1,(hp h30).2.2,hm h⟩,hb2⟩
theorem Lm{a b:Int}{m:Cmd}{now:Int}(ht:NTab w){F:Int}(hF:DX a b c m.k m.c m.s m.n m.v now=F):Calls prog 93 #[.agg #[iv a,iv b,iv c],.agg #[iv m.k,iv m.c,iv m.s,iv m.n,iv m.v],iv now] w λe w'=>e=.returned (iv F)/\Bw w w':=by subst hF;exact Pm a b c m.k m.c m.s m.n m.v now w ht
theorem ST(v:Value)(l:List Int)(now:Int)(w:World)(h:Sl w v l)(hT:AA w)(hq:Cf w)(hN:NTab w) :
  Calls prog 48 #[v,iv now] w λe w'=>e=.returned (.tuple #[.agg (opA l now),iv (opE l now)])/\Bw w w':=by
 obtain⟨x,rfl,h⟩:=RG h;obtain⟨E,hE⟩:∃ E,unE l=E:=⟨_,rfl⟩;have hEx:=hE;refine kIn func48 ?_;refine kR 8 [1,0] λσ1 w1 b1=>?_;refine kC 1 (Pa (h.below b1) (hT.below b1) (hq.below hq.pos b1) (hN.below b1) hE) ?_;rintro _ w2 ⟨a,b,c,m,rfl,hm,b2⟩;refine⟨_,rfl,b2,?_⟩;refine kR 16 [0,0,0,0,1,0,2,0] λσ3 w3 b3=>?_;by_cases h1:E≠0
 .refine kI ((E != 0)) true (by simpa using h1) ?_;refine kF 7 [0,0] λσ4 w4 b4 q4=>?_;have hO:opE l now=E:=(if_pos (by rw[hE];exact h1)).trans hE;rw[MA (by rw[hO];exact h1),hO];have B5:=((btr (btr b1 b2) b3).trans b4);exact qE2 4 5 53 0 (σ1 0) #[iv 0,iv 0,iv 0,iv 0,iv 0] (iv E) λK=>⟨rfl,B5⟩
 .refine kI ((E != 0)) false (by simpa using h1) ?_;have h10:E=0:=by simpa using h1
  obtain⟨ha,hb_,hc,hmm⟩:=hm h10;have hlp:0<l.length:=ew (hE.trans h10);have hU:¬ unE l≠0:=by rw[hE,h10];simp
  obtain⟨e1,e2⟩:m.k=Ab (unQ l) 0/\m.c=Ab (unQ l) 4:=by rw[hmm];exact⟨rfl,rfl⟩
  refine kR 6 [12,0,2,2] λσ6 w6 b6=>?_;by_cases h2:m.k≠0
  .refine kT 2 (.bool true) (λ_=>(E7 (t:=3) (m:=m.k) (n:=0) (x:=(.tmp 21)) (y:=(.const (iv 0))) (by simpa using h2))) ?_;obtain⟨bd,od,hix,hbs,hbc⟩:=OJ h hlp;obtain⟨cl,hcl⟩:∃ cl,l.getD 0 0=cl:=⟨_,rfl⟩;have hcb:=Aj h.byte 0;rw[hcl]at hbc hcb
   refine kR 4 [6,8,10,2,12] λσ7 w7 b7=>?_;refine kT 7 (pt bd od) (λ_=>(hix _)) ?_;have B9:=(btr (btr (btr (btr b1 b2) b3) b6) b7);refine kV 8 (.int .u8 cl) (CJ underlying5 rfl ((Below.cell B9 (p:=⟨bd,od,none⟩) hbs).trans hbc)) ?_;refine kT 9 (iv cl) (λ_=>(rUi hcb)) ?_;by_cases h3:m.c≠cl
   .refine kT 10 (.bool true) (λ_=>(E7 (t:=3) (m:=m.c) (n:=cl) (x:=(.tmp 25)) (y:=(.tmp 29)) (by simpa using h3))) ?_;refine kF 9 [22,0,0] λσ12 w12 b12 q12=>?_;have hO:opE l now=11:=(if_neg hU).trans (if_pos ⟨by rw[<- e1];exact h2,by rw[<- e2,hcl];exact h3⟩);rw[MA (by rw[hO];decide),hO];have B13:=(B9.trans b12);exact qE2 4 5 53 0 (σ1 0) #[iv 0,iv 0,iv 0,iv 0,iv 0] (iv 11) λK=>⟨rfl,B13⟩
   .refine kT 10 (.bool false) (λ_=>(E7 (t:=3) (m:=m.c) (n:=cl) (x:=(.tmp 25)) (y:=(.tmp 29)) (by simpa using h3))) ?_;refine kR 10 [22,1,2] λσ14 w14 b14=>?_;obtain⟨F,hF⟩:∃ F,DX a b c m.k m.c m.s m.n m.v now=F:=⟨_,rfl⟩;have hO:opE l now=F:=(if_neg hU).trans ((if_neg (λg=>g.2 (by rw[<- e2,hcl];simpa using h3))).trans (by rw[<- hF,ha,hb_,hc,hmm]));have B15:=(btr B9 b14);refine kC 3 (Lm (hN.below B15) hF) ?_;rintro _ w16 ⟨rfl,b16⟩;refine⟨_,rfl,b16,?_⟩;refine kR 7 [] λσ17 w17 b17=>?_;by_cases h4:F≠0
    .refine kI ((F != 0)) true (by simpa using h4) ?_;refine kF 7 [0,0] λσ18 w18 b18 q18=>?_;rw[MA (by rw[hO];exact h4),hO];have B19:=((btr (btr B15 b16) b17).trans b18);exact qE2 4 5 53 0 (σ1 0) #[iv 0,iv 0,iv 0,iv 0,iv 0] (iv F) λK=>⟨rfl,B19⟩
    .refine kI ((F != 0)) false (by simpa using h4) ?_;have h40:F=0:=by simpa using h4
     refine kF 7 [2,0,0] λσ20 w20 b20 q20=>?_;rw[show opA l now=#[iv m.k,iv m.c,iv m.s,iv m.n,iv m.v]from(VD (hO.trans h40)).trans (by rw[hmm];rfl),hO,h40];have B21:=((btr (btr B15 b16) b17).trans b20);exact qE2 4 5 53 0 (σ1 0) #[iv m.k,iv m.c,iv m.s,iv m.n,iv m.v] (iv 0) λK=>⟨rfl,B21⟩
  .refine kT 2 (.bool false) (λ_=>(E7 (t:=3) (m:=m.k) (n:=0) (x:=(.tmp 21)) (y:=(.const (iv 0))) (by simpa using h2))) ?_;refine kR 18 [6,8,10,12,14,16,18,20,22,1,2] λσ22 w22 b22=>?_;obtain⟨F,hF⟩:∃ F,DX a b c m.k m.c m.s m.n m.v now=F:=⟨_,rfl⟩;have hO:opE l now=F:=(if_neg hU).trans ((if_neg (λg=>g.1 (by rw[<- e1];simpa using h2))).trans (by rw[<- hF,ha,hb_,hc,hmm]));have B23:=(btr (btr (btr (btr b1 b2) b3) b6) b22);refine kC 3 (Lm (hN.below B23) hF) ?_;rintro _ w24 ⟨rfl,b24⟩;refine⟨_,rfl,b24,?_⟩;refine kR 7 [] λσ25 w25 b25=>?_;by_cases h4:F≠0
   .refine kI ((F != 0)) true (by simpa using h4) ?_;refine kF 7 [0,0] λσ26 w26 b26 q26=>?_;rw[MA (by rw[hO];exact h4),hO];have B27:=((btr (btr B23 b24) b25).trans b26);exact qE2 4 5 53 0 (σ1 0) #[iv 0,iv 0,iv 0,iv 0,iv 0] (iv F) λK=>⟨rfl,B27⟩
   .refine kI ((F != 0)) false (by simpa using h4) ?_;have h40:F=0:=by simpa using h4
    refine kF 7 [2,0,0] λσ28 w28 b28 q28=>?_;rw[show opA l now=#[iv m.k,iv m.c,iv m.s,iv m.n,iv m.v]from(VD (hO.trans h40)).trans (by rw[hmm];rfl),hO,h40];have B29:=((btr (btr B23 b24) b25).trans b28);exact qE2 4 5 53 0 (σ1 0) #[iv m.k,iv m.c,iv m.s,iv m.n,iv m.v] (iv 0) λK=>⟨rfl,B29⟩
theorem Lx(ls:List (List Int))(j:Nat)(h:j<ls.length):(ls.take (j+1)).flatten=(ls.take j).flatten++ls.getD j []:=by
 rw[fJ h,List.flatten_append];simp[List.getD,List.getElem?_eq_getElem h]
theorem Rn(ls:List (List Int))(h:∀ l∈ls,l.length<=1000):ls.flatten.length<=1000*ls.length:=by
 induction ls with
 | nil=>simp
 | cons x r ih =>
  have h1:=h x (by simp);have h2:=ih (λl hl=>h l (by simp[hl]));simp only[List.flatten_cons,N',fR];omega
theorem KP(n:Nat):(Builtin.zeroCells (Value.int .u8 0).cells n).size=n:=by
 simp[Builtin.zeroCells,Value.cells]
theorem Vc(n:Nat)(w:World)(h0:0<n)(h1:n<=20000) :
  Calls prog 78 #[.slice none 0 0,.int .i64 (n:Int)] w λe w'=>∃ v',e=.returned v'/\w'.ownsRow w.heap.size 5 1 v' 0 []/\Bw w w':=by
 obtain⟨i0,hi,hz0,hz1,hz2⟩:=info_parts As;have hr:=λty=>Lib.run_append_nil_zeros (P:=prog) w 25 3 ty 5 i0 (.int .u8 0) .i64 .i64 underlying25 underlying3 hi hz0 n h0 (by rw[hz1];decide) (by omega) (by rw[hz2];omega);have hge:=grownCap_ge w n 0 5;have hcm:=grownCap_le_maxLen w n 0 5 (by unfold maxLen;omega);have hcs:(Builtin.zeroCells (Value.int .u8 0).cells n++Builtin.zeroCells (Value.int .u8 0).cells (grownCap w n 0 5-n)).size=grownCap w n 0 5*1:=by rw[Array.size_append,KP,KP];omega
 generalize Builtin.zeroCells (Value.int .u8 0).cells n++Builtin.zeroCells (Value.int .u8 0).cells (grownCap w n 0 5-n)=Z at hr hcs;generalize grownCap w n 0 5=cap at hr hcs hge hcm;have bb:Bw w (w.drew.alloc (.cells Z 5)):=((Below.refl w.heap.size w).drew).alloc (by exact A' _) _;have rr:(w.drew.alloc (.cells Z 5)).heap[w.heap.size]?=some (.cells Z 5):=heap_alloc_new _ _;generalize w.drew.alloc (.cells Z 5)=W at hr bb rr;have ho:W.ownsRow w.heap.size 5 1 (.slice (some ⟨w.heap.size,0,none⟩) 0 cap) 0 []:=⟨by simp,.inr ⟨w.heap.size,cap,Z,rfl,A' _,rr,by omega,hcm,hcs,by simp⟩⟩;have hsl:∀ W',(Instr.slice 25 (.slice (some ⟨w.heap.size,0,none⟩) n cap) none (some (.int .i64 0)) none).run prog W'=.ok (.slice (some ⟨w.heap.size,0,none⟩) 0 cap) W':=λW'=>by
  rw[run_slice_h (P:=prog) W' 25 (some ⟨w.heap.size,0,none⟩) n cap underlying25 .i64 0 (by omega) (by omega)];have e:prog.elem 25=5:=by kernel_rfl
  rw[e,Gu];simp[Result.andThen,sliced,Addr.add_mid]
 have hpos:(0:Int)<(n:Int):=by omega
 clear rr hcs hcm hge hi hz0 hz1 hz2;go_enter func78,ntmps78
 go_wp2_with (at_builtin;refine Lib.wpList_append_run _ rfl _ _ _ _ rfl _ _ rfl rfl _ _ (hr _) ?_)
 go_ret;exact⟨_,rfl,ho,bb⟩
theorem P5(g n cap:Nat)(vs:List Value)(ls:List (List Int))(w:World)(hg:g<w.heap.size)(hn:n<=10)(hls:ls.length=n)(hc:∀ i,i<n->w.cell? ⟨g,i,none⟩=some (vs.getD i undef))(hs:∀ i,i<n->Sl w (vs.getD i undef) (ls.getD i []))(hl:∀ l∈ls,l.length<=1000)(hp:0<ls.flatten.length) :
  Calls prog 38 #[.slice (some ⟨g,0,none⟩) n cap] w λe w'=>∃ v',e=.returned v'/\w'.ownsRow w.heap.size 5 1 v' ls.flatten.length (ls.flatten.map (Value.int .u8))/\Bw w w':=by
 have HLS:Hid (ls.length=n):=hls;have HC:Hid _:=hc;have HS:Hid _:=hs;have HL:Hid _:=hl;have HP:Hid _:=hp;clear hls hc hs hl hp;go_enter func38,ntmps38
 go_wp2_with fail
 go_loopw [3,11] (λsv i wr=>∃ j:Nat,j<=n/\i=.int .i64 j/\sv=.int .i64 ((ls.take j).flatten.length:Int)/\w=wr) (λ_ i _=>n-(intOf i).toNat)
 case atStart=>exact⟨0,by omega,rfl,by simp,rfl⟩
 case round =>
  obtain⟨j,hj,rfl,rfl,rfl⟩:=hrel;have hfl:=Rn (ls.take j) (λl hl=>HL.out l (fK hl));by_cases hjn:j<n
  .have hf2:(ls.take j).flatten.length<=10000:=by rw[fx]at hfl;omega
   have HF:Hid ((ls.take (j+1)).flatten.length=(ls.take j).flatten.length+(ls.getD j []).length):=by unfold Hid;rw[Lx ls j (by rw[HLS.out];exact hjn),N']
   have sj:=HS.out j hjn;have cj:=HC.out j hjn;have hlj:(ls.getD j []).length<=1000:=by
    have hj2:j<ls.length:=by rw[HLS.out];exact hjn
    have:ls.getD j []=ls[j]:=by simp[List.getD,List.getElem?_eq_getElem hj2]
    rw[this];exact HL.out _ (fU hj2)
   generalize vs.getD j undef=vj at sj cj;generalize ls.getD j []=lj at sj HF hlj;generalize (ls.take j).flatten.length=pre at HF hf2;clear hfl;obtain⟨⟨aj,kj,rfl,_,_,_⟩,_,_⟩:=sj;generalize lj.length=nj at *;go_wp2
   go_roundw
   case rel=>exact⟨j+1,by omega,by go_num,by rw[HF.out];go_num,by simp⟩
   case measure=>simp[intOf];omega
  .obtain rfl:j=n:=by omega
   have HT:Hid (ls.take j=ls):=fB (by rw[HLS.out];exact A' _);have hz:ls.flatten.length<=10000:=by rw[HT.out,HLS.out]at hfl;omega
   rw[HT.out];clear hfl;have HZ:=HP.out;generalize hz2:ls.flatten.length=Z at hz HZ;have HZZ:Hid (ls.flatten.length=Z):=hz2;clear hz2;go_wp2_with fail
   refine(Vc Z w HZ (by omega)).mono ?_;rintro e w1 ⟨v1,rfl,ho1,hb1⟩;clear HZ hz;obtain⟨g1,c1,rfl⟩:=DG ho1;have HO1:Hid (w1.ownsRow w.heap.size 5 1 (.slice g1 0 c1) (ls.take 0).flatten.length ((ls.take 0).flatten.map (Value.int .u8))):=by unfold Hid;simpa using ho1
   clear ho1;go_wp2_with fail
   go_loopw [6,27] (λv i wr=>∃ k:Nat,k<=j/\i=.int .i64 k/\Hid (wr.ownsRow w.heap.size 5 1 v (ls.take k).flatten.length ((ls.take k).flatten.map (Value.int .u8)))/\Bw w wr) (λ_ i _=>j-(intOf i).toNat)
   case atStart=>exact⟨0,by omega,rfl,HO1,hb1⟩
   case round =>
    obtain⟨k,hk,rfl,hown0,hb⟩:=hrel;have hown:=hown0.out;clear hown0 HO1 hb1;have hlt:=hown.lt;by_cases hkn:k<j
    .have hfl:=Rn (ls.take k) (λl hl=>HL.out l (fK hl));have hf2:(ls.take k).flatten.length<=10000:=by rw[fx]at hfl;omega
     have HF:Hid ((ls.take (k+1)).flatten=(ls.take k).flatten++ls.getD k []):=Lx ls k (by rw[HLS.out];exact hkn);have sj:=(HS.out k hkn).below hb;have cj:=(hb.cell (p:=⟨g,k,none⟩) hg).trans (HC.out k hkn);have hlj:(ls.getD k []).length<=1000:=by
      have hj2:k<ls.length:=by rw[HLS.out];exact hkn
      have:ls.getD k []=ls[k]:=by simp[List.getD,List.getElem?_eq_getElem hj2]
      rw[this];exact HL.out _ (fU hj2)
     generalize vs.getD k undef=vj at sj cj;generalize ls.getD k []=lj at sj HF hlj;generalize (ls.take k).flatten=pre at hown HF hf2;clear hfl;have sj2:=sj;obtain⟨⟨aj,kj,rfl,_,_,_⟩,_,_⟩:=sj;go_wp2_with (at_builtin;refine Aa _ rfl _ _ 25 rfl w.heap.size 5 underlying25 As _ _ rfl rfl pre lj hown sj2 (by omega) hb.size ?_)
     intro v2 w2 ho2 hg2;have ho2':w2.ownsRow w.heap.size 5 1 v2 (pre++lj).length ((pre++lj).map (Value.int .u8)):=by simpa using ho2
     have hb2:Bw w w2:=hb.grown hg2 hb.size (λk hk=>(hlt k hk).1);clear ho2 hg2 hown hlt hb sj2 cj;go_wp2
     go_roundw
     case rel=>exact⟨k+1,by omega,by go_num,by rw[HF.out];exact ho2',hb2⟩
     case measure=>simp[intOf];omega
    .have HJ:Hid (ls.take k=ls):=by unfold Hid;exact fB (by rw[HLS.out];omega)
     go_wp2
     go_ret;refine⟨u6,rfl,?_,hb⟩;rw[HJ.out]at hown
     exact hown
theorem X1{v0 v1:Value}{l0 l1:List Int}{e:TypeId}{g:Nat}(hr:w.heap[g]?=some (.cells #[v0,v1] e))(h0:Sl w v0 l0)(h1:Sl w v1 l1)(q0:l0.length<=1000)(q1:l1.length<=1000)(q3:0<l0.length) :
  Calls prog 38 #[.slice (some ⟨g,0,none⟩) 2 2] w λe w'=>∃ v',e=.returned v'/\w'.ownsRow w.heap.size 5 1 v' (l0++l1).length ((l0++l1).map (Value.int .u8))/\Bw w w':=by
 refine(P5 g 2 2 [v0,v1] [l0,l1] w (G'.1 hr).1 (by omega) rfl ?_ ?_ ?_ ?_).mono ?_
 .intro i hi;rw[cell_of_row _ _ i _ _ _ hr];obtain rfl|rfl:i=0\/i=1:=by omega
  all_goals rfl
 .intro i hi;obtain rfl|rfl:i=0\/i=1:=by omega
  .exact h0
  .exact h1
 .intro l hl;simp only[fD,H',or_false]at hl;rcases hl with rfl|rfl
  .exact q0
  .exact q1
 .simp;omega
 .rintro e w2 ⟨v2,rfl,ho,hb⟩;exact⟨v2,rfl,by simpa using ho,hb⟩
end
end Go.Proofs.YtalbmmghmoggcabGreatDoor
