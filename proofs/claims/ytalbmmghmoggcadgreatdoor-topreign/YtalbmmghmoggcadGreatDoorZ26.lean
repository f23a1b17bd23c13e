/- Part 26 of the walk. -/
import Derived.Test.YtalbmmghmoggcadGreatDoorZ25
import Derived.Test.YtalbmmghmoggcadGreatDoorZ23
import Derived.Test.YtalbmmghmoggcadGreatDoorZ21
set_option maxRecDepth 100000
set_option maxHeartbeats 4000000
open Go.Proofs.Tryz
set_option linter.unusedVariables false
namespace Go.Proofs.YtalbmmghmoggcadGreatDoor
open Go.RowKit
section
def Ni(k:Nat):Int:=if k=1 then 2 else if k=2 then 1 else if k=3 then 4 else 0
variable{E c e0 now:Int}{key l:List Int}{w:World}{x y:S3}
theorem NTab.right(h:NTab w)(k:Nat)(h1:k<=3):w.cell? ⟨0,k*3,none⟩=some (.int .i64 (Ni k)):=by
 rcases(by omega:k=0\/k=1\/k=2\/k=3)with rfl|rfl|rfl|rfl
 .exact h.cell 0 (by omega)
 .exact h.cell 3 (by omega)
 .exact h.cell 6 (by omega)
 .exact h.cell 9 (by omega)
theorem Ur(k:Nat)(r:Int)(hk:k<=3)(h0:0<=r)(h1:r<=7):(bits .and .i64 r (Ni k)=0)↔¬ NG (k:Int) r:=by
 have all:∀ (i:Fin 4) (j:Fin 8),(bits .and .i64 ((j.val:Nat):Int) (Ni i.val)=0)↔¬ NG ((i.val:Nat):Int) ((j.val:Nat):Int):=by decide +kernel
 obtain⟨m,rfl⟩:=jj h0;exact all ⟨k,by omega⟩ ⟨m,by omega⟩
theorem QA(tc tr tu k c s n v now:Int)(w:World)(ht:NTab w) :
  Calls prog 123 #[.agg (tkA tc tr tu),.agg (cmA k c s n v),.int .i64 now] w λe w'=>e=.returned (.int .i64 (Ez tc tr tu k c s n v now))/\Bw w w':=by
 have b1:Bw w (w.alloc (.cells (tkA tc tr tu) 33)):=(Below.refl _ _).alloc (A' _) _;have bt:=Bt.made w tc tr tu;have z1:(w.alloc (.cells (tkA tc tr tu) 33)).heap.size=w.heap.size+1:=by simp
 have b2:Below (w.alloc (.cells (tkA tc tr tu) 33)).heap.size (w.alloc (.cells (tkA tc tr tu) 33)) ((w.alloc (.cells (tkA tc tr tu) 33)).alloc (.cells (cmA k c s n v) 25)):=(Below.refl _ _).alloc (A' _) _;have bc:=Bc.made (w.alloc (.cells (tkA tc tr tu) 33)) k c s n v;replace bt:=bt.below b2;have bb:=b1.trans (b2.mono b1.size);have hT:=ht.below bb;rw[z1]at bc
 clear b1 b2 ht z1;have hic:=Gc k c s n v;have hit:=It tc tr tu;generalize hW:(w.alloc (.cells (tkA tc tr tu) 33)).alloc (.cells (cmA k c s n v) 25)=W at bb bt bc hT;go_enter func123,ntmps123
 go_wp2_with (refine wpList_load_row rfl 33 _ rfl w.heap.size rfl 33 _ (0,0) _ bt.row underlying33 rfl hit ?_)
 clear hW;refine(IG tc tr tu _).mono ?_;rintro e w1 ⟨rfl,b1⟩;have d1:Bw w w1:=bb.trans (b1.mono bb.size);replace bt:=bt.below b1;replace bc:=bc.below b1;replace hT:=hT.below b1;clear b1 bb;by_cases h1:Dk tc tr tu
 .rw[I' h1];go_wp2_with (refine wpList_load_row rfl 25 _ rfl (w.heap.size+1) rfl 25 _ (0,0) _ bc.row underlying25 rfl hic ?_)
  refine(DH k c s n v _ hT).mono ?_;rintro e w2 ⟨rfl,b2⟩;have d2:Bw w w2:=d1.trans (b2.mono d1.size);replace bt:=bt.below b2;replace bc:=bc.below b2;replace hT:=hT.below b2;clear b2 d1;by_cases h2:Bf k c s n v=0
  .have hz:=E4 h2;obtain⟨m,rfl⟩:=jj hz.1.1;have k0:(0:Int)<=(m:Int):=by omega
   have k1:(m:Int)<4:=by omega
   have k2:m<4:=by omega
   have hR:=hT.right m (by omega);have hB:=Ur m tr (by omega) h1.2.1.1 h1.2.1.2;obtain⟨c0,c1,c2,c3,c4⟩:=E3 bc.row;obtain⟨t0,t1,t2⟩:=IW bt.row;have H1:Hid (Dk tc tr tu):=h1;have H2:Hid (Bf (m:Int) c s n v=0):=h2;rw[h2];clear h1 h2 hz bt bc hT;by_cases h3:c=tc
   .have h3':decide (c=tc)=true:=I' h3;by_cases h4:bits .and .i64 tr (Ni m)=0
    .have HE:Hid (11=Ez tc tr tu (m:Int) c s n v now):=(Ks H1.out H2.out (λg=>hB.1 h4 g.1)).symm;have H3:Hid (c=tc):=h3;clear hB H1 H2;subst h3;clear h3';generalize Ni m=R at hR h4;go_wp2_with fail
     go_quiet (fail)
     have e1:Bw w (w2.drewN nq):=Ao d2 nq;generalize w2.drewN nq=w3 at e1 ⊢;go_wp2
     go_ret;exact⟨AC HE.out,e1⟩
    .have HR:Hid (NG (m:Int) tr/\c=tc):=⟨Classical.not_not.1 λg=>h4 (hB.2 g),h3⟩;clear hB;subst h3;clear h3';generalize Ni m=R at hR h4;go_wp2_with fail
     go_quiet (fail)
     have e1:Bw w (w2.drewN nq):=Ao d2 nq;have t2':(w2.drewN nq).cell? ⟨w.heap.size,2,none⟩=some (.int .i64 tu):=by simpa using t2
     generalize w2.drewN nq=w3 at e1 t2' ⊢;clear c0 c1 c2 c3 c4 t0 t1 t2 hR;go_wp2_with fail
     refine(EC now tu _).mono ?_;rintro e w4 ⟨rfl,rfl⟩;by_cases h5:0<=now/\now<=tu
     .rw[I' h5];have HE:Hid (0=Ez c tr tu (m:Int) c s n v now):=(Zb H1.out H2.out ⟨HR.out.1,rfl⟩ h5).symm;go_wp2
      go_ret;exact⟨AC HE.out,e1⟩
     .rw[D' h5];have HE:Hid (10=Ez c tr tu (m:Int) c s n v now):=(TK H1.out H2.out ⟨HR.out.1,rfl⟩ h5).symm;go_wp2
      go_ret;exact⟨AC HE.out,e1⟩
   .have h3':decide (c=tc)=false:=D' h3;have HE:Hid (11=Ez tc tr tu (m:Int) c s n v now):=(Ks H1.out H2.out (λg=>h3 g.2)).symm;clear hB H1 H2;go_wp2_with fail
    go_quiet (fail)
    have e1:Bw w (w2.drewN nq):=Ao d2 nq;generalize w2.drewN nq=w3 at e1 ⊢;go_wp2
    go_ret;exact⟨AC HE.out,e1⟩
  .have HE:Hid (Bf k c s n v=Ez tc tr tu k c s n v now):=(VF h1 h2).symm;go_wp2
   go_ret;exact⟨AC HE.out,d2⟩
 .rw[D' h1];have HE:Hid (2=Ez tc tr tu k c s n v now):=(VG h1).symm;go_wp2
  go_ret;exact⟨AC HE.out,d1⟩
theorem Xe(h0:0<=c)(ht:AE w)(hE:(if c<=7 then 0 else 2)=E) :
  Calls prog 14 #[iv c] w λe w'=>∃ y:S3,e=.returned (.tuple #[y.v,iv E])/\(E=0->Sl w' y.v (Gr c))/\Bw w w':=by
 subst hE;by_cases h:c<=7
 .rw[if_pos h];refine(dU c w h0 h ht).mono ?_;rintro e w' ⟨v,rfl,ho,hb⟩;obtain⟨y,rfl,hy⟩:=FG ho (by rw[FB];decide) (U6 c);exact⟨y,rfl,λ_=>hy,hb⟩
 .rw[if_neg h];refine(dS c w (by omega)).mono ?_;rintro e w' ⟨rfl,rfl⟩;exact⟨s30,rfl,λh=>absurd h (by decide),Below.refl _ _⟩
theorem ID(ht:AE w):Calls prog 12 #[] w λe w'=>∃ y:S3,e=.returned y.v/\Sl w' y.v Gq/\Bw w w':=by
 refine(R0 w ht).mono ?_;rintro e w' ⟨v,rfl,ho,hb⟩;obtain⟨y,rfl,hy⟩:=FG ho (by rw[Jo];decide) Uy;exact⟨y,rfl,hy,hb⟩
theorem eg(hk:Sl w x.v key)(hl:key.length=32) :
  Calls prog 180 #[x.v] w λe w'=>∃ y:S3,e=.returned (.tuple #[.agg #[y.v,iv 0,iv 0,.bool false,.bool false,.bool false,.bool false,.bool false,.bool false,.bool false,.bool false],iv 0])/\Sl w' y.v key/\Bw w w':=by
 refine(aC x.v key w hk).mono ?_;rw[if_pos hl,if_pos hl];rintro e w' ⟨v,rfl,ho,hb⟩;obtain⟨y,rfl,hy⟩:=FG ho hk.len hk.byte;exact⟨y,rfl,hy,hb⟩
theorem Wy{l:List Bool}(h:l.length=8):∃ a b c d e f g k,l=[a,b,c,d,e,f,g,k]:=by
 match l,h with
 | [a,b,c,d,e,f,g,k],_=>exact⟨a,b,c,d,e,f,g,k,rfl⟩
theorem Tw{r:List Int}(hk:Sl w x.v key)(hr:Sl w y.v r)(ht:CB w)(hE:Co key 0 0 noB r=E) :
  Calls prog 181 #[.agg #[x.v,iv 0,iv 0,.bool false,.bool false,.bool false,.bool false,.bool false,.bool false,.bool false,.bool false],y.v] w λe w'=>∃ (c v:S3) (t:Int) (x0 x1 x2 x3 x4 x5 x6 x7:Bool),e=.returned (.tuple #[.agg #[c.v,iv 0,iv t,.bool x0,.bool x1,.bool x2,.bool x3,.bool x4,.bool x5,.bool x6,.bool x7],v.v,iv E])/\Sl w' v.v (if E=0 then J8 key r else[])/\Bw w w':=by
 by_cases h:E=0
 .subst h;refine(bK x.v key 0 0 noB y.v r w hk rfl hr ht hE _ rfl).mono ?_;rintro e w' ⟨v1,v2,rfl,h1,_,h2,hb⟩;obtain⟨c,rfl,_⟩:=Ts h1;obtain⟨v,rfl,hv⟩:=Ts h2;obtain⟨x0,x1,x2,x3,x4,x5,x6,x7,hx⟩:=Wy (Ee 0 noB (EW (r.take 4)));rw[hx];exact⟨c,v,_,x0,x1,x2,x3,x4,x5,x6,x7,rfl,by rw[if_pos rfl];exact hv,hb⟩
 .refine(bJ x.v key 0 0 noB y.v r w hk rfl hr ht E hE h).mono ?_;rintro e w' ⟨rfl,hb⟩;exact⟨s30,s30,0,false,false,false,false,false,false,false,false,rfl,by rw[if_neg h];exact Mw _,hb⟩
theorem Lp(hk:Sl w x.v key)(hb:Sl w y.v l)(ht:AE w)(hE:DT key l=E) :
  Calls prog 151 #[x.v,y.v] w λe w'=>∃ a b c:Int,e=.returned (.tuple #[.agg #[iv a,iv b,iv c],iv E])/\(E=0->a=l.getD 0 0/\b=l.getD 1 0/\c=Ac l 2)/\Bw w w':=by
 subst hE;refine(UV x.v y.v key l w hk hb ht).mono ?_;rintro e w' ⟨rfl,h⟩;by_cases h0:DT key l=0
 .rw[To h0];exact⟨_,_,_,rfl,λ_=>⟨rfl,rfl,rfl⟩,h⟩
 .rw[Ie h0];exact⟨0,0,0,rfl,λg=>absurd g h0,h⟩
theorem Ud(h:Sl w x.v l)(ht:NTab w)(hE:Cj l=E) :
  Calls prog 152 #[x.v] w λe w'=>∃ m:Cmd,e=.returned (.tuple #[.agg #[iv m.k,iv m.c,iv m.s,iv m.n,iv m.v],iv E])/\(E=0->m=⟨Ac l 0,Ac l 4,Ac l 8,Ac l 12,Ac l 16⟩)/\Bw w w':=by
 subst hE;refine(KC x.v l w h ht).mono ?_;rintro e w' ⟨rfl,hb⟩;by_cases h0:Cj l=0
 .rw[show JH l=_ from if_pos h0];exact⟨⟨Ac l 0,Ac l 4,Ac l 8,Ac l 12,Ac l 16⟩,rfl,λ_=>rfl,hb⟩
 .rw[show JH l=_ from if_neg h0];exact⟨⟨0,0,0,0,0⟩,rfl,λg=>absurd g h0,hb⟩
theorem UN(h:Sl w x.v l)(hT:AE w)(hq:CB w)(hE:PM l=E){D:List Int}(hD:On l=D) :
  Calls prog 150 #[x.v] w λe w'=>∃ y:S3,e=.returned (.tuple #[y.v,iv E])/\Sl w' y.v D/\Bw w w':=by
 have hn:=L3 h;subst hE hD;refine kIn func150 ?_;refine kR 12 [] λσ1 w1 b1=>?_;by_cases h1:x.n=0
 .refine kI (((x.n:Int)==0)) true (by simp;omega) ?_;refine kR 5 [] λσ2 w2 b2=>?_;have B3:=(btr b1 b2);obtain rfl:l=[]:=iN (by omega);exact kE (.tuple #[S3.v s30,iv 13]) ⟨s30,rfl,Mw _,B3⟩
 .refine kI (((x.n:Int)==0)) false (by simp;omega) ?_;have hl0:¬ l=[]:=λe=>h1 (by rw[hn,e];rfl);obtain⟨bd,od,hix,hbs,hbc⟩:=Qj h (by omega);obtain⟨c,hc⟩:∃ c,l.getD 0 0=c:=⟨_,rfl⟩;have hcb:=Al h.byte 0;rw[hc]at hbc hcb
  refine kR 4 [] λσ4 w4 b4=>?_;refine kV 1 (pt bd od) (hix _) ?_;have B6:=(btr b1 b4);refine kV 2 (.int .u8 c) (BD underlying5 rfl ((Below.cell B6 (p:=⟨bd,od,none⟩) hbs).trans hbc)) ?_;refine kV 3 (iv c) (rUi hcb) ?_;obtain⟨E1,hE1⟩:∃ E1:Int,(if c<=7 then 0 else 2)=E1:=⟨_,rfl⟩;refine kC 4 (Xe hcb.1 (hT.below B6) hE1) ?_;rintro _ w9 ⟨yk,rfl,hyk,b9⟩;refine⟨_,rfl,b9,?_⟩;refine kR 12 [] λσ10 w10 b10=>?_;by_cases h2:E1≠0
  .refine kI ((E1 != 0)) true (by simpa using h2) ?_;refine kR 6 [] λσ11 w11 b11=>?_;have B12:=(btr (btr (btr B6 b9) b10) b11);have h7:¬ c<=7:=λg=>h2 (by rw[<- hE1,if_pos g]);have hE2:E1=2:=by rw[<- hE1,if_neg h7]
   have hO:PM l=2:=(if_neg hl0).trans (if_pos (by rw[hc];omega));rw[hO,show On l=[]from if_neg (by rw[hO];decide),hE2];exact kE (.tuple #[S3.v s30,iv 2]) ⟨s30,rfl,Mw _,B12⟩
  .refine kI ((E1 != 0)) false (by simpa using h2) ?_;have h20:E1=0:=by simpa using h2
   have h7:c<=7:=by by_cases g:c<=7;exact g;rw[if_neg g,h20]at hE1;cases hE1
   have hyk1:=hyk h20;refine kR 4 [] λσ13 w13 b13=>?_;refine kC 1 (eg ((hyk1.below b10).below b13) (FB c)) ?_;rintro _ w14 ⟨yc,rfl,hyc,b14⟩;refine⟨_,rfl,b14,?_⟩;obtain⟨y1,hy1,hyb,_⟩:=slB h 1 (by omega);obtain⟨E,hE⟩:∃ E,Co (Gr c) 0 0 noB (l.drop 1)=E:=⟨_,rfl⟩;refine kR 19 [0,0,0,0,3,0,0,2] λσ15 w15 b15=>?_;refine kT 2 (S3.v y1) (λ_=>(hy1 _)) ?_;refine Xd 41 (λw' e L=>∃ (v:S3) (b7:Nat) (cs:Array Value),e=[(8,S3.v v),(5,iv E)]/\L=[⟨(σ15 0),.cells #[S3.v yc,iv 0,iv 0,.bool false,.bool false,.bool false,.bool false,.bool false,.bool false,.bool false,.bool false] 55,.z,false⟩,⟨b7,.cells cs 55,.l,false⟩]/\Sl w' v.v (if E=0 then J8 (Gr c) (l.drop 1)else[])/\Bw w w') ?_ ?_
   .intro J hJ;refine U5 3 8 ?_ ?_
    .have B19:=(btr (btr (btr (btr (btr B6 b9) b10) b13) b14) b15);refine kC 3 (Tw (hyc.below b15) (hyb.below B19) (hq.below hq.pos B19) hE) ?_;rintro _ w20 ⟨cc20,v20,t20,x0,x1,x2,x3,x4,x5,x6,x7,rfl,hv20,b20⟩;refine⟨_,rfl,b20,?_⟩;refine kR 9 [8,10,12,14,17,1,0,19,1,0,20,22] λσ21 w21 b21=>?_;have B22:=(btr (btr B19 b20) b21);exact kB [true,true] λz K=>hJ _ _ z _ ⟨v20,(σ21 0),#[S3.v cc20,iv 0,iv t20,.bool x0,.bool x1,.bool x2,.bool x3,.bool x4,.bool x5,.bool x6,.bool x7],rfl,rfl,(hv20.below b21),B22⟩ K
    .refine kR 1 [1,0] λσ23 w23 b23=>?_;have B24:=(btr (btr (btr (btr (btr (btr B6 b9) b10) b13) b14) b15) b23);refine kC 3 (Tw ((hyc.below b15).below b23) (hyb.below B24) (hq.below hq.pos B24) hE) ?_;rintro _ w25 ⟨cc25,v25,t25,x0,x1,x2,x3,x4,x5,x6,x7,rfl,hv25,b25⟩;refine⟨_,rfl,b25,?_⟩;refine kF 8 [8,10,12,14,19,1,0,20,22] λσ26 w26 b26 q26=>?_;have B27:=((btr B24 b25).trans b26);exact kB [true,true] λz K=>hJ _ _ z _ ⟨v25,(σ23 0),#[S3.v cc25,iv 0,iv t25,.bool x0,.bool x1,.bool x2,.bool x3,.bool x4,.bool x5,.bool x6,.bool x7],rfl,rfl,(hv25.kept q26),B27⟩ K
   .rintro w17 _ z17 _ ⟨v,b7,cs,rfl,rfl,hv,hb⟩;refine kR 7 [] λσ28 w28 b28=>?_;have B29:=(btr hb b28);have hO:PM l=E:=(if_neg hl0).trans ((if_neg (by rw[hc];omega)).trans (by rw[hc];exact hE));have hOL:On l=(if E=0 then J8 (Gr c) (l.drop 1)else[]):=by unfold On;rw[hO,hc]
    rw[hO,hOL];exact kE (.tuple #[S3.v v,iv E]) ⟨v,rfl,(hv.below b28),B29⟩
theorem Qy(h:Sl w x.v l)(hT:AE w)(hq:CB w)(hN:NTab w)(hE:unE l=E) :
  Calls prog 122 #[x.v] w λe w'=>∃ (a b c:Int) (m:Cmd),e=.returned (.tuple #[.agg #[iv a,iv b,iv c],.agg #[iv m.k,iv m.c,iv m.s,iv m.n,iv m.v],iv E])/\(E=0->a=(unT l).getD 0 0/\b=(unT l).getD 1 0/\c=Ac (unT l) 2/\m=⟨Ac (unQ l) 0,Ac (unQ l) 4,Ac (unQ l) 8,Ac (unQ l) 12,Ac (unQ l) 16⟩)/\Bw w w':=by
 obtain⟨E0,hE0⟩:∃ E0,PM l=E0:=⟨_,rfl⟩;obtain⟨D,hD⟩:∃ D,On l=D:=⟨_,rfl⟩;unfold unT unQ;unfold unE unT unQ at hE;rw[hD]at hE ⊢
 rw[hE0]at hE
 refine kIn func122 ?_;refine kR 9 [1,0,1,0] λσ1 w1 b1=>?_;refine kC 1 (UN (h.below b1) (hT.below b1) (hq.below hq.pos b1) hE0 hD) ?_;rintro _ w2 ⟨y,rfl,hy,b2⟩;refine⟨_,rfl,b2,?_⟩;have hyn:=L3 hy;refine kR 12 [] λσ3 w3 b3=>?_;by_cases h1:E0≠0
 .refine kI ((E0 != 0)) true (by simpa using h1) ?_;refine kF 9 [0,0,1,0] λσ4 w4 b4 q4=>?_;have B5:=((btr (btr b1 b2) b3).trans b4);have hEE:E0=E:=by rw[<- hE];rw[if_pos h1]
  rw[<- hEE];exact qE5 2 3 4 33 25 0 (σ1 0) 1 (σ1 1) #[iv 0,iv 0,iv 0] #[iv 0,iv 0,iv 0,iv 0,iv 0] (iv E0) λK=>⟨0,0,0,⟨0,0,0,0,0⟩,rfl,λh=>absurd h (by exact h1),B5⟩
 .refine kI ((E0 != 0)) false (by simpa using h1) ?_;rw[if_neg h1]at hE
  refine kR 8 [] λσ6 w6 b6=>?_;by_cases h2:y.n≠42
  .refine kI (((y.n:Int) != 42)) true (by simp;omega) ?_;refine kF 8 [0,0,1,0] λσ7 w7 b7 q7=>?_;have B8:=((btr (btr (btr b1 b2) b3) b6).trans b7);have hEE:3=E:=by rw[<- hE];rw[if_pos (by omega)]
   rw[<- hEE];exact qE5 2 3 4 33 25 0 (σ1 0) 1 (σ1 1) #[iv 0,iv 0,iv 0] #[iv 0,iv 0,iv 0,iv 0,iv 0] (iv 3) λK=>⟨0,0,0,⟨0,0,0,0,0⟩,rfl,λh=>absurd h (by decide),B8⟩
  .refine kI (((y.n:Int) != 42)) false (by simp;omega) ?_;rw[if_neg (by omega)]at hE
   obtain⟨y1,hy1,hyb⟩:=slT hy 22 (by omega);obtain⟨E1,hE1⟩:∃ E1,DT Gq (D.take 22)=E1:=⟨_,rfl⟩;rw[hE1]at hE
   refine kR 4 [10,2] λσ9 w9 b9=>?_;refine kT 2 (S3.v y1) (λ_=>(hy1 _)) ?_;refine Xd 45 (λw' e L=>∃ (a b c:Int) (b7:Nat),e=[(2,pt (σ1 0) 0),(3,pt (σ1 1) 0),(5,S3.v y),(6,iv E1),(7,pt b7 0)]/\L=[⟨(σ1 0),.cells #[iv 0,iv 0,iv 0] 33,.l,false⟩,⟨(σ1 1),.cells #[iv 0,iv 0,iv 0,iv 0,iv 0] 25,.l,false⟩,⟨b7,.cells #[iv a,iv b,iv c] 33,.l,false⟩]/\(E1=0->a=(D.take 22).getD 0 0/\b=(D.take 22).getD 1 0/\c=Ac (D.take 22) 2)/\Sl w' y.v D/\Bw w w') ?_ ?_
   .intro J hJ;refine U5 0 7 ?_ ?_
    .have B13:=(btr (btr (btr (btr b1 b2) b3) b6) b9);refine kC 0 (ID (hT.below B13)) ?_;rintro _ w14 ⟨yi14,rfl,hyi14,b14⟩;refine⟨_,rfl,b14,?_⟩;refine U5 3 7 ?_ ?_
     .have B17:=(btr B13 b14);refine kC 3 (Lp hyi14 ((((hyb.below b3).below b6).below b9).below b14) (hT.below B17) hE1) ?_;rintro _ w18 ⟨a18,c18,d18,rfl,hp18,b18⟩;refine⟨_,rfl,b18,?_⟩;refine kR 7 [8,10,12,15,1,0,17,2,0,18] λσ19 w19 b19=>?_;have B20:=(btr (btr B17 b18) b19);exact kB [true,true,true] λz K=>hJ _ _ z _ ⟨a18,c18,d18,(σ19 0),rfl,rfl,hp18,((((((hy.below b3).below b6).below b9).below b14).below b18).below b19),B20⟩ K
     .refine kR 1 [1,0] λσ21 w21 b21=>?_;have B22:=(btr (btr B13 b14) b21);refine kC 3 (Lp (hyi14.below b21) (((((hyb.below b3).below b6).below b9).below b14).below b21) (hT.below B22) hE1) ?_;rintro _ w23 ⟨a23,c23,d23,rfl,hp23,b23⟩;refine⟨_,rfl,b23,?_⟩;refine kF 6 [8,10,12,17,2,0,18] λσ24 w24 b24 q24=>?_;have B25:=((btr B22 b23).trans b24);exact kB [true,true,true] λz K=>hJ _ _ z _ ⟨a23,c23,d23,(σ21 0),rfl,rfl,hp23,(((((((hy.below b3).below b6).below b9).below b14).below b21).below b23).kept q24),B25⟩ K
    .refine kR 1 [1,0] λσ26 w26 b26=>?_;have B27:=(btr (btr (btr (btr (btr b1 b2) b3) b6) b9) b26);refine kC 0 (ID (hT.below B27)) ?_;rintro _ w28 ⟨yi28,rfl,hyi28,b28⟩;refine⟨_,rfl,b28,?_⟩;have B30:=(btr B27 b28);refine kC 3 (Lp hyi28 (((((hyb.below b3).below b6).below b9).below b26).below b28) (hT.below B30) hE1) ?_;rintro _ w31 ⟨a31,c31,d31,rfl,hp31,b31⟩;refine⟨_,rfl,b31,?_⟩;refine kF 6 [8,10,12,17,2,0,18] λσ32 w32 b32 q32=>?_;have B33:=((btr B30 b31).trans b32);exact kB [true,true,true] λz K=>hJ _ _ z _ ⟨a31,c31,d31,(σ26 0),rfl,rfl,hp31,(((((((hy.below b3).below b6).below b9).below b26).below b28).below b31).kept q32),B33⟩ K
   .rintro w11 _ z11 _ ⟨a,b,c,b7,rfl,rfl,hp,hyx,hb⟩;refine kR 6 [] λσ34 w34 b34=>?_;by_cases h3:E1≠0
    .refine kI ((E1 != 0)) true (by simpa using h3) ?_;refine kF 9 [0,0,1,0] λσ35 w35 b35 q35=>?_;have B36:=((btr hb b34).trans b35);have hEE:E1=E:=by rw[<- hE];rw[if_pos h3]
     rw[<- hEE];exact qE5 2 3 4 33 25 0 (σ1 0) 1 (σ1 1) #[iv 0,iv 0,iv 0] #[iv 0,iv 0,iv 0,iv 0,iv 0] (iv E1) λK=>⟨0,0,0,⟨0,0,0,0,0⟩,rfl,λh=>absurd h (by exact h3),B36⟩
    .refine kI ((E1 != 0)) false (by simpa using h3) ?_;have h30:E1=0:=by simpa using h3
     rw[if_neg h3]at hE
     obtain⟨y3,hy3,hyd⟩:=slB (hyx.below b34) 22 (by omega);refine kR 4 [] λσ37 w37 b37=>?_;refine kV 1 (S3.v y3) (hy3 _) ?_;have B39:=(btr (btr hb b34) b37);refine kC 2 (Ud (hyd.1.below b37) (hN.below B39) hE) ?_;rintro _ w40 ⟨m,rfl,hm,b40⟩;refine⟨_,rfl,b40,?_⟩;refine kR 11 [0,0,3,0,3,0,2,4] λσ41 w41 b41=>?_;refine Xd 45 (λw' e L=>∃ (_:Unit),e=[(2,pt (σ1 0) 0),(3,pt (σ1 1) 0),(4,iv E)]/\L=[⟨(σ1 0),.cells #[iv a,iv b,iv c] 33,.l,false⟩,⟨(σ1 1),.cells #[iv m.k,iv m.c,iv m.s,iv m.n,iv m.v] 25,.l,false⟩,⟨b7,.cells #[iv a,iv b,iv c] 33,.l,false⟩,⟨(σ41 0),.cells #[iv m.k,iv m.c,iv m.s,iv m.n,iv m.v] 25,.z,false⟩]/\Bw w w') ?_ ?_
     .intro J hJ;refine U5 1 3 ?_ ?_
      .refine kF 5 [3,7,0,0,9,1,0,10] λσ43 w43 b43 q43=>?_;have B44:=((btr (btr B39 b40) b41).trans b43);exact kB [true,true,true,true] λz K=>hJ _ _ z _ ⟨(),rfl,rfl,B44⟩ K
      .refine kF 5 [0,0,3,3,9,1,0,10] λσ45 w45 b45 q45=>?_;have B46:=((btr (btr B39 b40) b41).trans b45);exact kB [true,true,true,true] λz K=>hJ _ _ z _ ⟨(),rfl,rfl,B46⟩ K
     .rintro w42 _ z42 _ ⟨_,rfl,rfl,hb2⟩;exact qE5 2 3 4 33 25 0 (σ1 0) 1 (σ1 1) #[iv a,iv b,iv c] #[iv m.k,iv m.c,iv m.s,iv m.n,iv m.v] (iv E) λK=>⟨a,b,c,m,rfl,λh=>⟨(hp h30).1,(hp h30).2.1,(hp h30).2.2,hm h⟩,hb2⟩
theorem MB{a b:Int}{m:Cmd}(ht:NTab w){F:Int}(hF:Ez a b c m.k m.c m.s m.n m.v now=F):Calls prog 123 #[.agg #[iv a,iv b,iv c],.agg #[iv m.k,iv m.c,iv m.s,iv m.n,iv m.v],iv now] w λe w'=>e=.returned (iv F)/\Bw w w':=by subst hF;exact QA a b c m.k m.c m.s m.n m.v now w ht
theorem UD(v:Value)(l:List Int)(now:Int)(w:World)(h:Sl w v l)(hT:AE w)(hq:CB w)(hN:NTab w) :
  Calls prog 77 #[v,iv now] w λe w'=>e=.returned (.tuple #[.agg (opA l now),iv (opE l now)])/\Bw w w':=by
 obtain⟨x,rfl,h⟩:=Ts h;obtain⟨E,hE⟩:∃ E,unE l=E:=⟨_,rfl⟩;have hEx:=hE;refine kIn func77 ?_;refine kR 8 [1,0] λσ1 w1 b1=>?_;refine kC 1 (Qy (h.below b1) (hT.below b1) (hq.below hq.pos b1) (hN.below b1) hE) ?_;rintro _ w2 ⟨a,b,c,m,rfl,hm,b2⟩;refine⟨_,rfl,b2,?_⟩;refine kR 16 [0,0,0,0,1,0,2,0] λσ3 w3 b3=>?_;by_cases h1:E≠0
 .refine kI ((E != 0)) true (by simpa using h1) ?_;refine kF 7 [0,0] λσ4 w4 b4 q4=>?_;have hO:opE l now=E:=(if_pos (by rw[hE];exact h1)).trans hE;rw[Om (by rw[hO];exact h1),hO];have B5:=((btr (btr b1 b2) b3).trans b4);exact qE2 4 5 25 0 (σ1 0) #[iv 0,iv 0,iv 0,iv 0,iv 0] (iv E) λK=>⟨rfl,B5⟩
 .refine kI ((E != 0)) false (by simpa using h1) ?_;have h10:E=0:=by simpa using h1
  obtain⟨ha,hb_,hc,hmm⟩:=hm h10;have hlp:0<l.length:=gX (hE.trans h10);have hU:¬ unE l≠0:=by rw[hE,h10];simp
  obtain⟨e1,e2⟩:m.k=Ac (unQ l) 0/\m.c=Ac (unQ l) 4:=by rw[hmm];exact⟨rfl,rfl⟩
  refine kR 6 [12,0,2,2] λσ6 w6 b6=>?_;by_cases h2:m.k≠0
  .refine kT 2 (.bool true) (λ_=>(GY (t:=3) (m:=m.k) (n:=0) (x:=(.tmp 21)) (y:=(.const (iv 0))) (by simpa using h2))) ?_;obtain⟨bd,od,hix,hbs,hbc⟩:=Qj h hlp;obtain⟨cl,hcl⟩:∃ cl,l.getD 0 0=cl:=⟨_,rfl⟩;have hcb:=Al h.byte 0;rw[hcl]at hbc hcb
   refine kR 4 [6,8,10,2,12] λσ7 w7 b7=>?_;refine kT 7 (pt bd od) (λ_=>(hix _)) ?_;have B9:=(btr (btr (btr (btr b1 b2) b3) b6) b7);refine kV 8 (.int .u8 cl) (BD underlying5 rfl ((Below.cell B9 (p:=⟨bd,od,none⟩) hbs).trans hbc)) ?_;refine kT 9 (iv cl) (λ_=>(rUi hcb)) ?_;by_cases h3:m.c≠cl
   .refine kT 10 (.bool true) (λ_=>(GY (t:=3) (m:=m.c) (n:=cl) (x:=(.tmp 25)) (y:=(.tmp 29)) (by simpa using h3))) ?_;refine kF 9 [22,0,0] λσ12 w12 b12 q12=>?_;have hO:opE l now=11:=(if_neg hU).trans (if_pos ⟨by rw[<- e1];exact h2,by rw[<- e2,hcl];exact h3⟩);rw[Om (by rw[hO];decide),hO];have B13:=(B9.trans b12);exact qE2 4 5 25 0 (σ1 0) #[iv 0,iv 0,iv 0,iv 0,iv 0] (iv 11) λK=>⟨rfl,B13⟩
   .refine kT 10 (.bool false) (λ_=>(GY (t:=3) (m:=m.c) (n:=cl) (x:=(.tmp 25)) (y:=(.tmp 29)) (by simpa using h3))) ?_;refine kR 10 [22,1,2] λσ14 w14 b14=>?_;obtain⟨F,hF⟩:∃ F,Ez a b c m.k m.c m.s m.n m.v now=F:=⟨_,rfl⟩;have hO:opE l now=F:=(if_neg hU).trans ((if_neg (λg=>g.2 (by rw[<- e2,hcl];simpa using h3))).trans (by rw[<- hF,ha,hb_,hc,hmm]));have B15:=(btr B9 b14);refine kC 3 (MB (hN.below B15) hF) ?_;rintro _ w16 ⟨rfl,b16⟩;refine⟨_,rfl,b16,?_⟩;refine kR 7 [] λσ17 w17 b17=>?_;by_cases h4:F≠0
    .refine kI ((F != 0)) true (by simpa using h4) ?_;refine kF 7 [0,0] λσ18 w18 b18 q18=>?_;rw[Om (by rw[hO];exact h4),hO];have B19:=((btr (btr B15 b16) b17).trans b18);exact qE2 4 5 25 0 (σ1 0) #[iv 0,iv 0,iv 0,iv 0,iv 0] (iv F) λK=>⟨rfl,B19⟩
    .refine kI ((F != 0)) false (by simpa using h4) ?_;have h40:F=0:=by simpa using h4
     refine kF 7 [2,0,0] λσ20 w20 b20 q20=>?_;rw[show opA l now=#[iv m.k,iv m.c,iv m.s,iv m.n,iv m.v]from(XC (hO.trans h40)).trans (by rw[hmm];rfl),hO,h40];have B21:=((btr (btr B15 b16) b17).trans b20);exact qE2 4 5 25 0 (σ1 0) #[iv m.k,iv m.c,iv m.s,iv m.n,iv m.v] (iv 0) λK=>⟨rfl,B21⟩
  .refine kT 2 (.bool false) (λ_=>(GY (t:=3) (m:=m.k) (n:=0) (x:=(.tmp 21)) (y:=(.const (iv 0))) (by simpa using h2))) ?_;refine kR 18 [6,8,10,12,14,16,18,20,22,1,2] λσ22 w22 b22=>?_;obtain⟨F,hF⟩:∃ F,Ez a b c m.k m.c m.s m.n m.v now=F:=⟨_,rfl⟩;have hO:opE l now=F:=(if_neg hU).trans ((if_neg (λg=>g.1 (by rw[<- e1];simpa using h2))).trans (by rw[<- hF,ha,hb_,hc,hmm]));have B23:=(btr (btr (btr (btr b1 b2) b3) b6) b22);refine kC 3 (MB (hN.below B23) hF) ?_;rintro _ w24 ⟨rfl,b24⟩;refine⟨_,rfl,b24,?_⟩;refine kR 7 [] λσ25 w25 b25=>?_;by_cases h4:F≠0
   .refine kI ((F != 0)) true (by simpa using h4) ?_;refine kF 7 [0,0] λσ26 w26 b26 q26=>?_;rw[Om (by rw[hO];exact h4),hO];have B27:=((btr (btr B23 b24) b25).trans b26);exact qE2 4 5 25 0 (σ1 0) #[iv 0,iv 0,iv 0,iv 0,iv 0] (iv F) λK=>⟨rfl,B27⟩
   .refine kI ((F != 0)) false (by simpa using h4) ?_;have h40:F=0:=by simpa using h4
    refine kF 7 [2,0,0] λσ28 w28 b28 q28=>?_;rw[show opA l now=#[iv m.k,iv m.c,iv m.s,iv m.n,iv m.v]from(XC (hO.trans h40)).trans (by rw[hmm];rfl),hO,h40];have B29:=((btr (btr B23 b24) b25).trans b28);exact qE2 4 5 25 0 (σ1 0) #[iv m.k,iv m.c,iv m.s,iv m.n,iv m.v] (iv 0) λK=>⟨rfl,B29⟩
theorem X2{v:Value}{c:Cmd}(h:Sl w v l)(hT:AE w)(hq:CB w)(hN:NTab w)(he:opE l now=e0)(hc:Li l now=c) :
  Calls prog 77 #[v,iv now] w λe w'=>e=.returned (.tuple #[.agg #[iv c.k,iv c.c,iv c.s,iv c.n,iv c.v],iv e0])/\Bw w w':=by
 have h1:=UD v l now w h hT hq hN;rw[el,he,hc]at h1
 exact h1
theorem Vi{g:Gh}{i nb ob:Nat}{p:Nod}{ls:List Let}{ts:List Tol}(h:NS i nb ob g w p ls ts){w0:World}(hB:Base w0 g w)(hT:Tabs w0)(dv:S3)(data:List Int)(hd:Sl w dv.v data){n:Nat}(hok:NOk n p)(hbad:p.bad<100000000)(hw:p.wants.length<100000000)(hts:ts.length<100000000){c:Cmd}(he:opE data (p.done:Int)=e0)(hc:Li data (p.done:Int)=c) :
  Calls prog 48 #[pt nb 0,dv.v] w (NP i nb ob g w (.tuple #[]) (p.sub0 i e0 c ts).1 ls (p.sub0 i e0 c ts).2):=by
 obtain⟨x,lt,tl,hN,hO,hg⟩:=h;have hdn:=hok.dn;have hag:=hok.ag;refine gI (fn:=f48) (TN i) g func48 hg ?_;refine qN hN ?_;refine qO hO ?_;refine qR [] 9 [0] λs1 g1 w1 c1=>?_;by_cases h1:p.up=true
 .refine qI ((!p.up)) false (by simpa using h1) ?_;have hdown:¬ p.up=false:=by simp[h1]
  refine qR [] 9 [0] λs2 g2 w2 c2=>?_;have hB1:=hB.ch (c1.trans c2);have hb1:=Cg.below (c1.trans c2) (λ_ _=>M');refine qC 6 (X2 (hd.below hb1) (hB1.tt hT) (hB1.tq hT) (hB1.tn hT) he hc) ?_;rintro e' w3 ⟨rfl,b3⟩;refine⟨_,rfl,b3,?_⟩;have c3:=Cg.ofBelow (B:=w.heap.size) (T:=[]) (g:=g2) b3;refine qR [] 13 [0,0,2,0] λs4 g4 w4 c4=>?_;by_cases h2:e0≠0
  .refine qI ((e0 != 0)) true (by simpa using h2) ?_;refine qR [] 6 [0] λs5 g5 w5 c5=>?_;refine qV 4 (iv ((p.bad+1:Nat):Int)) (AD (x:=(.tmp 29)) (y:=(.const (iv 1))) (p.bad:Int) 1 underlying3 (by omega)) ?_;refine qR [.n 0 i] 4 [0,1] λs6 g6 w6 c6=>?_;refine qE (.tuple #[]) λK=>?_;rw[show p.sub0 i e0 c ts=({ p with bad:=p.bad+1 },ts)from(if_neg hdown).trans (if_pos h2)];have C7:=(((((c1.nil ([.n 0 i]:List Tg)).n c2).n c3).n c4).n c5).trans (c6);exact⟨_,rfl,⟨x,lt,tl,K.ndu 0 hN C7,hO.ch C7 (hn:=by simp<;>omega),K.new⟩,((((((c1.nil (TN i)).n c2).n c3).n c4).n c5).trans (c6.mono (by simp[TN])))⟩
  .refine qI ((e0 != 0)) false (by simpa using h2) ?_;refine qR [] 6 [4,0,4,2] λs8 g8 w8 c8=>?_;refine Ag λK=>?_;have N10:NS i nb ob g8 w8 p ls ts:=(nsC hN hO ((((c1.n c2).n c3).n c4).n c8) K);refine qC 1 (Td N10 hdn) ?_;rintro e' w11 ⟨y11,rfl,hy11,b11⟩;refine⟨_,rfl,b11,?_⟩;have c11:=Cg.ofBelow (B:=w.heap.size) (T:=[]) (g:=g8) b11;refine qC 3 (EL (l:=p.agreed.take p.done) hy11 (by rw[iO];omega) c) ?_;rintro e' w13 ⟨rfl,b13⟩;refine⟨_,rfl,b13,?_⟩;have c13:=Cg.ofBelow (B:=w.heap.size) (T:=[]) (g:=g8) b13;refine qR [] 1 [] λs14 g14 w14 c14=>?_;by_cases h3:c∈p.agreed.take p.done
   .refine qI ((decide (c∈p.agreed.take p.done))) true (by simpa using h3) ?_;refine qR [] 8 [16,0,2,4,6,8,0,10,2] λs15 g15 w15 c15=>?_;refine BX 55 (λg' w' e L=>∃ (b6 b7:Nat),e=[(0,pt nb 0),(4,pt (s4 0) 0),(6,pt b6 0),(7,pt b7 0)]/\L=[⟨nb,.cells (AB i ob p x) 123,.n 0 i,false⟩,⟨ob,.cells #[S3.v lt,S3.v tl] 94,.n 50 0,false⟩,⟨(s4 0),.cells #[iv c.k,iv c.c,iv c.s,iv c.n,iv c.v] 25,.z,false⟩,⟨b6,.cells (stA (doS p.sto c)) 115,.l,false⟩,⟨b7,.cells #[iv (doC p.sto c),iv (doA p.sto c)] 112,.l,false⟩]/\Cg w.heap.size [] g w g' w') (by kernel_rfl) ?_ ?_
    .intro J hJ;refine WK 6 11 12 (by kernel_rfl) ?_ ?_ ?_
     .have hB18:=hB.ch ((((((((c1.trans c2).trans c3).trans c4).trans c8).trans c11).trans c13).trans c14).trans c15) (by simp);refine qC 6 (Dj p.sto c.k c.c c.s c.n c.v w15 (hB18.tn hT)) ?_;rintro e' w19 ⟨rfl,b19⟩;refine⟨_,rfl,b19,?_⟩;have c19:=Cg.ofBelow (B:=w.heap.size) (T:=[]) (g:=g15) b19;refine qR [] 4 [14,16,18,20] λs20 g20 w20 c20=>?_;refine CN 11 12 (by kernel_rfl) ?_ ?_
      .refine qR [] 6 [1,0,25,1,0,27,3,0,29,4,0,30] λs21 g21 w21 c21=>?_;exact qB [true,true,true,true,true] λz K0 K=>hJ _ _ _ z _ ⟨(s21 0),(s21 1),rfl,rfl,(((((((((((c1.trans c2).trans c3).trans c4).trans c8).trans c11).trans c13).trans c14).trans c15).trans c19).trans c20).trans c21)⟩ K
      .refine qR [] 6 [1,0,23,1,0,27,4,0,29,3,0,30] λs22 g22 w22 c22=>?_;refine MR ?_;exact qB [true,true,true,true,true] λz K0 K=>hJ _ _ _ z _ ⟨(s22 1),(s22 0),rfl,rfl,(((((((((((c1.trans c2).trans c3).trans c4).trans c8).trans c11).trans c13).trans c14).trans c15).trans c19).trans c20).trans c22)⟩ K
     .refine qR [] 1 [1,0] λs23 g23 w23 c23=>?_;refine CN 6 12 (by kernel_rfl) ?_ ?_
      .have hB25:=hB.ch (((((((((c1.trans c2).trans c3).trans c4).trans c8).trans c11).trans c13).trans c14).trans c15).trans c23) (by simp);refine qC 6 (Dj p.sto c.k c.c c.s c.n c.v w23 (hB25.tn hT)) ?_;rintro e' w26 ⟨rfl,b26⟩;refine⟨_,rfl,b26,?_⟩;have c26:=Cg.ofBelow (B:=w.heap.size) (T:=[]) (g:=g23) b26;refine qR [] 9 [14,16,18,20,25,1,0,27,3,0,29,4,0,30] λs27 g27 w27 c27=>?_;exact qB [true,true,true,true,true] λz K0 K=>hJ _ _ _ z _ ⟨(s23 0),(s27 0),rfl,rfl,(((((((((((c1.trans c2).trans c3).trans c4).trans c8).trans c11).trans c13).trans c14).trans c15).trans c23).trans c26).trans c27)⟩ K
      .refine qR [] 1 [1,0] λs28 g28 w28 c28=>?_;have hB29:=hB.ch ((((((((((c1.trans c2).trans c3).trans c4).trans c8).trans c11).trans c13).trans c14).trans c15).trans c23).trans c28) (by simp);refine qC 6 (Dj p.sto c.k c.c c.s c.n c.v w28 (hB29.tn hT)) ?_;rintro e' w30 ⟨rfl,b30⟩;refine⟨_,rfl,b30,?_⟩;have c30:=Cg.ofBelow (B:=w.heap.size) (T:=[]) (g:=g28) b30;refine qR [] 8 [14,16,18,20,27,3,0,29,4,0,30] λs31 g31 w31 c31=>?_;exact qB [true,true,true,true,true] λz K0 K=>hJ _ _ _ z _ ⟨(s23 0),(s28 0),rfl,rfl,((((((((((((c1.trans c2).trans c3).trans c4).trans c8).trans c11).trans c13).trans c14).trans c15).trans c23).trans c28).trans c30).trans c31)⟩ K
     .refine qR [] 1 [1,0] λs32 g32 w32 c32=>?_;refine CN 6 11 (by kernel_rfl) ?_ ?_
      .have hB34:=hB.ch (((((((((c1.trans c2).trans c3).trans c4).trans c8).trans c11).trans c13).trans c14).trans c15).trans c32) (by simp);refine qC 6 (Dj p.sto c.k c.c c.s c.n c.v w32 (hB34.tn hT)) ?_;rintro e' w35 ⟨rfl,b35⟩;refine⟨_,rfl,b35,?_⟩;have c35:=Cg.ofBelow (B:=w.heap.size) (T:=[]) (g:=g32) b35;refine qR [] 9 [14,16,18,20,23,1,0,27,4,0,29,3,0,30] λs36 g36 w36 c36=>?_;refine MR ?_;exact qB [true,true,true,true,true] λz K0 K=>hJ _ _ _ z _ ⟨(s36 0),(s32 0),rfl,rfl,(((((((((((c1.trans c2).trans c3).trans c4).trans c8).trans c11).trans c13).trans c14).trans c15).trans c32).trans c35).trans c36)⟩ K
      .refine qR [] 1 [1,0] λs37 g37 w37 c37=>?_;have hB38:=hB.ch ((((((((((c1.trans c2).trans c3).trans c4).trans c8).trans c11).trans c13).trans c14).trans c15).trans c32).trans c37) (by simp);refine qC 6 (Dj p.sto c.k c.c c.s c.n c.v w37 (hB38.tn hT)) ?_;rintro e' w39 ⟨rfl,b39⟩;refine⟨_,rfl,b39,?_⟩;have c39:=Cg.ofBelow (B:=w.heap.size) (T:=[]) (g:=g37) b39;refine qR [] 8 [14,16,18,20,27,4,0,29,3,0,30] λs40 g40 w40 c40=>?_;refine MR ?_;exact qB [true,true,true,true,true] λz K0 K=>hJ _ _ _ z _ ⟨(s37 0),(s32 0),rfl,rfl,((((((((((((c1.trans c2).trans c3).trans c4).trans c8).trans c11).trans c13).trans c14).trans c15).trans c32).trans c37).trans c39).trans c40)⟩ K
    .rintro g16 w16 _ z16 _ ⟨b6,b7,rfl,rfl,hcc⟩;refine qR [] 5 [2,4] λs41 g41 w41 c41=>?_;rw[show p.sub0 i e0 c ts=(p,(ts++[⟨i,c.c,c.s,doC p.sto c,doA p.sto c⟩]))from(if_neg hdown).trans ((if_neg h2).trans (if_pos h3))];refine qS 3 [false,false,true,true,true] hN hO (hcc.n c41) (λN42=>Qv N42 hts c (doC p.sto c) (doA p.sto c)) λg42 w42 x42 lt42 tl42 hN42 hO42 c42=>?_;refine qR [] 1 [] λs44 g44 w44 c44=>?_;exact qF hN42 hO42 c44 ((((hcc.nil (TN i)).n c41).trans (c42)).n c44)
   .refine qI ((decide (c∈p.agreed.take p.done))) false (by simpa using h3) ?_;refine qR [] 4 [2] λs46 g46 w46 c46=>?_;rw[show p.sub0 i e0 c ts=(p.want c,ts)from(if_neg hdown).trans ((if_neg h2).trans (if_neg h3))];refine qS 2 [false,false,true] hN hO ((((((((c1.n c2).n c3).n c4).n c8).n c11).n c13).n c14).n c46) (λN47=>YP N47 h1 hw c) λg47 w47 x47 lt47 tl47 hN47 hO47 c47=>?_;refine qR [] 1 [] λs49 g49 w49 c49=>?_;exact qF hN47 hO47 c49 (((((((((((c1.nil (TN i)).n c2).n c3).n c4).n c8).n c11).n c13).n c14).n c46).trans (c47)).n c49)
 .refine qI ((!p.up)) true (by simpa using h1) ?_;refine qE (.tuple #[]) λK=>?_;rw[show p.sub0 i e0 c ts=(p,ts)from if_pos (by simpa using h1)];exact⟨_,rfl,(nsC hN hO c1 K),(c1.nil (TN i))⟩
end
end Go.Proofs.YtalbmmghmoggcadGreatDoor
