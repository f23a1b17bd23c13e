/- Part 14 of the walk. -/
import Derived.Lib.AppendZeros
import Derived.Test.YtalbmmghmoggcaaGreatDoorZ13
set_option maxRecDepth 100000
set_option maxHeartbeats 4000000
open Go.Proofs.Tryz
set_option linter.unusedVariables false
namespace Go.Proofs.YtalbmmghmoggcaaGreatDoor
section
open Go.RowKit
def LU(k:Nat):Int:=if k=1 then 2 else if k=2 then 1 else if k=3 then 4 else 0
theorem NTab.right{w:World}(h:NTab w)(k:Nat)(h1:k<=3):w.cell? ⟨2,k*3,none⟩=some (.int .i64 (LU k)):=by
 rcases(by omega:k=0\/k=1\/k=2\/k=3)with rfl|rfl|rfl|rfl
 .exact h.cell 0 (by omega)
 .exact h.cell 3 (by omega)
 .exact h.cell 6 (by omega)
 .exact h.cell 9 (by omega)
theorem SQ(k:Nat)(r:Int)(hk:k<=3)(h0:0<=r)(h1:r<=7):(bits .and .i64 r (LU k)=0)↔¬ Mq (k:Int) r:=by
 have all:∀ (i:Fin 4) (j:Fin 8),(bits .and .i64 ((j.val:Nat):Int) (LU i.val)=0)↔¬ Mq ((i.val:Nat):Int) ((j.val:Nat):Int):=by decide +kernel
 obtain⟨m,rfl⟩:=Int.eq_ofNat_of_zero_le h0;exact all ⟨k,by omega⟩ ⟨m,by omega⟩
theorem Pu(tc tr tu k c s n v now:Int)(w:World)(ht:NTab w) :
  Calls prog 94 #[.agg (tkA tc tr tu),.agg (cmA k c s n v),.int .i64 now] w fun e w'=>e=.returned (.int .i64 (DZ tc tr tu k c s n v now))/\Bw w w':=by
 have b1:Bw w (w.alloc (.cells (tkA tc tr tu) 58)):=(Below.refl _ _).alloc (Nat.le_refl _) _;have bt:=Bt.made w tc tr tu;have z1:(w.alloc (.cells (tkA tc tr tu) 58)).heap.size=w.heap.size+1:=by simp
 have b2:Below (w.alloc (.cells (tkA tc tr tu) 58)).heap.size (w.alloc (.cells (tkA tc tr tu) 58)) ((w.alloc (.cells (tkA tc tr tu) 58)).alloc (.cells (cmA k c s n v) 54)):=(Below.refl _ _).alloc (Nat.le_refl _) _;have bc:=Bc.made (w.alloc (.cells (tkA tc tr tu) 58)) k c s n v;replace bt:=bt.below b2;have bb:=b1.trans (b2.mono b1.size);have hT:=ht.below bb;rw[z1]at bc
 clear b1 b2 ht z1;have hic:=F8 k c s n v;have hit:=Hp tc tr tu;generalize hW:(w.alloc (.cells (tkA tc tr tu) 58)).alloc (.cells (cmA k c s n v) 54)=W at bb bt bc hT;go_enter func94,ntmps94
 go_wp2_with (refine wpList_load_row rfl 58 _ rfl w.heap.size rfl 58 _ (0,0) _ bt.row underlying58 rfl hit ?_)
 clear hW;refine(Ig tc tr tu _).mono ?_;rintro e w1 ⟨rfl,b1⟩;have d1:Bw w w1:=bb.trans (b1.mono bb.size);replace bt:=bt.below b1;replace bc:=bc.below b1;replace hT:=hT.below b1;clear b1 bb;by_cases h1:CE tc tr tu
 .rw[decide_eq_true h1];go_wp2_with (refine wpList_load_row rfl 54 _ rfl (w.heap.size+1) rfl 54 _ (0,0) _ bc.row underlying54 rfl hic ?_)
  refine(Du k c s n v _ hT).mono ?_;rintro e w2 ⟨rfl,b2⟩;have d2:Bw w w2:=d1.trans (b2.mono d1.size);replace bt:=bt.below b2;replace bc:=bc.below b2;replace hT:=hT.below b2;clear b2 d1;by_cases h2:AT k c s n v=0
  .have hz:=F7 h2;obtain⟨m,rfl⟩:=Int.eq_ofNat_of_zero_le hz.1.1;have k0:(0:Int)<=(m:Int):=by omega
   have k1:(m:Int)<4:=by omega
   have k2:m<4:=by omega
   have hR:=hT.right m (by omega);have hB:=SQ m tr (by omega) h1.2.1.1 h1.2.1.2;obtain⟨c0,c1,c2,c3,c4⟩:=Eb bc.row;obtain⟨t0,t1,t2⟩:=Ix bt.row;have H1:Hid (CE tc tr tu):=h1;have H2:Hid (AT (m:Int) c s n v=0):=h2;rw[h2];clear h1 h2 hz bt bc hT;by_cases h3:c=tc
   .have h3':decide (c=tc)=true:=decide_eq_true h3;by_cases h4:bits .and .i64 tr (LU m)=0
    .have HE:Hid (11=DZ tc tr tu (m:Int) c s n v now):=(J6 H1.out H2.out (fun g=>hB.1 h4 g.1)).symm;have H3:Hid (c=tc):=h3;clear hB H1 H2;subst h3;clear h3';generalize LU m=R at hR h4;go_wp2_with fail
     go_quiet (fail)
     have e1:Bw w (w2.drewN nq):=An d2 nq;generalize w2.drewN nq=w3 at e1 ⊢;go_wp2
     go_ret;exact⟨Az HE.out,e1⟩
    .have HR:Hid (Mq (m:Int) tr/\c=tc):=⟨Classical.not_not.1 fun g=>h4 (hB.2 g),h3⟩;clear hB;subst h3;clear h3';generalize LU m=R at hR h4;go_wp2_with fail
     go_quiet (fail)
     have e1:Bw w (w2.drewN nq):=An d2 nq;have t2':(w2.drewN nq).cell? ⟨w.heap.size,2,none⟩=some (.int .i64 tu):=by simpa using t2
     generalize w2.drewN nq=w3 at e1 t2' ⊢;clear c0 c1 c2 c3 c4 t0 t1 t2 hR;go_wp2_with fail
     refine(El now tu _).mono ?_;rintro e w4 ⟨rfl,rfl⟩;by_cases h5:0<=now/\now<=tu
     .rw[decide_eq_true h5];have HE:Hid (0=DZ c tr tu (m:Int) c s n v now):=(X3 H1.out H2.out ⟨HR.out.1,rfl⟩ h5).symm;go_wp2
      go_ret;exact⟨Az HE.out,e1⟩
     .rw[decide_eq_false h5];have HE:Hid (10=DZ c tr tu (m:Int) c s n v now):=(Sr H1.out H2.out ⟨HR.out.1,rfl⟩ h5).symm;go_wp2
      go_ret;exact⟨Az HE.out,e1⟩
   .have h3':decide (c=tc)=false:=decide_eq_false h3;have HE:Hid (11=DZ tc tr tu (m:Int) c s n v now):=(J6 H1.out H2.out (fun g=>h3 g.2)).symm;clear hB H1 H2;go_wp2_with fail
    go_quiet (fail)
    have e1:Bw w (w2.drewN nq):=An d2 nq;generalize w2.drewN nq=w3 at e1 ⊢;go_wp2
    go_ret;exact⟨Az HE.out,e1⟩
  .have HE:Hid (AT k c s n v=DZ tc tr tu k c s n v now):=(Up h1 h2).symm;go_wp2
   go_ret;exact⟨Az HE.out,d2⟩
 .rw[decide_eq_false h1];have HE:Hid (2=DZ tc tr tu k c s n v now):=(Uq h1).symm;go_wp2
  go_ret;exact⟨Az HE.out,d1⟩
theorem V2{c:Int}{w:World}(h0:0<=c)(ht:AA w){E:Int}(hE:(if c<=7 then 0 else 2)=E) :
  Calls prog 37 #[iv c] w fun e w'=>∃ y:S3,e=.returned (.tuple #[y.v,iv E])/\(E=0->Sl w' y.v (FJ c))/\Bw w w':=by
 subst hE;by_cases h:c<=7
 .rw[if_pos h];refine(bp c w h0 h ht).mono ?_;rintro e w' ⟨v,rfl,ho,hb⟩;obtain⟨y,rfl,hy⟩:=Fi ho (by rw[Fd];decide) (SY c);exact⟨y,rfl,fun _=>hy,hb⟩
 .rw[if_neg h];refine(bj c w (by omega)).mono ?_;rintro e w' ⟨rfl,rfl⟩;exact⟨s30,rfl,fun h=>absurd h (by decide),Below.refl _ _⟩
theorem Ie{w:World}(ht:AA w):Calls prog 35 #[] w fun e w'=>∃ y:S3,e=.returned y.v/\Sl w' y.v FI/\Bw w w':=by
 refine(Qe w ht).mono ?_;rintro e w' ⟨v,rfl,ho,hb⟩;obtain⟨y,rfl,hy⟩:=Fi ho (by rw[IB];decide) ST;exact⟨y,rfl,hy,hb⟩
theorem bJ{x:S3}{key:List Int}{w:World}(hk:Sl w x.v key)(hl:key.length=32) :
  Calls prog 156 #[x.v] w fun e w'=>∃ y:S3,e=.returned (.tuple #[.agg #[y.v,iv 0,iv 0,.bool false,.bool false,.bool false,.bool false,.bool false,.bool false,.bool false,.bool false],iv 0])/\Sl w' y.v key/\Bw w w':=by
 refine(Y1 x.v key w hk).mono ?_;rw[if_pos hl,if_pos hl];rintro e w' ⟨v,rfl,ho,hb⟩;obtain⟨y,rfl,hy⟩:=Fi ho hk.len hk.byte;exact⟨y,rfl,hy,hb⟩
theorem UY{l:List Bool}(h:l.length=8):∃ a b c d e f g k,l=[a,b,c,d,e,f,g,k]:=by
 match l,h with
 | [a,b,c,d,e,f,g,k],_=>exact⟨a,b,c,d,e,f,g,k,rfl⟩
theorem RU{x y:S3}{key r:List Int}{w:World}(hk:Sl w x.v key)(hr:Sl w y.v r)(ht:Cf w){E:Int}(hE:BR key 0 0 noB r=E) :
  Calls prog 157 #[.agg #[x.v,iv 0,iv 0,.bool false,.bool false,.bool false,.bool false,.bool false,.bool false,.bool false,.bool false],y.v] w fun e w'=>∃ (c v:S3) (t:Int) (x0 x1 x2 x3 x4 x5 x6 x7:Bool),e=.returned (.tuple #[.agg #[c.v,iv 0,iv t,.bool x0,.bool x1,.bool x2,.bool x3,.bool x4,.bool x5,.bool x6,.bool x7],v.v,iv E])/\Sl w' v.v (if E=0 then IS key r else[])/\Bw w w':=by
 by_cases h:E=0
 .subst h;refine(Zh x.v key 0 0 noB y.v r w hk rfl hr ht hE _ rfl).mono ?_;rintro e w' ⟨v1,v2,rfl,h1,_,h2,hb⟩;obtain⟨c,rfl,_⟩:=RQ h1;obtain⟨v,rfl,hv⟩:=RQ h2;obtain⟨x0,x1,x2,x3,x4,x5,x6,x7,hx⟩:=UY (DH 0 noB (E4 (r.take 4)));rw[hx];exact⟨c,v,_,x0,x1,x2,x3,x4,x5,x6,x7,rfl,by rw[if_pos rfl];exact hv,hb⟩
 .refine(Zg x.v key 0 0 noB y.v r w hk rfl hr ht E hE h).mono ?_;rintro e w' ⟨rfl,hb⟩;exact⟨s30,s30,0,false,false,false,false,false,false,false,false,rfl,by rw[if_neg h];exact D7 _,hb⟩
theorem Ky{x y:S3}{key l:List Int}{w:World}(hk:Sl w x.v key)(hb:Sl w y.v l)(ht:AA w){E:Int}(hE:D6 key l=E) :
  Calls prog 125 #[x.v,y.v] w fun e w'=>∃ a b c:Int,e=.returned (.tuple #[.agg #[iv a,iv b,iv c],iv E])/\(E=0->a=l.getD 0 0/\b=l.getD 1 0/\c=Ab l 2)/\Bw w w':=by
 subst hE;refine(Tv x.v y.v key l w hk hb ht).mono ?_;rintro e w' ⟨rfl,h⟩;by_cases h0:D6 key l=0
 .rw[RL h0];exact⟨_,_,_,rfl,fun _=>⟨rfl,rfl,rfl⟩,h⟩
 .rw[Ha h0];exact⟨0,0,0,rfl,fun g=>absurd g h0,h⟩
theorem SA{x:S3}{l:List Int}{w:World}(h:Sl w x.v l)(ht:NTab w){E:Int}(hE:BZ l=E) :
  Calls prog 126 #[x.v] w fun e w'=>∃ m:Cmd,e=.returned (.tuple #[.agg #[iv m.k,iv m.c,iv m.s,iv m.n,iv m.v],iv E])/\(E=0->m=⟨Ab l 0,Ab l 4,Ab l 8,Ab l 12,Ab l 16⟩)/\Bw w w':=by
 subst hE;refine(JL x.v l w h ht).mono ?_;rintro e w' ⟨rfl,hb⟩;by_cases h0:BZ l=0
 .rw[show Ja l=_ from if_pos h0];exact⟨⟨Ab l 0,Ab l 4,Ab l 8,Ab l 12,Ab l 16⟩,rfl,fun _=>rfl,hb⟩
 .rw[show Ja l=_ from if_neg h0];exact⟨⟨0,0,0,0,0⟩,rfl,fun g=>absurd g h0,hb⟩
theorem Tn{x:S3}{l:List Int}{w:World}(h:Sl w x.v l)(hT:AA w)(hq:Cf w){E:Int}(hE:O3 l=E){D:List Int}(hD:MM l=D) :
  Calls prog 124 #[x.v] w fun e w'=>∃ y:S3,e=.returned (.tuple #[y.v,iv E])/\Sl w' y.v D/\Bw w w':=by
 have hn:=Ir h;subst hE hD;refine kIn func124 ?_;refine kR 12 [] fun σ1 w1 b1=>?_;by_cases h1:x.n=0
 .refine kI (((x.n:Int)==0)) true (by simp;omega) ?_;refine kR 5 [] fun σ2 w2 b2=>?_;have B3:=(btr b1 b2);obtain rfl:l=[]:=List.eq_nil_of_length_eq_zero (by omega);exact kE (.tuple #[S3.v s30,iv 13]) ⟨s30,rfl,D7 _,B3⟩
 .refine kI (((x.n:Int)==0)) false (by simp;omega) ?_;have hl0:¬ l=[]:=fun e=>h1 (by rw[hn,e];rfl);obtain⟨bd,od,hix,hbs,hbc⟩:=OS h (by omega);obtain⟨c,hc⟩:∃ c,l.getD 0 0=c:=⟨_,rfl⟩;have hcb:=Aj h.byte 0;rw[hc]at hbc hcb
  refine kR 4 [] fun σ4 w4 b4=>?_;refine kV 1 (pt bd od) (hix _) ?_;have B6:=(btr b1 b4);refine kV 2 (.int .u8 c) (CV underlying5 rfl ((Below.cell B6 (p:=⟨bd,od,none⟩) hbs).trans hbc)) ?_;refine kV 3 (iv c) (rUi hcb) ?_;obtain⟨E1,hE1⟩:∃ E1:Int,(if c<=7 then 0 else 2)=E1:=⟨_,rfl⟩;refine kC 4 (V2 hcb.1 (hT.below B6) hE1) ?_;rintro _ w9 ⟨yk,rfl,hyk,b9⟩;refine⟨_,rfl,b9,?_⟩;refine kR 12 [] fun σ10 w10 b10=>?_;by_cases h2:E1≠0
  .refine kI ((E1 != 0)) true (by simpa using h2) ?_;refine kR 6 [] fun σ11 w11 b11=>?_;have B12:=(btr (btr (btr B6 b9) b10) b11);have h7:¬ c<=7:=fun g=>h2 (by rw[<- hE1,if_pos g]);have hE2:E1=2:=by rw[<- hE1,if_neg h7]
   have hO:O3 l=2:=(if_neg hl0).trans (if_pos (by rw[hc];omega));rw[hO,show MM l=[]from if_neg (by rw[hO];decide),hE2];exact kE (.tuple #[S3.v s30,iv 2]) ⟨s30,rfl,D7 _,B12⟩
  .refine kI ((E1 != 0)) false (by simpa using h2) ?_;have h20:E1=0:=by simpa using h2
   have h7:c<=7:=by by_cases g:c<=7;exact g;rw[if_neg g,h20]at hE1;cases hE1
   have hyk1:=hyk h20;refine kR 4 [] fun σ13 w13 b13=>?_;refine kC 1 (bJ ((hyk1.below b10).below b13) (Fd c)) ?_;rintro _ w14 ⟨yc,rfl,hyc,b14⟩;refine⟨_,rfl,b14,?_⟩;obtain⟨y1,hy1,hyb,_⟩:=slB h 1 (by omega);obtain⟨E,hE⟩:∃ E,BR (FJ c) 0 0 noB (l.drop 1)=E:=⟨_,rfl⟩;refine kR 19 [0,0,0,0,3,0,0,2] fun σ15 w15 b15=>?_;refine kT 2 (S3.v y1) (fun _=>(hy1 _)) ?_;refine V1 41 (fun w' e L=>∃ (v:S3) (b7:Nat) (cs:Array Value),e=[(8,S3.v v),(5,iv E)]/\L=[⟨(σ15 0),.cells #[S3.v yc,iv 0,iv 0,.bool false,.bool false,.bool false,.bool false,.bool false,.bool false,.bool false,.bool false] 110,.z,false⟩,⟨b7,.cells cs 110,.l,false⟩]/\Sl w' v.v (if E=0 then IS (FJ c) (l.drop 1)else[])/\Bw w w') ?_ ?_
   .intro J hJ;refine SX 3 8 ?_ ?_
    .have B19:=(btr (btr (btr (btr (btr B6 b9) b10) b13) b14) b15);refine kC 3 (RU (hyc.below b15) (hyb.below B19) (hq.below hq.pos B19) hE) ?_;rintro _ w20 ⟨cc20,v20,t20,x0,x1,x2,x3,x4,x5,x6,x7,rfl,hv20,b20⟩;refine⟨_,rfl,b20,?_⟩;refine kR 9 [8,10,12,14,17,1,0,19,1,0,20,22] fun σ21 w21 b21=>?_;have B22:=(btr (btr B19 b20) b21);exact kB [true,true] fun z K=>hJ _ _ z _ ⟨v20,(σ21 0),#[S3.v cc20,iv 0,iv t20,.bool x0,.bool x1,.bool x2,.bool x3,.bool x4,.bool x5,.bool x6,.bool x7],rfl,rfl,(hv20.below b21),B22⟩ K
    .refine kR 1 [1,0] fun σ23 w23 b23=>?_;have B24:=(btr (btr (btr (btr (btr (btr B6 b9) b10) b13) b14) b15) b23);refine kC 3 (RU ((hyc.below b15).below b23) (hyb.below B24) (hq.below hq.pos B24) hE) ?_;rintro _ w25 ⟨cc25,v25,t25,x0,x1,x2,x3,x4,x5,x6,x7,rfl,hv25,b25⟩;refine⟨_,rfl,b25,?_⟩;refine kF 8 [8,10,12,14,19,1,0,20,22] fun σ26 w26 b26 q26=>?_;have B27:=((btr B24 b25).trans b26);exact kB [true,true] fun z K=>hJ _ _ z _ ⟨v25,(σ23 0),#[S3.v cc25,iv 0,iv t25,.bool x0,.bool x1,.bool x2,.bool x3,.bool x4,.bool x5,.bool x6,.bool x7],rfl,rfl,(hv25.kept q26),B27⟩ K
   .rintro w17 _ z17 _ ⟨v,b7,cs,rfl,rfl,hv,hb⟩;refine kR 7 [] fun σ28 w28 b28=>?_;have B29:=(btr hb b28);have hO:O3 l=E:=(if_neg hl0).trans ((if_neg (by rw[hc];omega)).trans (by rw[hc];exact hE));have hOL:MM l=(if E=0 then IS (FJ c) (l.drop 1)else[]):=by unfold MM;rw[hO,hc]
    rw[hO,hOL];exact kE (.tuple #[S3.v v,iv E]) ⟨v,rfl,(hv.below b28),B29⟩
theorem Pi{x:S3}{l:List Int}{w:World}(h:Sl w x.v l)(hT:AA w)(hq:Cf w)(hN:NTab w){E:Int}(hE:unE l=E) :
  Calls prog 93 #[x.v] w fun e w'=>∃ (a b c:Int) (m:Cmd),e=.returned (.tuple #[.agg #[iv a,iv b,iv c],.agg #[iv m.k,iv m.c,iv m.s,iv m.n,iv m.v],iv E])/\(E=0->a=(unT l).getD 0 0/\b=(unT l).getD 1 0/\c=Ab (unT l) 2/\m=⟨Ab (unQ l) 0,Ab (unQ l) 4,Ab (unQ l) 8,Ab (unQ l) 12,Ab (unQ l) 16⟩)/\Bw w w':=by
 obtain⟨E0,hE0⟩:∃ E0,O3 l=E0:=⟨_,rfl⟩;obtain⟨D,hD⟩:∃ D,MM l=D:=⟨_,rfl⟩;unfold unT unQ;unfold unE unT unQ at hE;rw[hD]at hE ⊢
 rw[hE0]at hE
 refine kIn func93 ?_;refine kR 9 [1,0,1,0] fun σ1 w1 b1=>?_;refine kC 1 (Tn (h.below b1) (hT.below b1) (hq.below hq.pos b1) hE0 hD) ?_;rintro _ w2 ⟨y,rfl,hy,b2⟩;refine⟨_,rfl,b2,?_⟩;have hyn:=Ir hy;refine kR 12 [] fun σ3 w3 b3=>?_;by_cases h1:E0≠0
 .refine kI ((E0 != 0)) true (by simpa using h1) ?_;refine kF 9 [0,0,1,0] fun σ4 w4 b4 q4=>?_;have B5:=((btr (btr b1 b2) b3).trans b4);have hEE:E0=E:=by rw[<- hE];rw[if_pos h1]
  rw[<- hEE];exact qE5 2 3 4 58 54 0 (σ1 0) 1 (σ1 1) #[iv 0,iv 0,iv 0] #[iv 0,iv 0,iv 0,iv 0,iv 0] (iv E0) fun K=>⟨0,0,0,⟨0,0,0,0,0⟩,rfl,fun h=>absurd h (by exact h1),B5⟩
 .refine kI ((E0 != 0)) false (by simpa using h1) ?_;rw[if_neg h1]at hE
  refine kR 8 [] fun σ6 w6 b6=>?_;by_cases h2:y.n≠42
  .refine kI (((y.n:Int) != 42)) true (by simp;omega) ?_;refine kF 8 [0,0,1,0] fun σ7 w7 b7 q7=>?_;have B8:=((btr (btr (btr b1 b2) b3) b6).trans b7);have hEE:3=E:=by rw[<- hE];rw[if_pos (by omega)]
   rw[<- hEE];exact qE5 2 3 4 58 54 0 (σ1 0) 1 (σ1 1) #[iv 0,iv 0,iv 0] #[iv 0,iv 0,iv 0,iv 0,iv 0] (iv 3) fun K=>⟨0,0,0,⟨0,0,0,0,0⟩,rfl,fun h=>absurd h (by decide),B8⟩
  .refine kI (((y.n:Int) != 42)) false (by simp;omega) ?_;rw[if_neg (by omega)]at hE
   obtain⟨y1,hy1,hyb⟩:=slT hy 22 (by omega);obtain⟨E1,hE1⟩:∃ E1,D6 FI (D.take 22)=E1:=⟨_,rfl⟩;rw[hE1]at hE
   refine kR 4 [10,2] fun σ9 w9 b9=>?_;refine kT 2 (S3.v y1) (fun _=>(hy1 _)) ?_;refine V1 45 (fun w' e L=>∃ (a b c:Int) (b7:Nat),e=[(2,pt (σ1 0) 0),(3,pt (σ1 1) 0),(5,S3.v y),(6,iv E1),(7,pt b7 0)]/\L=[⟨(σ1 0),.cells #[iv 0,iv 0,iv 0] 58,.l,false⟩,⟨(σ1 1),.cells #[iv 0,iv 0,iv 0,iv 0,iv 0] 54,.l,false⟩,⟨b7,.cells #[iv a,iv b,iv c] 58,.l,false⟩]/\(E1=0->a=(D.take 22).getD 0 0/\b=(D.take 22).getD 1 0/\c=Ab (D.take 22) 2)/\Sl w' y.v D/\Bw w w') ?_ ?_
   .intro J hJ;refine SX 0 7 ?_ ?_
    .have B13:=(btr (btr (btr (btr b1 b2) b3) b6) b9);refine kC 0 (Ie (hT.below B13)) ?_;rintro _ w14 ⟨yi14,rfl,hyi14,b14⟩;refine⟨_,rfl,b14,?_⟩;refine SX 3 7 ?_ ?_
     .have B17:=(btr B13 b14);refine kC 3 (Ky hyi14 ((((hyb.below b3).below b6).below b9).below b14) (hT.below B17) hE1) ?_;rintro _ w18 ⟨a18,c18,d18,rfl,hp18,b18⟩;refine⟨_,rfl,b18,?_⟩;refine kR 7 [8,10,12,15,1,0,17,2,0,18] fun σ19 w19 b19=>?_;have B20:=(btr (btr B17 b18) b19);exact kB [true,true,true] fun z K=>hJ _ _ z _ ⟨a18,c18,d18,(σ19 0),rfl,rfl,hp18,((((((hy.below b3).below b6).below b9).below b14).below b18).below b19),B20⟩ K
     .refine kR 1 [1,0] fun σ21 w21 b21=>?_;have B22:=(btr (btr B13 b14) b21);refine kC 3 (Ky (hyi14.below b21) (((((hyb.below b3).below b6).below b9).below b14).below b21) (hT.below B22) hE1) ?_;rintro _ w23 ⟨a23,c23,d23,rfl,hp23,b23⟩;refine⟨_,rfl,b23,?_⟩;refine kF 6 [8,10,12,17,2,0,18] fun σ24 w24 b24 q24=>?_;have B25:=((btr B22 b23).trans b24);exact kB [true,true,true] fun z K=>hJ _ _ z _ ⟨a23,c23,d23,(σ21 0),rfl,rfl,hp23,(((((((hy.below b3).below b6).below b9).below b14).below b21).below b23).kept q24),B25⟩ K
    .refine kR 1 [1,0] fun σ26 w26 b26=>?_;have B27:=(btr (btr (btr (btr (btr b1 b2) b3) b6) b9) b26);refine kC 0 (Ie (hT.below B27)) ?_;rintro _ w28 ⟨yi28,rfl,hyi28,b28⟩;refine⟨_,rfl,b28,?_⟩;have B30:=(btr B27 b28);refine kC 3 (Ky hyi28 (((((hyb.below b3).below b6).below b9).below b26).below b28) (hT.below B30) hE1) ?_;rintro _ w31 ⟨a31,c31,d31,rfl,hp31,b31⟩;refine⟨_,rfl,b31,?_⟩;refine kF 6 [8,10,12,17,2,0,18] fun σ32 w32 b32 q32=>?_;have B33:=((btr B30 b31).trans b32);exact kB [true,true,true] fun z K=>hJ _ _ z _ ⟨a31,c31,d31,(σ26 0),rfl,rfl,hp31,(((((((hy.below b3).below b6).below b9).below b26).below b28).below b31).kept q32),B33⟩ K
   .rintro w11 _ z11 _ ⟨a,b,c,b7,rfl,rfl,hp,hyx,hb⟩;refine kR 6 [] fun σ34 w34 b34=>?_;by_cases h3:E1≠0
    .refine kI ((E1 != 0)) true (by simpa using h3) ?_;refine kF 9 [0,0,1,0] fun σ35 w35 b35 q35=>?_;have B36:=((btr hb b34).trans b35);have hEE:E1=E:=by rw[<- hE];rw[if_pos h3]
     rw[<- hEE];exact qE5 2 3 4 58 54 0 (σ1 0) 1 (σ1 1) #[iv 0,iv 0,iv 0] #[iv 0,iv 0,iv 0,iv 0,iv 0] (iv E1) fun K=>⟨0,0,0,⟨0,0,0,0,0⟩,rfl,fun h=>absurd h (by exact h3),B36⟩
    .refine kI ((E1 != 0)) false (by simpa using h3) ?_;have h30:E1=0:=by simpa using h3
     rw[if_neg h3]at hE
     obtain⟨y3,hy3,hyd⟩:=slB (hyx.below b34) 22 (by omega);refine kR 4 [] fun σ37 w37 b37=>?_;refine kV 1 (S3.v y3) (hy3 _) ?_;have B39:=(btr (btr hb b34) b37);refine kC 2 (SA (hyd.1.below b37) (hN.below B39) hE) ?_;rintro _ w40 ⟨m,rfl,hm,b40⟩;refine⟨_,rfl,b40,?_⟩;refine kR 11 [0,0,3,0,3,0,2,4] fun σ41 w41 b41=>?_;refine V1 45 (fun w' e L=>∃ (_:Unit),e=[(2,pt (σ1 0) 0),(3,pt (σ1 1) 0),(4,iv E)]/\L=[⟨(σ1 0),.cells #[iv a,iv b,iv c] 58,.l,false⟩,⟨(σ1 1),.cells #[iv m.k,iv m.c,iv m.s,iv m.n,iv m.v] 54,.l,false⟩,⟨b7,.cells #[iv a,iv b,iv c] 58,.l,false⟩,⟨(σ41 0),.cells #[iv m.k,iv m.c,iv m.s,iv m.n,iv m.v] 54,.z,false⟩]/\Bw w w') ?_ ?_
     .intro J hJ;refine SX 1 3 ?_ ?_
      .refine kF 5 [3,7,0,0,9,1,0,10] fun σ43 w43 b43 q43=>?_;have B44:=((btr (btr B39 b40) b41).trans b43);exact kB [true,true,true,true] fun z K=>hJ _ _ z _ ⟨(),rfl,rfl,B44⟩ K
      .refine kF 5 [0,0,3,3,9,1,0,10] fun σ45 w45 b45 q45=>?_;have B46:=((btr (btr B39 b40) b41).trans b45);exact kB [true,true,true,true] fun z K=>hJ _ _ z _ ⟨(),rfl,rfl,B46⟩ K
     .rintro w42 _ z42 _ ⟨_,rfl,rfl,hb2⟩;exact qE5 2 3 4 58 54 0 (σ1 0) 1 (σ1 1) #[iv a,iv b,iv c] #[iv m.k,iv m.c,iv m.s,iv m.n,iv m.v] (iv E) fun K=>⟨a,b,c,m,rfl,fun h=>⟨(hp h30).1,(hp h30).2.1,(hp h30).2.2,hm h⟩,hb2⟩
theorem Lu{a b c:Int}{m:Cmd}{now:Int}{w:World}(ht:NTab w){F:Int}(hF:DZ a b c m.k m.c m.s m.n m.v now=F):Calls prog 94 #[.agg #[iv a,iv b,iv c],.agg #[iv m.k,iv m.c,iv m.s,iv m.n,iv m.v],iv now] w fun e w'=>e=.returned (iv F)/\Bw w w':=by subst hF;exact Pu a b c m.k m.c m.s m.n m.v now w ht
theorem Tf(v:Value)(l:List Int)(now:Int)(w:World)(h:Sl w v l)(hT:AA w)(hq:Cf w)(hN:NTab w) :
  Calls prog 49 #[v,iv now] w fun e w'=>e=.returned (.tuple #[.agg (opA l now),iv (opE l now)])/\Bw w w':=by
 obtain⟨x,rfl,h⟩:=RQ h;obtain⟨E,hE⟩:∃ E,unE l=E:=⟨_,rfl⟩;have hEx:=hE;refine kIn func49 ?_;refine kR 8 [1,0] fun σ1 w1 b1=>?_;refine kC 1 (Pi (h.below b1) (hT.below b1) (hq.below hq.pos b1) (hN.below b1) hE) ?_;rintro _ w2 ⟨a,b,c,m,rfl,hm,b2⟩;refine⟨_,rfl,b2,?_⟩;refine kR 16 [0,0,0,0,1,0,2,0] fun σ3 w3 b3=>?_;by_cases h1:E≠0
 .refine kI ((E != 0)) true (by simpa using h1) ?_;refine kF 7 [0,0] fun σ4 w4 b4 q4=>?_;have hO:opE l now=E:=(if_pos (by rw[hE];exact h1)).trans hE;rw[ML (by rw[hO];exact h1),hO];have B5:=((btr (btr b1 b2) b3).trans b4);exact qE2 4 5 54 0 (σ1 0) #[iv 0,iv 0,iv 0,iv 0,iv 0] (iv E) fun K=>⟨rfl,B5⟩
 .refine kI ((E != 0)) false (by simpa using h1) ?_;have h10:E=0:=by simpa using h1
  obtain⟨ha,hb_,hc,hmm⟩:=hm h10;have hlp:0<l.length:=eT (hE.trans h10);have hU:¬ unE l≠0:=by rw[hE,h10];simp
  obtain⟨e1,e2⟩:m.k=Ab (unQ l) 0/\m.c=Ab (unQ l) 4:=by rw[hmm];exact⟨rfl,rfl⟩
  refine kR 6 [12,0,2,2] fun σ6 w6 b6=>?_;by_cases h2:m.k≠0
  .refine kT 2 (.bool true) (fun _=>(Gs (t:=3) (m:=m.k) (n:=0) (x:=(.tmp 21)) (y:=(.const (iv 0))) (by simpa using h2))) ?_;obtain⟨bd,od,hix,hbs,hbc⟩:=OS h hlp;obtain⟨cl,hcl⟩:∃ cl,l.getD 0 0=cl:=⟨_,rfl⟩;have hcb:=Aj h.byte 0;rw[hcl]at hbc hcb
   refine kR 4 [6,8,10,2,12] fun σ7 w7 b7=>?_;refine kT 7 (pt bd od) (fun _=>(hix _)) ?_;have B9:=(btr (btr (btr (btr b1 b2) b3) b6) b7);refine kV 8 (.int .u8 cl) (CV underlying5 rfl ((Below.cell B9 (p:=⟨bd,od,none⟩) hbs).trans hbc)) ?_;refine kT 9 (iv cl) (fun _=>(rUi hcb)) ?_;by_cases h3:m.c≠cl
   .refine kT 10 (.bool true) (fun _=>(Gs (t:=3) (m:=m.c) (n:=cl) (x:=(.tmp 25)) (y:=(.tmp 29)) (by simpa using h3))) ?_;refine kF 9 [22,0,0] fun σ12 w12 b12 q12=>?_;have hO:opE l now=11:=(if_neg hU).trans (if_pos ⟨by rw[<- e1];exact h2,by rw[<- e2,hcl];exact h3⟩);rw[ML (by rw[hO];decide),hO];have B13:=(B9.trans b12);exact qE2 4 5 54 0 (σ1 0) #[iv 0,iv 0,iv 0,iv 0,iv 0] (iv 11) fun K=>⟨rfl,B13⟩
   .refine kT 10 (.bool false) (fun _=>(Gs (t:=3) (m:=m.c) (n:=cl) (x:=(.tmp 25)) (y:=(.tmp 29)) (by simpa using h3))) ?_;refine kR 10 [22,1,2] fun σ14 w14 b14=>?_;obtain⟨F,hF⟩:∃ F,DZ a b c m.k m.c m.s m.n m.v now=F:=⟨_,rfl⟩;have hO:opE l now=F:=(if_neg hU).trans ((if_neg (fun g=>g.2 (by rw[<- e2,hcl];simpa using h3))).trans (by rw[<- hF,ha,hb_,hc,hmm]));have B15:=(btr B9 b14);refine kC 3 (Lu (hN.below B15) hF) ?_;rintro _ w16 ⟨rfl,b16⟩;refine⟨_,rfl,b16,?_⟩;refine kR 7 [] fun σ17 w17 b17=>?_;by_cases h4:F≠0
    .refine kI ((F != 0)) true (by simpa using h4) ?_;refine kF 7 [0,0] fun σ18 w18 b18 q18=>?_;rw[ML (by rw[hO];exact h4),hO];have B19:=((btr (btr B15 b16) b17).trans b18);exact qE2 4 5 54 0 (σ1 0) #[iv 0,iv 0,iv 0,iv 0,iv 0] (iv F) fun K=>⟨rfl,B19⟩
    .refine kI ((F != 0)) false (by simpa using h4) ?_;have h40:F=0:=by simpa using h4
     refine kF 7 [2,0,0] fun σ20 w20 b20 q20=>?_;rw[show opA l now=#[iv m.k,iv m.c,iv m.s,iv m.n,iv m.v]from(VV (hO.trans h40)).trans (by rw[hmm];rfl),hO,h40];have B21:=((btr (btr B15 b16) b17).trans b20);exact qE2 4 5 54 0 (σ1 0) #[iv m.k,iv m.c,iv m.s,iv m.n,iv m.v] (iv 0) fun K=>⟨rfl,B21⟩
  .refine kT 2 (.bool false) (fun _=>(Gs (t:=3) (m:=m.k) (n:=0) (x:=(.tmp 21)) (y:=(.const (iv 0))) (by simpa using h2))) ?_;refine kR 18 [6,8,10,12,14,16,18,20,22,1,2] fun σ22 w22 b22=>?_;obtain⟨F,hF⟩:∃ F,DZ a b c m.k m.c m.s m.n m.v now=F:=⟨_,rfl⟩;have hO:opE l now=F:=(if_neg hU).trans ((if_neg (fun g=>g.1 (by rw[<- e1];simpa using h2))).trans (by rw[<- hF,ha,hb_,hc,hmm]));have B23:=(btr (btr (btr (btr b1 b2) b3) b6) b22);refine kC 3 (Lu (hN.below B23) hF) ?_;rintro _ w24 ⟨rfl,b24⟩;refine⟨_,rfl,b24,?_⟩;refine kR 7 [] fun σ25 w25 b25=>?_;by_cases h4:F≠0
   .refine kI ((F != 0)) true (by simpa using h4) ?_;refine kF 7 [0,0] fun σ26 w26 b26 q26=>?_;rw[ML (by rw[hO];exact h4),hO];have B27:=((btr (btr B23 b24) b25).trans b26);exact qE2 4 5 54 0 (σ1 0) #[iv 0,iv 0,iv 0,iv 0,iv 0] (iv F) fun K=>⟨rfl,B27⟩
   .refine kI ((F != 0)) false (by simpa using h4) ?_;have h40:F=0:=by simpa using h4
    refine kF 7 [2,0,0] fun σ28 w28 b28 q28=>?_;rw[show opA l now=#[iv m.k,iv m.c,iv m.s,iv m.n,iv m.v]from(VV (hO.trans h40)).trans (by rw[hmm];rfl),hO,h40];have B29:=((btr (btr B23 b24) b25).trans b28);exact qE2 4 5 54 0 (σ1 0) #[iv m.k,iv m.c,iv m.s,iv m.n,iv m.v] (iv 0) fun K=>⟨rfl,B29⟩
theorem LA(ls:List (List Int))(j:Nat)(h:j<ls.length):(ls.take (j+1)).flatten=(ls.take j).flatten++ls.getD j []:=by
 rw[List.take_succ_eq_append_getElem h,List.flatten_append];simp[List.getD,List.getElem?_eq_getElem h]
theorem R0(ls:List (List Int))(h:∀ l∈ls,l.length<=1000):ls.flatten.length<=1000*ls.length:=by
 induction ls with
 | nil=>simp
 | cons x r ih =>
  have h1:=h x (by simp);have h2:=ih (fun l hl=>h l (by simp[hl]));simp only[List.flatten_cons,List.length_append,List.length_cons];omega
theorem KV(n:Nat):(Builtin.zeroCells (Value.int .u8 0).cells n).size=n:=by
 simp[Builtin.zeroCells,Value.cells]
theorem Vq(n:Nat)(w:World)(h0:0<n)(h1:n<=20000) :
  Calls prog 79 #[.slice none 0 0,.int .i64 (n:Int)] w fun e w'=>∃ v',e=.returned v'/\w'.ownsRow w.heap.size 5 1 v' 0 []/\Bw w w':=by
 obtain⟨i0,hi,hz0,hz1,hz2⟩:=info_parts As;have hr:=fun ty=>Lib.run_append_nil_zeros (P:=prog) w 25 3 ty 5 i0 (.int .u8 0) .i64 .i64 underlying25 underlying3 hi hz0 n h0 (by rw[hz1];decide) (by omega) (by rw[hz2];omega);have hge:=grownCap_ge w n 0 5;have hcm:=grownCap_le_maxLen w n 0 5 (by unfold maxLen;omega);have hcs:(Builtin.zeroCells (Value.int .u8 0).cells n++Builtin.zeroCells (Value.int .u8 0).cells (grownCap w n 0 5-n)).size=grownCap w n 0 5*1:=by rw[Array.size_append,KV,KV];omega
 generalize Builtin.zeroCells (Value.int .u8 0).cells n++Builtin.zeroCells (Value.int .u8 0).cells (grownCap w n 0 5-n)=Z at hr hcs;generalize grownCap w n 0 5=cap at hr hcs hge hcm;have bb:Bw w (w.drew.alloc (.cells Z 5)):=((Below.refl w.heap.size w).drew).alloc (by exact Nat.le_refl _) _;have rr:(w.drew.alloc (.cells Z 5)).heap[w.heap.size]?=some (.cells Z 5):=heap_alloc_new _ _;generalize w.drew.alloc (.cells Z 5)=W at hr bb rr;have ho:W.ownsRow w.heap.size 5 1 (.slice (some ⟨w.heap.size,0,none⟩) 0 cap) 0 []:=⟨by simp,.inr ⟨w.heap.size,cap,Z,rfl,Nat.le_refl _,rr,by omega,hcm,hcs,by simp⟩⟩;have hsl:∀ W',(Instr.slice 25 (.slice (some ⟨w.heap.size,0,none⟩) n cap) none (some (.int .i64 0)) none).run prog W'=.ok (.slice (some ⟨w.heap.size,0,none⟩) 0 cap) W':=fun W'=>by
  rw[run_slice_h (P:=prog) W' 25 (some ⟨w.heap.size,0,none⟩) n cap underlying25 .i64 0 (by omega) (by omega)];have e:prog.elem 25=5:=by kernel_rfl
  rw[e,Gy];simp[Result.andThen,sliced,Addr.add_mid]
 have hpos:(0:Int)<(n:Int):=by omega
 clear rr hcs hcm hge hi hz0 hz1 hz2;go_enter func79,ntmps79
 go_wp2_with (at_builtin;refine Lib.wpList_append_run _ rfl _ _ _ _ rfl _ _ rfl rfl _ _ (hr _) ?_)
 go_ret;exact⟨_,rfl,ho,bb⟩
theorem PD(g n cap:Nat)(vs:List Value)(ls:List (List Int))(w:World)(hg:g<w.heap.size)(hn:n<=10)(hls:ls.length=n)
  (hc:∀ i,i<n->w.cell? ⟨g,i,none⟩=some (vs.getD i undef))(hs:∀ i,i<n->Sl w (vs.getD i undef) (ls.getD i []))(hl:∀ l∈ls,l.length<=1000)(hp:0<ls.flatten.length) :
  Calls prog 39 #[.slice (some ⟨g,0,none⟩) n cap] w fun e w'=>∃ v',e=.returned v'/\w'.ownsRow w.heap.size 5 1 v' ls.flatten.length (ls.flatten.map (Value.int .u8))/\Bw w w':=by
 have HLS:Hid (ls.length=n):=hls;have HC:Hid _:=hc;have HS:Hid _:=hs;have HL:Hid _:=hl;have HP:Hid _:=hp;clear hls hc hs hl hp;go_enter func39,ntmps39
 go_wp2_with fail
 go_loopw [3,11] (fun sv i wr=>∃ j:Nat,j<=n/\i=.int .i64 j/\sv=.int .i64 ((ls.take j).flatten.length:Int)/\w=wr) (fun _ i _=>n-(intOf i).toNat)
 case atStart=>exact⟨0,by omega,rfl,by simp,rfl⟩
 case round =>
  obtain⟨j,hj,rfl,rfl,rfl⟩:=hrel;have hfl:=R0 (ls.take j) (fun l hl=>HL.out l (List.mem_of_mem_take hl));by_cases hjn:j<n
  .have hf2:(ls.take j).flatten.length<=10000:=by rw[List.length_take]at hfl;omega
   have HF:Hid ((ls.take (j+1)).flatten.length=(ls.take j).flatten.length+(ls.getD j []).length):=by unfold Hid;rw[LA ls j (by rw[HLS.out];exact hjn),List.length_append]
   have sj:=HS.out j hjn;have cj:=HC.out j hjn;have hlj:(ls.getD j []).length<=1000:=by
    have hj2:j<ls.length:=by rw[HLS.out];exact hjn
    have:ls.getD j []=ls[j]:=by simp[List.getD,List.getElem?_eq_getElem hj2]
    rw[this];exact HL.out _ (List.getElem_mem hj2)
   generalize vs.getD j undef=vj at sj cj;generalize ls.getD j []=lj at sj HF hlj;generalize (ls.take j).flatten.length=pre at HF hf2;clear hfl;obtain⟨⟨aj,kj,rfl,_,_,_⟩,_,_⟩:=sj;generalize lj.length=nj at *;go_wp2
   go_roundw
   case rel=>exact⟨j+1,by omega,by go_num,by rw[HF.out];go_num,by simp⟩
   case measure=>simp[intOf];omega
  .obtain rfl:j=n:=by omega
   have HT:Hid (ls.take j=ls):=List.take_of_length_le (by rw[HLS.out];exact Nat.le_refl _);have hz:ls.flatten.length<=10000:=by rw[HT.out,HLS.out]at hfl;omega
   rw[HT.out];clear hfl;have HZ:=HP.out;generalize hz2:ls.flatten.length=Z at hz HZ;have HZZ:Hid (ls.flatten.length=Z):=hz2;clear hz2;go_wp2_with fail
   refine(Vq Z w HZ (by omega)).mono ?_;rintro e w1 ⟨v1,rfl,ho1,hb1⟩;clear HZ hz;obtain⟨g1,c1,rfl⟩:=DG ho1;have HO1:Hid (w1.ownsRow w.heap.size 5 1 (.slice g1 0 c1) (ls.take 0).flatten.length ((ls.take 0).flatten.map (Value.int .u8))):=by unfold Hid;simpa using ho1
   clear ho1;go_wp2_with fail
   go_loopw [6,27] (fun v i wr=>∃ k:Nat,k<=j/\i=.int .i64 k/\Hid (wr.ownsRow w.heap.size 5 1 v (ls.take k).flatten.length ((ls.take k).flatten.map (Value.int .u8)))/\Bw w wr) (fun _ i _=>j-(intOf i).toNat)
   case atStart=>exact⟨0,by omega,rfl,HO1,hb1⟩
   case round =>
    obtain⟨k,hk,rfl,hown0,hb⟩:=hrel;have hown:=hown0.out;clear hown0 HO1 hb1;have hlt:=hown.lt;by_cases hkn:k<j
    .have hfl:=R0 (ls.take k) (fun l hl=>HL.out l (List.mem_of_mem_take hl));have hf2:(ls.take k).flatten.length<=10000:=by rw[List.length_take]at hfl;omega
     have HF:Hid ((ls.take (k+1)).flatten=(ls.take k).flatten++ls.getD k []):=LA ls k (by rw[HLS.out];exact hkn);have sj:=(HS.out k hkn).below hb;have cj:=(hb.cell (p:=⟨g,k,none⟩) hg).trans (HC.out k hkn);have hlj:(ls.getD k []).length<=1000:=by
      have hj2:k<ls.length:=by rw[HLS.out];exact hkn
      have:ls.getD k []=ls[k]:=by simp[List.getD,List.getElem?_eq_getElem hj2]
      rw[this];exact HL.out _ (List.getElem_mem hj2)
     generalize vs.getD k undef=vj at sj cj;generalize ls.getD k []=lj at sj HF hlj;generalize (ls.take k).flatten=pre at hown HF hf2;clear hfl;have sj2:=sj;obtain⟨⟨aj,kj,rfl,_,_,_⟩,_,_⟩:=sj;go_wp2_with (at_builtin;refine Aa _ rfl _ _ 25 rfl w.heap.size 5 underlying25 As _ _ rfl rfl pre lj hown sj2 (by omega) hb.size ?_)
     intro v2 w2 ho2 hg2;have ho2':w2.ownsRow w.heap.size 5 1 v2 (pre++lj).length ((pre++lj).map (Value.int .u8)):=by simpa using ho2
     have hb2:Bw w w2:=hb.grown hg2 hb.size (fun k hk=>(hlt k hk).1);clear ho2 hg2 hown hlt hb sj2 cj;go_wp2
     go_roundw
     case rel=>exact⟨k+1,by omega,by go_num,by rw[HF.out];exact ho2',hb2⟩
     case measure=>simp[intOf];omega
    .have HJ:Hid (ls.take k=ls):=by unfold Hid;exact List.take_of_length_le (by rw[HLS.out];omega)
     go_wp2
     go_ret;refine⟨u6,rfl,?_,hb⟩;rw[HJ.out]at hown
     exact hown
theorem XJ{v0 v1:Value}{l0 l1:List Int}{w:World}{e:TypeId}{g:Nat}(hr:w.heap[g]?=some (.cells #[v0,v1] e))(h0:Sl w v0 l0)(h1:Sl w v1 l1)(q0:l0.length<=1000)(q1:l1.length<=1000)(q3:0<l0.length) :
  Calls prog 39 #[.slice (some ⟨g,0,none⟩) 2 2] w fun e w'=>∃ v',e=.returned v'/\w'.ownsRow w.heap.size 5 1 v' (l0++l1).length ((l0++l1).map (Value.int .u8))/\Bw w w':=by
 refine(PD g 2 2 [v0,v1] [l0,l1] w (Array.getElem?_eq_some_iff.1 hr).1 (by omega) rfl ?_ ?_ ?_ ?_).mono ?_
 .intro i hi;rw[cell_of_row _ _ i _ _ _ hr];obtain rfl|rfl:i=0\/i=1:=by omega
  all_goals rfl
 .intro i hi;obtain rfl|rfl:i=0\/i=1:=by omega
  .exact h0
  .exact h1
 .intro l hl;simp only[List.mem_cons,List.not_mem_nil,or_false]at hl;rcases hl with rfl|rfl
  .exact q0
  .exact q1
 .simp;omega
 .rintro e w2 ⟨v2,rfl,ho,hb⟩;exact⟨v2,rfl,by simpa using ho,hb⟩
end
section
def paE(n tc tr tu k c s m v:Int):Int:=if ¬ (0<=n/\n<1073741824)then 2 else if Lt tc tr tu≠0 then Lt tc tr tu else AT k c s m v
def paP(tc tr tu k c s m v:Int):List Int:=Jq FI tc tr tu++Ia k c s m v
def paL(n tc tr tu k c s m v:Int):List Int:=if paE n tc tr tu k c s m v=0 then c::Ji (FJ c) n (paP tc tr tu k c s m v)else[]
theorem Wb{n tc tr tu k c s m v:Int}(h:paE n tc tr tu k c s m v=0):(0<=n/\n<1073741824)/\CE tc tr tu/\AT k c s m v=0:=by
 unfold paE at h;split at h
 .cases h
 .rename_i g1
  split at h
  .rename_i g;exact absurd h g
  .rename_i g2
   refine⟨Decidable.not_not.1 g1,?_,h⟩;have g3:=Decidable.not_not.1 g2;unfold Lt at g3;split at g3
   .assumption
   .cases g3
theorem bR{n tc tr tu k c s m v:Int}(h1:0<=n/\n<1073741824)(h2:Lt tc tr tu=0):paE n tc tr tu k c s m v=AT k c s m v:=by
 unfold paE;rw[if_neg (fun g=>g h1),if_neg (fun g=>g h2)]
theorem Wc{n tc tr tu k c s m v:Int}(h:paE n tc tr tu k c s m v=0):paL n tc tr tu k c s m v=c::Ji (FJ c) n (paP tc tr tu k c s m v):=if_pos h
theorem Gp(tc tr tu k c s m v:Int):(paP tc tr tu k c s m v).length=42:=by unfold paP;rw[List.length_append,DJ,EX]
theorem WE{c n:Int}{p:List Int}(h0:0<=n)(h1:n<1073741824)(hp:p.length=42):Dz (FJ c) n 0 noB p=0:=by
 unfold Dz;rw[if_neg (fun g=>g (OkC.new (Fd c) n h0 (by omega))),if_neg (by omega),if_neg (by omega)]
end
section
open Go.RowKit
theorem Vp{x:S3}{tc tr tu:Int}{w:World}(hk:Sl w x.v FI)(ht:AA w)(h:CE tc tr tu) :
  Calls prog 34 #[x.v,.agg #[iv tc,iv tr,iv tu]] w fun e w'=>∃ y:S3,e=.returned (.tuple #[y.v,iv 0])/\Sl w' y.v (Jq FI tc tr tu)/\Bw w w':=by
 refine(SP x.v FI tc tr tu w hk ht).mono ?_;have h9:Lf FI tc tr tu=0:=by rw[NZ IB];exact Jz h
 rintro e w' ⟨v,rfl,ho,hb⟩;rw[show Oa FI tc tr tu=Jq FI tc tr tu from if_pos h9]at ho
 rw[h9];obtain⟨y,rfl,hy⟩:=Fi ho (by rw[DJ];decide) (Ua _ h);exact⟨y,rfl,hy,hb⟩
theorem U6{x y:S3}{l m:List Int}{w:World}{e:TypeId}{g:Nat}(hr:w.heap[g]?=some (.cells #[x.v,y.v] e))(h0:Sl w x.v l)(h1:Sl w y.v m)(q0:l.length<=1000)(q1:m.length<=1000)(q3:0<l.length) :
  Calls prog 39 #[.slice (some ⟨g,0,none⟩) 2 2] w fun e w'=>∃ z:S3,e=.returned z.v/\Sl w' z.v (l++m)/\Nb w.heap.size z (l++m)/\Bw w w':=by
 refine(XJ hr h0 h1 q0 q1 q3).mono ?_;rintro e w' ⟨v,rfl,ho,hb⟩;obtain⟨z,rfl,hz,hn⟩:=Q6 ho (by rw[List.length_append];omega) (fun a ha=>(List.mem_append.1 ha).elim (h0.byte a) (h1.byte a));exact⟨z,rfl,hz,hn,hb⟩
theorem YZ{x y:S3}{c n:Int}{p:List Int}{w:World}(hk:Sl w x.v (FJ c))(hp:Sl w y.v p)(ht:Cf w)(h0:0<=n)(h1:n<1073741824)(hl:p.length=42) :
  Calls prog 38 #[.agg #[x.v,iv n,iv 0,.bool false,.bool false,.bool false,.bool false,.bool false,.bool false,.bool false,.bool false],y.v] w fun e w'=>∃ u z:S3,e=.returned (.tuple #[.agg #[u.v,iv (n+1),iv 0,.bool false,.bool false,.bool false,.bool false,.bool false,.bool false,.bool false,.bool false],z.v,iv 0])/\Sl w' z.v (Ji (FJ c) n p)/\Bw w w':=by
 refine(Za x.v (FJ c) n 0 noB y.v p w hk rfl hp ht (WE h0 h1 hl)).mono ?_;rintro e w' ⟨v1,v2,rfl,h2,_,ho,hb⟩;obtain⟨u,rfl,_⟩:=RQ h2;obtain⟨z,rfl,hz⟩:=Fi ho (by rw[Fl];omega) (Ty _ _ hp.byte);exact⟨u,z,rfl,hz,hb⟩
theorem YE{n tc tr tu k c s m v:Int}{w:World}(h:paE n tc tr tu k c s m v=0)(hT:Tabs w) :
  Calls prog 18 #[iv n,.agg #[iv tc,iv tr,iv tu],.agg #[iv k,iv c,iv s,iv m,iv v]] w fun e w'=>∃ y:S3,e=.returned (.tuple #[y.v,iv 0])/\Sl w' y.v (paL n tc tr tu k c s m v)/\Nb w.heap.size y (paL n tc tr tu k c s m v)/\Bw w w':=by
 obtain⟨hn,hB,hC⟩:=Wb h;have hc:=(F7 hC).2;unfold InC at hc;rw[Wc h];refine kIn func18 ?_;refine kR 11 [0,0,0,0] fun σ1 w1 b1=>?_;refine kV 1 (.bool false) (rLt (x:=(.tmp 14)) (y:=(.const (iv 0))) (t:=3) (m:=n) (n:=0) (decide_eq_false (by omega))) ?_;refine kR 2 [] fun σ2 w2 b2=>?_;refine kV 4 (.bool false) (rGe (x:=(.tmp 17)) (y:=(.const (iv 1073741824))) (t:=3) (m:=n) (n:=1073741824) (decide_eq_false (by omega))) ?_;refine kR 7 [8,2,0] fun σ3 w3 b3=>?_;have B4:=(btr (btr b1 b2) b3);refine kC 0 (Ie (hT.t.below B4)) ?_;rintro _ w5 ⟨yi,rfl,hyi,b5⟩;refine⟨_,rfl,b5,?_⟩;have B7:=(btr B4 b5);refine kC 2 (Vp hyi (hT.t.below B7) hB) ?_;rintro _ w8 ⟨yt,rfl,hyt,b8⟩;refine⟨_,rfl,b8,?_⟩;refine kR 17 [6,8,10,12,14,1] fun σ9 w9 b9=>?_;have B10:=(btr (btr B7 b8) b9);refine kC 1 (UZ (m:=⟨k,c,s,m,v⟩) (hT.n.below B10) hC) ?_;rintro _ w11 ⟨yc,rfl,hyc,b11⟩;refine⟨_,rfl,b11,?_⟩;refine kR 18 [1] fun σ12 w12 b12=>?_;have B13:=(btr (btr B10 b11) b12);refine kC 2 (V2 (c:=c) (by omega) (hT.t.below B13) (if_pos (by omega))) ?_;rintro _ w14 ⟨yk,rfl,hyk,b14⟩;refine⟨_,rfl,b14,?_⟩;replace hyk:=hyk rfl;refine kR 22 [0,0] fun σ15 w15 b15=>?_;refine Ae fun K=>?_;refine kC 6 (U6 (K.ats 2 (σ15 0) _ 25 .z true (by kernel_rfl)) (((((hyt.below b9).below b11).below b12).below b14).below b15) (((hyc.below b12).below b14).below b15) (by rw[DJ];decide) (by rw[EX];decide) (by rw[DJ];decide)) ?_;rintro _ w16 ⟨yp,rfl,hyp,_,b16⟩;refine⟨_,rfl,b16,?_⟩;have B18:=(btr (btr (btr B13 b14) b15) b16);refine kC 7 (YZ ((hyk.below b15).below b16) hyp (hT.q.below hT.q.pos B18) hn.1 hn.2 (Gp tc tr tu k c s m v)) ?_;rintro _ w19 ⟨u,z,rfl,hz,b19⟩;refine⟨_,rfl,b19,?_⟩;refine kR 21 [0,0,3,0,1] fun σ20 w20 b20=>?_;refine kV 2 (.int .u8 c) (ZO (P:=prog) (src:=3) (dst:=5) (k:=.i64) (n:=c) (by kernel_rfl) underlying5 (by kernel_rfl) (by rw[IntKind.wrap_u8];omega)) ?_;refine kR 3 [0,0,0,0] fun σ21 w21 b21=>?_;refine Ae fun K=>?_;have hc1:Sl w21 (S3.v ⟨some ⟨(σ21 0),0,none⟩,1,1⟩) [c]:=Sl.ofRow (l:=[c]) (K.ats 4 (σ21 0) _ 5 .z true (by kernel_rfl)) (by show 1<=_;decide) (fun a ha=>by rw[List.mem_singleton.1 ha];omega);have B22:=(btr (btr (btr B18 b19) b20) b21);refine kC 6 (U6 (x:=⟨some ⟨(σ21 0),0,none⟩,1,1⟩) (K.ats 5 (σ21 1) _ 25 .z true (by kernel_rfl)) hc1 ((hz.below b20).below b21) (by show 1<=1000;decide) (by rw[Fl];show(paP tc tr tu k c s m v).length+20<=1000;rw[Gp];decide) (by show 0<1;decide)) ?_;rintro _ w23 ⟨y,rfl,hy,hw,b23⟩;refine⟨_,rfl,b23,?_⟩;refine kR 3 [] fun σ24 w24 b24=>?_;have B25:=(btr (btr B22 b23) b24);exact kE (.tuple #[S3.v y,iv 0]) ⟨y,rfl,(hy.below b24),hw.mono B22.size,B25⟩
end
section
structure Gr where
 k:Int
 a:Int
 b:Int
 c:Int
 d:Int
def pkT(g:Gr):Int:=if pick g.d 17=16 then(pick g.c 4+1)%4 else pick g.c 4
def pkR(g:Gr):Int:=if pick g.d 17=15 then 0 else 7
def pkP(g:Gr):List Int:=paL (pick g.a 1000) (pkT g) (pkR g) 60 (wK g.b) (pick g.c 4) (pick g.d 6) (pick g.a 4) (wV g.b g.d)
theorem Wi(g:Gr):paE (pick g.a 1000) (pkT g) (pkR g) 60 (wK g.b) (pick g.c 4) (pick g.d 6) (pick g.a 4) (wV g.b g.d)=0:=by
 have h1:=Bb g.a 1000 (by omega);have h2:=Bb g.c 4 (by omega);have h3:=Bb g.d 6 (by omega);have hT:CE (pkT g) (pkR g) 60:=by
  unfold CE pkT pkR;refine⟨?_,?_,by omega⟩<;>split<;>omega
 rw[bR ⟨h1.1,by omega⟩ (Jz hT)];exact Zz g.b g.a g.d _ _ (by omega) (by omega)
def pkB(g:Gr):List Int:=if pick g.d 23=22/\30<(pkP g).length then(pkP g).take 30 else pkP g
def acN(k:Int)(n:Int):Lac:=⟨k,n,0,0,[]⟩
def NU(g:Gr)(cr:Bool):Lac :=
 if pick g.k 24<3 then⟨1,pick g.a 5,0,0,pkB g⟩
 else if pick g.k 24<5 then acN 2 (pick g.a 5)
 else if pick g.k 24<14 then acN 3 (pick g.a 5)
 else if pick g.k 24=14 then⟨4,0,pick g.c 20,0,[]⟩
 else if pick g.k 24=15 then⟨5,0,pick g.c 20,0,[]⟩
 else if pick g.k 24=16 then⟨6,0,pick g.c 20,0,[]⟩
 else if pick g.k 24=17/\cr=true then⟨8,pick g.a 5,0,pick g.c 90,[]⟩
 else if pick g.k 24=18/\cr=true then acN 9 (pick g.a 5)
 else acN 7 0
def W8(s:Nat)(x:Lac):Lac:=if x.k=1/\6<s+1 then acN 7 0 else x
def cH(s:Nat)(x:Lac):Nat:=if x.k=1 then s+1 else s
def MW(cr:Bool):Nat->List Gr->List Lac
 | _,[]=>[]
 | s,g::l=>W8 s (NU g cr)::MW cr (cH s (NU g cr)) l
def scr(l:List Gr)(most:Nat)(cr:Bool):List Lac:=MW cr 0 (l.take most)
def DT:List Lac:=(List.range 5).map fun n:Nat=>acN 9 (n:Int)
def dH:List Lac:=(List.range 5).map (fun n:Nat=>acN 3 (n:Int))++[acN 7 0]
def BV:Nat->List Lac
 | 0=>[]
 | m+1=>BV m++dH
def Gu(m:Nat):List Lac:=DT++BV m
end
section
open Go.RowKit
section
variable{fn:Func}{R:Ending->World->Prop}{B:Nat}{T:List Tg}{g:Gh}{w:World}
theorem aY{s:Xs}(i':Nat)(r i:Nat)(hsem:CK s i'=some (Instr.makeMap 89 none>>=fun v=>pure (.value v)))
  (hob:(nxt s i' undef s.L).o.map Ob.l'=(nxt s i' undef s.L).o.map Ob.r')
  (hk:∀ b g' w',w.heap.size<=b->AskAt g' w' (.n r i) b (fun _=>none)->(∀ B T,Cg B T g w g' w')->(∀ b,w'.heap.size<=b->g'.t b=.z/\g'.k b=0)->GG prog fn R B T (nxt s i' (.map (some b)) s.L).s g' w'):GG prog fn R B T s g w:=by
 refine JV i' s.L hob (BC hsem) fun hK ops j o hop=>?_;have hr:(Instr.makeMap 89 none).run prog w=.ok (.map (some w.heap.size)) (w.alloc (.map #[] 0)):=by
  simp[Instr.makeMap,go_sem]
 have hC:∀ B T,Cg B T g w (M1 g w (.n r i) 0) (w.alloc (.map #[] 0)):=fun B T =>
  ⟨rfl,rfl,rfl,by simp,fun b hb=>.inl (if_neg (by omega)),fun b hb=>by show _<=(if b=w.heap.size then _ else g.k b);rw[if_neg (by omega)];exact Nat.le_refl _,fun b hb _ _=>if_neg (by omega),fun b hb _ _=>heap_alloc_old w _ hb,fun b hb j hj=>World.cell?_of_block (w:=w) (heap_alloc_old w _ hb)⟩
 have hG:∀ b,(w.alloc (.map #[] 0)).heap.size<=b->(M1 g w (.n r i) 0).t b=.z/\(M1 g w (.n r i) 0).k b=0:=fun b hb=>by
  have hb':w.heap.size+1<=b:=by simpa using hb
  show(if b=w.heap.size then _ else g.t b)=.z/\(if b=w.heap.size then _ else g.k b)=0;rw[if_neg (by omega),if_neg (by omega)];exact hK.new b (by omega)
 refine⟨.map (some w.heap.size),_,M1 g w (.n r i) 0,.inl ?_,hK.ch (hC _ []) hG (by simp),hk _ _ _ (Nat.le_refl _) ⟨if_pos rfl,if_pos rfl,[],0,heap_alloc_new _ _,fun x hx=>absurd hx List.not_mem_nil,List.nodup_nil,List.nodup_nil,fun _=>rfl⟩ hC hG⟩;rw[CO hsem hop,Sem.run_bind,hr,Result.andThen_ok];rfl
end
def dY(a:Acc)(y:S3)(b:Nat):Array Value:=((Ax 0 0 (CH.bare true [] 0 a []) (NX.mk s30 y s30 s30 s30 s30 (fun _=>s30) (some b))).toList.drop 6).toArray
theorem AO{g:Gh}{w:World}(i:Nat)(hg:∀ b,w.heap.size<=b->g.t b=.z/\g.k b=0)(a:Acc)(y:S3) :
  Calls prog 23 #[.agg #[iv a.p.r,iv a.p.n,S3.v y]] w fun e w'=>∃ (b:Nat) (g':Gh),e=.returned (.agg (dY a y b))/\AskAt g' w' (.n 5 i) b (fun _=>none)/\(∀ b,w'.heap.size<=b->g'.t b=.z/\g'.k b=0)/\Cg w.heap.size [] g w g' w':=by
 refine gI (fn:=f23) [] g func23 hg ?_;refine qR [] 8 [0,0,1,0,0] fun s1 g1 w1 c1=>?_;refine aY 1 5 i (by kernel_rfl) (by kernel_rfl) ?_;intro mb g2 w2 hmb A2 cc2 n2;have c2:=cc2 w.heap.size [];refine qR [] 3 [1,0] fun s3 g3 w3 c3=>?_;exact qE1 2 91 1 (s1 1) (dY a y mb) fun K=>⟨mb,_,rfl,(A2.ch c3),K.new,((c1.trans c2).trans c3)⟩
theorem Pends.nil(g:Gh)(w:World)(nb:Nat):Pends g w nb [] []:=⟨rfl,fun k v q h=>by cases h⟩
theorem UJ{g:Gh}{w:World}{i nb ob:Nat}{p:Nod}{ls:List Let}{ts:List Tol}(h:NS i nb ob g w p ls ts)(k:Int)(hk1:-9223372036854775808<=k)(hk2:k<=9223372036854775807) :
  Calls prog 29 #[pt nb 0,iv k] w (NP i nb ob g w (.tuple #[]) (if p.up then p.crash k else p) ls ts):=by
 obtain⟨x,lt,tl,hN,hO,hg⟩:=h;refine gI (fn:=f29) (TN i) g func29 hg ?_;refine qN hN ?_;refine qO hO ?_;refine qR [] 9 [0] fun s1 g1 w1 c1=>?_;by_cases h1:p.up=true
 .refine qI ((!p.up)) false (by simpa using h1) ?_;rw[if_pos h1];refine qR [] 8 [0] fun s2 g2 w2 c2=>?_;refine Ae fun Kq=>?_;have hS:=(hN.tape.ch (c1.trans c2)).s;have hG:∀ z,w2.heap.size<=z->g2.t z=.z:=fun z hz=>(Kq.new z hz).1;refine qC 5 (UI (s:=p.sy) (k:=k) hS hk1 hk2) ?_;rintro e' w3 ⟨tz,rfl,hy3,hn3,b3⟩;refine⟨_,rfl,b3,?_⟩;have c3:=Cg.ofBelow (B:=w.heap.size) (T:=[]) (g:=g2) b3;have htn:=Ir hy3;have hts:FSl _ _ tz _:=⟨hy3,fun hl a ha=>hG _ (hn3 hl a ha)⟩;refine qR [] 13 [0,0,2,0] fun s4 g4 w4 c4=>?_;by_cases h2:IZ p.d p.sy k≠0
  .refine qI (((IZ p.d p.sy k) != 0)) true (by simpa using h2) ?_;refine qE (.tuple #[]) fun K=>?_;rw[show p.crash k=p from if_pos h2];exact⟨_,rfl,(nsC hN hO (((c1.n c2).n c3).n c4) K),((((c1.nil (TN i)).n c2).n c3).n c4)⟩
  .refine qI (((IZ p.d p.sy k) != 0)) false (by simpa using h2) ?_;refine qR [] 8 [7,0,2,4,8,10,12] fun s7 g7 w7 c7=>?_;refine BG 33 (fun g' w' e L=>e=[(0,pt nb 0)]/\L=[⟨nb,.cells (Ax i ob (p.bare false (KY p.d p.sy k) (KZ p.d p.sy k) DY []) (NX.mk tz s30 s30 s30 s30 s30 (fun _=>s30) none)) 96,.n 0 i,false⟩,⟨ob,.cells #[S3.v lt,S3.v tl] 66,.n 50 0,false⟩,⟨(s4 0),.cells #[S3.v tz,iv (KZ p.d p.sy k)] 94,.z,false⟩]/\True/\Cg w.heap.size ([.n 0 i]:List Tg) g7 w7 g' w') (by kernel_rfl) ?_ ?_
   .intro J hJ
    (exact Cv 3 7 (by kernel_rfl) (by(refine qR [.n 0 i] 9 [2,15,0,1,16,18,21,0,1,22,24,27,0,1] fun s10 g10 w10 c10=>?_;exact qB [true,true,true] fun z K0 K=>hJ _ _ _ z _ ⟨rfl,rfl,trivial,c10⟩ K)) (by(refine qR [.n 0 i] 9 [0,1,7,2,16,18,21,0,1,22,24,27,0,1] fun s11 g11 w11 c11=>?_;exact qB [true,true,true] fun z K0 K=>hJ _ _ _ z _ ⟨rfl,rfl,trivial,c11⟩ K)))
   rintro g8 w8 _ z8 _ ⟨rfl,rfl,_,c8⟩;refine qE (.tuple #[]) fun K=>?_;rw[show p.crash k=(p.bare false (KY p.d p.sy k) (KZ p.d p.sy k) DY [])from if_neg h2];exact⟨_,rfl,⟨(NX.mk tz s30 s30 s30 s30 s30 (fun _=>s30) none),lt,tl,K.nd 0 (((hts.ch c4).ch c7).ch c8) ⟨Sv.nil _,fun h=>absurd rfl h⟩ (fun _ _=>⟨Sv.nil _,fun h=>absurd rfl h⟩) ⟨[],OwnS.nil _ _ _ _ _ _,Pends.nil _ _ _⟩ (OwnS.nil _ _ _ _ _ _) (OwnS.nil _ _ _ _ _ _) (OwnS.nil _ _ _ _ _ _) rfl (fun h=>by cases h),hO.ch ((((((c1.nil ([.n 0 i]:List Tg)).n c2).n c3).n c4).n c7).trans (c8)) (hn:=by simp<;>omega),K.new⟩,((((((c1.nil (TN i)).n c2).n c3).n c4).n c7).trans (c8.mono (by simp[TN])))⟩
 .refine qI ((!p.up)) true (by simpa using h1) ?_;refine qE (.tuple #[]) fun K=>?_;rw[if_neg h1];exact⟨_,rfl,(nsC hN hO c1 K),(c1.nil (TN i))⟩
def nx0(b:Nat):NX:=NX.mk s30 s30 s30 s30 s30 s30 (fun _=>s30) (some b)
theorem Ov{g:Gh}{w:World}{i nb ob b:Nat}(hr:w.heap[nb]?=some (.cells (Ax i ob CH (nx0 b)) 96))(ht:g.t nb=.n 0 i)(hk:g.k nb=0)(hA:AskAt g w (.n 5 i) b (fun _=>none)):NodeAt g w i nb ob (nx0 b) CH :=
 ⟨hr,ht,hk,⟨⟨⟨none,0,rfl,Nat.le_refl _,fun _=>rfl,.inl rfl⟩,by simp[CH],by simp[CH]⟩,fun h=>absurd rfl h⟩,⟨Sv.nil _,fun h=>absurd rfl h⟩,fun _ _=>⟨Sv.nil _,fun h=>absurd rfl h⟩,⟨[],OwnS.nil _ _ _ _ _ _,Pends.nil _ _ _⟩,OwnS.nil _ _ _ _ _ _,OwnS.nil _ _ _ _ _ _,OwnS.nil _ _ _ _ _ _,hA,fun _=>⟨b,rfl⟩⟩
def nbF(a b c d e:Nat):Nat->Nat
 | 0=>a
 | 1=>b
 | 2=>c
 | 3=>d
 | _=>e
theorem Kj{g:Gh}{w:World}(hg:∀ b,w.heap.size<=b->g.t b=.z/\g.k b=0) :
  Calls prog 13 #[] w fun e w'=>∃ (mb tb ob:Nat) (nb:Nat->Nat) (g':Gh),e=.returned (pt mb 0)/\MS mb tb ob nb g' w' Cx/\Cg w.heap.size [.n 70 0] g w g' w':=by
 refine gI (fn:=f13) [.n 70 0] g func13 hg ?_;refine qR [] 8 [52,0] fun s1 g1 w1 c1=>?_;refine Ae fun K=>?_;refine qG 2 [.n 70 0] [true] (Rb K.new) ?_;rintro e' w2 ⟨tb,g2,rfl,A2,n2,c2⟩;refine⟨_,g2,rfl,c2,n2,?_⟩;replace c2:=c2.ret (B:=w.heap.size);refine qR [] 10 [1,0] fun s3 g3 w3 c3=>?_;refine ZJ 5 27 [(1,pt (s3 0) 0),(8,iv 0)] [true,true] [⟨(s1 0),.cells #[sn,sn] 66,.n 50 0,false⟩,⟨(s3 0),.cells #[.pointer none,.pointer none,.pointer none,.pointer none,.pointer none,pt (s1 0) 0,.map (some tb)] 72,.l,false⟩] (by kernel_rfl) (by kernel_rfl) (by kernel_rfl) (by kernel_rfl) fun J4 hJ4 z=>?_;refine qR [] 25 [14,0,2,4,6,8,10,12,1,14,22,24] fun s5 g5 w5 c5=>?_;refine Ae fun K=>?_;refine qG 8 [] [true,true] (AO 0 K.new DY s30) ?_;rintro e' w6 ⟨b6,g6,rfl,A6,n6,c6⟩;refine⟨_,g6,rfl,c6,n6,?_⟩;replace c6:=c6.ret (B:=w.heap.size);refine qR [] 10 [18,21,2,0,26,29,1,0] fun s7 g7 w7 c7=>?_;refine DA (J4 5) 27 [(1,pt (s3 0) 0),(8,iv 1)] [true,true,true] [⟨(s1 0),.cells #[sn,sn] 66,.n 50 0,false⟩,⟨(s3 0),.cells #[pt (s7 0) 0,.pointer none,.pointer none,.pointer none,.pointer none,pt (s1 0) 0,.map (some tb)] 72,.l,false⟩,⟨(s7 0),.cells (Ax 0 (s1 0) CH (nx0 b6)) 96,.n 0 0,false⟩] (by kernel_rfl) (by kernel_rfl) (by kernel_rfl) (by kernel_rfl) (by kernel_rfl) fun z K0 K=>hJ4 4 _ _ _ _ _ ?_ K;refine qR [] 25 [14,0,2,4,6,8,10,12,1,14,22,24] fun s8 g8 w8 c8=>?_;refine Ae fun K=>?_;refine qG 8 [] [true,true,true] (AO 1 K.new DY s30) ?_;rintro e' w9 ⟨b9,g9,rfl,A9,n9,c9⟩;refine⟨_,g9,rfl,c9,n9,?_⟩;replace c9:=c9.ret (B:=w.heap.size);refine qR [] 10 [18,21,2,1,26,29,1,0] fun s10 g10 w10 c10=>?_;refine DA (J4 4) 27 [(1,pt (s3 0) 0),(8,iv 2)] [true,true,true,true] [⟨(s1 0),.cells #[sn,sn] 66,.n 50 0,false⟩,⟨(s3 0),.cells #[pt (s7 0) 0,pt (s10 0) 0,.pointer none,.pointer none,.pointer none,pt (s1 0) 0,.map (some tb)] 72,.l,false⟩,⟨(s7 0),.cells (Ax 0 (s1 0) CH (nx0 b6)) 96,.n 0 0,false⟩,⟨(s10 0),.cells (Ax 1 (s1 0) CH (nx0 b9)) 96,.n 0 1,false⟩] (by kernel_rfl) (by kernel_rfl) (by kernel_rfl) (by kernel_rfl) (by kernel_rfl) fun z K0 K=>hJ4 3 _ _ _ _ _ ?_ K;refine qR [] 25 [14,0,2,4,6,8,10,12,1,14,22,24] fun s11 g11 w11 c11=>?_;refine Ae fun K=>?_;refine qG 8 [] [true,true,true,true] (AO 2 K.new DY s30) ?_;rintro e' w12 ⟨b12,g12,rfl,A12,n12,c12⟩;refine⟨_,g12,rfl,c12,n12,?_⟩;replace c12:=c12.ret (B:=w.heap.size);refine qR [] 10 [18,21,2,2,26,29,1,0] fun s13 g13 w13 c13=>?_;refine DA (J4 3) 27 [(1,pt (s3 0) 0),(8,iv 3)] [true,true,true,true,true] [⟨(s1 0),.cells #[sn,sn] 66,.n 50 0,false⟩,⟨(s3 0),.cells #[pt (s7 0) 0,pt (s10 0) 0,pt (s13 0) 0,.pointer none,.pointer none,pt (s1 0) 0,.map (some tb)] 72,.l,false⟩,⟨(s7 0),.cells (Ax 0 (s1 0) CH (nx0 b6)) 96,.n 0 0,false⟩,⟨(s10 0),.cells (Ax 1 (s1 0) CH (nx0 b9)) 96,.n 0 1,false⟩,⟨(s13 0),.cells (Ax 2 (s1 0) CH (nx0 b12)) 96,.n 0 2,false⟩] (by kernel_rfl) (by kernel_rfl) (by kernel_rfl) (by kernel_rfl) (by kernel_rfl) fun z K0 K=>hJ4 2 _ _ _ _ _ ?_ K;refine qR [] 25 [14,0,2,4,6,8,10,12,1,14,22,24] fun s14 g14 w14 c14=>?_;refine Ae fun K=>?_;refine qG 8 [] [true,true,true,true,true] (AO 3 K.new DY s30) ?_;rintro e' w15 ⟨b15,g15,rfl,A15,n15,c15⟩;refine⟨_,g15,rfl,c15,n15,?_⟩;replace c15:=c15.ret (B:=w.heap.size);refine qR [] 10 [18,21,2,3,26,29,1,0] fun s16 g16 w16 c16=>?_;refine DA (J4 2) 27 [(1,pt (s3 0) 0),(8,iv 4)] [true,true,true,true,true,true] [⟨(s1 0),.cells #[sn,sn] 66,.n 50 0,false⟩,⟨(s3 0),.cells #[pt (s7 0) 0,pt (s10 0) 0,pt (s13 0) 0,pt (s16 0) 0,.pointer none,pt (s1 0) 0,.map (some tb)] 72,.l,false⟩,⟨(s7 0),.cells (Ax 0 (s1 0) CH (nx0 b6)) 96,.n 0 0,false⟩,⟨(s10 0),.cells (Ax 1 (s1 0) CH (nx0 b9)) 96,.n 0 1,false⟩,⟨(s13 0),.cells (Ax 2 (s1 0) CH (nx0 b12)) 96,.n 0 2,false⟩,⟨(s16 0),.cells (Ax 3 (s1 0) CH (nx0 b15)) 96,.n 0 3,false⟩] (by kernel_rfl) (by kernel_rfl) (by kernel_rfl) (by kernel_rfl) (by kernel_rfl) fun z K0 K=>hJ4 1 _ _ _ _ _ ?_ K;refine qR [] 25 [14,0,2,4,6,8,10,12,1,14,22,24] fun s17 g17 w17 c17=>?_;refine Ae fun K=>?_;refine qG 8 [] [true,true,true,true,true,true] (AO 4 K.new DY s30) ?_;rintro e' w18 ⟨b18,g18,rfl,A18,n18,c18⟩;refine⟨_,g18,rfl,c18,n18,?_⟩;replace c18:=c18.ret (B:=w.heap.size);refine qR [] 10 [18,21,2,4,26,29,1,0] fun s19 g19 w19 c19=>?_;refine DA (J4 1) 27 [(1,pt (s3 0) 0),(8,iv 5)] [true,true,true,true,true,true,true] [⟨(s1 0),.cells #[sn,sn] 66,.n 50 0,false⟩,⟨(s3 0),.cells #[pt (s7 0) 0,pt (s10 0) 0,pt (s13 0) 0,pt (s16 0) 0,pt (s19 0) 0,pt (s1 0) 0,.map (some tb)] 72,.l,false⟩,⟨(s7 0),.cells (Ax 0 (s1 0) CH (nx0 b6)) 96,.n 0 0,false⟩,⟨(s10 0),.cells (Ax 1 (s1 0) CH (nx0 b9)) 96,.n 0 1,false⟩,⟨(s13 0),.cells (Ax 2 (s1 0) CH (nx0 b12)) 96,.n 0 2,false⟩,⟨(s16 0),.cells (Ax 3 (s1 0) CH (nx0 b15)) 96,.n 0 3,false⟩,⟨(s19 0),.cells (Ax 4 (s1 0) CH (nx0 b18)) 96,.n 0 4,false⟩] (by kernel_rfl) (by kernel_rfl) (by kernel_rfl) (by kernel_rfl) (by kernel_rfl) fun z K0 K=>hJ4 0 _ _ _ _ _ ?_ K;refine qR [] 12 [] fun s20 g20 w20 c20=>?_;refine dN 1 (s3 0) (by kernel_rfl) fun g21 c21=>?_;refine qE (pt (s3 0) 0) fun K=>⟨(s3 0),tb,(s1 0),(nbF (s7 0) (s10 0) (s13 0) (s16 0) (s19 0)),_,rfl,?_,((((((((((((((((((((c1.nil [.n 70 0]).trans c2).n c3).n c5).n c6).n c7).n c8).n c9).n c10).n c11).n c12).n c13).n c14).n c15).n c16).n c17).n c18).n c19).n c20).n c21)⟩;obtain⟨z1,z2⟩:=K.isZ 1 (s3 0) (.cells (mtA (nbF (s7 0) (s10 0) (s13 0) (s16 0) (s19 0)) (s1 0) tb) 72) false (by kernel_rfl);obtain⟨o1,o2,o3⟩:=K.isN 0 (s1 0) (.cells #[S3.v s30,S3.v s30] 66) 50 0 (by kernel_rfl);obtain⟨q0,r0,t0⟩:=K.isN 2 (s7 0) (.cells (Ax 0 (s1 0) CH (nx0 b6)) 96) 0 0 (by kernel_rfl);obtain⟨q1,r1,t1⟩:=K.isN 3 (s10 0) (.cells (Ax 1 (s1 0) CH (nx0 b9)) 96) 0 1 (by kernel_rfl);obtain⟨q2,r2,t2⟩:=K.isN 4 (s13 0) (.cells (Ax 2 (s1 0) CH (nx0 b12)) 96) 0 2 (by kernel_rfl);obtain⟨q3,r3,t3⟩:=K.isN 5 (s16 0) (.cells (Ax 3 (s1 0) CH (nx0 b15)) 96) 0 3 (by kernel_rfl);obtain⟨q4,r4,t4⟩:=K.isN 6 (s19 0) (.cells (Ax 4 (s1 0) CH (nx0 b18)) 96) 0 4 (by kernel_rfl);refine⟨⟨z1,z2⟩,((((((((((((((((((A2.ch c3).ch c5).ch c6).ch c7).ch c8).ch c9).ch c10).ch c11).ch c12).ch c13).ch c14).ch c15).ch c16).ch c17).ch c18).ch c19).ch c20).ch c21),fun i hi=>?_,⟨s30,s30,o1,o2,o3,⟨[],OwnS.nil _ _ _ _ _ _,⟨rfl,fun k b m h=>(by cases h)⟩⟩,OwnS.nil _ _ _ _ _ _⟩,K.new⟩;rcases five hi with rfl|rfl|rfl|rfl|rfl
 .exact⟨_,Ov q0 r0 t0 (((((((((((((((A6.ch c7).ch c8).ch c9).ch c10).ch c11).ch c12).ch c13).ch c14).ch c15).ch c16).ch c17).ch c18).ch c19).ch c20).ch c21)⟩
 .exact⟨_,Ov q1 r1 t1 ((((((((((((A9.ch c10).ch c11).ch c12).ch c13).ch c14).ch c15).ch c16).ch c17).ch c18).ch c19).ch c20).ch c21)⟩
 .exact⟨_,Ov q2 r2 t2 (((((((((A12.ch c13).ch c14).ch c15).ch c16).ch c17).ch c18).ch c19).ch c20).ch c21)⟩
 .exact⟨_,Ov q3 r3 t3 ((((((A15.ch c16).ch c17).ch c18).ch c19).ch c20).ch c21)⟩
 .exact⟨_,Ov q4 r4 t4 (((A18.ch c19).ch c20).ch c21)⟩
theorem Xu{g:Gh}{w:World}{i nb ob:Nat}{p:Nod}{ls:List Let}{ts:List Tol}(h:NS i nb ob g w p ls ts)(hup:p.up=true)(hw:p.wants.length<100000000)(c:Cmd) :
  Calls prog 53 #[pt nb 0,.agg #[iv c.k,iv c.c,iv c.s,iv c.n,iv c.v]] w (NP i nb ob g w (.tuple #[]) (p.want c) ls ts):=by
 obtain⟨x,lt,tl,hN,hO,hg⟩:=h;obtain⟨mb,hmb⟩:=hN.upm hup;obtain⟨x0,rfl⟩:∃ x0:NX,x={ x0 with asked:=some mb }:=⟨x,by cases x;simp only at hmb;subst hmb;rfl⟩;clear hmb;have hA:AskAt g w (.n 5 i) mb p.asked:=hN.askSome rfl;refine gI (fn:=f53) (TN i) g func53 hg ?_;refine qN hN ?_;refine qO hO ?_;obtain⟨ht5,hk5,es,ck,hr5,hes⟩:=id hA;refine GL mb _ 5 i hr5 ht5 hk5 (by kernel_rfl) ?_;refine qR [] 13 [0,0,13,0,2,4,6,8,0,10,3] fun s1 g1 w1 c1=>?_;refine qU 6 (.tuple #[.agg #[iv ((p.asked c).getD Ch).r,iv ((p.asked c).getD Ch).n],.bool (p.asked c).isSome]) (fun W hW=>(Wq (g:=g) (τ:=.n 5 i) (b:=mb) (f:=p.asked) ⟨ht5,hk5,es,ck,AJ.at (hW rfl) 2 mb (.map (es.map mkA).toArray ck) (.n 5 i) (by kernel_rfl),hes⟩ c)) ?_;refine qR [] 11 [14,16,18,21,0,0,23,4,0,24] fun s2 g2 w2 c2=>?_;by_cases h1:(p.asked c).isSome=true
 .refine qI ((p.asked c).isSome) true h1 ?_;refine qE (.tuple #[]) fun K=>?_;rw[show p.want c=p from if_pos h1];have C4:=c1.n c2;exact⟨_,rfl,⟨({ x0 with asked:=some mb }:NX),lt,tl,hN.ch C4,hO.ch C4,K.new⟩,((c1.nil (TN i)).n c2)⟩
 .refine qI ((p.asked c).isSome) false (by simpa using h1) ?_;refine GM [true,true,false,true,true] ?_;have hwn:x0.wants.n=p.wants.length:=hN.wants.num;refine qR [] 11 [12,0,2,4,6,8,10,0,12,2,15,0,0] fun s5 g5 w5 c5=>?_;refine Jd 8 (x:=({ x0 with asked:=some mb }:NX).wants) 37 37 54 5 40 (.agg #[iv 0,iv 0,iv 0,iv 0,iv 0]) ⟨(s5 0),0,none⟩ 1 1 [iv c.k,iv c.c,iv c.s,iv c.n,iv c.v] (hN.wants.ch ((c1.trans c2).trans c5) (by simp) (by simp)) (by kernel_rfl) (by kernel_rfl) (by kernel_rfl) underlying37 (by kernel_rfl) (by kernel_rfl) (by decide) (by decide) rfl (by simp[Value.oneCell']) (fun K=>BW K 4 (s5 0) [iv c.k,iv c.c,iv c.s,iv c.n,iv c.v] 54 .z true (by kernel_rfl)) (by show x0.wants.n+1<=_;unfold maxLen;omega) (by show(x0.wants.n+1)*40<=_;omega) ?_;intro y6 g6 w6 a6 n6 cc6 G6;have c6:=cc6 w.heap.size [.n 4 i] (List.mem_singleton.2 rfl);refine qR [.n 0 i] 13 [18,20,22,25,0,1,8,0,2,4,6,8,0,10,2,12] fun s7 g7 w7 c7=>?_;refine R2 7 (τ:=.n 5 i) (b:=mb) c Ch (((((hA.ch c1).ch c2).ch c5).ch c6).ch c7) (by kernel_rfl) (by kernel_rfl) (by kernel_rfl) ?_;intro w8 A8 cc8;have c8:=cc8 w.heap.size [.n 5 i] (List.mem_singleton.2 rfl);refine qR [] 1 [] fun s9 g9 w9 c9=>?_;refine qE (.tuple #[]) fun K=>?_;rw[show p.want c={ p with wants:=p.wants++[c],asked:=DW p.asked c (some Ch) }from if_neg h1];have C10:=((((((c1.nil ([.n 4 i,.n 0 i,.n 5 i]:List Tg)).n c2).n c5).m c6).m c7).m c8).n c9;have Z10:Tg.z∉([.n 4 i,.n 0 i,.n 5 i]:List Tg):=by simp
  exact⟨_,rfl,⟨({ x0 with asked:=some mb,wants:=y6 }:NX),lt,tl,K.nd 0 (hN.tape.ch C10 Z10) (hN.votes.ch C10 Z10) (AZ hN.heard C10 Z10) (B0 hN.pend C10 Z10 (by simp)) (hN.queue.ch C10) (hN.agreed.ch C10) (by rw[BJ];exact(((a6.ch c7).ch c8).ch c9)) (A8.ch c9) (fun _=>⟨mb,rfl⟩),hO.ch C10 Z10 (by simp<;>omega),K.new⟩,(((((((c1.nil (TN i)).n c2).n c5).trans (c6.mono (by simp[TN]))).trans (c7.mono (by simp[TN]))).trans (c8.mono (by simp[TN]))).n c9)⟩
end
end Go.Proofs.YtalbmmghmoggcaaGreatDoor
