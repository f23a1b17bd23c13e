/-
  The law MootRefuses holds for every input: Run refuses a script as the document says, answers nothing then, and changes no act of it; on the condition that the row names (the tables of quarters, of rounds, of needs, of bounds and of words are laid).
-/
import Derived.Test.YtakgfdbjgeopdaaGreatDoorZ51
set_option maxRecDepth 100000
set_option maxHeartbeats 4000000
open Go.Proofs.Tryz
set_option linter.unusedVariables false
namespace Go.Proofs.YtakgfdbjgeopdaaGreatDoor
open Go.RowKit
theorem Y4(k n a p:Int)(xa:Option Addr)(xm xp:Nat):(#[.int .i64 k,.int .i64 n,.int .i64 a,.int .i64 p,.slice xa xm xp]:Array Value).all (·.oneCell')=true:=by simp[Value.oneCell']
theorem VJ(F:Nat→Lac)(Y:Nat→Value)(n:Nat)(v:Value):acL F (laY Y n v) (n+1)=acL F Y n++laV (F n) v:=by
 rw[acL,Ub,Rd (Y':=Y) (F':=F) (fun i hi=>Uc Y v (by omega)) (fun _ _=>rfl)]
theorem He.put{w:World}{F:Nat→Lac}{Y:Nat→Value}{n:Nat}(h:He w F Y n){v:Value}(hv:w.ownsRow 0 5 1 v (F n).d.length ((F n).d.map (Value.int .u8))∧(F n).d.length≤140737488351232∧∀ c∈(F n).d,0≤c∧c<256):He w F (laY Y n v) (n+1):=fun i hi=>by
 by_cases e:i=n
 ·subst e;rw[Ub];exact hv
 ·rw[Uc Y v e];exact h i (by omega)
theorem SW(x:Value)(F:Nat→Lac)(n:Nat)(w:World)(h:Sk w x F n) :
  Calls prog 12 #[x] w fun e w'=>∃ x',e=.returned x'∧Sk w' x' F n∧Below w.heap.size w w':=by
 obtain⟨a0,cp,rfl⟩:=h.shape;have hlen:=h.len;have HSE:Hid (Sk w (.slice a0 n cp) F n):=h;clear h;have oE0:w.ownsRow w.heap.size 68 5 (.slice none 0 0) 0 (acL F (fun _=>.bool false) 0):=World.ownsRow_nil _ _ _ _;go_enter func12,ntmps12
 go_wp2_with fail
 go_loopw [3,4] (fun ev iv wr=>∃ (i:Nat) (Y:Nat→Value),i≤n∧iv=.int .i64 (i:Int)∧Hid (wr.ownsRow w.heap.size 68 5 ev i (acL F Y i)∧He wr F Y i∧Below w.heap.size w wr)) (fun _ iv _=>((n:Int)-intOf iv).toNat)
 case atStart=>exact⟨0,fun _=>.bool false,by omega,rfl,oE0,fun i hi=>by omega,Below.refl _ _⟩
 case round =>
  clear oE0;obtain⟨i,Y,hin,rfl,HOS⟩:=hrel;obtain⟨gv,cv,hev⟩:=AD HOS.out.1;subst hev;by_cases hlt:i<n
  ·have hlI:(i:Int)<(n:Int):=by omega
   have i0:(0:Int)≤(i:Int):=by omega
   obtain⟨b0,o0,xa,xm,xp,rfl,hb0,hr0,hs0⟩:=HSE.out.spot i hlt;have hr1:=Fd HOS.out.2.2 hb0 hr0;have hs1:=hs0.below HOS.out.2.2;obtain⟨⟨k,m,a,p,d⟩,hp⟩:∃ c,F i=c:=⟨_,rfl⟩;have HP:Hid (F i=⟨k,m,a,p,d⟩):=hp;rw[hp]at hr1 hs1
   simp only[laV]at hr1 hs1;obtain⟨_,_,e⟩:=hs1.shapeT;simp only[Value.slice.injEq]at e;obtain⟨rfl,rfl,rfl⟩:=e;have ixl:=Fx b0 o0 n cp i hlt;have HSL:Hid (Sl wr (.slice xa d.length xp) d):=hs1;clear hr0 hb0 hs0 hp hs1;obtain⟨Wz,hWz⟩:∃ W,wr.alloc (.cells #[.int .i64 0,.int .i64 0,.int .i64 0,.int .i64 0,.slice none 0 0] 68)=W:=⟨_,rfl⟩;have rz:Wz.heap[wr.heap.size]?=some (.cells #[.int .i64 0,.int .i64 0,.int .i64 0,.int .i64 0,.slice none 0 0] 68):=by rw[← hWz];exact heap_alloc_new _ _
   have bz:Below wr.heap.size wr Wz:=by rw[← hWz];exact(Below.refl _ _).alloc (Nat.le_refl _) _
   have rzo:=setRow_heap Wz wr.heap.size _ (laA k m a p (.slice xa d.length xp)) 68 _ rz;have bzo:=An bz (Nat.le_refl _) (laA k m a p (.slice xa d.length xp));obtain⟨Wo,hWo⟩:∃ W,Wz.setRow wr.heap.size (laA k m a p (.slice xa d.length xp))=W:=⟨_,rfl⟩;have cz:(Wz.setRow wr.heap.size (laA k m a p (.slice xa d.length xp))).cell? ⟨wr.heap.size,4,none⟩=some (.slice xa d.length xp):=by rw[cell_of_row _ _ 4 _ _ _ rzo];rfl
   rw[hWo]at rzo bzo
   have co:Wo.cell? ⟨wr.heap.size,4,none⟩=some (.slice xa d.length xp):=by rw[cell_of_row _ _ 4 _ _ _ rzo];rfl
   have HO:Hid (Below wr.heap.size wr Wo∧Wo.heap[wr.heap.size]?=some (.cells (laA k m a p (.slice xa d.length xp)) 68)):=⟨bzo,rzo⟩;have RZ:Hid _:=rz;clear rzo bzo bz rz;unfold laA at hWo cz;go_wp2_with (first
    | (refine wpList_load_mid rfl 68 _ rfl b0 (o0+5*i) rfl [.int .i64 k,.int .i64 m,.int .i64 a,.int .i64 p,.slice xa d.length xp] _ hr1 underlying68 rfl Hp ?_)
    | (refine wpList_store_row rfl 68 (.tmp 5) (.tmp 15) rfl wr.heap.size #[.int .i64 k,.int .i64 m,.int .i64 a,.int .i64 p,.slice xa d.length xp] rfl rfl 68 _ RZ.out Hp rfl (Y4 _ _ _ _ _ _ _) ?_))
   clear hWz hWo hr1 RZ cz;refine(PB _ d Wo (HSL.out.below HO.out.1)).mono ?_;rintro e w5 ⟨v5,rfl,o5,b5⟩;obtain⟨g5,c5,rfl⟩:=AD o5;have r5:w5.heap[wr.heap.size]?=some (.cells (laA k m a p (.slice xa d.length xp)) 68):=(b5.block _ (Array.getElem?_eq_some_iff.1 HO.out.2).1).trans HO.out.2;have lz:wr.heap.size<Wo.heap.size:=(Array.getElem?_eq_some_iff.1 HO.out.2).1;have k5:w5.cell? ⟨wr.heap.size,4,none⟩=some (.slice xa d.length xp):=by rw[cell_of_row _ _ 4 _ _ _ r5];rfl
   have f5:w5.frozen? ⟨wr.heap.size,4,none⟩=false:=by unfold World.frozen?;simp[r5]
   have r6:(w5.setCell ⟨wr.heap.size,4,none⟩ (.slice g5 d.length c5)).heap[wr.heap.size]?=some (.cells (laA k m a p (.slice g5 d.length c5)) 68):=by rw[heap_setCell_same _ _ _ _ _ _ r5];rfl
   have y6:=Only.one w5 wr.heap.size 4 (.slice g5 d.length c5);obtain⟨W6,hW6⟩:∃ W,w5.setCell ⟨wr.heap.size,4,none⟩ (.slice g5 d.length c5)=W:=⟨_,rfl⟩;have r6l:=r6;rw[hW6]at r6 y6
   have b6:Below wr.heap.size wr W6:=(HO.out.1.trans (b5.mono HO.out.1.size)).trans (y6.below (Nat.le_refl _));have o6:W6.ownsRow 0 5 1 (.slice g5 d.length c5) d.length (d.map (Value.int .u8)):=AT (Bm o5 (Nat.zero_le _)) (fun q hq=>y6.other q (by have:=(o5.lt q hq).1;omega));have r6s:=r6;unfold laA at r6s r6l;have RS:Hid _:=r6s;have RL:Hid _:=r6l;have ow6:=AT HOS.out.1 (fun q hq=>b6.block q (HOS.out.1.lt q hq).2);have su6:=HOS.out.2.1.below b6;have bd6:=HOS.out.2.2.trans (b6.mono HOS.out.2.2.size);have H6:Hid (W6.ownsRow 0 5 1 (.slice g5 d.length c5) d.length (d.map (Value.int .u8))∧W6.ownsRow w.heap.size 68 5 (.slice gv i cv) i (acL F Y i)∧He W6 F Y i∧Below w.heap.size w W6):=⟨o6,ow6,su6,bd6⟩;have HSD:Hid (d.length≤140737488351232∧∀ c∈d,0≤c∧c<256):=⟨HSL.out.len,HSL.out.byte⟩;have hsz6:=bd6.size;clear r6 r6s r6l y6 b6 o6 ow6 su6 bd6 b5 o5 HO HOS r5 lz co HSL
   go_upto_region 7 with(refine If rfl 26 (.tmp 19) (.tmp 18) rfl wr.heap.size 4 (.slice g5 d.length c5) _ rfl rfl k5 f5 Yc rfl ?_)
   rw[hW6];clear hW6 k5 f5 RL;go_wp2_with (first
    | (refine wpList_load_row rfl 68 _ rfl wr.heap.size rfl 68 _ (0,0) _ RS.out underlying68 rfl Hp ?_)
    | (at_builtin;refine GY _ rfl _ _ 36 rfl w.heap.size 68 5 56 zLa underlying36 Yy rfl (by decide) _ i (acL F Y i) W6.heap.size [.int .i64 k,.int .i64 m,.int .i64 a,.int .i64 p,.slice g5 d.length c5] rfl rfl (H6.out.2.1.alloc _) rfl (BP (heap_alloc_new _ _)) (by simp[Value.oneCell']) (by omega) (by omega) (by simp;omega) ?_;intro v9 W9 o9 g9))
   have bal:Below W6.heap.size W6 (W6.alloc (.cells #[.int .i64 k,.int .i64 m,.int .i64 a,.int .i64 p,.slice g5 d.length c5] 68)):=(Below.refl _ _).alloc (Nat.le_refl _) _;have ao:=AT H6.out.2.1 (fun q hq=>bal.block q (H6.out.2.1.lt q hq).2);have a5:=AT H6.out.1 (fun q hq=>bal.block q (H6.out.1.lt q hq).2);have au:=H6.out.2.2.1.below bal;have HQ:Hid (W9.ownsRow w.heap.size 68 5 v9 (i+1) (acL F (laY Y i (.slice g5 d.length c5)) (i+1))∧He W9 F (laY Y i (.slice g5 d.length c5)) (i+1)∧Below w.heap.size w W9):=by
    refine⟨?_,(au.grown ao (by decide) g9).put ?_,(H6.out.2.2.2.trans (bal.mono H6.out.2.2.2.size)).grown g9 (Nat.le_trans H6.out.2.2.2.size bal.size) (fun q hq=>(ao.lt q hq).1)⟩
    ·rw[VJ,HP.out];exact o9
    ·rw[HP.out];exact⟨I5 a5 g9 (LA a5 ao (by decide)),HSD.out⟩
   clear H6 bal ao a5 au o9 g9 RS;go_wp2
   go_roundw
   case rel=>exact⟨i+1,_,by omega,by go_num,HQ⟩
   case measure=>simp[intOf];omega
  ·obtain rfl:i=n:=by omega
   have hlI:¬ (i:Int)<(i:Int):=by omega
   have HSR:Hid (Sk wr (.slice gv i cv) F i∧Below w.heap.size w wr):=⟨Sk.ofAc HOS.out.1 HOS.out.2.1 hlen,HOS.out.2.2⟩;clear HOS hlt hin;go_wp2
   go_ret;exact⟨_,rfl,HSR.out.1,HSR.out.2⟩
theorem GM(x y:Value)(F:Nat→Lac)(n:Nat)(w:World)(hx:Sk w x F n)(hy:Sk w y F n) :
  Calls prog 15 #[x,y] w fun e w'=>e=.returned (.bool true)∧Below w.heap.size w w':=by
 obtain⟨a0,cp,rfl⟩:=hx.shape;obtain⟨a1,cq,rfl⟩:=hy.shape;have hlen:=hx.len;have HX:Hid (Sk w (.slice a0 n cp) F n):=hx;have HY:Hid (Sk w (.slice a1 n cq) F n):=hy;clear hx hy;go_enter func15,ntmps15
 go_wp2_with fail
 go_loopw [5] (fun iv wr=>∃ i:Nat,i≤n∧iv=.int .i64 (i:Int)∧Below w.heap.size w wr) (fun iv _=>((n:Int)-intOf iv).toNat)
 case atStart=>exact⟨0,by omega,rfl,Below.refl _ _⟩
 case round =>
  obtain⟨i,hin,rfl,hbel⟩:=hrel;by_cases hlt:i<n
  ·have hlI:(i:Int)<(n:Int):=by omega
   have i0:(0:Int)≤(i:Int):=by omega
   obtain⟨b0,o0,xa,xm,xp,rfl,hb0,hr0,hs0⟩:=HX.out.spot i hlt;obtain⟨b1,o1,ya,ym,yp,rfl,hb1,hr1,hs1⟩:=HY.out.spot i hlt;obtain⟨⟨pk,pn,pa,pp,td⟩,hp⟩:∃ c,F i=c:=⟨_,rfl⟩;have hr0:=Fd hbel hb0 hr0;have hr1:=Fd hbel hb1 hr1;have hs0:=hs0.below hbel;have hs1:=hs1.below hbel;rw[hp]at hr0 hr1 hs0 hs1
   simp only[laV]at hr0 hr1 hs0 hs1;clear hp;have ix0:=Fx b0 o0 n cp i hlt;have ix1:=Fx b1 o1 n cq i hlt;have k00:wr.cell? ⟨b0,o0+5*i,none⟩=some (.int .i64 pk):=hr0 0 _ rfl;have k01:wr.cell? ⟨b0,o0+5*i+1,none⟩=some (.int .i64 pn):=hr0 1 _ rfl;have k02:wr.cell? ⟨b0,o0+5*i+2,none⟩=some (.int .i64 pa):=hr0 2 _ rfl;have k03:wr.cell? ⟨b0,o0+5*i+3,none⟩=some (.int .i64 pp):=hr0 3 _ rfl;have k04:wr.cell? ⟨b0,o0+5*i+4,none⟩=some (.slice xa xm xp):=hr0 4 _ rfl;have k10:wr.cell? ⟨b1,o1+5*i,none⟩=some (.int .i64 pk):=hr1 0 _ rfl;have k11:wr.cell? ⟨b1,o1+5*i+1,none⟩=some (.int .i64 pn):=hr1 1 _ rfl;have k12:wr.cell? ⟨b1,o1+5*i+2,none⟩=some (.int .i64 pa):=hr1 2 _ rfl;have k13:wr.cell? ⟨b1,o1+5*i+3,none⟩=some (.int .i64 pp):=hr1 3 _ rfl;have k14:wr.cell? ⟨b1,o1+5*i+4,none⟩=some (.slice ya ym yp):=hr1 4 _ rfl;have e1:(pk != pk)=false:=Ma rfl;have e2:(pn != pn)=false:=Ma rfl;have e3:(pa != pa)=false:=Ma rfl;have e4:(pp != pp)=false:=Ma rfl;have HL:Hid (∀ nd,Calls prog 8 #[.slice xa xm xp,.slice ya ym yp] (wr.drewN nd) fun e w'=>e=.returned (.bool true)∧w'=wr.drewN nd):=fun nd=>by
    have h:=Ui _ _ td td (wr.drewN nd) (hs0.below (Ag (Below.refl _ _) nd)) (hs1.below (Ag (Below.refl _ _) nd))
    rwa [decide_eq_true rfl]at h
   clear hr0 hr1 hs0 hs1 hb0 hb1;go_wp2_with fail
   go_quiet ((go_at_call 8;exact Calls.quiet_of_same (HL.out _)))
   have e9:Below w.heap.size w (wr.drewN nq):=Ag hbel nq;go_wp2
   go_roundw
   case rel=>exact⟨i+1,by omega,by go_num,e9⟩
   case measure=>simp[intOf];omega
  ·obtain rfl:i=n:=by omega
   have hlI:¬ (i:Int)<(i:Int):=by omega
   clear hlt hin;go_wp2
   go_ret;exact⟨rfl,hbel⟩
def NO(f:Int)(x0 x1 x2 x3 x4:Bool)(ly:S3)(y0 y1 y2 y3 y4:Int)(tv:S3):Array Value:=#[.int .i64 f,.bool x0,.bool x1,.bool x2,.bool x3,.bool x4,.slice ly.a ly.n ly.c,.int .i64 y0,.int .i64 y1,.int .i64 y2,.int .i64 y3,.int .i64 y4,.slice tv.a tv.n tv.c]
theorem UE(f:Int)(x0 x1 x2 x3 x4:Bool)(ly:S3)(y0 y1 y2 y3 y4:Int)(tv:S3):(NO f x0 x1 x2 x3 x4 ly y0 y1 y2 y3 y4 tv).all (·.oneCell')=true:=by simp[NO,Value.oneCell']
theorem Hr(x:Value)(F:Nat→Lac)(n:Nat)(w:World)(h:Sk w x F n)(ht:Tabs w∧LWTab w∧LBTab w) :
  Calls prog 5 #[x] w fun e w'=>e=.returned (.bool true)∧Below w.heap.size w w':=by
 have HT:Hid (Tabs w∧LWTab w∧LBTab w):=ht;have HS:Hid (Sk w x F n):=h;clear ht h;go_enter func5,ntmps5
 go_wp2_with fail
 refine(SW x F n w HS.out).mono ?_;rintro e w1 ⟨x1,rfl,s1,b1⟩;have HB1:Hid (Below w.heap.size w w1):=b1;obtain⟨a1,c1,rfl⟩:=s1.shape;have HS1:Hid (Sk w1 (S3.v ⟨a1,n,c1⟩) F n):=s1;clear s1 b1;go_wp2_with fail
 refine(Xf (lv:=⟨a1,n,c1⟩) HS1.out ⟨HT.out.1.t.below HB1.out,HT.out.1.n.below HB1.out,HT.out.1.q.below HT.out.1.q.pos HB1.out⟩ (HT.out.2.1.below HB1.out) (HT.out.2.2.below HB1.out)).mono ?_;rintro e w2 ⟨b2,h2⟩;have HB2:Hid (Below w1.heap.size w1 w2∧Below w.heap.size w w2):=⟨b2,HB1.out.trans (b2.mono HB1.out.size)⟩;clear b2;obtain⟨f,ly,tv,x0,x1,x2,x3,x4,y0,y1,y2,y3,y4,E,hE,hf,rfl⟩:∃ (f:Int) (ly tv:S3) (x0 x1 x2 x3 x4:Bool) (y0 y1 y2 y3 y4 E:Int),KF (F1 F n)=E∧(E≠0→f=0∧ly=s30∧tv=s30)∧e=.returned (.tuple #[.agg #[.int .i64 f,.bool x0,.bool x1,.bool x2,.bool x3,.bool x4,.slice ly.a ly.n ly.c,.int .i64 y0,.int .i64 y1,.int .i64 y2,.int .i64 y3,.int .i64 y4,.slice tv.a tv.n tv.c],.int .i64 E]):=by
  rcases h2 with⟨_,rfl⟩|⟨h0,ly,tv,ys,rfl,_⟩
  ·exact⟨0,s30,s30,false,false,false,false,false,0,0,0,0,0,_,rfl,fun _=>⟨rfl,rfl,rfl⟩,rfl⟩
  ·exact⟨_,ly,tv,_,_,_,_,_,_,_,_,_,_,0,h0,fun h=>absurd rfl h,rfl⟩
 have HE:Hid (KF (F1 F n)=E):=hE;clear h2 hE;obtain⟨Wz,hWz⟩:∃ W,w2.alloc (.cells #[.int .i64 0,.bool false,.bool false,.bool false,.bool false,.bool false,.slice none 0 0,.int .i64 0,.int .i64 0,.int .i64 0,.int .i64 0,.int .i64 0,.slice none 0 0] 43)=W:=⟨_,rfl⟩;have rz:Wz.heap[w2.heap.size]?=some (.cells #[.int .i64 0,.bool false,.bool false,.bool false,.bool false,.bool false,.slice none 0 0,.int .i64 0,.int .i64 0,.int .i64 0,.int .i64 0,.int .i64 0,.slice none 0 0] 43):=by rw[← hWz];exact heap_alloc_new _ _
 have bz:Below w2.heap.size w2 Wz:=by rw[← hWz];exact(Below.refl _ _).alloc (Nat.le_refl _) _
 have rzo:=setRow_heap Wz w2.heap.size _ (NO f x0 x1 x2 x3 x4 ly y0 y1 y2 y3 y4 tv) 43 _ rz;have bzo:=An bz (Nat.le_refl _) (NO f x0 x1 x2 x3 x4 ly y0 y1 y2 y3 y4 tv);obtain⟨Wo,hWo⟩:∃ W,Wz.setRow w2.heap.size (NO f x0 x1 x2 x3 x4 ly y0 y1 y2 y3 y4 tv)=W:=⟨_,rfl⟩;rw[hWo]at rzo bzo
 have HO:Hid (Below w2.heap.size w2 Wo∧Wo.heap[w2.heap.size]?=some (.cells (NO f x0 x1 x2 x3 x4 ly y0 y1 y2 y3 y4 tv) 43)):=⟨bzo,rzo⟩;have RZ:Hid _:=rz;clear rzo bzo bz rz;unfold NO at hWo;go_wp2_with (refine wpList_store_row rfl 43 (.tmp 4) (.tmp 12) rfl w2.heap.size #[.int .i64 f,.bool x0,.bool x1,.bool x2,.bool x3,.bool x4,.slice ly.a ly.n ly.c,.int .i64 y0,.int .i64 y1,.int .i64 y2,.int .i64 y3,.int .i64 y4,.slice tv.a tv.n tv.c] rfl rfl 43 _ RZ.out (by kernel_rfl) rfl (UE f x0 x1 x2 x3 x4 ly y0 y1 y2 y3 y4 tv) ?_)
 clear hWz hWo RZ;refine(IK x F n Wo ((HS.out.below HB2.out.2).below HO.out.1)).mono ?_;rintro e w3 ⟨rfl,b3⟩;rw[HE.out];have r3:w3.heap[w2.heap.size]?=some (.cells (NO f x0 x1 x2 x3 x4 ly y0 y1 y2 y3 y4 tv) 43):=(b3.block _ (Array.getElem?_eq_some_iff.1 HO.out.2).1).trans HO.out.2;have k0:w3.cell? ⟨w2.heap.size,0,none⟩=some (.int .i64 f):=by rw[cell_of_row _ _ 0 _ _ _ r3];rfl
 have k6:w3.cell? ⟨w2.heap.size,6,none⟩=some (.slice ly.a ly.n ly.c):=by rw[cell_of_row _ _ 6 _ _ _ r3];rfl
 have k12:w3.cell? ⟨w2.heap.size,12,none⟩=some (.slice tv.a tv.n tv.c):=by rw[cell_of_row _ _ 12 _ _ _ r3];rfl
 have d3:Below w2.heap.size w2 w3:=HO.out.1.trans (b3.mono HO.out.1.size);have HC:Hid ((Sk w3 (.slice a1 n c1) F n∧Sk w3 x F n)∧Below w.heap.size w w3):=⟨⟨(HS1.out.below HB2.out.1).below d3,(HS.out.below HB2.out.2).below d3⟩,HB2.out.2.trans (d3.mono HB2.out.2.size)⟩;clear b3 r3 d3 HO HE;have ee:(E==E)=true:=Pc rfl;by_cases hz:E=0
 ·have e0:(E==0)=true:=by simpa using hz
  go_wp2_with fail
  refine(GM (.slice a1 n c1) x F n w3 HC.out.1.1 HC.out.1.2).mono ?_;rintro e w4 ⟨rfl,b4⟩;have d4:=HC.out.2.trans (b4.mono HC.out.2.size);clear HC b4;go_wp2
  go_ret;exact⟨rfl,d4⟩
 ·have e0:(E==0)=false:=by simpa using hz
  obtain⟨rfl,rfl,rfl⟩:=hf hz;simp only[s30]at k6 k12;go_wp2_with fail
  refine(GM (.slice a1 n c1) x F n w3 HC.out.1.1 HC.out.1.2).mono ?_;rintro e w4 ⟨rfl,b4⟩;have d4:=HC.out.2.trans (b4.mono HC.out.2.size);clear HC b4;go_wp2
  go_ret;exact⟨rfl,d4⟩
end Go.Proofs.YtakgfdbjgeopdaaGreatDoor
namespace Go.Proofs.YtakgfdbjgeopdaaGreatDoor
open Go.RowKit Go.ChangeShapes Go.WideShapes Go.ChangeAt
theorem Sl.openedE{P:Program}{H:Type}{enc:TypeId × Value→H}{W:World}{t e:TypeId}{v:Value}{fuel:Nat}{d:DataW H}{p:List MemPlace}(hu:P.underlying t=some (.slice e))(he:P.underlying e=some (.int .u8))(hce:P.cellsOf e=1)(hb1:P.bytesOf e=1)
  (hf:DataW.trod enc P W 0 (fun _=>true) true fuel t [v]=some (d,p))(hsz:(DataW.weights P t d).all (·≤reachBytes)=true):∃ l,Sl W v l:=by
 have hv:∃ a len cap,v=.slice a len cap:=by
  rcases open_ints hu he hce hf with⟨hcs,_⟩|⟨x,l,c,zs,hcs,_⟩
  ·simp at hcs;exact⟨none,0,0,hcs⟩
  ·simp at hcs;exact⟨some x,l,c,hcs⟩
 obtain⟨a,len,cap,rfl⟩:=hv;exact Sl.opened hu he hce (show DataW.trod enc P W 0 (fun _=>true) true fuel t (Value.cells (.slice a len cap)).toList=some (d,p)from hf) (fun elems spare hd=>by
  subst hd;have h:=hsz;rw[DataW.weights,hu]at h
  simp only[List.all_cons,List.all_append,Bool.and_eq_true,decide_eq_true_eq]at h;have:=h.1;rw[hb1]at this
  simp only[reachBytes]at this;omega)
theorem VP:prog.cellsOf 26=1:=by kernel_rfl
theorem Yd:prog.cellsOf 5=1:=by kernel_rfl
theorem Ya:prog.bytesOf 5=1:=by kernel_rfl
theorem GX{H:Type}{P:Program}{e:TypeId}:∀ {l:List (DataW H)},(DataW.weightsAll P e l).all (·≤reachBytes)=true→∀ d∈l,(DataW.weights P e d).all (·≤reachBytes)=true
 | [],_,d,hd=>by cases hd
 | x::r,h,d,hd=>by
  rw[DataW.weightsAll,List.all_append,Bool.and_eq_true]at h
  rcases List.mem_cons.1 hd with rfl|hd
  ·exact h.1
  ·exact GX h.2 d hd
theorem Kk{H:Type}{P:Program}{t e:TypeId}(hu:P.underlying t=some (.slice e)){elems spare:List (DataW H)}(h:(DataW.weights P t (.slice elems spare)).all (·≤reachBytes)=true) :
  (elems.length+spare.length)*P.bytesOf e≤reachBytes∧(DataW.weightsAll P e elems).all (·≤reachBytes)=true:=by
 rw[DataW.weights,hu]at h
 simp only[List.all_cons,List.all_append,Bool.and_eq_true,decide_eq_true_eq]at h;exact⟨h.1,h.2.1⟩
theorem Tm:prog.cellsOf 68=5:=by kernel_rfl
theorem Yb:prog.bytesOf 68=56:=by kernel_rfl
theorem KJ{P:Program}{H:Type}{enc:TypeId × Value→H}{w:World}{base:Nat}{spare:Nat→Bool}{held:Bool}{t:TypeId}{f0 f1 f2 f3 f4:Field}{fuel:Nat}{cs:List Value}{x:DataW H × List MemPlace}(ht:P.underlying t=some (.struct #[f0,f1,f2,f3,f4]))(h:DataW.trod enc P w base spare held fuel t cs=some x) :
  ∃ y0 y1 y2 y3 y4 n,x.1=.agg [y0.1,y1.1,y2.1,y3.1,y4.1]∧cs.length=P.cellsOf t∧DataW.trod enc P w base spare held n f0.type ((cs.drop f0.offset).take (P.cellsOf f0.type))=some y0 ∧
   DataW.trod enc P w base spare held n f1.type ((cs.drop f1.offset).take (P.cellsOf f1.type))=some y1∧DataW.trod enc P w base spare held n f2.type ((cs.drop f2.offset).take (P.cellsOf f2.type))=some y2∧DataW.trod enc P w base spare held n f3.type ((cs.drop f3.offset).take (P.cellsOf f3.type))=some y3∧DataW.trod enc P w base spare held n f4.type ((cs.drop f4.offset).take (P.cellsOf f4.type))=some y4:=by
 obtain⟨xs,n,_,rfl,hl,hlen,hf⟩:=DataW.trod_struct ht h
 match xs,hlen with
 | [y0,y1,y2,y3,y4],_=>exact⟨y0,y1,y2,y3,y4,n,by simp,hl,by simpa using hf 0 f0 rfl,by simpa using hf 1 f1 rfl,by simpa using hf 2 f2 rfl,by simpa using hf 3 f3 rfl,by simpa using hf 4 f4 rfl⟩
theorem W8{H:Type}{enc:TypeId × Value→H}{W:World}{fuel:Nat}{cs:List Value}{d:DataW H}{p:List MemPlace}
  (h:DataW.trod enc prog W 0 (fun _=>true) true fuel 68 cs=some (d,p))(hsz:(DataW.weights prog 68 d).all (·≤reachBytes)=true) :
  ∃ (e:Lac) (y:Value),cs=laV e y∧Sl W y e.d:=by
 obtain⟨y0,y1,y2,y3,y4,m,hx,hl,h0,h1,h2,h3,h4⟩:=KJ underlying68 h;simp only at hx;subst hx;rw[Tm]at hl
 simp only[Q9,VP]at h0 h1 h2 h3 h4;rw[DataW.weights,underlying68]at hsz
 have z4:(DataW.weights prog 26 y4.1).all (·≤reachBytes)=true:=JT hsz (j:=4) rfl rfl
 match cs,hl with
 | [c0,c1,c2,c3,c4],_ =>
  obtain⟨a0,e0,_,i0⟩:=DataW.trod_int underlying3 h0;obtain⟨a1,e1,_,i1⟩:=DataW.trod_int underlying3 h1;obtain⟨a2,e2,_,i2⟩:=DataW.trod_int underlying3 h2;obtain⟨a3,e3,_,i3⟩:=DataW.trod_int underlying3 h3;obtain⟨l,hs⟩:=Sl.openedE underlying26 underlying5 Yd Ya (v:=c4) (d:=y4.1) (p:=y4.2) h4 z4;simp at e0 e1 e2 e3;subst e0 e1 e2 e3;exact⟨⟨a0,a1,a2,a3,l⟩,c4,rfl,hs⟩
theorem Vf{H:Type}{enc:TypeId × Value→H}{W:World}{fuel:Nat}{x:Value}{d:DataW H}{p:List MemPlace}
  (hf:DataW.trod enc prog W 0 (fun _=>true) true fuel 36 [x]=some (d,p))(hsz:(DataW.weights prog 36 d).all (·≤reachBytes)=true):∃ F n,Sk W x F n:=by
 rcases Deep.open_slice underlying36 hf with⟨h1,_⟩|⟨a,len,cap,m,n,D,Pl,h1,hb,hl,hm,hmm,hx,hel⟩
 ·simp at h1;subst h1;exact⟨fun _=>ZN,0,⟨_,0,rfl,.inl rfl⟩,by simp⟩
 ·simp at h1;subst h1;simp only[if_true]at hmm;have hd:=congrArg Prod.fst hx;simp only at hd;subst hd;obtain⟨hz,hza⟩:=Kk underlying36 hsz;simp only[List.length_map,List.length_range,Yb]at hz;have hlen:len≤2513169434916:=by simp only[reachBytes]at hz;omega
  rw[Tm]at hel
  have hin:∀ i,i<len→∃ q:Lac × Value,(∀ j u,(laV q.1 q.2)[j]?=some u→W.cell? ((a.add (i*5)).add j)=some u)∧Sl W q.2 q.1.d:=by
   intro i hi;obtain⟨cs',h1,h2⟩:=hel i (by omega);obtain⟨e,y,rfl,hs⟩:=W8 h2 (GX hza _ (List.mem_map.2 ⟨i,List.mem_range.2 hi,rfl⟩));obtain⟨_,_,h3⟩:=World.cells?_some h1;refine⟨(e,y),fun j u hj=>?_,hs⟩;have hj5:j<5:=(List.getElem?_eq_some_iff.1 hj).1;rw[h3 j hj5,hj]
  haveI:Inhabited (Lac × Value):=⟨(ZN,.bool false)⟩
  obtain⟨f,hff⟩:=Deep.choose_lt hin;refine⟨fun i=>(f i).1,len,⟨some a,cap,rfl,?_⟩,hlen⟩;by_cases h0:len=0
  ·exact .inl h0
  ·right;obtain⟨b,off,spot⟩:=a;have hc0:=(hff 0 (by omega)).1 0 _ rfl;have hspot:spot=none:=by simpa[Addr.add]using World.cell?_spot hc0
   subst hspot;have hadd:∀ k,(⟨b,off,none⟩:Addr).add k=⟨b,off+k,none⟩:=fun k=>by unfold Addr.add;split<;>simp_all
   have hadd2:∀ k j,(⟨b,off+k,none⟩:Addr).add j=⟨b,off+k+j,none⟩:=fun k j=>by unfold Addr.add;split<;>simp_all
   refine⟨b,off,rfl,?_,fun i hi=>⟨(f i).2,fun j u hj=>?_,(hff i hi).2⟩⟩
   ·rw[hadd,hadd2]at hc0
    exact World.block_lt_of_cell? W _ hc0
   ·have h4:=(hff i hi).1 j u hj;rw[hadd,hadd2]at h4
    rwa [show off+5*i+j=off+i*5+j by omega]
end Go.Proofs.YtakgfdbjgeopdaaGreatDoor
namespace Go.Proofs.YtakgfdbjgeopdaaGreatDoor
open Go.ChangeShapes Go.WideShapes Go.ChangeAt Go.RowKit
theorem ES(H:Type)(enc:TypeId × Value→H)(W:World)(base:Nat)(args:Array Value)(ds gs:List (DataW H))(before:List MemPlace)
  (hval:∀ (j:Nat) t v,f5.params[j]?=some t→args[j]?=some v→Value.okWide prog W .any base t v)
  (hW:DataW.Whole enc prog f5.params.toList Rows.mootRefusesSpec.vars false W args.toList ds gs before)
  (hsz:(DataW.weightsEach prog (f5.params.toList++Rows.mootRefusesSpec.plain.varTypes prog) (ds++gs)).all (·≤reachBytes)=true)(hL:laidMetH prog Rows.mootRefusesRow.laid W)(hS:W.ShapedOpen prog) :
  Calls prog 5 args W fun e W'=>∃ v,e=.returned v∧Rows.mootRefusesSpec.post enc prog f5 false true false false W args v W':=by
 have hW':=hW;obtain⟨p,q,hA0,hV,rfl,hfz,hnd⟩:=hW;have hA:DataW.TrodAll enc prog W 0 (fun _=>true) true f5.params.toList args.toList ds p:=hA0;rw[params5]at hA hval hsz
 obtain⟨v0,vs0,d0,ds0,p0,q0,hargs,rfl,rfl,h0,r0⟩:=trodAll_cons hA;obtain⟨rfl,rfl,rfl⟩:=trodAll_nil r0;obtain rfl:args=#[v0]:=by cases args;simp_all
 obtain⟨rfl,rfl⟩:=trodVars_none hV;obtain⟨a0,len0,cap0,rfl⟩:=okWide_slice underlying36 (hval 0 36 v0 rfl rfl);have k0:=h0;have lt0:∀ x∈p0,x.block<W.heap.size:=by obtain⟨m,hm⟩:=k0;exact DataW.trod_lt m _ _ _ hm
 have z0:(DataW.weights prog 36 d0).all (·≤reachBytes)=true:=JT hsz (j:=0) rfl rfl;obtain⟨l0,n0,w0⟩:∃ f n,Sk W (.slice a0 len0 cap0) f n:=by
  obtain⟨fuel,hf⟩:=h0;exact Vf hf z0
 clear hA0;refine(Hr _ _ _ W w0 (bU hL)).mono fun e W' ⟨he,bel⟩=>?_;subst he;exact⟨_,rfl,_,_,_,[],_,[],hW',trodAll_mk1 (shut_bool underlying4 _),(trodAll_cons_mk (Below.trod WC (by kernel_rfl) (of_decide_eq_true (by kernel_rfl)) k0 bel lt0) trodAll_mk0),rfl,bel.frame _,fun h=>by cases h⟩
theorem IG{os:Os}{W:World}(h:Hd os W):laidMet prog Rows.mootRefusesRow.laid (W.forCall (fun _ _=>0) ⟨#[],#[.slice none 0 0],[]⟩).memory:=by
 unfold Hd at h;subst h;exact laidMet_of_run' 8 (by kernel_rfl) (by kernel_rfl)
theorem G9{os:Os}{W:World}(h:Hd os W){H:Type}(enc:TypeId × Value→H):∃ places,DataW.whole enc prog (W.forCall (fun _ _=>0) ⟨#[],#[.slice none 0 0],[]⟩).memory f5.params.toList Rows.mootRefusesSpec.vars false (#[.slice none 0 0]:Array Value).toList 8=some ([.nil],[],places):=by
 unfold Hd at h;subst h;exact⟨[],by kernel_rfl⟩
theorem FT(os:Os)(started:os.Started)(H:Type)(enc:TypeId × Value→H)(F:Stop.Interp) :
  ReturnsInHanded {} Tryz.checked os 5 .any ((OpenSpec.ofChange Rows.mootRefusesSpec).preRow enc prog f5 Rows.mootRefusesRow.domain false Rows.mootRefusesRow.laid) (((OpenSpec.ofChange Rows.mootRefusesSpec).at F).post enc prog f5 false true false false):=by
 obtain⟨W0,hW0⟩:=Wi os;obtain⟨places,hx⟩:=G9 hW0 enc;have hm:=IG hW0;refine returnsInHanded_of_row (C:=Tryz.checked) (s:=OpenSpec.ofChange Rows.mootRefusesSpec) own started (by kernel_rfl) func5 ?_ ?_
 ·unfold Hd at hW0;subst hW0;exact witness_row_at (enc:=enc) (C:=Tryz.checked) false _ #[.slice none 0 0] rfl (by kernel_rfl) (by kernel_rfl) (by kernel_rfl)
   (OpenSpec.preRow_of_cond 8 hx (by kernel_rfl) (fun k hk=>by cases hk) (by kernel_rfl) hm)
 ·intro W base args ds gs before hval hW _ _ hsz hL hS _;exact ES H enc W base args ds gs before hval hW hsz hL hS
theorem Hq:Rows.MootRefusesSaid :=
 OpenClaim.holds_of_cond 5 f5 rfl rfl rfl rfl rfl rfl rfl ⟨rfl,rfl,rfl,rfl,rfl⟩ rfl rfl rfl rfl rfl (by kernel_rfl) func5 (by kernel_rfl)
  (of_decide_eq_true (by kernel_rfl)) (by unfold Func.isWrapper;first|(rw[if_pos (by decide +kernel)];kernel_rfl)|(rw[if_neg (by decide +kernel)];exact⟨rfl,rfl⟩))
  (fun os started H enc _ F=>by rw[OpenClaim.pre_eq_preRow];exact FT os started H enc F)
theorem G8 (f : FuncId) (fn : Func) (hf : Tryz.pinned.checked.prog.funcNamed "conclave/conclavelaw.MootRefuses" = some f) (hfn : Tryz.pinned.checked.prog.funcs[f]? = some fn) :
  false=Tryz.pinned.checked.prog.looks []∧∀ (j:Nat) t,fn.params[j]?=some t→Tryz.pinned.checked.prog.wantsStandIn t=false:=by
 obtain rfl : f = 5 := Option.some.inj ((show prog.funcNamed "conclave/conclavelaw.MootRefuses" = some 5 by kernel_rfl).symm.trans hf) |>.symm
 obtain rfl:fn=f5:=(Option.some.inj (func5.symm.trans hfn)).symm;refine⟨by kernel_rfl,fun j t ht=>?_⟩;rw[params5]at ht
 obtain rfl:t=36:=by simpa using Array.mem_of_getElem? ht
 exact(show prog.wantsStandIn 36=false by kernel_rfl)
theorem mootRefuses_card:Rows.MootRefusesCardSaid :=
 Claim7.holds_tied_plain_at .later [] _ _ _ _ Hq (fun _ h=>by cases h) (by kernel_rfl) (fun _ h=>by cases h) mootRefuses_row_tie rfl ⟨rfl,rfl⟩ (by kernel_rfl) rfl G8 (by kernel_rfl)
#print axioms mootRefuses_card
end Go.Proofs.YtakgfdbjgeopdaaGreatDoor
