/- Part 19 of the walk. -/
import Derived.Test.YtfhbkoflaekhpadGreatDoorZ18
set_option maxRecDepth 100000
set_option maxHeartbeats 4000000
open Go.Proofs.Tryz
set_option linter.unusedVariables false
namespace Go.Proofs.YtfhbkoflaekhpadGreatDoor
open Go.RowKit
theorem Yu(t n:Int)(l:List Bool)(w:World)(hl:l.length=8)(t0:0≤t)(t1:t≤1073741824)(n0:t-8≤n)(n2:0≤n)(n1:n<1073741824) :
  Calls prog 181 #[.agg (wA t l),.int .i64 n] w fun e w'=>e=.returned (.agg (wA (Gp t n) (JE t l n)))∧Bw w w':=by
 have e0:((w.alloc (.cells (wA t l) 227)).alloc (.cells (wA 0 noB) 227)).heap[w.heap.size]?=some (.cells (wA t l) 227 (0,0)):=heap_alloc2_old _ _ _;have e1:((w.alloc (.cells (wA t l) 227)).alloc (.cells (wA 0 noB) 227)).heap[w.heap.size+1]?=some (.cells (wA 0 noB) 227 (0,0)):=heap_alloc2_new _ _ _;have bb:Bw w ((w.alloc (.cells (wA t l) 227)).alloc (.cells (wA 0 noB) 227)):=((Below.refl _ _).alloc (Nat.le_refl _) _).alloc (by simp) _;have hz:((w.alloc (.cells (wA t l) 227)).alloc (.cells (wA 0 noB) 227)).heap.size=w.heap.size+1+1:=by simp
 have hiT:=Jv (t:=t) hl;have ct:=(cell_of_row _ _ 0 _ _ _ e0).trans (eM t l);by_cases h1:t≤n
 ·obtain⟨d,hd⟩:∃ d,d=min (n+1-t).toNat 8:=⟨_,rfl⟩;obtain⟨HS',HT'⟩:=UJ t n l hl h1 d hd;have HS:Hid _:=HS';have HT:Hid (Gp t n=n+1):=HT';clear HS' HT';have hRl:(l.drop d++List.replicate d false).length=8:=by simp;omega
  have HD:Hid (d=min (n+1-t).toNat 8):=hd;clear hd;go_enter func181,ntmps181
  go_upto_region 1 with fail
  generalize hWW:((w.alloc (.cells (wA t l) 227)).alloc (.cells (wA 0 noB) 227))=W at e0 e1 bb hz ct;refine(congrArg (Code.wp _ _ _ _) hWW).mpr ?_;clear hWW;go_wp2_with (refine wpList_load_row rfl 227 _ rfl w.heap.size rfl 227 _ (0,0) _ e0 underlying227 rfl hiT ?_)
  refine(R6 t (n+1) l W hl t0 t1 (by omega) (by omega) d HD.out).mono ?_;rintro e w1 ⟨rfl,b1⟩;generalize l.drop d++List.replicate d false=R at HS hRl;have a0:=(b1.block w.heap.size (by omega)).trans e0;have a1:=(b1.block (w.heap.size+1) (by omega)).trans e1;have bd1:Bw w w1:=bb.trans (b1.mono (by omega));have hz1:w.heap.size+1+1≤w1.heap.size:=by have:=b1.size;omega
  have hiR:=Jv (t:=n+1) hRl
  go_upto_region 3 with(refine wpList_store_row rfl 227 _ _ rfl w.heap.size _ rfl rfl 227 _ a0 hiR (by rw[Dx,Dx,hRl,hl]) (Og _ _) ?_)
  have f0:=setRow_heap w1 w.heap.size _ (wA (n+1) R) 227 _ a0;have f1:=(setRow_other w1 w.heap.size (w.heap.size+1) (wA (n+1) R) (by omega)).trans a1;have bd2:Bw w (w1.setRow w.heap.size (wA (n+1) R)):=below_setRow bd1 (Nat.le_refl _) _;have hz2:w.heap.size+1+1≤(w1.setRow w.heap.size (wA (n+1) R)).heap.size:=by have:=(Array.getElem?_eq_some_iff.1 f1).1;omega
  generalize w1.setRow w.heap.size (wA (n+1) R)=W2 at f0 f1 bd2 hz2 ⊢;clear a0 a1 bd1 b1 e0 e1 bb ct hz hz1;have hTb:n+1≤1073741824:=by omega
  obtain⟨i,hi,hni⟩:∃ i:Nat,i<8∧n-(n+1-8)=(i:Int):=⟨7,by omega,by omega⟩;have HS2:Hid (JE t l n=R.set i true):=by unfold Hid;rw[show i=7 by omega];exact HS.out
  clear HS;have HS:=HS2;clear HS2;have hTl:0≤n+1:=by omega
  generalize n+1=T at HT f0 hTb hni hTl hiR;go_wp2_with (refine wpList_load_row rfl 227 _ rfl w.heap.size rfl 227 _ (0,0) _ f0 underlying227 rfl (Jv hRl) ?_)
  refine(DA T R W2 hRl (by omega) (by omega)).mono ?_;rintro e w3 ⟨rfl,b3⟩;have g0:=(b3.block w.heap.size (by omega)).trans f0;have g1:=(b3.block (w.heap.size+1) (by omega)).trans f1;have bd3:Bw w w3:=bd2.trans (b3.mono (by omega));have hz3:w.heap.size+1<w3.heap.size:=by have:=b3.size;omega
  have ci:=(cell_of_row _ _ (1+i) _ _ _ g0).trans (JX T R i (by omega));have fi:=frozen_of_row _ _ (1+i) _ _ g0;have h0:=PV g0 i true;have h1':(w3.setCell ⟨w.heap.size,1+i,none⟩ (.bool true)).heap[w.heap.size+1]?=some (.cells (wA 0 noB) 227 (0,0)):=(heap_setCell_other _ _ _ _ (by simp)).trans g1;have bd4:Bw w (w3.setCell ⟨w.heap.size,1+i,none⟩ (.bool true)):=bd3.setCell (p:=⟨w.heap.size,1+i,none⟩) (by simp) _;have hsl:(R.set i true).length=8:=by rw[List.length_set];exact hRl
  have hw4:=Jv (t:=T) hsl;have hii:(i:Int)<8:=by omega
  generalize R.getD i false=c at ci;clear f0 f1 g0 g1 b3 bd2 bd3;go_wp2_with (first
   | (refine wpList_load_row rfl 227 _ rfl w.heap.size rfl 227 _ (0,0) _ h0 underlying227 rfl hw4 ?_)
   | (refine wpList_store_row rfl 227 _ _ rfl (w.heap.size+1) _ rfl rfl 227 _ h1' hw4 (by rw[Dx,Dx,hsl];rfl) (Og _ _) ?_))
  exact bodyPost_ret (v:=.agg (wA T (R.set i true))) (results_cell_row rfl _ _ (w.heap.size+1) 227 _ (0,0) _ rfl (setRow_heap _ (w.heap.size+1) _ _ 227 _ h1') underlying227 rfl hw4) rfl ⟨by rw[HS.out,HT.out],below_setRow bd4 (by omega) _⟩
 ·obtain⟨i,hi,hni⟩:∃ i:Nat,i<8∧n-(t-8)=(i:Int):=⟨(n-(t-8)).toNat,by omega,by omega⟩;obtain⟨HS',HT'⟩:=Ya t n l hl (by omega) i hi (by omega);have HS:Hid (JE t l n=l.set i true):=HS';have HT:Hid (Gp t n=t):=HT';clear HS' HT';go_enter func181,ntmps181
  go_upto_region 1 with fail
  generalize hWW:((w.alloc (.cells (wA t l) 227)).alloc (.cells (wA 0 noB) 227))=W at e0 e1 bb hz ct;refine(congrArg (Code.wp _ _ _ _) hWW).mpr ?_;clear hWW;go_wp2_with (refine wpList_load_row rfl 227 _ rfl w.heap.size rfl 227 _ (0,0) _ e0 underlying227 rfl (Jv hl) ?_)
  refine(DA t l W hl (by omega) (by omega)).mono ?_;rintro e w3 ⟨rfl,b3⟩;have g0:=(b3.block w.heap.size (by omega)).trans e0;have g1:=(b3.block (w.heap.size+1) (by omega)).trans e1;have bd3:Bw w w3:=bb.trans (b3.mono (by omega));have hz3:w.heap.size+1<w3.heap.size:=by have:=b3.size;omega
  have ci:=(cell_of_row _ _ (1+i) _ _ _ g0).trans (JX t l i (by omega));have fi:=frozen_of_row _ _ (1+i) _ _ g0;have h0:=PV g0 i true;have h1':(w3.setCell ⟨w.heap.size,1+i,none⟩ (.bool true)).heap[w.heap.size+1]?=some (.cells (wA 0 noB) 227 (0,0)):=(heap_setCell_other _ _ _ _ (by simp)).trans g1;have bd4:Bw w (w3.setCell ⟨w.heap.size,1+i,none⟩ (.bool true)):=bd3.setCell (p:=⟨w.heap.size,1+i,none⟩) (by simp) _;have hsl:(l.set i true).length=8:=by rw[List.length_set];exact hl
  have hw4:=Jv (t:=t) hsl;have hii:(i:Int)<8:=by omega
  generalize l.getD i false=c at ci;clear e0 e1 g0 g1 b3 bb bd3;go_wp2_with (first
   | (refine wpList_load_row rfl 227 _ rfl w.heap.size rfl 227 _ (0,0) _ h0 underlying227 rfl hw4 ?_)
   | (refine wpList_store_row rfl 227 _ _ rfl (w.heap.size+1) _ rfl rfl 227 _ h1' hw4 (by rw[Dx,Dx,hsl];rfl) (Og _ _) ?_))
  exact bodyPost_ret (v:=.agg (wA t (l.set i true))) (results_cell_row rfl _ _ (w.heap.size+1) 227 _ (0,0) _ rfl (setRow_heap _ (w.heap.size+1) _ _ 227 _ h1') underlying227 rfl hw4) rfl ⟨by rw[HS.out,HT.out],below_setRow bd4 (by omega) _⟩
def IQ(w':World)(v':Value)(n':Int)(key:List Int)(s t:Int)(l:List Bool)(r:List Int):Prop:=Cd key s t l r=0→n'=EO (r.take 4)∧Sl w' v' (Jt key r)
theorem IQ.no{w':World}{v':Value}{n':Int}{key:List Int}{s t:Int}{l:List Bool}{r:List Int}{E:Int}(h:Cd key s t l r=E)(hE:E≠0):IQ w' v' n' key s t l r:=fun h0=>absurd (h.symm.trans h0) hE
theorem MW(vk:Value)(key:List Int)(s t:Int)(l:List Bool)(vr:Value)(r:List Int)(w:World)(hk:Sl w vk key)(hl:l.length=8)(hr:Sl w vr r)(ht:Cr w) :
  Calls prog 180 #[.agg (chA vk s t l),vr] w fun e w'=>∃ v',∃ n',e=.returned (.tuple #[v',.int .i64 n',.int .i64 (Cd key s t l r)])∧IQ w' v' n' key s t l r∧Bw w w':=by
 have hpos:=ht.pos;have bx:=Bx.new w vk s t l;obtain⟨ar,cr,rfl⟩:=hr.shape;have hrl:=hr.len;have hi:=Ef (k:=vk) (s:=s) (t:=t) hl;by_cases hok:OkC key s t l
 ·have HC:Hid (Eg key s t l=0):=Iv hok;go_enter func180,ntmps180
  go_wp2_with (refine wpList_load_row rfl 110 _ rfl w.heap.size rfl 110 _ (0,0) _ bx.row underlying110 rfl hi ?_)
  refine(FV vk key s t l _ (hk.below bx.bel) hl).mono ?_;rintro e w1 ⟨rfl,b1⟩;replace bx:=bx.step b1;rw[HC.out];clear b1;by_cases h2:2020<r.length
  ·have HE:Hid (Cd key s t l r=1):=by unfold Hid Cd;rw[if_neg (fun h=>h hok),if_pos h2]
   have h2':(2020:Int)<(r.length:Int):=by omega
   go_wp2
   go_ret3
   exact⟨.slice none 0 0,0,by rw[HE.out];rfl,IQ.no HE.out (by decide),bx.bel⟩
  ·have h2':¬ (2020:Int)<(r.length:Int):=by omega
   by_cases h3:r.length<20
   ·have HE:Hid (Cd key s t l r=13):=by unfold Hid Cd;rw[if_neg (fun h=>h hok),if_neg h2,if_pos h3]
    have h3':(r.length:Int)<20:=by omega
    go_wp2
    go_ret3
    exact⟨.slice none 0 0,0,by rw[HE.out];rfl,IQ.no HE.out (by decide),bx.bel⟩
   ·have h3':¬ (r.length:Int)<20:=by omega
    go_wp2_with fail
    refine(YJ _ r w1 (hr.below bx.bel) (by omega)).mono ?_;rintro e w2 ⟨vh,vd,rfl,sh,sd,b2⟩;replace bx:=bx.step b2;have hhl:(r.take 4).length=4:=by rw[List.length_take];omega
    have hdl:(r.drop 4).length=r.length-4:=by rw[List.length_drop]
    obtain⟨H,hH⟩:∃ H,r.take 4=H:=⟨_,rfl⟩;obtain⟨D,hD⟩:∃ D,r.drop 4=D:=⟨_,rfl⟩;have HH:Hid (r.take 4=H):=hH;have HD:Hid (r.drop 4=D):=hD;rw[hH]at sh hhl
    rw[hD]at sd hdl
    have nr:=KN hhl sh.byte;have HT:Hid (Cd key s t l r=if 1073741824≤EO H then 2 else if GL t l (EO H)=true then 7 else DC key (Bj H) H D):=by
     unfold Hid Cd;rw[if_neg (fun h=>h hok),if_neg h2,if_neg h3,hH,hD]
    have HTL:Hid (Jt key r=Pk key (Bj H) H D):=by unfold Hid Jt;rw[hH,hD]
    clear hH hD b2;go_wp2_with fail
    refine(ND vh H w2 sh hhl).mono ?_;rintro e w2' ⟨rfl,rfl⟩;generalize hN:EO H=N at HT nr;have HN:Hid (EO H=N):=hN;clear hN;by_cases h4:1073741824≤N
    ·have HE:Hid (Cd key s t l r=2):=by unfold Hid;rw[HT.out,if_pos h4]
     go_wp2
     go_ret3
     exact⟨.slice none 0 0,0,by rw[HE.out];rfl,IQ.no HE.out (by decide),bx.bel⟩
    ·go_wp2_with (refine wpList_load_row rfl 110 _ rfl w.heap.size rfl 110 _ (0,0) _ bx.row underlying110 rfl hi ?_)
     refine(Fc vk s t l w2' hl).mono ?_;rintro e w3 ⟨rfl,b3⟩;replace bx:=bx.step b3;replace sh:=sh.below b3;replace sd:=sd.below b3;have n0:=nr.1;have n1:N<1073741824:=by omega
     clear b3;go_wp2_with fail
     refine(TI t N l w3 hl hok.t0 hok.t1 n0 n1).mono ?_;rintro e w4 ⟨rfl,b4⟩;replace bx:=bx.step b4;replace sh:=sh.below b4;replace sd:=sd.below b4;clear b4;cases h5:GL t l N with
     | true =>
      have HE:Hid (Cd key s t l r=7):=by unfold Hid;rw[HT.out,if_neg (show ¬ 1073741824≤N by omega),h5,if_pos rfl]
      clear h5;go_wp2
      go_ret3
      exact⟨.slice none 0 0,0,by rw[HE.out];rfl,IQ.no HE.out (by decide),bx.bel⟩
     | false =>
      have HE:Hid (Cd key s t l r=DC key (Bj H) H D):=by unfold Hid;rw[HT.out,if_neg (show ¬ 1073741824≤N by omega),h5,if_neg (by simp)]
      have hk2:=hk.below bx.bel;have ht2:=ht.below hpos bx.bel;have hpos2:4<w4.heap.size:=by have:=bx.lt;omega
      have c0:=bx.c0;have bel2:=bx.bel;have hd:Bw w4 w4.drew:=(Below.refl _ _).drew;have hzz:w.heap.size<w4.drew.heap.size:=bx.lt;clear h5 hk hr ht hok;go_wp2_with fail
      go_region_with (first
       | (go_at_call 120;refine(Je _ H _ (sh.below hd) hhl).mono ?_;rintro e w5 ⟨vn,rfl,sn,b5⟩;have c5:=(b5.cell (p:=⟨w.heap.size,0,none⟩) hzz).trans c0)
       | (go_at_call 197;refine(Xe vk vn _ _ key (Bj H) H D _ ((hk2.below hd).below b5) sn ((sh.below hd).below b5) ((sd.below hd).below b5) ((ht2.below hpos2 hd).below hpos2 b5)).mono ?_;rintro e w6 ⟨vx,rfl,sx,b6⟩))
      all_goals
       have d5:Bw w w5:=bel2.trans ((hd.trans b5).mono bel2.size);have d6:Bw w w6:=d5.trans (b6.mono d5.size);clear bx sh sd hk2 ht2 hd c0 c5 sn b5 b6 hzz bel2;generalize DC key (Bj H) H D=E at HE;generalize Pk key (Bj H) H D=X at HTL sx;go_wp2
       go_ret3
       exact⟨vx,N,by rw[HE.out];rfl,fun _=>⟨by rw[HH.out,HN.out],by rw[HTL.out];exact sx⟩,d6⟩
 ·have HC:Hid (Eg key s t l=5):=Dz hok;have HE:Hid (Cd key s t l r=5):=if_pos hok;go_enter func180,ntmps180
  go_wp2_with (refine wpList_load_row rfl 110 _ rfl w.heap.size rfl 110 _ (0,0) _ bx.row underlying110 rfl hi ?_)
  refine(FV vk key s t l _ (hk.below bx.bel) hl).mono ?_;rintro e w1 ⟨rfl,b1⟩;replace bx:=bx.step b1;rw[HC.out];go_wp2
  go_ret3
  exact⟨.slice none 0 0,0,by rw[HE.out];rfl,IQ.no HE.out (by decide),bx.bel⟩
theorem Yb{key:List Int}{s t:Int}{l:List Bool}{r:List Int}(h:Cd key s t l r=0):OkC key s t l∧20≤r.length∧r.length≤2020∧EO (r.take 4)<1073741824∧GL t l (EO (r.take 4))=false∧DC key (Bj (r.take 4)) (r.take 4) (r.drop 4)=0:=by
 unfold Cd at h;by_cases h1:OkC key s t l
 ·rw[if_neg (fun h=>h h1)]at h
  by_cases h2:2020<r.length
  ·rw[if_pos h2]at h;omega
  ·rw[if_neg h2]at h
   by_cases h3:r.length<20
   ·rw[if_pos h3]at h;omega
   ·rw[if_neg h3]at h
    by_cases h4:1073741824≤EO (r.take 4)
    ·rw[if_pos h4]at h;omega
    ·rw[if_neg h4]at h
     cases h5:GL t l (EO (r.take 4))with
     | true=>rw[h5,if_pos rfl]at h;omega
     | false =>
      rw[h5,if_neg (by simp)]at h
      exact⟨h1,by omega,by omega,by omega,rfl,h⟩
 ·rw[if_pos h1]at h;omega
theorem aH(vk:Value)(key:List Int)(s t:Int)(l:List Bool)(vr:Value)(r:List Int)(w:World)(hk:Sl w vk key)(hl:l.length=8)(hr:Sl w vr r)(ht:Cr w)(E:Int)(hE:Cd key s t l r=E)(hE0:E≠0) :
  Calls prog 158 #[.agg (chA vk s t l),vr] w fun e w'=>e=.returned (.tuple #[.agg (chA (.slice none 0 0) 0 0 noB),.slice none 0 0,.int .i64 E])∧Bw w w':=by
 have hpos:=ht.pos;have bx:=By.new w vk s t l;have hi:=Ef (k:=vk) (s:=s) (t:=t) hl;have HE:Hid (Cd key s t l r=E):=hE;clear hE;go_enter func158,ntmps158
 go_wp2_with (refine wpList_load_row rfl 110 _ rfl w.heap.size rfl 110 _ (0,0) _ bx.row underlying110 rfl hi ?_)
 refine(MW _ key s t l vr r _ (hk.below bx.bel) hl (hr.below bx.bel) (ht.below hpos bx.bel)).mono ?_;rintro e w1 ⟨v2,n2,rfl,s2,b1⟩;rw[HE.out];replace bx:=bx.step b1;clear b1;have hi4:=Ef (k:=.slice none 0 0) (s:=0) (t:=0) GI;have ho4:=JN (Sl.nil w none) 0 0 noB;go_wp2_with (refine wpList_store_row rfl 110 _ _ rfl (w.heap.size+1) (chA (.slice none 0 0) 0 0 noB) rfl rfl 110 _ bx.res hi4 rfl ho4 ?_)
 have r2:=setRow_heap w1 (w.heap.size+1) _ (chA (.slice none 0 0) 0 0 noB) 110 _ bx.res;exact bodyPost_ret (EU rfl _ _ (w.heap.size+1) 110 _ (0,0) _ rfl r2 underlying110 rfl hi4) rfl ⟨rfl,below_setRow bx.bel (by omega) _⟩
theorem Ox(k:Value)(s t:Int)(l:List Bool)(i:Nat)(x:Bool):(chA k s t l).setIfInBounds (3+i) (.bool x)=chA k s t (l.set i x):=by
 apply Array.ext';rw[Nat.add_comm];simp[chA,List.map_set]
theorem By.top{w W:World}{k:Value}{s t:Int}{l:List Bool}(h:By w W k s t l)(t':Int):By w (W.setCell ⟨w.heap.size,2,none⟩ (.int .i64 t')) k s t' l :=
 ⟨by rw[heap_setCell_same _ _ _ _ _ _ h.row,Qk],(heap_setCell_other _ _ _ _ (by simp)).trans h.res,h.bel.setCell (p:=⟨w.heap.size,2,none⟩) (by simp) _⟩
theorem By.seen{w W:World}{k:Value}{s t:Int}{l:List Bool}(h:By w W k s t l)(i o:Nat)(ho:o=3+i)(x:Bool)(l':List Bool)(hl':l.set i x=l'):By w (W.setCell ⟨w.heap.size,o,none⟩ (.bool x)) k s t l':=by
 subst ho;subst hl';exact⟨by rw[heap_setCell_same _ _ _ _ _ _ h.row,Ox],(heap_setCell_other _ _ _ _ (by simp)).trans h.res,h.bel.setCell (p:=⟨w.heap.size,3+i,none⟩) (by simp) _⟩
theorem By.drew{w W:World}{k:Value}{s t:Int}{l:List Bool}(h:By w W k s t l):By w W.drew k s t l:=⟨h.row,h.res,h.bel.drew⟩
theorem By.laid{w W:World}{a:Option Addr}{n c:Nat}{s t:Int}{x0 x1 x2 x3 x4 x5 x6 x7:Bool}(h:By w W (.slice a n c) s t [x0,x1,x2,x3,x4,x5,x6,x7])(T:Int)(b0 b1 b2 b3 b4 b5 b6 b7:Bool) :
  By w (((((((((W.setCell ⟨w.heap.size,2,none⟩ (.int .i64 T)).setCell ⟨w.heap.size,3,none⟩ (.bool b0)).setCell ⟨w.heap.size,4,none⟩ (.bool b1)).setCell ⟨w.heap.size,5,none⟩ (.bool b2)).setCell ⟨w.heap.size,6,none⟩ (.bool b3)).setCell ⟨w.heap.size,7,none⟩ (.bool b4)).setCell ⟨w.heap.size,8,none⟩ (.bool b5)).setCell ⟨w.heap.size,9,none⟩ (.bool b6)).setCell ⟨w.heap.size,10,none⟩ (.bool b7)).drew (.slice a n c) s T [b0,b1,b2,b3,b4,b5,b6,b7]∧(∀ v n xs,W.ownsRow 0 5 1 v n xs→(((((((((W.setCell ⟨w.heap.size,2,none⟩ (.int .i64 T)).setCell ⟨w.heap.size,3,none⟩ (.bool b0)).setCell ⟨w.heap.size,4,none⟩ (.bool b1)).setCell ⟨w.heap.size,5,none⟩ (.bool b2)).setCell ⟨w.heap.size,6,none⟩ (.bool b3)).setCell ⟨w.heap.size,7,none⟩ (.bool b4)).setCell ⟨w.heap.size,8,none⟩ (.bool b5)).setCell ⟨w.heap.size,9,none⟩ (.bool b6)).setCell ⟨w.heap.size,10,none⟩ (.bool b7)).drew.ownsRow 0 5 1 v n xs)∧∀ v p,Sl W v p→Sl (((((((((W.setCell ⟨w.heap.size,2,none⟩ (.int .i64 T)).setCell ⟨w.heap.size,3,none⟩ (.bool b0)).setCell ⟨w.heap.size,4,none⟩ (.bool b1)).setCell ⟨w.heap.size,5,none⟩ (.bool b2)).setCell ⟨w.heap.size,6,none⟩ (.bool b3)).setCell ⟨w.heap.size,7,none⟩ (.bool b4)).setCell ⟨w.heap.size,8,none⟩ (.bool b5)).setCell ⟨w.heap.size,9,none⟩ (.bool b6)).setCell ⟨w.heap.size,10,none⟩ (.bool b7)).drew v p:=by
 have h0:=h.top T;have h1:=h0.seen 0 3 rfl b0 [b0,x1,x2,x3,x4,x5,x6,x7] rfl;have h2:=h1.seen 1 4 rfl b1 [b0,b1,x2,x3,x4,x5,x6,x7] rfl;have h3:=h2.seen 2 5 rfl b2 [b0,b1,b2,x3,x4,x5,x6,x7] rfl;have h4:=h3.seen 3 6 rfl b3 [b0,b1,b2,b3,x4,x5,x6,x7] rfl;have h5:=h4.seen 4 7 rfl b4 [b0,b1,b2,b3,b4,x5,x6,x7] rfl;have h6:=h5.seen 5 8 rfl b5 [b0,b1,b2,b3,b4,b5,x6,x7] rfl;have h7:=h6.seen 6 9 rfl b6 [b0,b1,b2,b3,b4,b5,b6,x7] rfl;have h8:=h7.seen 7 10 rfl b7 [b0,b1,b2,b3,b4,b5,b6,b7] rfl;refine⟨h8.drew,fun v n xs ho=>?_,fun v p hs=>?_⟩
 ·exact(AI (AI (AI (AI (AI (AI (AI (AI (AI ho h.row (by decide) 2 _) h0.row (by decide) 3 _) h1.row (by decide) 4 _) h2.row (by decide) 5 _) h3.row (by decide) 6 _) h4.row (by decide) 7 _) h5.row (by decide) 8 _) h6.row (by decide) 9 _) h7.row (by decide) 10 _).drew
 exact(((((((((hs.setBox h.row 2 _).setBox h0.row 3 _).setBox h1.row 4 _).setBox h2.row 5 _).setBox h3.row 6 _).setBox h4.row 7 _).setBox h5.row 8 _).setBox h6.row 9 _).setBox h7.row 10 _).drew
theorem aI(vk:Value)(key:List Int)(s t:Int)(l:List Bool)(vr:Value)(r:List Int)(w:World)(hk:Sl w vk key)(hl:l.length=8)(hr:Sl w vr r)(ht:Cr w)(hE:Cd key s t l r=0)(n:Int)(hn:EO (r.take 4)=n) :
  Calls prog 158 #[.agg (chA vk s t l),vr] w fun e w'=>∃ v1,∃ v2,e=.returned (.tuple #[.agg (chA v1 s (Gp t n) (JE t l n)),v2,.int .i64 0])∧Sl w' v1 key∧w'.ownsRow 0 5 1 v1 key.length (key.map (Value.int .u8))∧Sl w' v2 (Jt key r)∧Bw w w':=by
 have hpos:=ht.pos;have bx:=By.new w vk s t l;have hi:=Ef (k:=vk) (s:=s) (t:=t) hl;obtain⟨hok,hr20,hr2020,hn1,hold,hop⟩:=Yb hE;rw[hn]at hn1 hold
 have hn0:0≤n:=by
  rw[← hn];exact(KN (by rw[List.length_take];omega) (fun x hx=>hr.byte x (List.mem_of_mem_take hx))).1
 have hn8:t-8≤n:=by
  by_cases h:n<t-8
  ·rw[Pg h]at hold;cases hold
  ·omega
 have t0:=hok.t0;have t1:=hok.t1;have HE:Hid (Cd key s t l r=0):=hE;have HN:Hid (EO (r.take 4)=n):=hn;obtain⟨ak,ck,rfl⟩:=hk.shape;generalize hnk:key.length=nk at hk hi bx ⊢;have HNK:Hid (key.length=nk):=hnk;clear hnk;go_enter func158,ntmps158
 clear hE hok hn hold hop hr20 hr2020;go_wp2_with (refine wpList_load_row rfl 110 _ rfl w.heap.size rfl 110 _ (0,0) _ bx.row underlying110 rfl hi ?_)
 refine(MW _ key s t l vr r _ (hk.below bx.bel) hl (hr.below bx.bel) (ht.below hpos bx.bel)).mono ?_;rintro e w1 ⟨v2,n2,rfl,s2',b1⟩;rw[HE.out];obtain⟨hn2,s2⟩:=s2' HE.out;rw[HN.out]at hn2
 subst hn2;replace bx:=bx.step b1;clear b1 s2';go_wp2_with (refine wpList_load_row rfl 110 _ rfl w.heap.size rfl 110 _ (0,0) _ bx.row underlying110 rfl hi ?_)
 refine(Fc _ s t l w1 hl).mono ?_;rintro e w2 ⟨rfl,b2⟩;replace bx:=bx.step b2;replace s2:=s2.below b2;clear b2;go_wp2_with fail
 refine(Yu t n2 l w2 hl t0 t1 hn8 hn0 hn1).mono ?_;rintro e w3 ⟨rfl,b3⟩;replace bx:=bx.step b3;replace s2:=s2.below b3;clear b3;have hSl:=DZ t l n2;generalize hT:Gp t n2=T;generalize hS:JE t l n2=S at hSl;have HT:Hid (Gp t n2=T):=hT;have HS:Hid (JE t l n2=S):=hS;clear hT hS;obtain⟨b0,b1,b2,b3,b4,b5,b6,b7,rfl⟩:=Gv S hSl;simp only[wA,List.map]
 go_upto_region 5 with fail
 have g0:(w3.alloc (.cells (wA T [b0,b1,b2,b3,b4,b5,b6,b7]) 227)).heap[w3.heap.size]?=some (.cells (wA T [b0,b1,b2,b3,b4,b5,b6,b7]) 227 (0,0)):=heap_alloc_new _ _;have b4':Bw w3 (w3.alloc (.cells (wA T [b0,b1,b2,b3,b4,b5,b6,b7]) 227)):=(Below.refl _ _).alloc (Nat.le_refl _) _;simp only[wA,List.map]at g0 b4';have hG:=bx.lt;replace bx:=bx.step b4';replace s2:=s2.below b4';generalize w3.alloc (.cells #[.int .i64 T,.bool b0,.bool b1,.bool b2,.bool b3,.bool b4,.bool b5,.bool b6,.bool b7] 227)=w4 at g0 b4' bx s2 ⊢;clear b4';generalize w3.heap.size=G at g0 hG ⊢;have c0:=bx.c0;have hGz:G<w4.heap.size:=(Array.getElem?_eq_some_iff.1 g0).1;go_wp2_with fail
 refine(Iy _ key w4 (hk.below bx.bel)).mono ?_;rintro e w5 ⟨v1,rfl,o1,b5'⟩;replace bx:=bx.step b5';replace s2:=s2.below b5';replace g0:=(b5'.block G hGz).trans g0;have sk:=Sl.ofOwns o1 hk.len hk.byte;replace o1:=AP o1 (Nat.zero_le _);clear b5' c0 hGz;obtain⟨a1,c1,hv1⟩:=sk.shape;generalize hn1:key.length=n1 at hv1 o1;have HKN:Hid (key.length=n1):=hn1;clear hn1;subst hv1;have c0:=bx.c0;have f0:=bx.fr 0
 go_upto_region 6 with fail
 replace s2:=s2.setBox bx.row 0 (.slice a1 n1 c1);replace sk:=sk.setBox bx.row 0 (.slice a1 n1 c1);replace o1:=AI o1 bx.row (by decide) 0 (.slice a1 n1 c1);have g1:(w5.setCell ⟨w.heap.size,0,none⟩ (.slice a1 n1 c1)).heap[G]?=some (.cells (wA T [b0,b1,b2,b3,b4,b5,b6,b7]) 227 (0,0)):=(heap_setCell_other _ _ _ _ (by simp;omega)).trans g0;replace bx:=bx.key (.slice a1 n1 c1);generalize w5.setCell ⟨w.heap.size,0,none⟩ (.slice a1 n1 c1)=w6 at s2 sk o1 bx g1 ⊢;clear c0 f0 g0;have e1:Bw w6 w6.drew:=(Below.refl _ _).drew;obtain⟨x0,x1,x2,x3,x4,x5,x6,x7,rfl⟩:=Gv l hl;obtain⟨c0,c1',c2,c3,c4,c5,c6,c7,c8,c9,c10⟩:=Tq bx.row;obtain⟨e0,e1',e2,e3,e4,e5,e6,e7,e8⟩:=Lz g1;have f2:=bx.fr 2;have f3:=bx.fr 3;have f4:=bx.fr 4;have f5:=bx.fr 5;have f6:=bx.fr 6;have f7:=bx.fr 7;have f8:=bx.fr 8;have f9:=bx.fr 9;have f10:=bx.fr 10;have hne:¬ G=w.heap.size:=by omega
 have hne':¬ w.heap.size=G:=by omega
 go_region
 obtain⟨by2,hO2,hS2⟩:=bx.laid T b0 b1 b2 b3 b4 b5 b6 b7;replace s2:=hS2 _ _ s2;replace sk:=hS2 _ _ sk;replace o1:=hO2 _ _ _ o1;clear hS2 hO2 c0 c1' c2 c3 c4 c5 c6 c7 c8 c9 c10 e0 e1' e2 e3 e4 e5 e6 e7 e8 f2 f3 f4 f5 f6 f7 f8 f9 f10 bx g1 e1;generalize (((((((((w6.setCell ⟨w.heap.size,2,none⟩ (.int .i64 T)).setCell ⟨w.heap.size,3,none⟩ (.bool b0)).setCell ⟨w.heap.size,4,none⟩ (.bool b1)).setCell ⟨w.heap.size,5,none⟩ (.bool b2)).setCell ⟨w.heap.size,6,none⟩ (.bool b3)).setCell ⟨w.heap.size,7,none⟩ (.bool b4)).setCell ⟨w.heap.size,8,none⟩ (.bool b5)).setCell ⟨w.heap.size,9,none⟩ (.bool b6)).setCell ⟨w.heap.size,10,none⟩ (.bool b7)).drew=w7 at by2 s2 sk o1 ⊢;have hi4:=Ef (k:=.slice a1 n1 c1) (s:=s) (t:=T) hSl;have ho4:=JN sk s T [b0,b1,b2,b3,b4,b5,b6,b7];have hold:(chA (.slice none 0 0) 0 0 noB).size=(chA (.slice a1 n1 c1) s T [b0,b1,b2,b3,b4,b5,b6,b7]).size:=rfl;go_wp2_with (first
  | (refine wpList_load_row rfl 110 _ rfl w.heap.size rfl 110 _ (0,0) _ by2.row underlying110 rfl hi4 ?_)
  | (refine wpList_store_row rfl 110 _ _ rfl (w.heap.size+1) _ rfl rfl 110 _ by2.res hi4 hold ho4 ?_))
 have r2:=setRow_heap w7 (w.heap.size+1) _ (chA (.slice a1 n1 c1) s T [b0,b1,b2,b3,b4,b5,b6,b7]) 110 _ by2.res;exact bodyPost_ret (EU rfl _ _ (w.heap.size+1) 110 _ (0,0) _ rfl r2 underlying110 rfl hi4) rfl ⟨.slice a1 n1 c1,v2,by rw[HT.out,HS.out];rfl,sk.setRowBox by2.res _,by rw[← HNK.out,HKN.out];exact Ek o1 by2.res (by decide) _,s2.setRowBox by2.res _,below_setRow by2.bel (by omega) _⟩
def MG(k:Nat):Int:=if k=1 then 2 else if k=2 then 1 else if k=3 then 4 else 0
theorem NTab.right{w:World}(h:NTab w)(k:Nat)(h1:k≤3):w.cell? ⟨2,k*3,none⟩=some (.int .i64 (MG k)):=by
 rcases(by omega:k=0∨k=1∨k=2∨k=3)with rfl|rfl|rfl|rfl
 ·exact h.cell 0 (by omega)
 ·exact h.cell 3 (by omega)
 ·exact h.cell 6 (by omega)
 ·exact h.cell 9 (by omega)
theorem TF(k:Nat)(r:Int)(hk:k≤3)(h0:0≤r)(h1:r≤7):(bits .and .i64 r (MG k)=0)↔¬ Nh (k:Int) r:=by
 have all:∀ (i:Fin 4) (j:Fin 8),(bits .and .i64 ((j.val:Nat):Int) (MG i.val)=0)↔¬ Nh ((i.val:Nat):Int) ((j.val:Nat):Int):=by decide +kernel
 obtain⟨m,rfl⟩:=Int.eq_ofNat_of_zero_le h0;exact all ⟨k,by omega⟩ ⟨m,by omega⟩
theorem Qd(tc tr tu k c s n v now:Int)(w:World)(ht:NTab w) :
  Calls prog 95 #[.agg (tkA tc tr tu),.agg (cmA k c s n v),.int .i64 now] w fun e w'=>e=.returned (.int .i64 (Er tc tr tu k c s n v now))∧Bw w w':=by
 have b1:Bw w (w.alloc (.cells (tkA tc tr tu) 58)):=(Below.refl _ _).alloc (Nat.le_refl _) _;have bt:=Bt.made w tc tr tu;have z1:(w.alloc (.cells (tkA tc tr tu) 58)).heap.size=w.heap.size+1:=by simp
 have b2:Below (w.alloc (.cells (tkA tc tr tu) 58)).heap.size (w.alloc (.cells (tkA tc tr tu) 58)) ((w.alloc (.cells (tkA tc tr tu) 58)).alloc (.cells (cmA k c s n v) 41)):=(Below.refl _ _).alloc (Nat.le_refl _) _;have bc:=Bc.made (w.alloc (.cells (tkA tc tr tu) 58)) k c s n v;replace bt:=bt.below b2;have bb:=b1.trans (b2.mono b1.size);have hT:=ht.below bb;rw[z1]at bc
 clear b1 b2 ht z1;have hic:=FX k c s n v;have hit:=Il tc tr tu;generalize hW:(w.alloc (.cells (tkA tc tr tu) 58)).alloc (.cells (cmA k c s n v) 41)=W at bb bt bc hT;go_enter func95,ntmps95
 go_wp2_with (refine wpList_load_row rfl 58 _ rfl w.heap.size rfl 58 _ (0,0) _ bt.row underlying58 rfl hit ?_)
 clear hW;refine(I5 tc tr tu _).mono ?_;rintro e w1 ⟨rfl,b1⟩;have d1:Bw w w1:=bb.trans (b1.mono bb.size);replace bt:=bt.below b1;replace bc:=bc.below b1;replace hT:=hT.below b1;clear b1 bb;by_cases h1:CS tc tr tu
 ·rw[decide_eq_true h1];go_wp2_with (refine wpList_load_row rfl 41 _ rfl (w.heap.size+1) rfl 41 _ (0,0) _ bc.row underlying41 rfl hic ?_)
  refine(DB k c s n v _ hT).mono ?_;rintro e w2 ⟨rfl,b2⟩;have d2:Bw w w2:=d1.trans (b2.mono d1.size);replace bt:=bt.below b2;replace bc:=bc.below b2;replace hT:=hT.below b2;clear b2 d1;by_cases h2:AZ k c s n v=0
  ·have hz:=Eu h2;obtain⟨m,rfl⟩:=Int.eq_ofNat_of_zero_le hz.1.1;have k0:(0:Int)≤(m:Int):=by omega
   have k1:(m:Int)<4:=by omega
   have k2:m<4:=by omega
   have hR:=hT.right m (by omega);have hB:=TF m tr (by omega) h1.2.1.1 h1.2.1.2;obtain⟨c0,c1,c2,c3,c4⟩:=Et bc.row;obtain⟨t0,t1,t2⟩:=IL bt.row;have H1:Hid (CS tc tr tu):=h1;have H2:Hid (AZ (m:Int) c s n v=0):=h2;rw[h2];clear h1 h2 hz bt bc hT;by_cases h3:c=tc
   ·have h3':decide (c=tc)=true:=decide_eq_true h3;by_cases h4:bits .and .i64 tr (MG m)=0
    ·have HE:Hid (11=Er tc tr tu (m:Int) c s n v now):=(JZ H1.out H2.out (fun g=>hB.1 h4 g.1)).symm;have H3:Hid (c=tc):=h3;clear hB H1 H2;subst h3;clear h3';generalize MG m=R at hR h4;go_wp2_with fail
     go_quiet (fail)
     have e1:Bw w (w2.drewN nq):=An d2 nq;generalize w2.drewN nq=w3 at e1 ⊢;go_wp2
     go_ret;exact⟨AC HE.out,e1⟩
    ·have HR:Hid (Nh (m:Int) tr∧c=tc):=⟨Classical.not_not.1 fun g=>h4 (hB.2 g),h3⟩;clear hB;subst h3;clear h3';generalize MG m=R at hR h4;go_wp2_with fail
     go_quiet (fail)
     have e1:Bw w (w2.drewN nq):=An d2 nq;have t2':(w2.drewN nq).cell? ⟨w.heap.size,2,none⟩=some (.int .i64 tu):=by simpa using t2
     generalize w2.drewN nq=w3 at e1 t2' ⊢;clear c0 c1 c2 c3 c4 t0 t1 t2 hR;go_wp2_with fail
     refine(E6 now tu _).mono ?_;rintro e w4 ⟨rfl,rfl⟩;by_cases h5:0≤now∧now≤tu
     ·rw[decide_eq_true h5];have HE:Hid (0=Er c tr tu (m:Int) c s n v now):=(Y3 H1.out H2.out ⟨HR.out.1,rfl⟩ h5).symm;go_wp2
      go_ret;exact⟨AC HE.out,e1⟩
     ·rw[decide_eq_false h5];have HE:Hid (10=Er c tr tu (m:Int) c s n v now):=(Tl H1.out H2.out ⟨HR.out.1,rfl⟩ h5).symm;go_wp2
      go_ret;exact⟨AC HE.out,e1⟩
   ·have h3':decide (c=tc)=false:=decide_eq_false h3;have HE:Hid (11=Er tc tr tu (m:Int) c s n v now):=(JZ H1.out H2.out (fun g=>h3 g.2)).symm;clear hB H1 H2;go_wp2_with fail
    go_quiet (fail)
    have e1:Bw w (w2.drewN nq):=An d2 nq;generalize w2.drewN nq=w3 at e1 ⊢;go_wp2
    go_ret;exact⟨AC HE.out,e1⟩
  ·have HE:Hid (AZ k c s n v=Er tc tr tu k c s n v now):=(Vh h1 h2).symm;go_wp2
   go_ret;exact⟨AC HE.out,d2⟩
 ·rw[decide_eq_false h1];have HE:Hid (2=Er tc tr tu k c s n v now):=(Vi h1).symm;go_wp2
  go_ret;exact⟨AC HE.out,d1⟩
theorem W7{c:Int}{w:World}(h0:0≤c)(ht:AD w){E:Int}(hE:(if c≤7 then 0 else 2)=E) :
  Calls prog 38 #[iv c] w fun e w'=>∃ y:S3,e=.returned (.tuple #[y.v,iv E])∧(E=0→Sl w' y.v (Gn c))∧Bw w w':=by
 subst hE;by_cases h:c≤7
 ·rw[if_pos h];refine(dp c w h0 h ht).mono ?_;rintro e w' ⟨v,rfl,ho,hb⟩;obtain⟨y,rfl,hy⟩:=F9 ho (by rw[F4];decide) (TS c);exact⟨y,rfl,fun _=>hy,hb⟩
 ·rw[if_neg h];refine(dm c w (by omega)).mono ?_;rintro e w' ⟨rfl,rfl⟩;exact⟨s30,rfl,fun h=>absurd h (by decide),Below.refl _ _⟩
theorem I3{w:World}(ht:AD w):Calls prog 36 #[] w fun e w'=>∃ y:S3,e=.returned y.v∧Sl w' y.v Gm∧Bw w w':=by
 refine(QN w ht).mono ?_;rintro e w' ⟨v,rfl,ho,hb⟩;obtain⟨y,rfl,hy⟩:=F9 ho (by rw[Ja];decide) TJ;exact⟨y,rfl,hy,hb⟩
theorem dD{x:S3}{key:List Int}{w:World}(hk:Sl w x.v key)(hl:key.length=32) :
  Calls prog 157 #[x.v] w fun e w'=>∃ y:S3,e=.returned (.tuple #[.agg #[y.v,iv 0,iv 0,.bool false,.bool false,.bool false,.bool false,.bool false,.bool false,.bool false,.bool false],iv 0])∧Sl w' y.v key∧Bw w w':=by
 refine(ZD x.v key w hk).mono ?_;rw[if_pos hl,if_pos hl];rintro e w' ⟨v,rfl,ho,hb⟩;obtain⟨y,rfl,hy⟩:=F9 ho hk.len hk.byte;exact⟨y,rfl,hy,hb⟩
theorem VP{l:List Bool}(h:l.length=8):∃ a b c d e f g k,l=[a,b,c,d,e,f,g,k]:=by
 match l,h with
 | [a,b,c,d,e,f,g,k],_=>exact⟨a,b,c,d,e,f,g,k,rfl⟩
theorem SQ{x y:S3}{key r:List Int}{w:World}(hk:Sl w x.v key)(hr:Sl w y.v r)(ht:Cr w){E:Int}(hE:Cd key 0 0 noB r=E) :
  Calls prog 158 #[.agg #[x.v,iv 0,iv 0,.bool false,.bool false,.bool false,.bool false,.bool false,.bool false,.bool false,.bool false],y.v] w fun e w'=>∃ (c v:S3) (t:Int) (x0 x1 x2 x3 x4 x5 x6 x7:Bool),e=.returned (.tuple #[.agg #[c.v,iv 0,iv t,.bool x0,.bool x1,.bool x2,.bool x3,.bool x4,.bool x5,.bool x6,.bool x7],v.v,iv E])∧Sl w' v.v (if E=0 then Jt key r else[])∧Bw w w':=by
 by_cases h:E=0
 ·subst h;refine(aI x.v key 0 0 noB y.v r w hk rfl hr ht hE _ rfl).mono ?_;rintro e w' ⟨v1,v2,rfl,h1,_,h2,hb⟩;obtain⟨c,rfl,_⟩:=SM h1;obtain⟨v,rfl,hv⟩:=SM h2;obtain⟨x0,x1,x2,x3,x4,x5,x6,x7,hx⟩:=VP (DZ 0 noB (EO (r.take 4)));rw[hx];exact⟨c,v,_,x0,x1,x2,x3,x4,x5,x6,x7,rfl,by rw[if_pos rfl];exact hv,hb⟩
 ·refine(aH x.v key 0 0 noB y.v r w hk rfl hr ht E hE h).mono ?_;rintro e w' ⟨rfl,hb⟩;exact⟨s30,s30,0,false,false,false,false,false,false,false,false,rfl,by rw[if_neg h];exact DP _,hb⟩
theorem KW{x y:S3}{key l:List Int}{w:World}(hk:Sl w x.v key)(hb:Sl w y.v l)(ht:AD w){E:Int}(hE:DN key l=E) :
  Calls prog 126 #[x.v,y.v] w fun e w'=>∃ a b c:Int,e=.returned (.tuple #[.agg #[iv a,iv b,iv c],iv E])∧(E=0→a=l.getD 0 0∧b=l.getD 1 0∧c=Ab l 2)∧Bw w w':=by
 subst hE;refine(Us x.v y.v key l w hk hb ht).mono ?_;rintro e w' ⟨rfl,h⟩;by_cases h0:DN key l=0
 ·rw[SH h0];exact⟨_,_,_,rfl,fun _=>⟨rfl,rfl,rfl⟩,h⟩
 ·rw[H6 h0];exact⟨0,0,0,rfl,fun g=>absurd g h0,h⟩
theorem Tz{x:S3}{l:List Int}{w:World}(h:Sl w x.v l)(ht:NTab w){E:Int}(hE:BX l=E) :
  Calls prog 127 #[x.v] w fun e w'=>∃ m:Cmd,e=.returned (.tuple #[.agg #[iv m.k,iv m.c,iv m.s,iv m.n,iv m.v],iv E])∧(E=0→m=⟨Ab l 0,Ab l 4,Ab l 8,Ab l 12,Ab l 16⟩)∧Bw w w':=by
 subst hE;refine(Ko x.v l w h ht).mono ?_;rintro e w' ⟨rfl,hb⟩;by_cases h0:BX l=0
 ·rw[show J1 l=_ from if_pos h0];exact⟨⟨Ab l 0,Ab l 4,Ab l 8,Ab l 12,Ab l 16⟩,rfl,fun _=>rfl,hb⟩
 ·rw[show J1 l=_ from if_neg h0];exact⟨⟨0,0,0,0,0⟩,rfl,fun g=>absurd g h0,hb⟩
theorem Uk{x:S3}{l:List Int}{w:World}(h:Sl w x.v l)(hT:AD w)(hq:Cr w){E:Int}(hE:Pj l=E){D:List Int}(hD:NG l=D) :
  Calls prog 125 #[x.v] w fun e w'=>∃ y:S3,e=.returned (.tuple #[y.v,iv E])∧Sl w' y.v D∧Bw w w':=by
 have hn:=IH h;subst hE hD;refine kIn func125 ?_;refine kR 12 [] fun σ1 w1 b1=>?_;by_cases h1:x.n=0
 ·refine kI (((x.n:Int)==0)) true (by simp;omega) ?_;refine kR 5 [] fun σ2 w2 b2=>?_;have B3:=(btr b1 b2);obtain rfl:l=[]:=List.eq_nil_of_length_eq_zero (by omega);exact kE (.tuple #[S3.v s30,iv 13]) ⟨s30,rfl,DP _,B3⟩
 ·refine kI (((x.n:Int)==0)) false (by simp;omega) ?_;have hl0:¬ l=[]:=fun e=>h1 (by rw[hn,e];rfl);obtain⟨bd,od,hix,hbs,hbc⟩:=PC h (by omega);obtain⟨c,hc⟩:∃ c,l.getD 0 0=c:=⟨_,rfl⟩;have hcb:=Ak h.byte 0;rw[hc]at hbc hcb
  refine kR 4 [] fun σ4 w4 b4=>?_;refine kV 1 (pt bd od) (hix _) ?_;have B6:=(btr b1 b4);refine kV 2 (.int .u8 c) (CX underlying5 rfl ((Below.cell B6 (p:=⟨bd,od,none⟩) hbs).trans hbc)) ?_;refine kV 3 (iv c) (rUi hcb) ?_;obtain⟨E1,hE1⟩:∃ E1:Int,(if c≤7 then 0 else 2)=E1:=⟨_,rfl⟩;refine kC 4 (W7 hcb.1 (hT.below B6) hE1) ?_;rintro _ w9 ⟨yk,rfl,hyk,b9⟩;refine⟨_,rfl,b9,?_⟩;refine kR 12 [] fun σ10 w10 b10=>?_;by_cases h2:E1≠0
  ·refine kI ((E1 != 0)) true (by simpa using h2) ?_;refine kR 6 [] fun σ11 w11 b11=>?_;have B12:=(btr (btr (btr B6 b9) b10) b11);have h7:¬ c≤7:=fun g=>h2 (by rw[← hE1,if_pos g]);have hE2:E1=2:=by rw[← hE1,if_neg h7]
   have hO:Pj l=2:=(if_neg hl0).trans (if_pos (by rw[hc];omega));rw[hO,show NG l=[]from if_neg (by rw[hO];decide),hE2];exact kE (.tuple #[S3.v s30,iv 2]) ⟨s30,rfl,DP _,B12⟩
  ·refine kI ((E1 != 0)) false (by simpa using h2) ?_;have h20:E1=0:=by simpa using h2
   have h7:c≤7:=by by_cases g:c≤7;exact g;rw[if_neg g,h20]at hE1;cases hE1
   have hyk1:=hyk h20;refine kR 4 [] fun σ13 w13 b13=>?_;refine kC 1 (dD ((hyk1.below b10).below b13) (F4 c)) ?_;rintro _ w14 ⟨yc,rfl,hyc,b14⟩;refine⟨_,rfl,b14,?_⟩;obtain⟨y1,hy1,hyb,_⟩:=slB h 1 (by omega);obtain⟨E,hE⟩:∃ E,Cd (Gn c) 0 0 noB (l.drop 1)=E:=⟨_,rfl⟩;refine kR 19 [0,0,0,0,3,0,0,2] fun σ15 w15 b15=>?_;refine kT 2 (S3.v y1) (fun _=>(hy1 _)) ?_;refine W6 41 (fun w' e L=>∃ (v:S3) (b7:Nat) (cs:Array Value),e=[(8,S3.v v),(5,iv E)]∧L=[⟨(σ15 0),.cells #[S3.v yc,iv 0,iv 0,.bool false,.bool false,.bool false,.bool false,.bool false,.bool false,.bool false,.bool false] 110,.z,false⟩,⟨b7,.cells cs 110,.l,false⟩]∧Sl w' v.v (if E=0 then Jt (Gn c) (l.drop 1)else[])∧Bw w w') ?_ ?_
   ·intro J hJ;refine TP 3 8 ?_ ?_
    ·have B19:=(btr (btr (btr (btr (btr B6 b9) b10) b13) b14) b15);refine kC 3 (SQ (hyc.below b15) (hyb.below B19) (hq.below hq.pos B19) hE) ?_;rintro _ w20 ⟨cc20,v20,t20,x0,x1,x2,x3,x4,x5,x6,x7,rfl,hv20,b20⟩;refine⟨_,rfl,b20,?_⟩;refine kR 9 [8,10,12,14,17,1,0,19,1,0,20,22] fun σ21 w21 b21=>?_;have B22:=(btr (btr B19 b20) b21);exact kB [true,true] fun z K=>hJ _ _ z _ ⟨v20,(σ21 0),#[S3.v cc20,iv 0,iv t20,.bool x0,.bool x1,.bool x2,.bool x3,.bool x4,.bool x5,.bool x6,.bool x7],rfl,rfl,(hv20.below b21),B22⟩ K
    ·refine kR 1 [1,0] fun σ23 w23 b23=>?_;have B24:=(btr (btr (btr (btr (btr (btr B6 b9) b10) b13) b14) b15) b23);refine kC 3 (SQ ((hyc.below b15).below b23) (hyb.below B24) (hq.below hq.pos B24) hE) ?_;rintro _ w25 ⟨cc25,v25,t25,x0,x1,x2,x3,x4,x5,x6,x7,rfl,hv25,b25⟩;refine⟨_,rfl,b25,?_⟩;refine kF 8 [8,10,12,14,19,1,0,20,22] fun σ26 w26 b26 q26=>?_;have B27:=((btr B24 b25).trans b26);exact kB [true,true] fun z K=>hJ _ _ z _ ⟨v25,(σ23 0),#[S3.v cc25,iv 0,iv t25,.bool x0,.bool x1,.bool x2,.bool x3,.bool x4,.bool x5,.bool x6,.bool x7],rfl,rfl,(hv25.kept q26),B27⟩ K
   ·rintro w17 _ z17 _ ⟨v,b7,cs,rfl,rfl,hv,hb⟩;refine kR 7 [] fun σ28 w28 b28=>?_;have B29:=(btr hb b28);have hO:Pj l=E:=(if_neg hl0).trans ((if_neg (by rw[hc];omega)).trans (by rw[hc];exact hE));have hOL:NG l=(if E=0 then Jt (Gn c) (l.drop 1)else[]):=by unfold NG;rw[hO,hc]
    rw[hO,hOL];exact kE (.tuple #[S3.v v,iv E]) ⟨v,rfl,(hv.below b28),B29⟩
theorem PR{x:S3}{l:List Int}{w:World}(h:Sl w x.v l)(hT:AD w)(hq:Cr w)(hN:NTab w){E:Int}(hE:unE l=E) :
  Calls prog 94 #[x.v] w fun e w'=>∃ (a b c:Int) (m:Cmd),e=.returned (.tuple #[.agg #[iv a,iv b,iv c],.agg #[iv m.k,iv m.c,iv m.s,iv m.n,iv m.v],iv E])∧(E=0→a=(unT l).getD 0 0∧b=(unT l).getD 1 0∧c=Ab (unT l) 2∧m=⟨Ab (unQ l) 0,Ab (unQ l) 4,Ab (unQ l) 8,Ab (unQ l) 12,Ab (unQ l) 16⟩)∧Bw w w':=by
 obtain⟨E0,hE0⟩:∃ E0,Pj l=E0:=⟨_,rfl⟩;obtain⟨D,hD⟩:∃ D,NG l=D:=⟨_,rfl⟩;unfold unT unQ;unfold unE unT unQ at hE;rw[hD]at hE ⊢
 rw[hE0]at hE
 refine kIn func94 ?_;refine kR 9 [1,0,1,0] fun σ1 w1 b1=>?_;refine kC 1 (Uk (h.below b1) (hT.below b1) (hq.below hq.pos b1) hE0 hD) ?_;rintro _ w2 ⟨y,rfl,hy,b2⟩;refine⟨_,rfl,b2,?_⟩;have hyn:=IH hy;refine kR 12 [] fun σ3 w3 b3=>?_;by_cases h1:E0≠0
 ·refine kI ((E0 != 0)) true (by simpa using h1) ?_;refine kF 9 [0,0,1,0] fun σ4 w4 b4 q4=>?_;have B5:=((btr (btr b1 b2) b3).trans b4);have hEE:E0=E:=by rw[← hE];rw[if_pos h1]
  rw[← hEE];exact qE5 2 3 4 58 41 0 (σ1 0) 1 (σ1 1) #[iv 0,iv 0,iv 0] #[iv 0,iv 0,iv 0,iv 0,iv 0] (iv E0) fun K=>⟨0,0,0,⟨0,0,0,0,0⟩,rfl,fun h=>absurd h (by exact h1),B5⟩
 ·refine kI ((E0 != 0)) false (by simpa using h1) ?_;rw[if_neg h1]at hE
  refine kR 8 [] fun σ6 w6 b6=>?_;by_cases h2:y.n≠42
  ·refine kI (((y.n:Int) != 42)) true (by simp;omega) ?_;refine kF 8 [0,0,1,0] fun σ7 w7 b7 q7=>?_;have B8:=((btr (btr (btr b1 b2) b3) b6).trans b7);have hEE:3=E:=by rw[← hE];rw[if_pos (by omega)]
   rw[← hEE];exact qE5 2 3 4 58 41 0 (σ1 0) 1 (σ1 1) #[iv 0,iv 0,iv 0] #[iv 0,iv 0,iv 0,iv 0,iv 0] (iv 3) fun K=>⟨0,0,0,⟨0,0,0,0,0⟩,rfl,fun h=>absurd h (by decide),B8⟩
  ·refine kI (((y.n:Int) != 42)) false (by simp;omega) ?_;rw[if_neg (by omega)]at hE
   obtain⟨y1,hy1,hyb⟩:=slT hy 22 (by omega);obtain⟨E1,hE1⟩:∃ E1,DN Gm (D.take 22)=E1:=⟨_,rfl⟩;rw[hE1]at hE
   refine kR 4 [10,2] fun σ9 w9 b9=>?_;refine kT 2 (S3.v y1) (fun _=>(hy1 _)) ?_;refine W6 45 (fun w' e L=>∃ (a b c:Int) (b7:Nat),e=[(2,pt (σ1 0) 0),(3,pt (σ1 1) 0),(5,S3.v y),(6,iv E1),(7,pt b7 0)]∧L=[⟨(σ1 0),.cells #[iv 0,iv 0,iv 0] 58,.l,false⟩,⟨(σ1 1),.cells #[iv 0,iv 0,iv 0,iv 0,iv 0] 41,.l,false⟩,⟨b7,.cells #[iv a,iv b,iv c] 58,.l,false⟩]∧(E1=0→a=(D.take 22).getD 0 0∧b=(D.take 22).getD 1 0∧c=Ab (D.take 22) 2)∧Sl w' y.v D∧Bw w w') ?_ ?_
   ·intro J hJ;refine TP 0 7 ?_ ?_
    ·have B13:=(btr (btr (btr (btr b1 b2) b3) b6) b9);refine kC 0 (I3 (hT.below B13)) ?_;rintro _ w14 ⟨yi14,rfl,hyi14,b14⟩;refine⟨_,rfl,b14,?_⟩;refine TP 3 7 ?_ ?_
     ·have B17:=(btr B13 b14);refine kC 3 (KW hyi14 ((((hyb.below b3).below b6).below b9).below b14) (hT.below B17) hE1) ?_;rintro _ w18 ⟨a18,c18,d18,rfl,hp18,b18⟩;refine⟨_,rfl,b18,?_⟩;refine kR 7 [8,10,12,15,1,0,17,2,0,18] fun σ19 w19 b19=>?_;have B20:=(btr (btr B17 b18) b19);exact kB [true,true,true] fun z K=>hJ _ _ z _ ⟨a18,c18,d18,(σ19 0),rfl,rfl,hp18,((((((hy.below b3).below b6).below b9).below b14).below b18).below b19),B20⟩ K
     ·refine kR 1 [1,0] fun σ21 w21 b21=>?_;have B22:=(btr (btr B13 b14) b21);refine kC 3 (KW (hyi14.below b21) (((((hyb.below b3).below b6).below b9).below b14).below b21) (hT.below B22) hE1) ?_;rintro _ w23 ⟨a23,c23,d23,rfl,hp23,b23⟩;refine⟨_,rfl,b23,?_⟩;refine kF 6 [8,10,12,17,2,0,18] fun σ24 w24 b24 q24=>?_;have B25:=((btr B22 b23).trans b24);exact kB [true,true,true] fun z K=>hJ _ _ z _ ⟨a23,c23,d23,(σ21 0),rfl,rfl,hp23,(((((((hy.below b3).below b6).below b9).below b14).below b21).below b23).kept q24),B25⟩ K
    ·refine kR 1 [1,0] fun σ26 w26 b26=>?_;have B27:=(btr (btr (btr (btr (btr b1 b2) b3) b6) b9) b26);refine kC 0 (I3 (hT.below B27)) ?_;rintro _ w28 ⟨yi28,rfl,hyi28,b28⟩;refine⟨_,rfl,b28,?_⟩;have B30:=(btr B27 b28);refine kC 3 (KW hyi28 (((((hyb.below b3).below b6).below b9).below b26).below b28) (hT.below B30) hE1) ?_;rintro _ w31 ⟨a31,c31,d31,rfl,hp31,b31⟩;refine⟨_,rfl,b31,?_⟩;refine kF 6 [8,10,12,17,2,0,18] fun σ32 w32 b32 q32=>?_;have B33:=((btr B30 b31).trans b32);exact kB [true,true,true] fun z K=>hJ _ _ z _ ⟨a31,c31,d31,(σ26 0),rfl,rfl,hp31,(((((((hy.below b3).below b6).below b9).below b26).below b28).below b31).kept q32),B33⟩ K
   ·rintro w11 _ z11 _ ⟨a,b,c,b7,rfl,rfl,hp,hyx,hb⟩;refine kR 6 [] fun σ34 w34 b34=>?_;by_cases h3:E1≠0
    ·refine kI ((E1 != 0)) true (by simpa using h3) ?_;refine kF 9 [0,0,1,0] fun σ35 w35 b35 q35=>?_;have B36:=((btr hb b34).trans b35);have hEE:E1=E:=by rw[← hE];rw[if_pos h3]
     rw[← hEE];exact qE5 2 3 4 58 41 0 (σ1 0) 1 (σ1 1) #[iv 0,iv 0,iv 0] #[iv 0,iv 0,iv 0,iv 0,iv 0] (iv E1) fun K=>⟨0,0,0,⟨0,0,0,0,0⟩,rfl,fun h=>absurd h (by exact h3),B36⟩
    ·refine kI ((E1 != 0)) false (by simpa using h3) ?_;have h30:E1=0:=by simpa using h3
     rw[if_neg h3]at hE
     obtain⟨y3,hy3,hyd⟩:=slB (hyx.below b34) 22 (by omega);refine kR 4 [] fun σ37 w37 b37=>?_;refine kV 1 (S3.v y3) (hy3 _) ?_;have B39:=(btr (btr hb b34) b37);refine kC 2 (Tz (hyd.1.below b37) (hN.below B39) hE) ?_;rintro _ w40 ⟨m,rfl,hm,b40⟩;refine⟨_,rfl,b40,?_⟩;refine kR 11 [0,0,3,0,3,0,2,4] fun σ41 w41 b41=>?_;refine W6 45 (fun w' e L=>∃ (_:Unit),e=[(2,pt (σ1 0) 0),(3,pt (σ1 1) 0),(4,iv E)]∧L=[⟨(σ1 0),.cells #[iv a,iv b,iv c] 58,.l,false⟩,⟨(σ1 1),.cells #[iv m.k,iv m.c,iv m.s,iv m.n,iv m.v] 41,.l,false⟩,⟨b7,.cells #[iv a,iv b,iv c] 58,.l,false⟩,⟨(σ41 0),.cells #[iv m.k,iv m.c,iv m.s,iv m.n,iv m.v] 41,.z,false⟩]∧Bw w w') ?_ ?_
     ·intro J hJ;refine TP 1 3 ?_ ?_
      ·refine kF 5 [3,7,0,0,9,1,0,10] fun σ43 w43 b43 q43=>?_;have B44:=((btr (btr B39 b40) b41).trans b43);exact kB [true,true,true,true] fun z K=>hJ _ _ z _ ⟨(),rfl,rfl,B44⟩ K
      ·refine kF 5 [0,0,3,3,9,1,0,10] fun σ45 w45 b45 q45=>?_;have B46:=((btr (btr B39 b40) b41).trans b45);exact kB [true,true,true,true] fun z K=>hJ _ _ z _ ⟨(),rfl,rfl,B46⟩ K
     ·rintro w42 _ z42 _ ⟨_,rfl,rfl,hb2⟩;exact qE5 2 3 4 58 41 0 (σ1 0) 1 (σ1 1) #[iv a,iv b,iv c] #[iv m.k,iv m.c,iv m.s,iv m.n,iv m.v] (iv E) fun K=>⟨a,b,c,m,rfl,fun h=>⟨(hp h30).1,(hp h30).2.1,(hp h30).2.2,hm h⟩,hb2⟩
theorem Mg{a b c:Int}{m:Cmd}{now:Int}{w:World}(ht:NTab w){F:Int}(hF:Er a b c m.k m.c m.s m.n m.v now=F):Calls prog 95 #[.agg #[iv a,iv b,iv c],.agg #[iv m.k,iv m.c,iv m.s,iv m.n,iv m.v],iv now] w fun e w'=>e=.returned (iv F)∧Bw w w':=by subst hF;exact Qd a b c m.k m.c m.s m.n m.v now w ht
theorem Ua(v:Value)(l:List Int)(now:Int)(w:World)(h:Sl w v l)(hT:AD w)(hq:Cr w)(hN:NTab w) :
  Calls prog 50 #[v,iv now] w fun e w'=>e=.returned (.tuple #[.agg (opA l now),iv (opE l now)])∧Bw w w':=by
 obtain⟨x,rfl,h⟩:=SM h;obtain⟨E,hE⟩:∃ E,unE l=E:=⟨_,rfl⟩;have hEx:=hE;refine kIn func50 ?_;refine kR 8 [1,0] fun σ1 w1 b1=>?_;refine kC 1 (PR (h.below b1) (hT.below b1) (hq.below hq.pos b1) (hN.below b1) hE) ?_;rintro _ w2 ⟨a,b,c,m,rfl,hm,b2⟩;refine⟨_,rfl,b2,?_⟩;refine kR 16 [0,0,0,0,1,0,2,0] fun σ3 w3 b3=>?_;by_cases h1:E≠0
 ·refine kI ((E != 0)) true (by simpa using h1) ?_;refine kF 7 [0,0] fun σ4 w4 b4 q4=>?_;have hO:opE l now=E:=(if_pos (by rw[hE];exact h1)).trans hE;rw[NF (by rw[hO];exact h1),hO];have B5:=((btr (btr b1 b2) b3).trans b4);exact qE2 4 5 41 0 (σ1 0) #[iv 0,iv 0,iv 0,iv 0,iv 0] (iv E) fun K=>⟨rfl,B5⟩
 ·refine kI ((E != 0)) false (by simpa using h1) ?_;have h10:E=0:=by simpa using h1
  obtain⟨ha,hb_,hc,hmm⟩:=hm h10;have hlp:0<l.length:=gv (hE.trans h10);have hU:¬ unE l≠0:=by rw[hE,h10];simp
  obtain⟨e1,e2⟩:m.k=Ab (unQ l) 0∧m.c=Ab (unQ l) 4:=by rw[hmm];exact⟨rfl,rfl⟩
  refine kR 6 [12,0,2,2] fun σ6 w6 b6=>?_;by_cases h2:m.k≠0
  ·refine kT 2 (.bool true) (fun _=>(FD (t:=3) (m:=m.k) (n:=0) (x:=(.tmp 21)) (y:=(.const (iv 0))) (by simpa using h2))) ?_;obtain⟨bd,od,hix,hbs,hbc⟩:=PC h hlp;obtain⟨cl,hcl⟩:∃ cl,l.getD 0 0=cl:=⟨_,rfl⟩;have hcb:=Ak h.byte 0;rw[hcl]at hbc hcb
   refine kR 4 [6,8,10,2,12] fun σ7 w7 b7=>?_;refine kT 7 (pt bd od) (fun _=>(hix _)) ?_;have B9:=(btr (btr (btr (btr b1 b2) b3) b6) b7);refine kV 8 (.int .u8 cl) (CX underlying5 rfl ((Below.cell B9 (p:=⟨bd,od,none⟩) hbs).trans hbc)) ?_;refine kT 9 (iv cl) (fun _=>(rUi hcb)) ?_;by_cases h3:m.c≠cl
   ·refine kT 10 (.bool true) (fun _=>(FD (t:=3) (m:=m.c) (n:=cl) (x:=(.tmp 25)) (y:=(.tmp 29)) (by simpa using h3))) ?_;refine kF 9 [22,0,0] fun σ12 w12 b12 q12=>?_;have hO:opE l now=11:=(if_neg hU).trans (if_pos ⟨by rw[← e1];exact h2,by rw[← e2,hcl];exact h3⟩);rw[NF (by rw[hO];decide),hO];have B13:=(B9.trans b12);exact qE2 4 5 41 0 (σ1 0) #[iv 0,iv 0,iv 0,iv 0,iv 0] (iv 11) fun K=>⟨rfl,B13⟩
   ·refine kT 10 (.bool false) (fun _=>(FD (t:=3) (m:=m.c) (n:=cl) (x:=(.tmp 25)) (y:=(.tmp 29)) (by simpa using h3))) ?_;refine kR 10 [22,1,2] fun σ14 w14 b14=>?_;obtain⟨F,hF⟩:∃ F,Er a b c m.k m.c m.s m.n m.v now=F:=⟨_,rfl⟩;have hO:opE l now=F:=(if_neg hU).trans ((if_neg (fun g=>g.2 (by rw[← e2,hcl];simpa using h3))).trans (by rw[← hF,ha,hb_,hc,hmm]));have B15:=(btr B9 b14);refine kC 3 (Mg (hN.below B15) hF) ?_;rintro _ w16 ⟨rfl,b16⟩;refine⟨_,rfl,b16,?_⟩;refine kR 7 [] fun σ17 w17 b17=>?_;by_cases h4:F≠0
    ·refine kI ((F != 0)) true (by simpa using h4) ?_;refine kF 7 [0,0] fun σ18 w18 b18 q18=>?_;rw[NF (by rw[hO];exact h4),hO];have B19:=((btr (btr B15 b16) b17).trans b18);exact qE2 4 5 41 0 (σ1 0) #[iv 0,iv 0,iv 0,iv 0,iv 0] (iv F) fun K=>⟨rfl,B19⟩
    ·refine kI ((F != 0)) false (by simpa using h4) ?_;have h40:F=0:=by simpa using h4
     refine kF 7 [2,0,0] fun σ20 w20 b20 q20=>?_;rw[show opA l now=#[iv m.k,iv m.c,iv m.s,iv m.n,iv m.v]from(Xb (hO.trans h40)).trans (by rw[hmm];rfl),hO,h40];have B21:=((btr (btr B15 b16) b17).trans b20);exact qE2 4 5 41 0 (σ1 0) #[iv m.k,iv m.c,iv m.s,iv m.n,iv m.v] (iv 0) fun K=>⟨rfl,B21⟩
  ·refine kT 2 (.bool false) (fun _=>(FD (t:=3) (m:=m.k) (n:=0) (x:=(.tmp 21)) (y:=(.const (iv 0))) (by simpa using h2))) ?_;refine kR 18 [6,8,10,12,14,16,18,20,22,1,2] fun σ22 w22 b22=>?_;obtain⟨F,hF⟩:∃ F,Er a b c m.k m.c m.s m.n m.v now=F:=⟨_,rfl⟩;have hO:opE l now=F:=(if_neg hU).trans ((if_neg (fun g=>g.1 (by rw[← e1];simpa using h2))).trans (by rw[← hF,ha,hb_,hc,hmm]));have B23:=(btr (btr (btr (btr b1 b2) b3) b6) b22);refine kC 3 (Mg (hN.below B23) hF) ?_;rintro _ w24 ⟨rfl,b24⟩;refine⟨_,rfl,b24,?_⟩;refine kR 7 [] fun σ25 w25 b25=>?_;by_cases h4:F≠0
   ·refine kI ((F != 0)) true (by simpa using h4) ?_;refine kF 7 [0,0] fun σ26 w26 b26 q26=>?_;rw[NF (by rw[hO];exact h4),hO];have B27:=((btr (btr B23 b24) b25).trans b26);exact qE2 4 5 41 0 (σ1 0) #[iv 0,iv 0,iv 0,iv 0,iv 0] (iv F) fun K=>⟨rfl,B27⟩
   ·refine kI ((F != 0)) false (by simpa using h4) ?_;have h40:F=0:=by simpa using h4
    refine kF 7 [2,0,0] fun σ28 w28 b28 q28=>?_;rw[show opA l now=#[iv m.k,iv m.c,iv m.s,iv m.n,iv m.v]from(Xb (hO.trans h40)).trans (by rw[hmm];rfl),hO,h40];have B29:=((btr (btr B23 b24) b25).trans b28);exact qE2 4 5 41 0 (σ1 0) #[iv m.k,iv m.c,iv m.s,iv m.n,iv m.v] (iv 0) fun K=>⟨rfl,B29⟩
end Go.Proofs.YtfhbkoflaekhpadGreatDoor
