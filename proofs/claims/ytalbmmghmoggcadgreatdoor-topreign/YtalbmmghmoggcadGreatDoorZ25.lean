/- Part 25 of the walk. -/
import Derived.Test.YtalbmmghmoggcadGreatDoorZ24
set_option maxRecDepth 100000
set_option maxHeartbeats 4000000
open Go.Proofs.Tryz
set_option linter.unusedVariables false
namespace Go.Proofs.YtalbmmghmoggcadGreatDoor
open Go.RowKit
section
theorem YQ(t n:Int)(l:List Bool)(w:World)(hl:l.length=8)(t0:0<=t)(t1:t<=1073741824)(n0:t-8<=n)(n2:0<=n)(n1:n<1073741824) :
  Calls prog 196 #[.agg (wA t l),.int .i64 n] w λe w'=>e=.returned (.agg (wA (Gu t n) (JU t l n)))/\Bw w w':=by
 have e0:((w.alloc (.cells (wA t l) 137)).alloc (.cells (wA 0 noB) 137)).heap[w.heap.size]?=some (.cells (wA t l) 137 (0,0)):=heap_alloc2_old _ _ _;have e1:((w.alloc (.cells (wA t l) 137)).alloc (.cells (wA 0 noB) 137)).heap[w.heap.size+1]?=some (.cells (wA 0 noB) 137 (0,0)):=heap_alloc2_new _ _ _;have bb:Bw w ((w.alloc (.cells (wA t l) 137)).alloc (.cells (wA 0 noB) 137)):=((Below.refl _ _).alloc (A' _) _).alloc (by simp) _;have hz:((w.alloc (.cells (wA t l) 137)).alloc (.cells (wA 0 noB) 137)).heap.size=w.heap.size+1+1:=by simp
 have hiT:=JA (t:=t) hl;have ct:=(cell_of_row _ _ 0 _ _ _ e0).trans (fo t l);by_cases h1:t<=n
 .obtain⟨d,hd⟩:∃ d,d=min (n+1-t).toNat 8:=⟨_,rfl⟩;obtain⟨HS',HT'⟩:=Vr t n l hl h1 d hd;have HS:Hid _:=HS';have HT:Hid (Gu t n=n+1):=HT';clear HS' HT';have hRl:(l.drop d++List.replicate d false).length=8:=by simp;omega
  have HD:Hid (d=min (n+1-t).toNat 8):=hd;clear hd;go_enter func196,ntmps196
  go_upto_region 1 with fail
  generalize hWW:((w.alloc (.cells (wA t l) 137)).alloc (.cells (wA 0 noB) 137))=W at e0 e1 bb hz ct;refine(congrArg (Code.wp _ _ _ _) hWW).mpr ?_;clear hWW;go_wp2_with (refine wpList_load_row rfl 137 _ rfl w.heap.size rfl 137 _ (0,0) _ e0 underlying137 rfl hiT ?_)
  refine(Se t (n+1) l W hl t0 t1 (by omega) (by omega) d HD.out).mono ?_;rintro e w1 ⟨rfl,b1⟩;generalize l.drop d++List.replicate d false=R at HS hRl;have a0:=(b1.block w.heap.size (by omega)).trans e0;have a1:=(b1.block (w.heap.size+1) (by omega)).trans e1;have bd1:Bw w w1:=bb.trans (b1.mono (by omega));have hz1:w.heap.size+1+1<=w1.heap.size:=by have:=b1.size;omega
  have hiR:=JA (t:=n+1) hRl
  go_upto_region 3 with(refine wpList_store_row rfl 137 _ _ rfl w.heap.size _ rfl rfl 137 _ a0 hiR (by rw[D3,D3,hRl,hl]) (OC _ _) ?_)
  have f0:=setRow_heap w1 w.heap.size _ (wA (n+1) R) 137 _ a0;have f1:=(setRow_other w1 w.heap.size (w.heap.size+1) (wA (n+1) R) (by omega)).trans a1;have bd2:Bw w (w1.setRow w.heap.size (wA (n+1) R)):=below_setRow bd1 (A' _) _;have hz2:w.heap.size+1+1<=(w1.setRow w.heap.size (wA (n+1) R)).heap.size:=by have:=(H'.1 f1).1;omega
  generalize w1.setRow w.heap.size (wA (n+1) R)=W2 at f0 f1 bd2 hz2 ⊢;clear a0 a1 bd1 b1 e0 e1 bb ct hz hz1;have hTb:n+1<=1073741824:=by omega
  obtain⟨i,hi,hni⟩:∃ i:Nat,i<8/\n-(n+1-8)=(i:Int):=⟨7,by omega,by omega⟩;have HS2:Hid (JU t l n=R.set i true):=by unfold Hid;rw[show i=7 by omega];exact HS.out
  clear HS;have HS:=HS2;clear HS2;have hTl:0<=n+1:=by omega
  generalize n+1=T at HT f0 hTb hni hTl hiR;go_wp2_with (refine wpList_load_row rfl 137 _ rfl w.heap.size rfl 137 _ (0,0) _ f0 underlying137 rfl (JA hRl) ?_)
  refine(DG T R W2 hRl (by omega) (by omega)).mono ?_;rintro e w3 ⟨rfl,b3⟩;have g0:=(b3.block w.heap.size (by omega)).trans f0;have g1:=(b3.block (w.heap.size+1) (by omega)).trans f1;have bd3:Bw w w3:=bd2.trans (b3.mono (by omega));have hz3:w.heap.size+1<w3.heap.size:=by have:=b3.size;omega
  have ci:=(cell_of_row _ _ (1+i) _ _ _ g0).trans (Kl T R i (by omega));have fi:=frozen_of_row _ _ (1+i) _ _ g0;have h0:=Q3 g0 i true;have h1':(w3.setCell ⟨w.heap.size,1+i,none⟩ (.bool true)).heap[w.heap.size+1]?=some (.cells (wA 0 noB) 137 (0,0)):=(heap_setCell_other _ _ _ _ (by simp)).trans g1;have bd4:Bw w (w3.setCell ⟨w.heap.size,1+i,none⟩ (.bool true)):=bd3.setCell (p:=⟨w.heap.size,1+i,none⟩) (by simp) _;have hsl:(R.set i true).length=8:=by rw[List.length_set];exact hRl
  have hw4:=JA (t:=T) hsl;have hii:(i:Int)<8:=by omega
  generalize R.getD i false=c at ci;clear f0 f1 g0 g1 b3 bd2 bd3;go_wp2_with (first
   | (refine wpList_load_row rfl 137 _ rfl w.heap.size rfl 137 _ (0,0) _ h0 underlying137 rfl hw4 ?_)
   | (refine wpList_store_row rfl 137 _ _ rfl (w.heap.size+1) _ rfl rfl 137 _ h1' hw4 (by rw[D3,D3,hsl];rfl) (OC _ _) ?_))
  exact bodyPost_ret (v:=.agg (wA T (R.set i true))) (results_cell_row rfl _ _ (w.heap.size+1) 137 _ (0,0) _ rfl (setRow_heap _ (w.heap.size+1) _ _ 137 _ h1') underlying137 rfl hw4) rfl ⟨by rw[HS.out,HT.out],below_setRow bd4 (by omega) _⟩
 .obtain⟨i,hi,hni⟩:∃ i:Nat,i<8/\n-(t-8)=(i:Int):=⟨(n-(t-8)).toNat,by omega,by omega⟩;obtain⟨HS',HT'⟩:=Y8 t n l hl (by omega) i hi (by omega);have HS:Hid (JU t l n=l.set i true):=HS';have HT:Hid (Gu t n=t):=HT';clear HS' HT';go_enter func196,ntmps196
  go_upto_region 1 with fail
  generalize hWW:((w.alloc (.cells (wA t l) 137)).alloc (.cells (wA 0 noB) 137))=W at e0 e1 bb hz ct;refine(congrArg (Code.wp _ _ _ _) hWW).mpr ?_;clear hWW;go_wp2_with (refine wpList_load_row rfl 137 _ rfl w.heap.size rfl 137 _ (0,0) _ e0 underlying137 rfl (JA hl) ?_)
  refine(DG t l W hl (by omega) (by omega)).mono ?_;rintro e w3 ⟨rfl,b3⟩;have g0:=(b3.block w.heap.size (by omega)).trans e0;have g1:=(b3.block (w.heap.size+1) (by omega)).trans e1;have bd3:Bw w w3:=bb.trans (b3.mono (by omega));have hz3:w.heap.size+1<w3.heap.size:=by have:=b3.size;omega
  have ci:=(cell_of_row _ _ (1+i) _ _ _ g0).trans (Kl t l i (by omega));have fi:=frozen_of_row _ _ (1+i) _ _ g0;have h0:=Q3 g0 i true;have h1':(w3.setCell ⟨w.heap.size,1+i,none⟩ (.bool true)).heap[w.heap.size+1]?=some (.cells (wA 0 noB) 137 (0,0)):=(heap_setCell_other _ _ _ _ (by simp)).trans g1;have bd4:Bw w (w3.setCell ⟨w.heap.size,1+i,none⟩ (.bool true)):=bd3.setCell (p:=⟨w.heap.size,1+i,none⟩) (by simp) _;have hsl:(l.set i true).length=8:=by rw[List.length_set];exact hl
  have hw4:=JA (t:=t) hsl;have hii:(i:Int)<8:=by omega
  generalize l.getD i false=c at ci;clear e0 e1 g0 g1 b3 bb bd3;go_wp2_with (first
   | (refine wpList_load_row rfl 137 _ rfl w.heap.size rfl 137 _ (0,0) _ h0 underlying137 rfl hw4 ?_)
   | (refine wpList_store_row rfl 137 _ _ rfl (w.heap.size+1) _ rfl rfl 137 _ h1' hw4 (by rw[D3,D3,hsl];rfl) (OC _ _) ?_))
  exact bodyPost_ret (v:=.agg (wA t (l.set i true))) (results_cell_row rfl _ _ (w.heap.size+1) 137 _ (0,0) _ rfl (setRow_heap _ (w.heap.size+1) _ _ 137 _ h1') underlying137 rfl hw4) rfl ⟨by rw[HS.out,HT.out],below_setRow bd4 (by omega) _⟩
def Ja(w':World)(v':Value)(n':Int)(key:List Int)(s t:Int)(l:List Bool)(r:List Int):Prop:=Co key s t l r=0->n'=EW (r.take 4)/\Sl w' v' (J8 key r)
variable{W w:World}{k:Value}{key r:List Int}{l:List Bool}{s t:Int}
theorem Ja.no{w':World}{v':Value}{n':Int}{E:Int}(h:Co key s t l r=E)(hE:E≠0):Ja w' v' n' key s t l r:=λh0=>absurd (h.symm.trans h0) hE
theorem Nx(vk:Value)(key:List Int)(s t:Int)(l:List Bool)(vr:Value)(r:List Int)(w:World)(hk:Sl w vk key)(hl:l.length=8)(hr:Sl w vr r)(ht:CB w) :
  Calls prog 195 #[.agg (chA vk s t l),vr] w λe w'=>∃ v',∃ n',e=.returned (.tuple #[v',.int .i64 n',.int .i64 (Co key s t l r)])/\Ja w' v' n' key s t l r/\Bw w w':=by
 have hpos:=ht.pos;have bx:=Bx.new w vk s t l;obtain⟨ar,cr,rfl⟩:=hr.shape;have hrl:=hr.len;have hi:=El (k:=vk) (s:=s) (t:=t) hl;by_cases hok:OkC key s t l
 .have HC:Hid (Em key s t l=0):=I4 hok;go_enter func195,ntmps195
  go_wp2_with (refine wpList_load_row rfl 55 _ rfl w.heap.size rfl 55 _ (0,0) _ bx.row underlying55 rfl hi ?_)
  refine(Ga vk key s t l _ (hk.below bx.bel) hl).mono ?_;rintro e w1 ⟨rfl,b1⟩;replace bx:=bx.step b1;rw[HC.out];clear b1;by_cases h2:2020<r.length
  .have HE:Hid (Co key s t l r=1):=by unfold Hid Co;rw[if_neg (λh=>h hok),if_pos h2]
   have h2':(2020:Int)<(r.length:Int):=by omega
   go_wp2
   go_ret3
   exact⟨.slice none 0 0,0,by rw[HE.out];rfl,Ja.no HE.out (by decide),bx.bel⟩
  .have h2':¬ (2020:Int)<(r.length:Int):=by omega
   by_cases h3:r.length<20
   .have HE:Hid (Co key s t l r=13):=by unfold Hid Co;rw[if_neg (λh=>h hok),if_neg h2,if_pos h3]
    have h3':(r.length:Int)<20:=by omega
    go_wp2
    go_ret3
    exact⟨.slice none 0 0,0,by rw[HE.out];rfl,Ja.no HE.out (by decide),bx.bel⟩
   .have h3':¬ (r.length:Int)<20:=by omega
    go_wp2_with fail
    refine(Zs _ r w1 (hr.below bx.bel) (by omega)).mono ?_;rintro e w2 ⟨vh,vd,rfl,sh,sd,b2⟩;replace bx:=bx.step b2;have hhl:(r.take 4).length=4:=by rw[iO];omega
    have hdl:(r.drop 4).length=r.length-4:=by rw[iQ]
    obtain⟨H,hH⟩:∃ H,r.take 4=H:=⟨_,rfl⟩;obtain⟨D,hD⟩:∃ D,r.drop 4=D:=⟨_,rfl⟩;have HH:Hid (r.take 4=H):=hH;have HD:Hid (r.drop 4=D):=hD;rw[hH]at sh hhl
    rw[hD]at sd hdl
    have nr:=Lh hhl sh.byte;have HT:Hid (Co key s t l r=if 1073741824<=EW H then 2 else if GQ t l (EW H)=true then 7 else DI key (Bm H) H D):=by
     unfold Hid Co;rw[if_neg (λh=>h hok),if_neg h2,if_neg h3,hH,hD]
    have HTL:Hid (J8 key r=PN key (Bm H) H D):=by unfold Hid J8;rw[hH,hD]
    clear hH hD b2;go_wp2_with fail
    refine(Oj vh H w2 sh hhl).mono ?_;rintro e w2' ⟨rfl,rfl⟩;generalize hN:EW H=N at HT nr;have HN:Hid (EW H=N):=hN;clear hN;by_cases h4:1073741824<=N
    .have HE:Hid (Co key s t l r=2):=by unfold Hid;rw[HT.out,if_pos h4]
     go_wp2
     go_ret3
     exact⟨.slice none 0 0,0,by rw[HE.out];rfl,Ja.no HE.out (by decide),bx.bel⟩
    .go_wp2_with (refine wpList_load_row rfl 55 _ rfl w.heap.size rfl 55 _ (0,0) _ bx.row underlying55 rfl hi ?_)
     refine(Fk vk s t l w2' hl).mono ?_;rintro e w3 ⟨rfl,b3⟩;replace bx:=bx.step b3;replace sh:=sh.below b3;replace sd:=sd.below b3;have n0:=nr.1;have n1:N<1073741824:=by omega
     clear b3;go_wp2_with fail
     refine(Ux t N l w3 hl hok.t0 hok.t1 n0 n1).mono ?_;rintro e w4 ⟨rfl,b4⟩;replace bx:=bx.step b4;replace sh:=sh.below b4;replace sd:=sd.below b4;clear b4;cases h5:GQ t l N with
     | true =>
      have HE:Hid (Co key s t l r=7):=by unfold Hid;rw[HT.out,if_neg (show ¬ 1073741824<=N by omega),h5,if_pos rfl]
      clear h5;go_wp2
      go_ret3
      exact⟨.slice none 0 0,0,by rw[HE.out];rfl,Ja.no HE.out (by decide),bx.bel⟩
     | false =>
      have HE:Hid (Co key s t l r=DI key (Bm H) H D):=by unfold Hid;rw[HT.out,if_neg (show ¬ 1073741824<=N by omega),h5,if_neg (by simp)]
      have hk2:=hk.below bx.bel;have ht2:=ht.below hpos bx.bel;have hpos2:4<w4.heap.size:=by have:=bx.lt;omega
      have c0:=bx.c0;have bel2:=bx.bel;have hd:Bw w4 w4.drew:=(Below.refl _ _).drew;have hzz:w.heap.size<w4.drew.heap.size:=bx.lt;clear h5 hk hr ht hok;go_wp2_with fail
      go_region_with (first
       | (go_at_call 42;refine(Jq _ H _ (sh.below hd) hhl).mono ?_;rintro e w5 ⟨vn,rfl,sn,b5⟩;have c5:=(b5.cell (p:=⟨w.heap.size,0,none⟩) hzz).trans c0)
       | (go_at_call 204;refine(XF vk vn _ _ key (Bm H) H D _ ((hk2.below hd).below b5) sn ((sh.below hd).below b5) ((sd.below hd).below b5) ((ht2.below hpos2 hd).below hpos2 b5)).mono ?_;rintro e w6 ⟨vx,rfl,sx,b6⟩))
      all_goals
       have d5:Bw w w5:=bel2.trans ((hd.trans b5).mono bel2.size);have d6:Bw w w6:=d5.trans (b6.mono d5.size);clear bx sh sd hk2 ht2 hd c0 c5 sn b5 b6 hzz bel2;generalize DI key (Bm H) H D=E at HE;generalize PN key (Bm H) H D=X at HTL sx;go_wp2
       go_ret3
       exact⟨vx,N,by rw[HE.out];rfl,λ_=>⟨by rw[HH.out,HN.out],by rw[HTL.out];exact sx⟩,d6⟩
 .have HC:Hid (Em key s t l=5):=D5 hok;have HE:Hid (Co key s t l r=5):=if_pos hok;go_enter func195,ntmps195
  go_wp2_with (refine wpList_load_row rfl 55 _ rfl w.heap.size rfl 55 _ (0,0) _ bx.row underlying55 rfl hi ?_)
  refine(Ga vk key s t l _ (hk.below bx.bel) hl).mono ?_;rintro e w1 ⟨rfl,b1⟩;replace bx:=bx.step b1;rw[HC.out];go_wp2
  go_ret3
  exact⟨.slice none 0 0,0,by rw[HE.out];rfl,Ja.no HE.out (by decide),bx.bel⟩
theorem Y9(h:Co key s t l r=0):OkC key s t l/\20<=r.length/\r.length<=2020/\EW (r.take 4)<1073741824/\GQ t l (EW (r.take 4))=false/\DI key (Bm (r.take 4)) (r.take 4) (r.drop 4)=0:=by
 unfold Co at h;by_cases h1:OkC key s t l
 .rw[if_neg (λh=>h h1)]at h
  by_cases h2:2020<r.length
  .rw[if_pos h2]at h;omega
  .rw[if_neg h2]at h
   by_cases h3:r.length<20
   .rw[if_pos h3]at h;omega
   .rw[if_neg h3]at h
    by_cases h4:1073741824<=EW (r.take 4)
    .rw[if_pos h4]at h;omega
    .rw[if_neg h4]at h
     cases h5:GQ t l (EW (r.take 4))with
     | true=>rw[h5,if_pos rfl]at h;omega
     | false =>
      rw[h5,if_neg (by simp)]at h
      exact⟨h1,by omega,by omega,by omega,rfl,h⟩
 .rw[if_pos h1]at h;omega
theorem bJ(vk:Value)(key:List Int)(s t:Int)(l:List Bool)(vr:Value)(r:List Int)(w:World)(hk:Sl w vk key)(hl:l.length=8)(hr:Sl w vr r)(ht:CB w)(E:Int)(hE:Co key s t l r=E)(hE0:E≠0) :
  Calls prog 181 #[.agg (chA vk s t l),vr] w λe w'=>e=.returned (.tuple #[.agg (chA (.slice none 0 0) 0 0 noB),.slice none 0 0,.int .i64 E])/\Bw w w':=by
 have hpos:=ht.pos;have bx:=By.new w vk s t l;have hi:=El (k:=vk) (s:=s) (t:=t) hl;have HE:Hid (Co key s t l r=E):=hE;clear hE;go_enter func181,ntmps181
 go_wp2_with (refine wpList_load_row rfl 55 _ rfl w.heap.size rfl 55 _ (0,0) _ bx.row underlying55 rfl hi ?_)
 refine(Nx _ key s t l vr r _ (hk.below bx.bel) hl (hr.below bx.bel) (ht.below hpos bx.bel)).mono ?_;rintro e w1 ⟨v2,n2,rfl,s2,b1⟩;rw[HE.out];replace bx:=bx.step b1;clear b1;have hi4:=El (k:=.slice none 0 0) (s:=0) (t:=0) GO;have ho4:=Kd (Sl.nil w none) 0 0 noB;go_wp2_with (refine wpList_store_row rfl 55 _ _ rfl (w.heap.size+1) (chA (.slice none 0 0) 0 0 noB) rfl rfl 55 _ bx.res hi4 rfl ho4 ?_)
 have r2:=setRow_heap w1 (w.heap.size+1) _ (chA (.slice none 0 0) 0 0 noB) 55 _ bx.res;exact bodyPost_ret (Fd rfl _ _ (w.heap.size+1) 55 _ (0,0) _ rfl r2 underlying55 rfl hi4) rfl ⟨rfl,below_setRow bx.bel (by omega) _⟩
theorem OR(k:Value)(s t:Int)(l:List Bool)(i:Nat)(x:Bool):(chA k s t l).setIfInBounds (3+i) (.bool x)=chA k s t (l.set i x):=by
 apply ky;rw[mx];simp[chA,List.map_set]
theorem By.top(h:By w W k s t l)(t':Int):By w (W.setCell ⟨w.heap.size,2,none⟩ (.int .i64 t')) k s t' l :=
 ⟨by rw[heap_setCell_same _ _ _ _ _ _ h.row,QJ],(heap_setCell_other _ _ _ _ (by simp)).trans h.res,h.bel.setCell (p:=⟨w.heap.size,2,none⟩) (by simp) _⟩
theorem By.seen(h:By w W k s t l)(i o:Nat)(ho:o=3+i)(x:Bool)(l':List Bool)(hl':l.set i x=l'):By w (W.setCell ⟨w.heap.size,o,none⟩ (.bool x)) k s t l':=by
 subst ho;subst hl';exact⟨by rw[heap_setCell_same _ _ _ _ _ _ h.row,OR],(heap_setCell_other _ _ _ _ (by simp)).trans h.res,h.bel.setCell (p:=⟨w.heap.size,3+i,none⟩) (by simp) _⟩
theorem By.drew(h:By w W k s t l):By w W.drew k s t l:=⟨h.row,h.res,h.bel.drew⟩
theorem By.laid{a:Option Addr}{n c:Nat}{x0 x1 x2 x3 x4 x5 x6 x7:Bool}(h:By w W (.slice a n c) s t [x0,x1,x2,x3,x4,x5,x6,x7])(T:Int)(b0 b1 b2 b3 b4 b5 b6 b7:Bool) :
  By w (((((((((W.setCell ⟨w.heap.size,2,none⟩ (.int .i64 T)).setCell ⟨w.heap.size,3,none⟩ (.bool b0)).setCell ⟨w.heap.size,4,none⟩ (.bool b1)).setCell ⟨w.heap.size,5,none⟩ (.bool b2)).setCell ⟨w.heap.size,6,none⟩ (.bool b3)).setCell ⟨w.heap.size,7,none⟩ (.bool b4)).setCell ⟨w.heap.size,8,none⟩ (.bool b5)).setCell ⟨w.heap.size,9,none⟩ (.bool b6)).setCell ⟨w.heap.size,10,none⟩ (.bool b7)).drew (.slice a n c) s T [b0,b1,b2,b3,b4,b5,b6,b7]/\(∀ v n xs,W.ownsRow 0 5 1 v n xs->(((((((((W.setCell ⟨w.heap.size,2,none⟩ (.int .i64 T)).setCell ⟨w.heap.size,3,none⟩ (.bool b0)).setCell ⟨w.heap.size,4,none⟩ (.bool b1)).setCell ⟨w.heap.size,5,none⟩ (.bool b2)).setCell ⟨w.heap.size,6,none⟩ (.bool b3)).setCell ⟨w.heap.size,7,none⟩ (.bool b4)).setCell ⟨w.heap.size,8,none⟩ (.bool b5)).setCell ⟨w.heap.size,9,none⟩ (.bool b6)).setCell ⟨w.heap.size,10,none⟩ (.bool b7)).drew.ownsRow 0 5 1 v n xs)/\∀ v p,Sl W v p->Sl (((((((((W.setCell ⟨w.heap.size,2,none⟩ (.int .i64 T)).setCell ⟨w.heap.size,3,none⟩ (.bool b0)).setCell ⟨w.heap.size,4,none⟩ (.bool b1)).setCell ⟨w.heap.size,5,none⟩ (.bool b2)).setCell ⟨w.heap.size,6,none⟩ (.bool b3)).setCell ⟨w.heap.size,7,none⟩ (.bool b4)).setCell ⟨w.heap.size,8,none⟩ (.bool b5)).setCell ⟨w.heap.size,9,none⟩ (.bool b6)).setCell ⟨w.heap.size,10,none⟩ (.bool b7)).drew v p:=by
 have h0:=h.top T;have h1:=h0.seen 0 3 rfl b0 [b0,x1,x2,x3,x4,x5,x6,x7] rfl;have h2:=h1.seen 1 4 rfl b1 [b0,b1,x2,x3,x4,x5,x6,x7] rfl;have h3:=h2.seen 2 5 rfl b2 [b0,b1,b2,x3,x4,x5,x6,x7] rfl;have h4:=h3.seen 3 6 rfl b3 [b0,b1,b2,b3,x4,x5,x6,x7] rfl;have h5:=h4.seen 4 7 rfl b4 [b0,b1,b2,b3,b4,x5,x6,x7] rfl;have h6:=h5.seen 5 8 rfl b5 [b0,b1,b2,b3,b4,b5,x6,x7] rfl;have h7:=h6.seen 6 9 rfl b6 [b0,b1,b2,b3,b4,b5,b6,x7] rfl;have h8:=h7.seen 7 10 rfl b7 [b0,b1,b2,b3,b4,b5,b6,b7] rfl;refine⟨h8.drew,λv n xs ho=>?_,λv p hs=>?_⟩
 .exact(AL (AL (AL (AL (AL (AL (AL (AL (AL ho h.row (by decide) 2 _) h0.row (by decide) 3 _) h1.row (by decide) 4 _) h2.row (by decide) 5 _) h3.row (by decide) 6 _) h4.row (by decide) 7 _) h5.row (by decide) 8 _) h6.row (by decide) 9 _) h7.row (by decide) 10 _).drew
 exact(((((((((hs.setBox h.row 2 _).setBox h0.row 3 _).setBox h1.row 4 _).setBox h2.row 5 _).setBox h3.row 6 _).setBox h4.row 7 _).setBox h5.row 8 _).setBox h6.row 9 _).setBox h7.row 10 _).drew
theorem bK(vk:Value)(key:List Int)(s t:Int)(l:List Bool)(vr:Value)(r:List Int)(w:World)(hk:Sl w vk key)(hl:l.length=8)(hr:Sl w vr r)(ht:CB w)(hE:Co key s t l r=0)(n:Int)(hn:EW (r.take 4)=n) :
  Calls prog 181 #[.agg (chA vk s t l),vr] w λe w'=>∃ v1,∃ v2,e=.returned (.tuple #[.agg (chA v1 s (Gu t n) (JU t l n)),v2,.int .i64 0])/\Sl w' v1 key/\w'.ownsRow 0 5 1 v1 key.length (key.map (Value.int .u8))/\Sl w' v2 (J8 key r)/\Bw w w':=by
 have hpos:=ht.pos;have bx:=By.new w vk s t l;have hi:=El (k:=vk) (s:=s) (t:=t) hl;obtain⟨hok,hr20,hr2020,hn1,hold,hop⟩:=Y9 hE;rw[hn]at hn1 hold
 have hn0:0<=n:=by
  rw[<- hn];exact(Lh (by rw[iO];omega) (λx hx=>hr.byte x (jb hx))).1
 have hn8:t-8<=n:=by
  by_cases h:n<t-8
  .rw[PJ h]at hold;cases hold
  .omega
 have t0:=hok.t0;have t1:=hok.t1;have HE:Hid (Co key s t l r=0):=hE;have HN:Hid (EW (r.take 4)=n):=hn;obtain⟨ak,ck,rfl⟩:=hk.shape;generalize hnk:key.length=nk at hk hi bx ⊢;have HNK:Hid (key.length=nk):=hnk;clear hnk;go_enter func181,ntmps181
 clear hE hok hn hold hop hr20 hr2020;go_wp2_with (refine wpList_load_row rfl 55 _ rfl w.heap.size rfl 55 _ (0,0) _ bx.row underlying55 rfl hi ?_)
 refine(Nx _ key s t l vr r _ (hk.below bx.bel) hl (hr.below bx.bel) (ht.below hpos bx.bel)).mono ?_;rintro e w1 ⟨v2,n2,rfl,s2',b1⟩;rw[HE.out];obtain⟨hn2,s2⟩:=s2' HE.out;rw[HN.out]at hn2
 subst hn2;replace bx:=bx.step b1;clear b1 s2';go_wp2_with (refine wpList_load_row rfl 55 _ rfl w.heap.size rfl 55 _ (0,0) _ bx.row underlying55 rfl hi ?_)
 refine(Fk _ s t l w1 hl).mono ?_;rintro e w2 ⟨rfl,b2⟩;replace bx:=bx.step b2;replace s2:=s2.below b2;clear b2;go_wp2_with fail
 refine(YQ t n2 l w2 hl t0 t1 hn8 hn0 hn1).mono ?_;rintro e w3 ⟨rfl,b3⟩;replace bx:=bx.step b3;replace s2:=s2.below b3;clear b3;have hSl:=Ee t l n2;generalize hT:Gu t n2=T;generalize hS:JU t l n2=S at hSl;have HT:Hid (Gu t n2=T):=hT;have HS:Hid (JU t l n2=S):=hS;clear hT hS;obtain⟨b0,b1,b2,b3,b4,b5,b6,b7,rfl⟩:=G1 S hSl;simp only[wA,List.map]
 go_upto_region 5 with fail
 have g0:(w3.alloc (.cells (wA T [b0,b1,b2,b3,b4,b5,b6,b7]) 137)).heap[w3.heap.size]?=some (.cells (wA T [b0,b1,b2,b3,b4,b5,b6,b7]) 137 (0,0)):=heap_alloc_new _ _;have b4':Bw w3 (w3.alloc (.cells (wA T [b0,b1,b2,b3,b4,b5,b6,b7]) 137)):=(Below.refl _ _).alloc (A' _) _;simp only[wA,List.map]at g0 b4';have hG:=bx.lt;replace bx:=bx.step b4';replace s2:=s2.below b4';generalize w3.alloc (.cells #[.int .i64 T,.bool b0,.bool b1,.bool b2,.bool b3,.bool b4,.bool b5,.bool b6,.bool b7] 137)=w4 at g0 b4' bx s2 ⊢;clear b4';generalize w3.heap.size=G at g0 hG ⊢;have c0:=bx.c0;have hGz:G<w4.heap.size:=(H'.1 g0).1;go_wp2_with fail
 refine(I7 _ key w4 (hk.below bx.bel)).mono ?_;rintro e w5 ⟨v1,rfl,o1,b5'⟩;replace bx:=bx.step b5';replace s2:=s2.below b5';replace g0:=(b5'.block G hGz).trans g0;have sk:=Sl.ofOwns o1 hk.len hk.byte;replace o1:=AV o1 (jf _);clear b5' c0 hGz;obtain⟨a1,c1,hv1⟩:=sk.shape;generalize hn1:key.length=n1 at hv1 o1;have HKN:Hid (key.length=n1):=hn1;clear hn1;subst hv1;have c0:=bx.c0;have f0:=bx.fr 0
 go_upto_region 6 with fail
 replace s2:=s2.setBox bx.row 0 (.slice a1 n1 c1);replace sk:=sk.setBox bx.row 0 (.slice a1 n1 c1);replace o1:=AL o1 bx.row (by decide) 0 (.slice a1 n1 c1);have g1:(w5.setCell ⟨w.heap.size,0,none⟩ (.slice a1 n1 c1)).heap[G]?=some (.cells (wA T [b0,b1,b2,b3,b4,b5,b6,b7]) 137 (0,0)):=(heap_setCell_other _ _ _ _ (by simp;omega)).trans g0;replace bx:=bx.key (.slice a1 n1 c1);generalize w5.setCell ⟨w.heap.size,0,none⟩ (.slice a1 n1 c1)=w6 at s2 sk o1 bx g1 ⊢;clear c0 f0 g0;have e1:Bw w6 w6.drew:=(Below.refl _ _).drew;obtain⟨x0,x1,x2,x3,x4,x5,x6,x7,rfl⟩:=G1 l hl;obtain⟨c0,c1',c2,c3,c4,c5,c6,c7,c8,c9,c10⟩:=TU bx.row;obtain⟨e0,e1',e2,e3,e4,e5,e6,e7,e8⟩:=LS g1;have f2:=bx.fr 2;have f3:=bx.fr 3;have f4:=bx.fr 4;have f5:=bx.fr 5;have f6:=bx.fr 6;have f7:=bx.fr 7;have f8:=bx.fr 8;have f9:=bx.fr 9;have f10:=bx.fr 10;have hne:¬ G=w.heap.size:=by omega
 have hne':¬ w.heap.size=G:=by omega
 go_region
 obtain⟨by2,hO2,hS2⟩:=bx.laid T b0 b1 b2 b3 b4 b5 b6 b7;replace s2:=hS2 _ _ s2;replace sk:=hS2 _ _ sk;replace o1:=hO2 _ _ _ o1;clear hS2 hO2 c0 c1' c2 c3 c4 c5 c6 c7 c8 c9 c10 e0 e1' e2 e3 e4 e5 e6 e7 e8 f2 f3 f4 f5 f6 f7 f8 f9 f10 bx g1 e1;generalize (((((((((w6.setCell ⟨w.heap.size,2,none⟩ (.int .i64 T)).setCell ⟨w.heap.size,3,none⟩ (.bool b0)).setCell ⟨w.heap.size,4,none⟩ (.bool b1)).setCell ⟨w.heap.size,5,none⟩ (.bool b2)).setCell ⟨w.heap.size,6,none⟩ (.bool b3)).setCell ⟨w.heap.size,7,none⟩ (.bool b4)).setCell ⟨w.heap.size,8,none⟩ (.bool b5)).setCell ⟨w.heap.size,9,none⟩ (.bool b6)).setCell ⟨w.heap.size,10,none⟩ (.bool b7)).drew=w7 at by2 s2 sk o1 ⊢;have hi4:=El (k:=.slice a1 n1 c1) (s:=s) (t:=T) hSl;have ho4:=Kd sk s T [b0,b1,b2,b3,b4,b5,b6,b7];have hold:(chA (.slice none 0 0) 0 0 noB).size=(chA (.slice a1 n1 c1) s T [b0,b1,b2,b3,b4,b5,b6,b7]).size:=rfl;go_wp2_with (first
  | (refine wpList_load_row rfl 55 _ rfl w.heap.size rfl 55 _ (0,0) _ by2.row underlying55 rfl hi4 ?_)
  | (refine wpList_store_row rfl 55 _ _ rfl (w.heap.size+1) _ rfl rfl 55 _ by2.res hi4 hold ho4 ?_))
 have r2:=setRow_heap w7 (w.heap.size+1) _ (chA (.slice a1 n1 c1) s T [b0,b1,b2,b3,b4,b5,b6,b7]) 55 _ by2.res;exact bodyPost_ret (Fd rfl _ _ (w.heap.size+1) 55 _ (0,0) _ rfl r2 underlying55 rfl hi4) rfl ⟨.slice a1 n1 c1,v2,by rw[HT.out,HS.out];rfl,sk.setRowBox by2.res _,by rw[<- HNK.out,HKN.out];exact Es o1 by2.res (by decide) _,s2.setRowBox by2.res _,below_setRow by2.bel (by omega) _⟩
end
end Go.Proofs.YtalbmmghmoggcadGreatDoor
