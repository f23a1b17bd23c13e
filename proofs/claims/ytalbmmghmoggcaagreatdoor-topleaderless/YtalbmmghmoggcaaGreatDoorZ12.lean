/- Part 12 of the walk. -/
import Derived.Test.YtalbmmghmoggcaaGreatDoorZ11
set_option maxRecDepth 100000
set_option maxHeartbeats 4000000
open Go.Proofs.Tryz
set_option linter.unusedVariables false
namespace Go.Proofs.YtalbmmghmoggcaaGreatDoor
section
open Go.RowKit
theorem Sl.fourAt{w:World}{a:Option Addr}{n cap:Nat}{l:List Int}(h:Sl w (.slice a n cap) l)(lo:Nat)(hhi:lo+4<=l.length)(li hj:Int)(hli:li=(lo:Int))(hhj:hj=(lo:Int)+4) :
  ∃ a' c',(∀ W,(Instr.slice 25 (.slice a n cap) (some (.int .i64 li)) (some (.int .i64 hj)) none).run prog W=.ok (.slice a' 4 c') W)/\Sl w (.slice a' 4 c') ((l.take (lo+4)).drop lo):=by
 subst hli;subst hhj;have hw:=h.window lo (lo+4) (by omega) hhi;obtain⟨⟨a',cap',e,hc,hn,h1⟩,hla,hba⟩:=h;simp only[Value.slice.injEq]at e;obtain⟨rfl,rfl,rfl⟩:=e;have e4:lo+4-lo=4:=by omega
 unfold sliced at hw;rw[e4]at hw
 refine⟨_,_,fun W=>?_,hw⟩;rw[run_slice_lh (P:=prog) W 25 a _ cap underlying25 .i64 .i64 _ _ (by omega) (by omega) (by omega)];have e:prog.elem 25=5:=by kernel_rfl
 rw[e,Gy,show((lo:Int)+4).toNat=lo+4 by omega,Int.toNat_natCast];simp[Result.andThen,sliced]
theorem O5(x b:Int)(hx:0<=x/\x<36028797018963968)(hb:0<=b/\b<256):bits .or .i64 (x*256) b=x*256+b:=by
 obtain⟨x,rfl⟩:=Int.eq_ofNat_of_zero_le hx.1;obtain⟨y,rfl⟩:=Int.eq_ofNat_of_zero_le hb.1;have e:(x:Int)*256=((x*256:Nat):Int):=by omega
 have key:(BitVec.ofInt 64 ((x*256:Nat):Int) ||| BitVec.ofInt 64 (y:Int)).toNat=x*256+y:=by
  rw[BitVec.toNat_or,BitVec.toNat_ofInt,BitVec.toNat_ofInt];have h1:((y:Int)%((2^64:Nat):Int)).toNat=y:=by omega
  have h2:(((x*256:Nat):Int)%((2^64:Nat):Int)).toNat=2^8*x:=by omega
  rw[h1,h2,<- Nat.two_pow_add_eq_or_of_lt (by omega:y<2^8)];omega
 rw[e];show IntKind.i64.wrap ((BitVec.ofInt 64 ((x*256:Nat):Int) ||| BitVec.ofInt 64 (y:Int)).toNat:Nat)=_;rw[key,IntKind.wrap_i64];omega
def Cn(h:List Int):Nat->Int
 | 0=>0
 | k+1=>Cn h k*256+h.getD k 0
theorem ID{h:List Int}(hb:∀ x∈h,0<=x/\x<256)(k:Nat):0<=Cn h k/\Cn h k<256^k:=by
 induction k with
 | zero=>simp[Cn]
 | succ k ih =>
  have:=Aj hb k;rw[Cn,Int.pow_succ];omega
theorem Km(l:List Int)(lo:Nat)(h:lo+4<=l.length):Cn ((l.take (lo+4)).drop lo) 4=Ab l lo:=by
 show(((0*256+((l.take (lo+4)).drop lo).getD 0 0)*256+((l.take (lo+4)).drop lo).getD 1 0)*256+((l.take (lo+4)).drop lo).getD 2 0)*256+((l.take (lo+4)).drop lo).getD 3 0=_;rw[Cw,Cw,Cw,Cw,AY _ _ _ (by omega),AY _ _ _ (by omega),AY _ _ _ (by omega),AY _ _ _ (by omega)];unfold Ab;rw[Nat.add_zero];omega
theorem GV(v:Value)(l:List Int)(lo:Nat)(w:World)(h:Sl w v l)(hl:lo+4<=l.length)(li:Int)(hli:li=(lo:Int)) :
  Calls prog 160 #[v,.int .i64 li] w fun e w'=>e=.returned (.int .i64 (Ab l lo))/\w'=w:=by
 have HN:Hid (Cn ((l.take (lo+4)).drop lo) 4=Ab l lo):=Km l lo hl;have hlen:=h.len;have i0:0<=li:=by omega
 have i1:li<=140737488351232:=by omega
 obtain⟨a,c,rfl⟩:=h.shape;obtain⟨a2,c2,hr,hs⟩:=h.fourAt lo hl li (li+4) hli (by omega);have HB:Hid (∀ x∈(l.take (lo+4)).drop lo,0<=x/\x<256):=hs.byte;have HS:Hid (((l.take (lo+4)).drop lo).length=4):=by unfold Hid;rw[List.length_drop,List.length_take];omega
 generalize (l.take (lo+4)).drop lo=L at HN hs HB HS;generalize l.length=N at hr hlen ⊢;clear h hl hli hlen;go_enter func160,ntmps160
 go_wp2_with fail
 go_loopw [5,14] (fun v iv wr=>∃ j:Nat,j<=4/\iv=.int .i64 (j:Int)/\v=.int .i64 (Cn L j)/\wr=w) (fun _ iv _=>(4-intOf iv).toNat)
 case atStart=>exact⟨0,by omega,rfl,rfl,rfl⟩
 case round =>
  obtain⟨j,hj,rfl,rfl,rfl⟩:=hrel;by_cases hj4:j<4
  .have hii:(j:Int)<4:=by omega
   have hx:=ID HB.out j;have hx2:Cn L j<16777216:=by
    have:(256:Int)^j<=256^3:=by
     rcases(by omega:j=0\/j=1\/j=2\/j=3)with rfl|rfl|rfl|rfl<;>decide
    omega
   have hb:=Aj HB.out j;obtain⟨bd,od,rfl,hbd,hc⟩:=hs.spotO j (by have:=HS.out;omega);have hor:=O5 (Cn L j) (L.getD j 0) ⟨hx.1,by omega⟩ hb;have HK:Hid (Cn L j*256+L.getD j 0=Cn L (j+1)):=rfl;have hx1:=hx.1;clear hx hs hr;generalize Cn L j=X at hx1 hx2 hor HK;generalize L.getD j 0=B at hb hc hor HK;go_wp2
   go_roundw
   case rel=>exact⟨j+1,by omega,by go_num,by rw[<- HK.out],trivial⟩
   case measure=>simp[intOf];omega
  .obtain rfl:j=4:=by omega
   rw[show((4:Nat):Int)=4 from rfl,HN.out];go_wp2
   go_ret;exact⟨rfl,rfl⟩
def PG(l:List Int)(j:Nat):List Int:=(List.range 5).map fun i=>if i<j then Ab l (4*i)else 0
def rowOf(m:List Int):Array Value:=(m.map (Value.int .i64)).toArray
theorem UN(l:List Int)(j:Nat)(hj:j<5):(rowOf (PG l j)).setIfInBounds j (.int .i64 (Ab l (4*j)))=rowOf (PG l (j+1)):=by
 rcases(by omega:j=0\/j=1\/j=2\/j=3\/j=4)with rfl|rfl|rfl|rfl|rfl
 all_goals rfl
theorem JL(v:Value)(l:List Int)(w:World)(h:Sl w v l)(ht:NTab w) :
  Calls prog 126 #[v] w fun e w'=>e=.returned (.tuple #[.agg (Ja l),.int .i64 (BZ l)])/\Bw w w':=by
 have hlen:=h.len;obtain⟨a,cp,rfl⟩:=h.shape;by_cases h1:l.length=20
 .have HE:Hid (BZ l=AT (Ab l 0) (Ab l 4) (Ab l 8) (Ab l 12) (Ab l 16)):=if_neg (fun g=>g h1);have hs:=h;have HL:Hid (l.length=20):=h1;rw[h1]at hs ⊢
  clear h h1 hlen;have b0:Bw w (w.alloc (.cells (cmA 0 0 0 0 0) 54)):=(Below.refl _ _).alloc (Nat.le_refl _) _;have z0:(w.alloc (.cells (cmA 0 0 0 0 0) 54)).heap.size=w.heap.size+1:=by simp
  have r0:=heap_alloc_new w (.cells (cmA 0 0 0 0 0) 54);have b1:Below (w.heap.size+1) (w.alloc (.cells (cmA 0 0 0 0 0) 54)) ((w.alloc (.cells (cmA 0 0 0 0 0) 54)).alloc (.cells (cmA 0 0 0 0 0) 54)):=(Below.refl _ _).alloc (by omega) _;have r1:=heap_alloc_new (w.alloc (.cells (cmA 0 0 0 0 0) 54)) (.cells (cmA 0 0 0 0 0) 54);rw[z0]at r1
  replace r0:=(b1.block w.heap.size (by omega)).trans r0;have d1:=b0.trans (b1.mono (Nat.le_succ _));have z1:((w.alloc (.cells (cmA 0 0 0 0 0) 54)).alloc (.cells (cmA 0 0 0 0 0) 54)).heap.size=w.heap.size+1+1:=by simp
  have hW:(w.alloc (.cells zV5 54)).alloc (.cells zV5 54)=(w.alloc (.cells (cmA 0 0 0 0 0) 54)).alloc (.cells (cmA 0 0 0 0 0) 54):=rfl;clear b0 b1 z0;generalize (w.alloc (.cells (cmA 0 0 0 0 0) 54)).alloc (.cells (cmA 0 0 0 0 0) 54)=W at r0 r1 d1 z1 hW;go_enter func126,ntmps126
  go_wp2_with fail
  clear hW;refine(FU (w.heap.size+1) W).mono ?_;rintro e w2 ⟨rfl,b2⟩;replace r0:=(b2.block w.heap.size (by omega)).trans r0;replace r1:=(b2.block (w.heap.size+1) (by omega)).trans r1;have d2:=d1.trans (b2.mono d1.size);have HR0:Hid _:=r0;have HR1:Hid (w2.heap[w.heap.size+1]?=some (.cells (rowOf (PG l 0)) 54)):=r1;clear r0 r1 b2 d1 z1;have hix:=OD (w.heap.size+1);go_wp2_with fail
  go_loopw [13] (fun iv wr=>∃ j:Nat,j<=5/\iv=.int .i64 (j:Int)/\wr.heap[w.heap.size]?=some (.cells (cmA 0 0 0 0 0) 54)/\wr.heap[w.heap.size+1]?=some (.cells (rowOf (PG l j)) 54)/\Bw w wr) (fun iv _=>(5-intOf iv).toNat)
  case atStart=>exact⟨0,by omega,rfl,HR0.out,HR1.out,d2⟩
  case round =>
   obtain⟨j,hj,rfl,hr0,hr1,hbel⟩:=hrel;clear HR0 HR1;by_cases hj5:j<5
   .have hji:(j:Int)<5:=by omega
    have hij:=hix j hj5;have hcell:∃ x,wr.cell? ⟨w.heap.size+1,j,none⟩=some (.int .i64 x):=⟨(PG l j).getD j 0,(cell_of_row _ _ j _ _ _ hr1).trans (by simp[rowOf,PG,hj5])⟩;obtain⟨x,hx⟩:=hcell;have hfz:=frozen_of_row wr _ j _ _ hr1;have HR0:Hid _:=hr0;have HR1:Hid _:=hr1;have HS:=UN l j hj5;clear hix hr0 hr1;go_wp2_with fail
    refine(GV (.slice a 20 cp) l (4*j) wr (hs.below hbel) (by rw[HL.out];omega) _ (by omega)).mono ?_;rintro e w5 ⟨rfl,rfl⟩;have q0:(w5.setCell ⟨w.heap.size+1,j,none⟩ (.int .i64 (Ab l (4*j)))).heap[w.heap.size]?=some (.cells (cmA 0 0 0 0 0) 54):=(heap_setCell_other _ _ _ _ (by simp)).trans HR0.out;have q1:(w5.setCell ⟨w.heap.size+1,j,none⟩ (.int .i64 (Ab l (4*j)))).heap[w.heap.size+1]?=some (.cells (rowOf (PG l (j+1))) 54):=by
     rw[heap_setCell_same _ _ _ _ _ _ HR1.out,HS]
    have q2:Bw w (w5.setCell ⟨w.heap.size+1,j,none⟩ (.int .i64 (Ab l (4*j)))):=hbel.setCell (p:=⟨w.heap.size+1,j,none⟩) (Nat.le_succ _) _;have Q0:Hid _:=q0;have Q1:Hid _:=q1;clear HS q0 q1 HR0 HR1;generalize Ab l (4*j)=X at Q0 Q1 q2 ⊢;go_wp2
    go_roundw
    case rel=>exact⟨j+1,by omega,by go_num,Q0.out,Q1.out,q2⟩
    case measure=>simp[intOf];omega
   .obtain rfl:j=5:=by omega
    rw[show((5:Nat):Int)=5 from rfl];have hr1':wr.heap[w.heap.size+1]?=some (.cells (cmA (Ab l 0) (Ab l 4) (Ab l 8) (Ab l 12) (Ab l 16)) 54):=hr1;clear hr1 hix;have HV0:Hid (BZ l=0->Ja l=cmA (Ab l 0) (Ab l 4) (Ab l 8) (Ab l 12) (Ab l 16)):=fun h=>if_pos h;have HV1:Hid (¬ BZ l=0->Ja l=cmA 0 0 0 0 0):=fun h=>if_neg h;have hT:=ht.below hbel;generalize Ab l 0=k at HE HV0 hr1';generalize Ab l 4=c at HE HV0 hr1';generalize Ab l 8=s at HE HV0 hr1';generalize Ab l 12=n at HE HV0 hr1';generalize Ab l 16=v at HE HV0 hr1';have hi:=F8 k c s n v;have hi0:=F8 0 0 0 0 0;have lt1:=(Array.getElem?_eq_some_iff.1 hr1').1;go_wp2_with (refine wpList_load_row rfl 54 _ rfl (w.heap.size+1) rfl 54 _ (0,0) _ hr1' underlying54 rfl hi ?_)
    refine(Du k c s n v wr hT).mono ?_;rintro e w6 ⟨rfl,b6⟩;have d6:=hbel.trans (b6.mono hbel.size);have q0:=(b6.block w.heap.size (by omega)).trans hr0;have q1:=(b6.block (w.heap.size+1) lt1).trans hr1';clear hr0 hr1' b6 hT hbel;by_cases h2:AT k c s n v=0
    .have HZ:Hid (BZ l=0):=HE.out.trans h2;have HV:Hid (Ja l=cmA k c s n v):=HV0.out HZ.out;rw[h2];clear h2 HE HV0 HV1;go_wp2_with (first|(refine wpList_load_row rfl 54 _ rfl (w.heap.size+1) rfl 54 _ (0,0) _ q1 underlying54 rfl hi ?_)|(refine wpList_store_row rfl 54 (.tmp 2) (.tmp 30) rfl w.heap.size (cmA k c s n v) rfl rfl 54 _ q0 hi rfl (Rq k c s n v) ?_))
     have r2:=setRow_heap w6 w.heap.size _ (cmA k c s n v) 54 _ q0;refine bodyPost_ret (IE rfl _ _ w.heap.size 54 _ (0,0) _ rfl r2 underlying54 rfl hi) rfl ?_;rw[HZ.out,HV.out];exact⟨rfl,BK d6 (Nat.le_refl _) _⟩
    .have HZ:Hid (BZ l=AT k c s n v):=HE.out;have HV:Hid (Ja l=cmA 0 0 0 0 0):=HV1.out (by rw[HE.out];exact h2);clear HE HV0 HV1;go_wp2_with (refine wpList_store_row rfl 54 (.tmp 2) (.tmp 28) rfl w.heap.size (cmA 0 0 0 0 0) rfl rfl 54 _ q0 hi0 rfl (Rq 0 0 0 0 0) ?_)
     have r2:=setRow_heap w6 w.heap.size _ (cmA 0 0 0 0 0) 54 _ q0;refine bodyPost_ret (IE rfl _ _ w.heap.size 54 _ (0,0) _ rfl r2 underlying54 rfl hi0) rfl ?_;rw[HZ.out,HV.out];exact⟨rfl,BK d6 (Nat.le_refl _) _⟩
 .have h1':¬ (l.length:Int)=20:=by omega
  have HE:Hid (BZ l=1):=if_pos h1;have HV:Hid (Ja l=cmA 0 0 0 0 0):=if_neg (by rw[HE.out];omega);have bb:Bw w (w.alloc (.cells (cmA 0 0 0 0 0) 54)):=(Below.refl _ _).alloc (Nat.le_refl _) _;have bc:=Bc.made w 0 0 0 0 0;go_enter func126,ntmps126
  go_wp2
  refine bodyPost_ret (IE rfl _ _ w.heap.size 54 _ (0,0) _ rfl (heap_alloc_new _ _) underlying54 rfl (F8 0 0 0 0 0)) rfl ?_;rw[HE.out,HV.out];exact⟨rfl,bb⟩
theorem Ho(c r u:Int):(tkA c r u).all (·.oneCell')=true:=by simp[tkA,Value.oneCell']
theorem Ph(v:Value)(l:List Int)(w:World)(h:Sl w v l)(hl:6<=l.length) :
  Calls prog 159 #[v] w fun e w'=>e=.returned (.agg (tkA (l.getD 0 0) (l.getD 1 0) (Ab l 2)))/\Bw w w':=by
 have hlen:=h.len;obtain⟨a,cp,rfl⟩:=h.shape;have bb:Bw w (w.alloc (.cells (tkA 0 0 0) 58)):=(Below.refl _ _).alloc (Nat.le_refl _) _;have rr:=heap_alloc_new w (.cells (tkA 0 0 0) 58);have hs:=h.below bb;have hW:w.alloc (.cells #[.int .i64 0,.int .i64 0,.int .i64 0] 58)=w.alloc (.cells (tkA 0 0 0) 58):=rfl;generalize w.alloc (.cells (tkA 0 0 0) 58)=W0 at bb rr hs hW;obtain⟨bd,od,rfl,hbd,x0⟩:=hs.spotO 0 (by omega);obtain⟨bd1,od1,e1,_,x1⟩:=hs.spotO 1 (by omega);simp only[Option.some.injEq,Addr.mk.injEq,and_true]at e1;obtain⟨rfl,rfl⟩:=e1;rw[Nat.add_zero]at x0
 have y0:=Aj h.byte 0;have y1:=Aj h.byte 1;have i0:(0:Int)<(l.length:Int):=by omega
 have i1:(1:Int)<(l.length:Int):=by omega
 have hN:Calls prog 160 #[.slice (some ⟨bd,od,none⟩) l.length cp,.int .i64 2] W0.drew fun e w'=>e=.returned (.int .i64 (Ab l 2))/\w'=W0.drew :=
  GV _ l 2 _ (hs.below (Below.refl _ _).drew) (by omega) 2 rfl
 have HN:Hid _:=hN;clear hN;generalize l.getD 0 0=b0 at x0 y0;generalize l.getD 1 0=b1 at x1 y1;generalize Ab l 2=b2 at HN;generalize l.length=N at hlen hl i0 i1 HN ⊢;clear h hs;have hi:=Hp b0 b1 b2;go_enter func159,ntmps159
 go_wp2_with fail
 refine Aq 11 (by kernel_rfl) (by kernel_rfl) ?_;simp only[List.take_succ_cons,List.take_zero,List.drop_succ_cons,List.drop_zero]
 repeat (go_big_quiet_step (fail))
 go_big_quiet_want
 go_big_quiet_op
 refine⟨_,HN.out,?_⟩
 go_big_quiet_on
 repeat (go_big_quiet_step (fail))
 refine wpQuiet_nil ?_;clear hW;have rr':W0.drew.heap[w.heap.size]?=some (.cells (tkA 0 0 0) 58):=rr;have bb':Bw w W0.drew:=bb.drew;clear rr bb x0 x1 HN;generalize W0.drew=W at rr' bb' ⊢;go_wp2_with (refine wpList_store_row rfl 58 (.tmp 2) (.tmp 13) rfl w.heap.size (tkA b0 b1 b2) rfl rfl 58 _ rr' hi rfl (Ho b0 b1 b2) ?_)
 have r2:=setRow_heap W w.heap.size _ (tkA b0 b1 b2) 58 _ rr';exact bodyPost_ret (v:=.agg (tkA b0 b1 b2)) (results_cell_row rfl _ _ w.heap.size 58 _ (0,0) _ rfl r2 underlying58 rfl hi) rfl ⟨rfl,BK bb' (Nat.le_refl _) _⟩
def D6(key l:List Int):Int :=
 if key.length≠32\/l.length≠22 then 1
 else if(D4 key (l.take 6)).take 16≠l.drop 6 then 6
 else Lt (l.getD 0 0) (l.getD 1 0) (Ab l 2)
def Ll(key l:List Int):Array Value:=if D6 key l=0 then tkA (l.getD 0 0) (l.getD 1 0) (Ab l 2)else tkA 0 0 0
theorem LX{key l:List Int}(h:key.length≠32\/l.length≠22):D6 key l=1:=if_pos h
theorem Wl{key l:List Int}(h1:key.length=32)(h2:l.length=22)(h:¬ (D4 key (l.take 6)).take 16=l.drop 6):D6 key l=6:=by
 unfold D6;rw[if_neg (by omega),if_pos h]
theorem Wm{key l:List Int}(h1:key.length=32)(h2:l.length=22)(h:(D4 key (l.take 6)).take 16=l.drop 6):D6 key l=Lt (l.getD 0 0) (l.getD 1 0) (Ab l 2):=by
 unfold D6;rw[if_neg (by omega),if_neg (fun g=>g h)]
theorem RL{key l:List Int}(h:D6 key l=0):Ll key l=tkA (l.getD 0 0) (l.getD 1 0) (Ab l 2):=if_pos h
theorem Ha{key l:List Int}(h:¬ D6 key l=0):Ll key l=tkA 0 0 0:=if_neg h
theorem Qu(l:List Int):Ab (l.take 6) 2=Ab l 2:=by
 unfold Ab;rw[AY _ _ _ (by omega),AY _ _ _ (by omega),AY _ _ _ (by omega),AY _ _ _ (by omega)]
theorem Tv(vk vb:Value)(key l:List Int)(w:World)(hk:Sl w vk key)(hb:Sl w vb l)(ht:AA w) :
  Calls prog 125 #[vk,vb] w fun e w'=>e=.returned (.tuple #[.agg (Ll key l),.int .i64 (D6 key l)])/\Bw w w':=by
 have lk:=hk.len;have ll:=hb.len;obtain⟨ak,ck,rfl⟩:=hk.shape;obtain⟨ab,cb,rfl⟩:=hb.shape;have bb:Bw w (w.alloc (.cells (tkA 0 0 0) 58)):=(Below.refl _ _).alloc (Nat.le_refl _) _;have rr:=heap_alloc_new w (.cells (tkA 0 0 0) 58);have hi0:=Hp 0 0 0;by_cases h1:key.length=32
 .by_cases h2:l.length=22
  .have H1:Hid (key.length=32):=h1;have H2:Hid (l.length=22):=h2;rw[h1]at hk ⊢
   rw[h2]at hb ⊢
   clear lk ll h1 h2;have hW:w.alloc (.cells #[.int .i64 0,.int .i64 0,.int .i64 0] 58)=w.alloc (.cells (tkA 0 0 0) 58):=rfl;generalize w.alloc (.cells (tkA 0 0 0) 58)=W at bb rr hW;obtain⟨a6,c6,r6',s6⟩:=hb.upTo 6 (by have:=H2.out;omega);have r6:∀ W,(Instr.slice 25 (.slice ab 22 cb) none (some (.int .i64 6)) none).run prog W=.ok (.slice a6 6 c6) W:=r6';obtain⟨a7,c7,r7',s7⟩:=hb.from 6 (by have:=H2.out;omega);have r7:∀ W,(Instr.slice 25 (.slice ab 22 cb) (some (.int .i64 6)) none none).run prog W=.ok (.slice a7 16 c7) W:=r7';clear r6' r7';have L6:Hid ((l.take 6).length=6):=by unfold Hid;rw[List.length_take,H2.out];rfl
   go_enter func125,ntmps125
   go_wp2_with fail
   clear hW;refine(Pc _ _ key (l.take 6) W (hk.below bb) (s6.below bb) (by rw[H1.out];omega) (by rw[L6.out];omega) (ht.below bb)).mono ?_;rintro e w1 ⟨v1,rfl,s1,b1⟩;have d1:=bb.trans (b1.mono bb.size);have q1:=(b1.block w.heap.size (Array.getElem?_eq_some_iff.1 rr).1).trans rr;have s71:=s7.below d1;clear b1 bb rr;go_wp2_with fail
   refine(Hd v1 (.slice a7 16 c7) _ _ w1 s1 s71).mono ?_;rintro e w2 ⟨rfl,m,rfl⟩;have d2:Bw w (w1.drewN m):=An d1 m;have q2:(w1.drewN m).heap[w.heap.size]?=some (.cells (tkA 0 0 0) 58):=q1;clear q1 d1 s1 s71;generalize w1.drewN m=W2 at d2 q2 ⊢;by_cases h3:(D4 key (l.take 6)).take 16=l.drop 6
   .have HE:=Wm H1.out H2.out h3;have HV0:Hid (D6 key l=0->Ll key l=tkA (l.getD 0 0) (l.getD 1 0) (Ab l 2)):=RL;have HV1:Hid (¬ D6 key l=0->Ll key l=tkA 0 0 0):=Ha;have HX:Hid ((l.take 6).getD 0 0=l.getD 0 0/\(l.take 6).getD 1 0=l.getD 1 0/\Ab (l.take 6) 2=Ab l 2):=⟨AY _ _ _ (by omega),AY _ _ _ (by omega),Qu l⟩;rw[decide_eq_true h3];clear h3;go_wp2_with fail
    refine(Ph (.slice a6 6 c6) (l.take 6) W2 (s6.below d2) (by rw[L6.out];omega)).mono ?_;rintro e w3 ⟨rfl,b3⟩;rw[HX.out.1,HX.out.2.1,HX.out.2.2];have d3:=d2.trans (b3.mono d2.size);have q3:=(b3.block w.heap.size (Array.getElem?_eq_some_iff.1 q2).1).trans q2;clear b3 q2 d2 HX;generalize l.getD 0 0=c at HE HV0 ⊢;generalize l.getD 1 0=r at HE HV0 ⊢;generalize Ab l 2=u at HE HV0 ⊢;have hi:=Hp c r u;have b4:Bw w3 (w3.alloc (.cells (tkA 0 0 0) 58)):=(Below.refl _ _).alloc (Nat.le_refl _) _;have r4:=heap_alloc_new w3 (.cells (tkA 0 0 0) 58);have hW:w3.alloc (.cells #[.int .i64 0,.int .i64 0,.int .i64 0] 58)=w3.alloc (.cells (tkA 0 0 0) 58):=rfl;generalize w3.alloc (.cells (tkA 0 0 0) 58)=W4 at b4 r4 hW;have lt3:w.heap.size<w3.heap.size:=(Array.getElem?_eq_some_iff.1 q3).1
    go_upto_region 10 with(refine wpList_store_row rfl 58 (.tmp 9) (.tmp 38) rfl w3.heap.size (tkA c r u) rfl rfl 58 _ r4 hi rfl (Ho c r u) ?_)
    clear hW;have q4:=setRow_heap W4 w3.heap.size _ (tkA c r u) 58 _ r4;replace q3:=((b4.block w.heap.size lt3).trans q3);replace q3:=(setRow_other W4 w3.heap.size w.heap.size (tkA c r u) (by omega)).trans q3;have d4:=BK (d3.trans (b4.mono d3.size)) (show w.heap.size<=w3.heap.size by omega) (tkA c r u);generalize W4.setRow w3.heap.size (tkA c r u)=W5 at q3 q4 d4 ⊢;clear r4 b4 d3;generalize w3.heap.size=G at q4 lt3 ⊢;go_wp2_with (refine wpList_load_row rfl 58 _ rfl G rfl 58 _ (0,0) _ q4 underlying58 rfl hi ?_)
    refine(Ig c r u W5).mono ?_;rintro e w6 ⟨rfl,b6⟩;have d6:=d4.trans (b6.mono d4.size);replace q3:=(b6.block w.heap.size (Array.getElem?_eq_some_iff.1 q3).1).trans q3;replace q4:=(b6.block G (Array.getElem?_eq_some_iff.1 q4).1).trans q4;clear b6 d4;by_cases h4:CE c r u
    .have HZ:Hid (D6 key l=0):=HE.trans (Jz h4);have HV:Hid (Ll key l=tkA c r u):=HV0.out HZ.out;rw[decide_eq_true h4];clear HE HV0 HV1 h4;go_wp2_with (first|(refine wpList_load_row rfl 58 _ rfl G rfl 58 _ (0,0) _ q4 underlying58 rfl hi ?_)|(refine wpList_store_row rfl 58 (.tmp 4) (.tmp 43) rfl w.heap.size (tkA c r u) rfl rfl 58 _ q3 hi rfl (Ho c r u) ?_))
     have r2:=setRow_heap w6 w.heap.size _ (tkA c r u) 58 _ q3;refine bodyPost_ret (IE rfl _ _ w.heap.size 58 _ (0,0) _ rfl r2 underlying58 rfl hi) rfl ?_;rw[HZ.out,HV.out];exact⟨rfl,BK d6 (Nat.le_refl _) _⟩
    .have HZ:Hid (D6 key l=2):=HE.trans (RX h4);have HV:Hid (Ll key l=tkA 0 0 0):=HV1.out (by rw[HZ.out];omega);rw[decide_eq_false h4];clear HE HV0 HV1 h4;go_wp2_with (refine wpList_store_row rfl 58 (.tmp 4) (.tmp 42) rfl w.heap.size (tkA 0 0 0) rfl rfl 58 _ q3 hi0 rfl (Ho 0 0 0) ?_)
     have r2:=setRow_heap w6 w.heap.size _ (tkA 0 0 0) 58 _ q3;refine bodyPost_ret (IE rfl _ _ w.heap.size 58 _ (0,0) _ rfl r2 underlying58 rfl hi0) rfl ?_;rw[HZ.out,HV.out];exact⟨rfl,BK d6 (Nat.le_refl _) _⟩
   .have HZ:Hid (D6 key l=6):=Wl H1.out H2.out h3;have HV:Hid (Ll key l=tkA 0 0 0):=Ha (by rw[HZ.out];omega);rw[decide_eq_false h3];clear h3;go_wp2_with (refine wpList_store_row rfl 58 (.tmp 4) (.tmp 36) rfl w.heap.size (tkA 0 0 0) rfl rfl 58 _ q2 hi0 rfl (Ho 0 0 0) ?_)
    have r2:=setRow_heap W2 w.heap.size _ (tkA 0 0 0) 58 _ q2;refine bodyPost_ret (IE rfl _ _ w.heap.size 58 _ (0,0) _ rfl r2 underlying58 rfl hi0) rfl ?_;rw[HZ.out,HV.out];exact⟨rfl,BK d2 (Nat.le_refl _) _⟩
  .have h2':¬ (l.length:Int)=22:=by omega
   have HZ:Hid (D6 key l=1):=LX (.inr h2);have HV:Hid (Ll key l=tkA 0 0 0):=Ha (by rw[HZ.out];omega);rw[h1]at hk ⊢
   clear h1;go_enter func125,ntmps125
   go_wp2
   refine bodyPost_ret (IE rfl _ _ w.heap.size 58 _ (0,0) _ rfl (heap_alloc_new _ _) underlying58 rfl hi0) rfl ?_;rw[HZ.out,HV.out];exact⟨rfl,bb⟩
 .have h1':¬ (key.length:Int)=32:=by omega
  have HZ:Hid (D6 key l=1):=LX (.inl h1);have HV:Hid (Ll key l=tkA 0 0 0):=Ha (by rw[HZ.out];omega);go_enter func125,ntmps125
  go_wp2
  refine bodyPost_ret (IE rfl _ _ w.heap.size 58 _ (0,0) _ rfl (heap_alloc_new _ _) underlying58 rfl hi0) rfl ?_;rw[HZ.out,HV.out];exact⟨rfl,bb⟩
end
section
def O3(l:List Int):Int:=if l=[]then 13 else if 7<l.getD 0 0 then 2 else BR (FJ (l.getD 0 0)) 0 0 noB (l.drop 1)
def MM(l:List Int):List Int:=if O3 l=0 then IS (FJ (l.getD 0 0)) (l.drop 1)else[]
def unT(l:List Int):List Int:=(MM l).take 22
def unQ(l:List Int):List Int:=(MM l).drop 22
def unB(l:List Int):Prop:=O3 l=0/\(MM l).length=42/\D6 FI (unT l)=0
instance (l:List Int):Decidable (unB l):=by unfold unB;exact inferInstance
def unE(l:List Int):Int:=if O3 l≠0 then O3 l else if(MM l).length≠42 then 3 else if D6 FI (unT l)≠0 then D6 FI (unT l)else BZ (unQ l)
theorem Xi{l:List Int}(h:unE l=0):unB l/\BZ (unQ l)=0:=by
 unfold unE at h;split at h
 .rename_i g;exact absurd h g
 .rename_i g1
  split at h
  .cases h
  .rename_i g2
   split at h
   .rename_i g;exact absurd h g
   .rename_i g3
    exact⟨⟨Decidable.not_not.1 g1,Decidable.not_not.1 g2,Decidable.not_not.1 g3⟩,h⟩
theorem eT{l:List Int}(h:unE l=0):0<l.length:=by
 obtain⟨⟨h1,_⟩,_⟩:=Xi h;cases l with
 | nil=>cases h1
 | cons x r=>simp
def opE(l:List Int)(now:Int):Int :=
 if unE l≠0 then unE l
 else if Ab (unQ l) 0≠0/\Ab (unQ l) 4≠l.getD 0 0 then 11
 else DZ ((unT l).getD 0 0) ((unT l).getD 1 0) (Ab (unT l) 2) (Ab (unQ l) 0) (Ab (unQ l) 4) (Ab (unQ l) 8) (Ab (unQ l) 12) (Ab (unQ l) 16) now
def opA(l:List Int)(now:Int):Array Value:=if opE l now=0 then cmA (Ab (unQ l) 0) (Ab (unQ l) 4) (Ab (unQ l) 8) (Ab (unQ l) 12) (Ab (unQ l) 16)else cmA 0 0 0 0 0
theorem ML{l:List Int}{now:Int}(h:opE l now≠0):opA l now=cmA 0 0 0 0 0:=if_neg h
theorem VV{l:List Int}{now:Int}(h:opE l now=0):opA l now=cmA (Ab (unQ l) 0) (Ab (unQ l) 4) (Ab (unQ l) 8) (Ab (unQ l) 12) (Ab (unQ l) 16):=if_pos h
def Nod.askd(p:Nod)(i:Nat):Nod × List Let :=
 if(CQ p.vo.p p.asked (p.wants.take 40)).1=[]then({ p with asked:=(CQ p.vo.p p.asked (p.wants.take 40)).2 },[])
 else if p.vo.p.n=(i:Int)then(Nod.enqueue { p with asked:=(CQ p.vo.p p.asked (p.wants.take 40)).2 } (CQ p.vo.p p.asked (p.wants.take 40)).1,[])
 else({ p with asked:=(CQ p.vo.p p.asked (p.wants.take 40)).2 },[{ Cb 6 with slot:=p.agreed.length,what:=(CQ p.vo.p p.asked (p.wants.take 40)).1,src:=i,dst:=p.vo.p.n.toNat }])
noncomputable def doP(i:Nat):List Cmd->Nod->List Tol->Nod × List Tol
 | [],p,ts=>(p,ts)
 | c::l,p,ts =>
  if doE p.sto c≠0 then(p,ts)
  else doP i l (Nod.unwant { p with sto:=doS p.sto c,done:=p.done+1 } c) (if(p.asked c).isSome=true then ts++[⟨i,c.c,c.s,doC p.sto c,doA p.sto c⟩]else ts)
def Nod.syncd(p:Nod)(i:Nat)(ls:List Let):Nod × List Let:=if p.sy<(p.d.length:Int)/\CW p.d p.sy≠0 then(p,ls)else doneP i p.pend { p.syn with pend:=[] } ls
def Nod.taught(p:Nod)(i:Nat)(ls:List Let):Nod × List Let:=if p.leads then(Iw p i 5,ls++DU p i 5)else(p,ls)
noncomputable def Nod.piece(p:Nod)(i:Nat)(ls:List Let)(ts:List Tol):Nod × List Let × List Tol :=
 let a:=doP i (p.agreed.drop p.done) p ts
 let b:=a.1.askd i
 let c:=b.1.propose.syncd i (ls++b.2)
 let d:=c.1.taught i c.2
 (d.1,d.2,a.2)
noncomputable def Nod.sub0(p:Nod)(i:Nat)(e:Int)(c:Cmd)(ts:List Tol):Nod × List Tol :=
 if p.up=false then(p,ts)
 else if e≠0 then({ p with bad:=p.bad+1 },ts)
 else if c∈p.agreed.take p.done then(p,ts++[⟨i,c.c,c.s,doC p.sto c,doA p.sto c⟩])
 else(p.want c,ts)
def Kp(l:List Int)(now:Int):Cmd:=if opE l now=0 then⟨Ab (unQ l) 0,Ab (unQ l) 4,Ab (unQ l) 8,Ab (unQ l) 12,Ab (unQ l) 16⟩else S2
theorem bP(l:List Int)(now:Int):opA l now=cmC (Kp l now):=by unfold opA Kp;split<;>rfl
noncomputable def Nod.subm(p:Nod)(i:Nat)(d:List Int)(ts:List Tol):Nod × List Tol:=p.sub0 i (opE d (p.done:Int)) (Kp d (p.done:Int)) ts
def Meet.set(M:Meet)(i:Nat)(p:Nod)(ls:List Let)(ts:List Tol):Meet:=⟨upN M.node i p,ls,ts⟩
noncomputable def Meet.act(M:Meet)(x:Lac):Meet :=
 let i:=x.n.toNat
 if x.k=1 then M.set i ((M.node i).subm i x.d M.told).1 M.lets ((M.node i).subm i x.d M.told).2
 else if x.k=2 then M.set i (if(M.node i).up then(M.node i).lead i else M.node i) M.lets M.told
 else if x.k=3 then M.set i (if(M.node i).up then((M.node i).piece i M.lets M.told).1 else M.node i) (if(M.node i).up then((M.node i).piece i M.lets M.told).2.1 else M.lets) (if(M.node i).up then((M.node i).piece i M.lets M.told).2.2 else M.told)
 else if x.k=4\/x.k=5\/x.k=6 then M.move x.k x.a.toNat
 else if x.k=7 then M.comeAll
 else if x.k=8 then M.set i (if(M.node i).up then(M.node i).crash x.p else M.node i) M.lets M.told
 else if x.k=9 then M.set i (if(M.node i).up then M.node i else(M.node i).start) M.lets M.told
 else M
noncomputable def Meet.acts(M:Meet)(l:List Lac):Meet:=l.foldl Meet.act M
theorem YM(r:List Int):Bm (Ej r).2.p/\Bn (Ej r).2.vs:=by
 have h:∀ k,Bm (itR r k).2.p/\Bn (itR r k).2.vs:=by
  intro k;induction k with
  | zero=>exact⟨.inr ⟨rfl,rfl⟩,Bn.nil⟩
  | succ k ih =>
   rw[itR];unfold Kk;split
   .exact ih
   .rename_i c m hs
    have hd:∃ b,GF (itR r k).2 b=some c:=by
     unfold EM at hs;split at hs
     .cases hs
     .split at hs
      .cases hs
      .split at hs
       .cases hs
       .obtain⟨x,hx,e⟩:=Option.map_eq_some_iff.1 hs;injection e with e1 e2
        subst e1;exact⟨_,hx⟩
    obtain⟨b,hb⟩:=hd;unfold GF at hb;split at hb
    .split at hb
     .rename_i h1
      injection hb with hb;subst hb
      exact⟨.inl (LW h1).2.1,ih.2⟩
     .cases hb
    .split at hb
     .split at hb
      .split at hb
       .rename_i h1
        injection hb with hb;subst hb
        exact⟨.inl (Em h1).2.1.2.1,Fc ih.2 (Em h1).2.1⟩
       .cases hb
      .cases hb
     .cases hb
 exact h r.length
theorem YK(d:List Int)(s:Int):Bm (Gt d s).p/\Bn (Gt d s).vs:=by
 unfold Gt;split
 .exact YM d
 .exact⟨.inr ⟨rfl,rfl⟩,Bn.nil⟩
theorem Im{i:Nat}{l m:Let}{k:Nat}(h:m∈BB i l k):∃ to,to<k/\m={ l with src:=i,dst:=to }:=by
 unfold BB at h;obtain⟨to,h1,rfl⟩:=List.mem_map.1 h;exact⟨to,List.mem_range.1 (List.mem_filter.1 h1).1,rfl⟩
theorem Il{i:Nat}(hi:i<5)(l:Let):(BB i l 5).length<=4:=by
 unfold BB;rw[List.length_map];rcases five hi with rfl|rfl|rfl|rfl|rfl<;>decide
section
variable{n i:Nat}{p:Nod}
theorem NOk.runP(h:NOk n p)(hi:i<5){q:Pend}(hq:POk p.agreed.length q):NOk n (p.runP i q)/\(p.runP i q).pend=p.pend/\p.agreed.length<=(p.runP i q).agreed.length/\Pp p i q/\(∀ m∈p.sentP i q,LOk m)/\(p.sentP i q).length<=q.wt:=by
 have ha:=h.ag;have one:∀ {l:Let},LOk l->∀ m∈[l],LOk m:=fun hl m hm=>by rw[List.mem_singleton.1 hm];exact hl
 cases q with
 | began b vs =>
  unfold Nod.runP Nod.sentP;refine⟨?_,?_,?_,Nat.lt_of_le_of_lt (h.he i).len (by decide),?_,?_⟩
  .simp only;split
   .exact h
   .exact h.hear i hq
  .simp only;split<;>rfl
  .simp only;split<;>exact Nat.le_refl _
  .simp only;split
   .exact fun m hm=>by cases hm
   .rename_i h1
    intro m hm;obtain⟨to,h2,rfl⟩:=Im hm;exact⟨by show 0<7;decide,hi,h2,by show Bm b;rw[<- Decidable.byContradiction h1];exact h.vp,Bn.nil,by show 0<=40;decide,fun h=>by cases h⟩
  .simp only;split
   .exact Nat.zero_le _
   .exact Il hi _
 | prom to b vs=>exact⟨h,rfl,Nat.le_refl _,trivial,one ⟨by show 1<7;decide,hi,hq.1,hq.2.1,hq.2.2,ha,fun h=>by cases h⟩,Nat.le_refl _⟩
 | voted to v=>exact⟨h,rfl,Nat.le_refl _,trivial,one ⟨by show 4<7;decide,hi,hq,Bm.b0,Bn.nil,by show 0<=40;decide,fun h=>by cases h⟩,Nat.le_refl _⟩
 | refuse to b=>exact⟨h,rfl,Nat.le_refl _,trivial,one ⟨by show 2<7;decide,hi,hq.1,hq.2,Bn.nil,by show 0<=40;decide,fun h=>by cases h⟩,Nat.le_refl _⟩
 | prop v =>
  have hc:=h.count i v;refine⟨hc.1,hc.2.1,hc.2.2,ha,fun m hm=>?_,Il hi _⟩;obtain⟨to,h2,rfl⟩:=Im hm;exact⟨by show 3<7;decide,hi,h2,Bm.b0,Bn.nil,by show 0<=40;decide,fun h=>by cases h⟩
 | askNews to=>exact⟨h,rfl,Nat.le_refl _,trivial,one ⟨by show 6<7;decide,hi,hq,Bm.b0,Bn.nil,by show 0<=40;decide,fun h=>by cases h⟩,Nat.le_refl _⟩
 | start =>
  refine⟨h,rfl,Nat.le_refl _,trivial,fun m hm=>?_,Il hi _⟩;obtain⟨to,h2,rfl⟩:=Im hm;exact⟨by show 6<7;decide,hi,h2,Bm.b0,Bn.nil,by show 0<=40;decide,fun h=>by cases h⟩
 | tell to slot=>exact⟨h,rfl,Nat.le_refl _,hq.2,one ⟨by show 5<7;decide,hi,hq.1,Bm.b0,Bn.nil,by show(p.agreed.drop slot).length<=40;rw[List.length_drop];omega,fun _=>by show slot+(p.agreed.drop slot).length<=40;rw[List.length_drop];have:=hq.2;omega⟩,Nat.le_refl _⟩
theorem UT(hi:i<5)(l:List Pend)(p:Nod)(ls:List Let)(h:NOk n p)(hq:∀ q∈l,POk p.agreed.length q)(hb:ls.length+At l<90000000)(hl:∀ m∈ls,LOk m) :
  NOk n (doneP i l p ls).1/\(doneP i l p ls).1.pend=p.pend/\(∀ m∈(doneP i l p ls).2,LOk m)/\(doneP i l p ls).2.length<=ls.length+At l/\F1 i l p ls:=by
 induction l generalizing p ls with
 | nil=>exact⟨h,rfl,hl,Nat.le_refl _,trivial⟩
 | cons q l ih =>
  obtain⟨h1,h2,h3,h4,h5,h6⟩:=h.runP hi (hq q List.mem_cons_self);have hw:At (q::l)=q.wt+At l:=rfl;obtain⟨k1,k2,k3,k4,k5⟩:=ih (p.runP i q) (ls++p.sentP i q) h1 (fun r hr=>(hq r (List.mem_cons_of_mem _ hr)).mono h3) (by rw[List.length_append];omega) (fun m hm=>by
   rcases List.mem_append.1 hm with h|h
   .exact hl m h
   .exact h5 m h)
  refine⟨k1,k2.trans h2,k3,?_,h4,by omega,k5⟩;show(doneP i l (p.runP i q) (ls++p.sentP i q)).2.length<=_;rw[List.length_append]at k4;omega
theorem NOk.syn(h:NOk n p):NOk n { p.syn with pend:=[] }:=by
 unfold Nod.syn;split
 .exact{ h with pe:=fun q hq=>by cases hq }
 .exact{ h with pe:=fun q hq=>by cases hq }
theorem QW(p:Nod):p.syn.agreed=p.agreed:=by unfold Nod.syn;split<;>rfl
theorem NOk.syncd(h:NOk n p)(hi:i<5){ls:List Let}(hb:ls.length+At p.pend<90000000)(hl:∀ m∈ls,LOk m) :
  NOk n (p.syncd i ls).1/\(∀ m∈(p.syncd i ls).2,LOk m)/\(p.syncd i ls).2.length+At (p.syncd i ls).1.pend<=ls.length+At p.pend/\F1 i p.pend { p.syn with pend:=[] } ls:=by
 have hd:=UT hi p.pend { p.syn with pend:=[] } ls h.syn (fun q hq=>by show POk p.syn.agreed.length q;rw[QW];exact h.pe q hq) hb hl;unfold Nod.syncd;split
 .exact⟨h,hl,Nat.le_refl _,hd.2.2.2.2⟩
 .exact⟨hd.1,hd.2.2.1,by rw[hd.2.1];exact hd.2.2.2.1,hd.2.2.2.2⟩
theorem Ut(b:Bal)(f:Cmd->Option Bal)(l:List Cmd):(CQ b f l).1.length<=l.length:=by
 induction l generalizing f with
 | nil=>exact Nat.le_refl _
 | cons c l ih =>
  rw[CQ];split
  .have:=ih (DW f c (some b));simp only[List.length_cons];omega
  .have:=ih f;simp only[List.length_cons];omega
theorem Ss(b:Bal)(f:Cmd->Option Bal)(l:List Cmd)(c:Cmd)(h:((CQ b f l).2 c).isSome=true):(f c).isSome=true\/c∈l:=by
 induction l generalizing f with
 | nil=>exact .inl h
 | cons d l ih =>
  rw[CQ]at h
  split at h
  .rcases ih _ h with h1|h1
   .unfold DW at h1;split at h1
    .rename_i e;exact .inr (e▸List.mem_cons_self)
    .exact .inl h1
   .exact .inr (List.mem_cons_of_mem _ h1)
  .rcases ih _ h with h1|h1
   .exact .inl h1
   .exact .inr (List.mem_cons_of_mem _ h1)
theorem NOk.asks(h:NOk n p):NOk n { p with asked:=(CQ p.vo.p p.asked (p.wants.take 40)).2 } :=
 { h with ask:=fun c hc=>(Ss _ _ _ c hc).elim (h.ask c) List.mem_of_mem_take }
theorem NOk.askd(h:NOk n p)(hi:i<5):NOk n (p.askd i).1/\(p.askd i).1.pend=p.pend/\(p.askd i).1.agreed=p.agreed/\(∀ m∈(p.askd i).2,LOk m)/\(p.askd i).2.length<=1:=by
 have hL:(CQ p.vo.p p.asked (p.wants.take 40)).1.length<=40:=Nat.le_trans (Ut _ _ _) (by rw[List.length_take];omega);unfold Nod.askd;split
 .exact⟨h.asks,rfl,rfl,fun m hm=>(by cases hm),Nat.zero_le _⟩
 .split
  .have:=h.asks.enqueue (CQ p.vo.p p.asked (p.wants.take 40)).1;exact⟨this.1,this.2.1,this.2.2,fun m hm=>(by cases hm),Nat.zero_le _⟩
  .have hr:=h.vp.rng;refine⟨h.asks,rfl,rfl,fun m hm=>?_,Nat.le_refl _⟩;rw[List.mem_singleton.1 hm];exact⟨by show 6<7;decide,hi,by show p.vo.p.n.toNat<5;omega,Bm.b0,Bn.nil,hL,fun h=>by cases h⟩
theorem NOk.propose(h:NOk n p):NOk n p.propose/\At p.propose.pend<=At p.pend+4/\p.propose.agreed=p.agreed:=by
 unfold Nod.propose;split
 .exact⟨h,by omega,rfl⟩
 .split
  .exact⟨h,by omega,rfl⟩
  .rename_i c _
   split
   .exact⟨h,by omega,rfl⟩
   .have hv:=h.vote ⟨(p.agreed.length:Int),p.rnd.bal,c⟩;have h1:NOk n { (p.vote ⟨(p.agreed.length:Int),p.rnd.bal,c⟩).1 with rnd:={ p.rnd with next:=p.agreed.length+1 } }:={ hv.1 with qu:=h.qu,he:=h.he };refine⟨h1.wait trivial,?_,hv.2.2.1⟩;show At ((p.vote ⟨(p.agreed.length:Int),p.rnd.bal,c⟩).1.pend++[_])<=_;rw[E7,hv.2.1];exact Nat.le_refl _
theorem NOk.taught(h:NOk n p)(hi:i<5)(ls:List Let)(hl:∀ m∈ls,LOk m):NOk n (p.taught i ls).1/\(p.taught i ls).1.pend=p.pend/\(∀ m∈(p.taught i ls).2,LOk m)/\(p.taught i ls).2.length<=ls.length+5:=by
 have ha:=h.ag;have ht:∀ k,k<=5->∀ m∈DU p i k,LOk m:=by
  intro k;induction k with
  | zero=>exact fun _ m hm=>by cases hm
  | succ k ih =>
   intro hk m hm;rw[DU]at hm
   rcases List.mem_append.1 hm with h1|h1
   .exact ih (by omega) m h1
   .split at h1
    .rename_i hb
     have hb:=of_decide_eq_true hb;rw[List.mem_singleton.1 h1];exact⟨by show 5<7;decide,hi,by show k<5;omega,Bm.b0,Bn.nil,by show(p.agreed.drop _).length<=40;rw[List.length_drop];omega,fun _=>by show p.rnd.taught k+(p.agreed.drop _).length<=40;rw[List.length_drop];omega⟩
    .cases h1
 unfold Nod.taught;split
 .refine⟨{ h with qu:=h.qu,he:=h.he },rfl,fun m hm=>?_,by show(ls++DU p i 5).length<=_;rw[List.length_append];have:=RV p i 5;omega⟩;rcases List.mem_append.1 hm with h1|h1
  .exact hl m h1
  .exact ht 5 (Nat.le_refl _) m h1
 .exact⟨h,rfl,hl,Nat.le_add_right _ _⟩
theorem NOk.unwant(h:NOk n p)(c:Cmd):NOk n (p.unwant c)/\(p.unwant c).wants.length+(if(p.asked c).isSome=true then 1 else 0)<=p.wants.length:=by
 unfold Nod.unwant;split
 .rename_i h1
  have hm:=h.ask c h1;have hl:(p.wants.erase c).length=p.wants.length-1:=List.length_erase_of_mem hm;have hp:0<p.wants.length:=List.length_pos_of_mem hm;refine⟨{ h with wa:=?_,ask:=fun d hd=>?_ },by show(p.wants.erase c).length+1<=_;omega⟩
  .show(p.wants.erase c).length<=n;have:=h.wa;omega
  .unfold DW at hd;simp only at hd;split at hd
   .cases hd
   .rename_i hne;exact(List.mem_erase_of_ne hne).2 (h.ask d hd)
 .exact⟨h,Nat.le_refl _⟩
theorem Fv(p:Nod)(c:Cmd):(p.unwant c).up=p.up/\(p.unwant c).pend=p.pend/\(p.unwant c).agreed=p.agreed/\(p.unwant c).done=p.done/\(p.unwant c).sto=p.sto:=by
 unfold Nod.unwant;split<;>exact⟨rfl,rfl,rfl,rfl,rfl⟩
theorem UQ(i:Nat)(l:List Cmd)(p:Nod)(ts:List Tol)(h:NOk n p)(hl:p.done+l.length<=p.agreed.length) :
  NOk n (doP i l p ts).1/\(doP i l p ts).1.pend=p.pend/\(doP i l p ts).1.agreed=p.agreed/\(doP i l p ts).2.length+(doP i l p ts).1.wants.length<=ts.length+p.wants.length:=by
 induction l generalizing p ts with
 | nil=>exact⟨h,rfl,rfl,Nat.le_refl _⟩
 | cons c l ih =>
  rw[doP];split
  .exact⟨h,rfl,rfl,Nat.le_refl _⟩
  .rw[List.length_cons]at hl
   have h1:NOk n { p with sto:=doS p.sto c,done:=p.done+1 }:={ h with dn:=by show p.done+1<=p.agreed.length;omega };have h2:=h1.unwant c;have hs:=Fv { p with sto:=doS p.sto c,done:=p.done+1 } c;obtain⟨k1,k2,k3,k4⟩:=ih (Nod.unwant { p with sto:=doS p.sto c,done:=p.done+1 } c) (if(p.asked c).isSome=true then ts++[⟨i,c.c,c.s,doC p.sto c,doA p.sto c⟩]else ts) h2.1 (by rw[hs.2.2.2.1,hs.2.2.1];show p.done+1+l.length<=p.agreed.length;omega);refine⟨k1,k2.trans hs.2.1,k3.trans hs.2.2.1,Nat.le_trans k4 ?_⟩;have h3:=h2.2;simp only at h3;by_cases hx:(p.asked c).isSome=true
   .rw[if_pos hx]at h3 ⊢
    rw[List.length_append];show ts.length+1+_<=_;omega
   .rw[if_neg hx]at h3 ⊢;omega
theorem NOk.piece(h:NOk n p)(hi:i<5){ls:List Let}{ts:List Tol}(hb:ls.length+At p.pend<80000000)(hl:∀ m∈ls,LOk m) :
  NOk n (p.piece i ls ts).1/\(∀ m∈(p.piece i ls ts).2.1,LOk m)/\(p.piece i ls ts).2.1.length+At (p.piece i ls ts).1.pend<=ls.length+At p.pend+10/\(p.piece i ls ts).2.2.length+(doP i (p.agreed.drop p.done) p ts).1.wants.length<=ts.length+p.wants.length:=by
 have h1:=UQ i (p.agreed.drop p.done) p ts h (by rw[List.length_drop];have:=h.dn;omega);have h2:=h1.1.askd hi;have h3:=h2.1.propose;have h4:=h3.1.syncd hi (ls:=ls++((doP i (p.agreed.drop p.done) p ts).1.askd i).2) (by rw[List.length_append];have:=h3.2.1;have:=h2.2.2.2.2;rw[h2.2.1,h1.2.1]at *;omega) (fun m hm=>by
  rcases List.mem_append.1 hm with h|h
  .exact hl m h
  .exact h2.2.2.2.1 m h)
 have h5:=h4.1.taught hi _ h4.2.1;refine⟨h5.1,h5.2.2.1,?_,h1.2.2.2⟩;have e1:=h5.2.2.2;have e2:=h4.2.2.1;have e3:=h3.2.1;have e4:=h2.2.2.2.2;rw[h2.2.1,h1.2.1]at e3
 rw[List.length_append]at e2
 show(Nod.taught _ i _).2.length+At (Nod.taught _ i _).1.pend<=_;rw[h5.2.1];omega
end
end
section
open Go.RowKit
theorem Rb{g:Gh}{w:World}(hg:∀ b,w.heap.size<=b->g.t b=.z/\g.k b=0) :
  Calls prog 22 #[] w fun e w'=>∃ (b:Nat) (g':Gh),e=.returned (.map (some b))/\TkAt g' w' b 7/\Hu g' w'/\Cg w.heap.size [.n 70 0] g w g' w':=by
 refine gI (fn:=f22) [.n 70 0] g func22 hg ?_;refine qR [] 6 [] fun s1 g1 w1 c1=>?_;refine dO 0 (by kernel_rfl) (by kernel_rfl) ?_;intro tb g2 w2 htb A0 cc2 n2;have c2:=cc2 w.heap.size [];refine Ge 1 (b:=tb) A0 (by decide) (by kernel_rfl) (by kernel_rfl) (by kernel_rfl) ?_;intro w4 A1 cc4;have c4:=cc4 w.heap.size [.n 70 0] (List.mem_singleton.2 rfl);refine Ge 2 (b:=tb) A1 (by decide) (by kernel_rfl) (by kernel_rfl) (by kernel_rfl) ?_;intro w6 A2 cc6;have c6:=cc6 w.heap.size [.n 70 0] (List.mem_singleton.2 rfl);refine Ge 3 (b:=tb) A2 (by decide) (by kernel_rfl) (by kernel_rfl) (by kernel_rfl) ?_;intro w8 A3 cc8;have c8:=cc8 w.heap.size [.n 70 0] (List.mem_singleton.2 rfl);refine Ge 4 (b:=tb) A3 (by decide) (by kernel_rfl) (by kernel_rfl) (by kernel_rfl) ?_;intro w10 A4 cc10;have c10:=cc10 w.heap.size [.n 70 0] (List.mem_singleton.2 rfl);refine Ge 5 (b:=tb) A4 (by decide) (by kernel_rfl) (by kernel_rfl) (by kernel_rfl) ?_;intro w12 A5 cc12;have c12:=cc12 w.heap.size [.n 70 0] (List.mem_singleton.2 rfl);refine Ge 6 (b:=tb) A5 (by decide) (by kernel_rfl) (by kernel_rfl) (by kernel_rfl) ?_;intro w14 A6 cc14;have c14:=cc14 w.heap.size [.n 70 0] (List.mem_singleton.2 rfl);refine Ge 7 (b:=tb) A6 (by decide) (by kernel_rfl) (by kernel_rfl) (by kernel_rfl) ?_;intro w16 A7 cc16;have c16:=cc16 w.heap.size [.n 70 0] (List.mem_singleton.2 rfl);refine qR [] 3 [] fun s17 g17 w17 c17=>?_;exact qE (.map (some tb)) fun K=>⟨tb,_,rfl,(A7.ch c17),K.new,((((((((((c1.nil [.n 70 0]).n c2).trans c4).trans c6).trans c8).trans c10).trans c12).trans c14).trans c16).n c17)⟩
theorem JI{g:Gh}{w:World}{mb tb ob:Nat}{nb:Nat->Nat}{M:Meet}(h:MS mb tb ob nb g w M){w0:World}(hB:Base w0 g w)(hT:Tabs w0)(lb:Nat)(l:Let)(hl:BX g w lb l)(hlo:LOk l){n:Nat}(hok:NOk n (M.node l.dst))(hpb:(M.node l.dst).pend.length<100000000) :
  Calls prog 65 #[pt mb 0,pt lb 0] w (MP mb tb ob nb g w (.tuple #[]) (M.come l)):=by
 have hLL:=hl;obtain⟨kd,src,dst,bal,vote,votes,slot,what⟩:=l;have hs:src<5:=hlo.src;have hd:dst<5:=hlo.dst;have hkd:kd<7:=hlo.kd;have hwl:what.length<=40:=hlo.wh;simp only at hok hpb;obtain⟨x,hN⟩:=h.node dst hd;have hag:=hok.ag;refine gI (fn:=f65) TM g func65 h.new ?_;refine BF ⟨mb,_,.z,false⟩ (fun _=>⟨h.box.r,h.box.z,fun h=>(by cases h),fun h=>absurd rfl h⟩) (by kernel_rfl) ?_;obtain⟨vs,wh,hl1,hl2,hl3⟩:=hl;refine BF ⟨lb,.cells (Ex (Let.mk kd src dst bal vote votes slot what) vs wh) 141,.z,false⟩ (fun _=>⟨hl1.r,hl1.z,fun h=>(by cases h),fun h=>absurd rfl h⟩) (by kernel_rfl) ?_;refine qR [] 9 [10,0,2,4,6,8,1,10,12] fun s1 g1 w1 c1=>?_;refine NW 7 (pt mb dst) false (fun W hW=>(by rcases five hd with rfl|rfl|rfl|rfl|rfl<;>kernel_rfl)) (by kernel_rfl) ?_;refine qU 8 (pt (nb dst) 0) (fun W hW=>(CV underlying69 rfl (RE (AJ.at (hW rfl) 0 mb (.cells (mtA nb ob tb) 72) .z (by kernel_rfl)) hd))) ?_;refine qR [] 7 [18] fun s3 g3 w3 c3=>?_;have hN1:=hN.ch (c1.trans c3);refine qN hN1 ?_;refine qR [] 2 [2] fun s4 g4 w4 c4=>?_;by_cases h1:(M.node dst).up=true
 .refine qI ((M.node dst).up) true h1 ?_;have hk1:=h.tk.ch ((c1.trans c3).trans c4) (by simp);refine GL tb _ 70 0 hk1.row hk1.t hk1.k (by kernel_rfl) ?_;rw[show M.come (Let.mk kd src dst bal vote votes slot what)=M.set dst ((M.node dst).take (Let.mk kd src dst bal vote votes slot what)) M.lets M.told from if_pos h1];refine qR [] 9 [11,0,2,4,6,0,8,10,12,14,1] fun s5 g5 w5 c5=>?_;refine qU 8 (tkV kd) (fun W hW=>(rTk (AJ.at (hW rfl) 3 tb (.map (tkL 7).toArray 7) (.n 70 0) (by kernel_rfl)) hkd)) ?_;refine qR [] 2 [18,20] fun s6 g6 w6 c6=>?_;rcases WJ hkd with rfl|rfl|rfl|rfl|rfl|rfl|rfl
  .refine Ae fun K=>?_;have N7:MS mb tb ob nb g6 w6 M:=(h.ch0 ((((c1.trans c3).trans c4).trans c5).trans c6) K.new);refine qG 11 TM [true,true,false,false] ((N7).call hd (Hl ((N7).ns hd) (hB.ch (((((c1.nil TM).n c3).n c4).n c5).n c6) Ep) hT lb _ (hLL.ch ((((c1.trans c3).trans c4).trans c5).trans c6) (by simp)) rfl hpb)) ?_;rintro e' w7 ⟨g7,rfl,M7,c7⟩;refine⟨_,g7,rfl,c7,M7.new,?_⟩;replace c7:=c7.ret (B:=w.heap.size);refine qR [] 1 [] fun s8 g8 w8 c8=>?_;refine qE (.tuple #[]) fun K=>?_;exact⟨_,rfl,(M7.ch0 c8 K.new),(((((((c1.nil TM).n c3).n c4).n c5).n c6).trans (c7)).n c8)⟩
  .refine Ae fun K=>?_;have N9:MS mb tb ob nb g6 w6 M:=(h.ch0 ((((c1.trans c3).trans c4).trans c5).trans c6) K.new);refine qG 11 TM [true,true,false,false] ((N9).call hd (Jm ((N9).ns hd) (hB.ch (((((c1.nil TM).n c3).n c4).n c5).n c6) Ep) hT lb _ (hLL.ch ((((c1.trans c3).trans c4).trans c5).trans c6) (by simp)) rfl hs (by show((M.node dst).agreed++what.drop ((M.node dst).agreed.length-0)).length<=40;rw[List.length_append,List.length_drop];omega) hwl (Nat.lt_of_le_of_lt (hok.he src).len (by decide)))) ?_;rintro e' w9 ⟨g9,rfl,M9,c9⟩;refine⟨_,g9,rfl,c9,M9.new,?_⟩;replace c9:=c9.ret (B:=w.heap.size);refine qR [] 1 [] fun s10 g10 w10 c10=>?_;refine qE (.tuple #[]) fun K=>?_;exact⟨_,rfl,(M9.ch0 c10 K.new),(((((((c1.nil TM).n c3).n c4).n c5).n c6).trans (c9)).n c10)⟩
  .refine Ae fun K=>?_;have N11:MS mb tb ob nb g6 w6 M:=(h.ch0 ((((c1.trans c3).trans c4).trans c5).trans c6) K.new);refine qG 11 TM [true,true,false,false] ((N11).call hd (Jn ((N11).ns hd) lb _ (hLL.ch ((((c1.trans c3).trans c4).trans c5).trans c6) (by simp)))) ?_;rintro e' w11 ⟨g11,rfl,M11,c11⟩;refine⟨_,g11,rfl,c11,M11.new,?_⟩;replace c11:=c11.ret (B:=w.heap.size);refine qR [] 1 [] fun s12 g12 w12 c12=>?_;refine qE (.tuple #[]) fun K=>?_;exact⟨_,rfl,(M11.ch0 c12 K.new),(((((((c1.nil TM).n c3).n c4).n c5).n c6).trans (c11)).n c12)⟩
  .refine Ae fun K=>?_;have N13:MS mb tb ob nb g6 w6 M:=(h.ch0 ((((c1.trans c3).trans c4).trans c5).trans c6) K.new);refine qG 11 TM [true,true,false,false] ((N13).call hd (Iv ((N13).ns hd) (hB.ch (((((c1.nil TM).n c3).n c4).n c5).n c6) Ep) hT lb _ (hLL.ch ((((c1.trans c3).trans c4).trans c5).trans c6) (by simp)) rfl hpb (by have:=hok.vs.len;omega))) ?_;rintro e' w13 ⟨g13,rfl,M13,c13⟩;refine⟨_,g13,rfl,c13,M13.new,?_⟩;replace c13:=c13.ret (B:=w.heap.size);refine qR [] 1 [] fun s14 g14 w14 c14=>?_;refine qE (.tuple #[]) fun K=>?_;exact⟨_,rfl,(M13.ch0 c14 K.new),(((((((c1.nil TM).n c3).n c4).n c5).n c6).trans (c13)).n c14)⟩
  .refine Ae fun K=>?_;have N15:MS mb tb ob nb g6 w6 M:=(h.ch0 ((((c1.trans c3).trans c4).trans c5).trans c6) K.new);refine qG 11 TM [true,true,false,false] ((N15).call hd (Nd ((N15).ns hd) (hB.ch (((((c1.nil TM).n c3).n c4).n c5).n c6) Ep) hT lb _ (hLL.ch ((((c1.trans c3).trans c4).trans c5).trans c6) (by simp)) hs hag)) ?_;rintro e' w15 ⟨g15,rfl,M15,c15⟩;refine⟨_,g15,rfl,c15,M15.new,?_⟩;replace c15:=c15.ret (B:=w.heap.size);refine qR [] 1 [] fun s16 g16 w16 c16=>?_;refine qE (.tuple #[]) fun K=>?_;exact⟨_,rfl,(M15.ch0 c16 K.new),(((((((c1.nil TM).n c3).n c4).n c5).n c6).trans (c15)).n c16)⟩
  .refine Ae fun K=>?_;have N17:MS mb tb ob nb g6 w6 M:=(h.ch0 ((((c1.trans c3).trans c4).trans c5).trans c6) K.new);refine qG 11 TM [true,true,false,false] ((N17).call hd (Nc ((N17).ns hd) lb _ (hLL.ch ((((c1.trans c3).trans c4).trans c5).trans c6) (by simp)) rfl hpb (by omega) (by show what.length<_;omega))) ?_;rintro e' w17 ⟨g17,rfl,M17,c17⟩;refine⟨_,g17,rfl,c17,M17.new,?_⟩;replace c17:=c17.ret (B:=w.heap.size);refine qR [] 1 [] fun s18 g18 w18 c18=>?_;refine qE (.tuple #[]) fun K=>?_;exact⟨_,rfl,(M17.ch0 c18 K.new),(((((((c1.nil TM).n c3).n c4).n c5).n c6).trans (c17)).n c18)⟩
  .refine Ae fun K=>?_;have N19:MS mb tb ob nb g6 w6 M:=(h.ch0 ((((c1.trans c3).trans c4).trans c5).trans c6) K.new);refine qG 11 TM [true,true,false,false] ((N19).call hd (KE ((N19).ns hd) lb _ (hLL.ch ((((c1.trans c3).trans c4).trans c5).trans c6) (by simp)) rfl hpb (by show what.length<_;omega) hok.qu)) ?_;rintro e' w19 ⟨g19,rfl,M19,c19⟩;refine⟨_,g19,rfl,c19,M19.new,?_⟩;replace c19:=c19.ret (B:=w.heap.size);refine qR [] 1 [] fun s20 g20 w20 c20=>?_;refine qE (.tuple #[]) fun K=>?_;exact⟨_,rfl,(M19.ch0 c20 K.new),(((((((c1.nil TM).n c3).n c4).n c5).n c6).trans (c19)).n c20)⟩
 .refine qI ((M.node dst).up) false (by simpa using h1) ?_;refine qR [] 1 [] fun s21 g21 w21 c21=>?_;refine qE (.tuple #[]) fun K=>?_;rw[show M.come (Let.mk kd src dst bal vote votes slot what)=M from if_neg h1];exact⟨_,rfl,(h.ch0 (((c1.trans c3).trans c4).trans c21) K.new),((((c1.nil TM).n c3).n c4).n c21)⟩
section
variable{P:Program}{B:Nat}{T:List Tg}{g:Gh}{w:World}
theorem OwnS.cutTo{τ:Tg}{e:TypeId}{sz:Nat}{x:S3}{xs:List Value}(h:OwnS g w τ false e sz x xs){k:Nat}(hk:k<=x.n)(hk0:0<x.n):OwnS g w τ false e sz ⟨x.a,k,x.c⟩ (xs.take (k*sz)):=by
 have hl:=h.len;have hm:k*sz<=x.n*sz:=Nat.mul_le_mul_right _ hk;refine⟨by rw[List.length_take];show min _ _=k*sz;omega,?_⟩;rcases h.ex with⟨h1,h2,h3⟩|⟨b,cur,h1,h2,h3,h4,h5,h6,h7,h8⟩
 .omega
 .refine .inr ⟨b,cur,h1,h2,Nat.le_trans hk h3,h4,h5,?_,h7,h8⟩;show cur.toList.take (k*sz)=xs.take (k*sz);rw[<- h6,List.take_take,Nat.min_eq_left hm]
theorem dy{τ:Tg}{x:S3}{xs:List Value}(t ty e:TypeId)(i:TypeInfo)(ht:P.underlying t=some (.slice e))(hi:P.info? e=some i)(hτ:τ∈T)(hx:OwnS g w τ false e i.size x xs)(a:Addr)(m c:Nat)(news:List Value)(hm:0<x.c)(hl:news.length=m*i.size)
  (hnews:∀ j u,news[j]?=some u->w.cell? (a.add j)=some u)(h1:∀ u∈news,u.oneCell'=true)(hroom:x.n+m<=x.c) :
  ∃ w',(Builtin.append_ #[t,t] ty #[x.v,.slice (some a) m c]).run P w=.ok (S3.v ⟨x.a,x.n+m,x.c⟩) w'/\OwnS g w' τ false e i.size ⟨x.a,x.n+m,x.c⟩ (xs++news)/\Cg B T g w g w'/\w'.heap.size=w.heap.size:=by
 obtain⟨xa,xn,xc⟩:=x;have hlen:(xs++news).length=(xn+m)*i.size:=by rw[List.length_append,hx.len,hl,Nat.add_mul]
 rcases hx.ex with⟨h2,h3,h4⟩|⟨b,cur,h2,h3,h4,h5,h6,h7,h8,h9⟩
 .simp only at h4 hroom hm;omega
 .simp only at h2 h4 h5 h6 h7 hroom;subst h2;have hfit:xn*i.size+news.length<=cur.size:=by rw[hl,h6,<- Nat.add_mul];exact Nat.mul_le_mul_right _ hroom
  have hr:=run_append_room (P:=P) w t ty e i ht hi b xn xc cur h3 a m c news hl hnews h1 hroom hfit;have h9':g.k b=0:=by simpa using h9
  refine⟨_,hr,⟨hlen,.inr ⟨b,_,rfl,setRow_heap w b cur _ e _ h3,hroom,h5,?_,?_,h8,by rw[h9'];rfl⟩⟩,⟨rfl,rfl,rfl,by simp,fun _ _=>.inl rfl,fun _ _=>Nat.le_refl _,fun _ _ _ _=>rfl,fun d hd hd1 _=>setRow_other w b d _ (fun e=>hd1 (by rw[e,h8];exact hτ)),fun d hd j hj=>?_⟩,by simp⟩
  .simp only[List.size_toArray,List.length_append,List.length_take,List.length_drop,Array.length_toList];omega
  .rw[h7,<- hlen];exact List.take_left
  .exact World.cell?_of_block (w:=w) (setRow_other w b d _ (fun e=>by rw[e,h9']at hj;omega))
theorem dD{τ:Tg}{x:S3}{xs:List Value}(t ty e:TypeId)(z:Value)(sz:Nat)(ht:P.underlying t=some (.slice e))(hv:∀ w,(zeroValue e).run P w=.ok z w)(hzs:z.cells.size=sz)(hsz:0<sz)(hz1:∀ j,j<sz->(z.cells[j]!).oneCell'=true)(hτ:τ∈T)(hx:OwnS g w τ false e sz x xs){b:Nat}(hb:x.a=some ⟨b,0,none⟩)(k c:Nat)(hk:0<k)(hroom:x.n+k<=x.c) :
  ∃ w',(Builtin.clear_ #[t] ty #[.slice (some ⟨b,x.n*sz,none⟩) k c]).run P w=.ok (.tuple #[]) w'/\OwnS g w' τ false e sz x xs/\Cg B T g w g w'/\w'.heap.size=w.heap.size:=by
 rcases hx.ex with⟨h2,h3,h4⟩|⟨b',cur,h2,h3,h4,h5,h6,h7,h8,h9⟩
 .rw[h2]at hb;cases hb
 .rw[hb]at h2
  simp only[Option.some.injEq,Addr.mk.injEq,and_true]at h2;subst h2;have h9':g.k b=0:=by simpa using h9
  have hzl:(Builtin.zeroCells z.cells k).toList.length=k*sz:=by rw[Array.length_toList,size_zeroCells,hzs]
  have hfit:x.n*sz+0+(Builtin.zeroCells z.cells k).toList.length<=cur.size:=by rw[hzl,h6,Nat.add_zero,<- Nat.add_mul];exact Nat.mul_le_mul_right _ hroom
  have hone:∀ v∈(Builtin.zeroCells z.cells k).toList,v.oneCell'=true:=by
   intro v hv';simp only[Builtin.zeroCells,Array.toList_map,List.mem_map]at hv';obtain⟨j,_,rfl⟩:=hv';exact hz1 _ (by rw[hzs];exact Nat.mod_lt _ hsz)
  have hst:=run_storeCells_at (P:=P) b (x.n*sz) e (Builtin.zeroCells z.cells k).toList 0 cur w h3 hfit hone;simp only[Nat.add_zero]at hst;obtain⟨m,rfl⟩:∃ m,k=m+1:=⟨k-1,by omega⟩;refine⟨_,by simp only[Builtin.clear_,List.getElem?_toArray,List.getElem?_cons_zero,Sem.run_bind,run_underlying ht,Result.andThen_ok,hv,hst];rfl,⟨hx.len,.inr ⟨b,_,hb,setRow_heap w b cur _ e _ h3,h4,h5,?_,?_,h8,h9⟩⟩,⟨rfl,rfl,rfl,by simp,fun _ _=>.inl rfl,fun _ _=>Nat.le_refl _,fun _ _ _ _=>rfl,fun d hd hd1 _=>setRow_other w b d _ (fun e=>hd1 (by rw[e,h8];exact hτ)),fun d hd j hj=>?_⟩,by simp⟩
  .rw[hzl]at hfit ⊢
   simp only[List.size_toArray,List.length_append,List.length_take,List.length_drop,Array.length_toList,hzl];simp only[Nat.add_zero]at hfit;omega
  .have hle:x.n*sz<=cur.toList.length:=by rw[Array.length_toList,h6];exact Nat.mul_le_mul_right _ h4
   show(cur.toList.take (x.n*sz)++_++_).take (x.n*sz)=xs;rw[List.append_assoc,List.take_append_of_le_length (by rw[List.length_take];omega),List.take_take,Nat.min_self,h7]
  .exact World.cell?_of_block (w:=w) (setRow_other w b d _ (fun e=>by rw[e,h9']at hj;omega))
end
section
variable{fn:Func}{R:Ending->World->Prop}{B:Nat}{T:List Tg}{g:Gh}{w W:World}
theorem IX(b o k:Nat):(⟨b,o,none⟩:Addr).add k=⟨b,o+k,none⟩:=by
 unfold Addr.add;split
 .rename_i h;simp[]
 .rfl
theorem fD(b n c l h m:Nat)(h1:l<=h)(h2:h<=m)(h3:m<=c)(h4:l<m):(Instr.sliceAt 37 (.slice (some ⟨b,0,none⟩) n c) (some (iv (l:Int))) (some (iv (h:Int))) (some (iv (m:Int)))).run prog W=.ok (.slice (some ⟨b,l*5,none⟩) (h-l) (m-l)) W:=by
 rw[run_sliceAt_slice _ _ _ _ _ _ unC,run_slice_lhm (P:=prog) (w:=W) _ _ _ _ unC .i64 .i64 .i64 l h m (by omega) (by omega) (by omega) (by omega),sz5];simp[Result.andThen,sliced,IX];omega
theorem fC(b n c l h:Nat)(h1:l<=h)(h2:h<=c)(h4:l<c):(Instr.sliceAt 37 (.slice (some ⟨b,0,none⟩) n c) (some (iv (l:Int))) (some (iv (h:Int))) none).run prog W=.ok (.slice (some ⟨b,l*5,none⟩) (h-l) (c-l)) W:=by
 rw[run_sliceAt_slice _ _ _ _ _ _ unC,run_slice_lh (P:=prog) (w:=W) _ _ _ _ unC .i64 .i64 l h (by omega) (by omega) (by omega),sz5];simp[Result.andThen,sliced,IX];omega
theorem fE(b n c h:Nat)(h2:h<=c):(Instr.sliceAt 37 (.slice (some ⟨b,0,none⟩) n c) none (some (iv (h:Int))) none).run prog W=.ok (.slice (some ⟨b,0,none⟩) h c) W:=by
 rw[run_sliceAt_slice _ _ _ _ _ _ unC,run_slice_h (P:=prog) (w:=W) _ _ _ _ unC .i64 h (by omega) (by omega),sz5];simp[Result.andThen,sliced,IX]
theorem fF(b n c l:Nat)(h2:l<=n):(Instr.sliceAt 37 (.slice (some ⟨b,0,none⟩) n c) (some (iv (l:Int))) none none).run prog W=.ok (.slice (some ⟨b,if c=l then 0 else l*5,none⟩) (n-l) (c-l)) W:=by
 rw[run_sliceAt_slice _ _ _ _ _ _ unC,run_slice_l (P:=prog) (w:=W) _ _ _ _ unC .i64 l (by omega) (by omega),sz5];simp[Result.andThen,sliced,IX];split<;>simp
theorem dI{s:Xs}(i':Nat){τ:Tg}{x:S3}{xs:List Value}(ty:TypeId)(a:Addr)(m c:Nat)(news:List Value)(hx:OwnS g w τ false 54 5 x xs)
  (hsem:CK s i'=some (Builtin.append_ #[37,37] ty #[x.v,.slice (some a) m c]>>=fun v=>pure (.value v)))(hob:(nxt s i' undef s.L).o.map Ob.l'=(nxt s i' undef s.L).o.map Ob.r')(hT:s.L.all (fun y=>[τ].all fun t=>y.t.ne t)=true)
  (hm:0<x.c)(hl:news.length=m*5)(h1:∀ u∈news,u.oneCell'=true)(hnews:∀ j u,news[j]?=some u->w.cell? (a.add j)=some u)(hroom:x.n+m<=x.c)
  (hk:∀ w',OwnS g w' τ false 54 5 ⟨x.a,x.n+m,x.c⟩ (xs++news)->(∀ B T,τ∈T->Cg B T g w g w')->w'.heap.size=w.heap.size->GG prog fn R B T (nxt s i' (S3.v ⟨x.a,x.n+m,x.c⟩) s.L).s g w'):GG prog fn R B T s g w:=by
 refine JV i' s.L hob (BC hsem) fun hK ops i o hop=>?_;obtain⟨inf,hi,hsz⟩:∃ inf,prog.info? 54=some inf/\inf.size=5:=by
  have h5:(prog.info? 54).map (·.size)=some 5:=by kernel_rfl
  cases hh:prog.info? 54 with
  | none=>rw[hh]at h5;cases h5
  | some v=>rw[hh]at h5;exact⟨v,rfl,by simpa using h5⟩
 obtain⟨w',hr,h2,h3,h4⟩:=dy (P:=prog) (B:=w.heap.size) (T:=[τ]) 37 ty 54 inf underlying37 hi (List.mem_singleton.2 rfl) (by rw[hsz];exact hx) a m c news hm (by rw[hsz];exact hl) hnews h1 hroom;rw[hsz]at h2
 have hC:∀ B T,τ∈T->Cg B T g w g w':=fun B T hT=>(h3.ret (B:=B)).mono fun t ht=>by rw[List.mem_singleton.1 ht];exact hT
 refine⟨S3.v ⟨x.a,x.n+m,x.c⟩,w',g,.inl ?_,hK.ch (hC _ [τ] (List.mem_singleton.2 rfl)) (fun b hb=>hK.new b (by rw[h4]at hb;exact hb)) hT,hk w' h2 hC h4⟩;rw[CO hsem hop,Sem.run_bind,hr,Result.andThen_ok];rfl
theorem fd(w:World):(zeroValue 54).run prog w=.ok (.agg #[iv 0,iv 0,iv 0,iv 0,iv 0]) w:=by kernel_rfl
theorem fp{s:Xs}(i':Nat){τ:Tg}{x:S3}{xs:List Value}(ty:TypeId){b:Nat}(hb:x.a=some ⟨b,0,none⟩)(k c:Nat)(hx:OwnS g w τ false 54 5 x xs)
  (hsem:CK s i'=some (Builtin.clear_ #[37] ty #[.slice (some ⟨b,x.n*5,none⟩) k c]>>=fun v=>pure (.value v)))(hob:(nxt s i' undef s.L).o.map Ob.l'=(nxt s i' undef s.L).o.map Ob.r')(hT:s.L.all (fun y=>[τ].all fun t=>y.t.ne t)=true)
  (hk0:0<k)(hroom:x.n+k<=x.c)
  (hk:∀ w',OwnS g w' τ false 54 5 x xs->(∀ B T,τ∈T->Cg B T g w g w')->w'.heap.size=w.heap.size->GG prog fn R B T (nxt s i' (.tuple #[]) s.L).s g w'):GG prog fn R B T s g w:=by
 refine JV i' s.L hob (BC hsem) fun hK ops i o hop=>?_;obtain⟨w',hr,h2,h3,h4⟩:=dD (P:=prog) (B:=w.heap.size) (T:=[τ]) 37 ty 54 (.agg #[iv 0,iv 0,iv 0,iv 0,iv 0]) 5 underlying37 fd rfl (by decide) (fun j hj=>by rcases five hj with rfl|rfl|rfl|rfl|rfl<;>rfl) (List.mem_singleton.2 rfl) hx hb k c hk0 hroom;have hC:∀ B T,τ∈T->Cg B T g w g w':=fun B T hT=>(h3.ret (B:=B)).mono fun t ht=>by rw[List.mem_singleton.1 ht];exact hT
 refine⟨.tuple #[],w',g,.inl ?_,hK.ch (hC _ [τ] (List.mem_singleton.2 rfl)) (fun b hb=>hK.new b (by rw[h4]at hb;exact hb)) hT,hk w' h2 hC h4⟩;rw[CO hsem hop,Sem.run_bind,hr,Result.andThen_ok];rfl
end
theorem sz1{W:World}:(Go.sizeOf (prog.elem 64)).run prog W=.ok 1 W:=by kernel_rfl
theorem unL:prog.underlying 64=some (.slice (prog.elem 64)):=by kernel_rfl
section
variable{fn:Func}{R:Ending->World->Prop}{B:Nat}{T:List Tg}{g:Gh}{w W:World}
theorem eu(b n c l h m:Nat)(h1:l<=h)(h2:h<=m)(h3:m<=c)(h4:l<m):(Instr.sliceAt 64 (.slice (some ⟨b,0,none⟩) n c) (some (iv (l:Int))) (some (iv (h:Int))) (some (iv (m:Int)))).run prog W=.ok (.slice (some ⟨b,l*1,none⟩) (h-l) (m-l)) W:=by
 rw[run_sliceAt_slice _ _ _ _ _ _ unL,run_slice_lhm (P:=prog) (w:=W) _ _ _ _ unL .i64 .i64 .i64 l h m (by omega) (by omega) (by omega) (by omega),sz1];simp[Result.andThen,sliced,IX];omega
theorem et(b n c l h:Nat)(h1:l<=h)(h2:h<=c)(h4:l<c):(Instr.sliceAt 64 (.slice (some ⟨b,0,none⟩) n c) (some (iv (l:Int))) (some (iv (h:Int))) none).run prog W=.ok (.slice (some ⟨b,l*1,none⟩) (h-l) (c-l)) W:=by
 rw[run_sliceAt_slice _ _ _ _ _ _ unL,run_slice_lh (P:=prog) (w:=W) _ _ _ _ unL .i64 .i64 l h (by omega) (by omega) (by omega),sz1];simp[Result.andThen,sliced,IX];omega
theorem ey(b n c h:Nat)(h2:h<=c):(Instr.sliceAt 64 (.slice (some ⟨b,0,none⟩) n c) none (some (iv (h:Int))) none).run prog W=.ok (.slice (some ⟨b,0,none⟩) h c) W:=by
 rw[run_sliceAt_slice _ _ _ _ _ _ unL,run_slice_h (P:=prog) (w:=W) _ _ _ _ unL .i64 h (by omega) (by omega),sz1];simp[Result.andThen,sliced,IX]
theorem ez(b n c l:Nat)(h2:l<=n):(Instr.sliceAt 64 (.slice (some ⟨b,0,none⟩) n c) (some (iv (l:Int))) none none).run prog W=.ok (.slice (some ⟨b,if c=l then 0 else l*1,none⟩) (n-l) (c-l)) W:=by
 rw[run_sliceAt_slice _ _ _ _ _ _ unL,run_slice_l (P:=prog) (w:=W) _ _ _ _ unL .i64 l (by omega) (by omega),sz1];simp[Result.andThen,sliced,IX];split<;>simp
theorem aW{s:Xs}(i':Nat){τ:Tg}{x:S3}{xs:List Value}(ty:TypeId)(a:Addr)(m c:Nat)(news:List Value)(hx:OwnS g w τ false 142 1 x xs)
  (hsem:CK s i'=some (Builtin.append_ #[64,64] ty #[x.v,.slice (some a) m c]>>=fun v=>pure (.value v)))(hob:(nxt s i' undef s.L).o.map Ob.l'=(nxt s i' undef s.L).o.map Ob.r')(hT:s.L.all (fun y=>[τ].all fun t=>y.t.ne t)=true)
  (hm:0<x.c)(hl:news.length=m*1)(h1:∀ u∈news,u.oneCell'=true)(hnews:∀ j u,news[j]?=some u->w.cell? (a.add j)=some u)(hroom:x.n+m<=x.c)
  (hk:∀ w',OwnS g w' τ false 142 1 ⟨x.a,x.n+m,x.c⟩ (xs++news)->(∀ B T,τ∈T->Cg B T g w g w')->w'.heap.size=w.heap.size->GG prog fn R B T (nxt s i' (S3.v ⟨x.a,x.n+m,x.c⟩) s.L).s g w'):GG prog fn R B T s g w:=by
 refine JV i' s.L hob (BC hsem) fun hK ops i o hop=>?_;obtain⟨inf,hi,hsz⟩:∃ inf,prog.info? 142=some inf/\inf.size=1:=by
  have h5:(prog.info? 142).map (·.size)=some 1:=by kernel_rfl
  cases hh:prog.info? 142 with
  | none=>rw[hh]at h5;cases h5
  | some v=>rw[hh]at h5;exact⟨v,rfl,by simpa using h5⟩
 obtain⟨w',hr,h2,h3,h4⟩:=dy (P:=prog) (B:=w.heap.size) (T:=[τ]) 64 ty 142 inf underlying64 hi (List.mem_singleton.2 rfl) (by rw[hsz];exact hx) a m c news hm (by rw[hsz];exact hl) hnews h1 hroom;rw[hsz]at h2
 have hC:∀ B T,τ∈T->Cg B T g w g w':=fun B T hT=>(h3.ret (B:=B)).mono fun t ht=>by rw[List.mem_singleton.1 ht];exact hT
 refine⟨S3.v ⟨x.a,x.n+m,x.c⟩,w',g,.inl ?_,hK.ch (hC _ [τ] (List.mem_singleton.2 rfl)) (fun b hb=>hK.new b (by rw[h4]at hb;exact hb)) hT,hk w' h2 hC h4⟩;rw[CO hsem hop,Sem.run_bind,hr,Result.andThen_ok];rfl
theorem dj(w:World):(zeroValue 142).run prog w=.ok (.pointer none) w:=by kernel_rfl
theorem dJ{s:Xs}(i':Nat){τ:Tg}{x:S3}{xs:List Value}(ty:TypeId){b:Nat}(hb:x.a=some ⟨b,0,none⟩)(k c:Nat)(hx:OwnS g w τ false 142 1 x xs)
  (hsem:CK s i'=some (Builtin.clear_ #[64] ty #[.slice (some ⟨b,x.n*1,none⟩) k c]>>=fun v=>pure (.value v)))(hob:(nxt s i' undef s.L).o.map Ob.l'=(nxt s i' undef s.L).o.map Ob.r')(hT:s.L.all (fun y=>[τ].all fun t=>y.t.ne t)=true)
  (hk0:0<k)(hroom:x.n+k<=x.c)
  (hk:∀ w',OwnS g w' τ false 142 1 x xs->(∀ B T,τ∈T->Cg B T g w g w')->w'.heap.size=w.heap.size->GG prog fn R B T (nxt s i' (.tuple #[]) s.L).s g w'):GG prog fn R B T s g w:=by
 refine JV i' s.L hob (BC hsem) fun hK ops i o hop=>?_;obtain⟨w',hr,h2,h3,h4⟩:=dD (P:=prog) (B:=w.heap.size) (T:=[τ]) 64 ty 142 (.pointer none) 1 underlying64 dj rfl (by decide) (fun j hj=>match j,hj with|0,_=>rfl|j+1,h=>absurd h (by omega)) (List.mem_singleton.2 rfl) hx hb k c hk0 hroom;have hC:∀ B T,τ∈T->Cg B T g w g w':=fun B T hT=>(h3.ret (B:=B)).mono fun t ht=>by rw[List.mem_singleton.1 ht];exact hT
 refine⟨.tuple #[],w',g,.inl ?_,hK.ch (hC _ [τ] (List.mem_singleton.2 rfl)) (fun b hb=>hK.new b (by rw[h4]at hb;exact hb)) hT,hk w' h2 hC h4⟩;rw[CO hsem hop,Sem.run_bind,hr,Result.andThen_ok];rfl
end
theorem NI{g:Gh}{w:World}{b n c:Nat}{l:List Nat}(hO:OwnS g w (.n 51 0) false 142 1 ⟨some ⟨b,0,none⟩,n,c⟩ (l.map (pt · 0)))(hg:∀ b,w.heap.size<=b->g.t b=.z/\g.k b=0)(j:Nat)(hj:j<l.length)(hb:l.length<100000000) :
  Calls prog 64 #[.slice (some ⟨b,0,none⟩) n c,iv (j:Int),iv ((j+1:Nat):Int)] w fun e w'=>∃ (x':S3) (g':Gh),e=.returned x'.v/\OwnS g' w' (.n 51 0) false 142 1 x' ((l.eraseIdx j).map (pt · 0))/\(∀ b,w'.heap.size<=b->g'.t b=.z/\g'.k b=0)/\Cg w.heap.size [.n 51 0] g w g' w':=by
 have hn:n=l.length:=by have:=hO.len;simp at this;omega
 have hc:n<=c:=by rcases hO.ex with⟨h,_⟩|⟨_,_,_,_,h,_⟩;cases h;exact h
 refine gI (fn:=f64) [.n 51 0] g func64 hg ?_;refine qR [] 11 [] fun s1 g1 w1 c1=>?_;refine qV 5 (.slice (some ⟨b,j*1,none⟩) (j+1-j) (n-j)) (eu b n c j (j+1) n (by omega) (by omega) (by omega) (by omega)) ?_;refine qR [] 8 [] fun s2 g2 w2 c2=>?_;refine qI (((j:Int)==((j+1:Nat):Int))) false (by simp;omega) ?_;refine qR [] 11 [8,0,2] fun s3 g3 w3 c3=>?_;refine qT 2 (.slice (some ⟨b,0,none⟩) j c) (fun _=>(ey b n c j (by omega))) ?_;refine qR [] 2 [6,8] fun s4 g4 w4 c4=>?_;refine qT 5 (.slice (some ⟨b,if c=j+1 then 0 else(j+1)*1,none⟩) (n-(j+1)) (c-(j+1))) (fun _=>(ez b n c (j+1) (by omega))) ?_;have hO1:=hO.ch (((c1.trans c2).trans c3).trans c4) (by simp) (by simp);have hO2:=hO1.cutTo (k:=j) (by show j<=n;omega) (by show 0<n;omega);refine aW 6 (x:=⟨some ⟨b,0,none⟩,j,c⟩) 64 ⟨b,if c=j+1 then 0 else(j+1)*1,none⟩ (n-(j+1)) (c-(j+1)) ((l.drop (j+1)).map (pt · 0)) hO2 (by kernel_rfl) (by kernel_rfl) (by kernel_rfl) (by show 0<c;omega) (by simp;omega) (by intro u hu;obtain⟨q,_,rfl⟩:=List.mem_map.1 hu;rfl) (fun q u hq=>?_) (by show j+(n-(j+1))<=c;omega) ?_
 .have hlt:j+1<l.length:=by have h:=(List.getElem?_eq_some_iff.1 hq).1;simp at h;omega
  rw[if_neg (by omega),IX];rw[List.map_drop,List.getElem?_drop]at hq
  obtain⟨b2,e2,_,h3⟩:=hO1.cell hq;simp only[Option.some.injEq,Addr.mk.injEq,and_true]at e2;subst e2;rw[show(j+1)*1+q=j+1+q by omega];exact h3
 intro w6 a6 cc6 hz6;have c6:=cc6 w.heap.size [.n 51 0] (List.mem_singleton.2 rfl);rw[show(l.map (pt · 0)).take (j*1)++(l.drop (j+1)).map (pt · 0)=(l.eraseIdx j).map (pt · 0)from by rw[Nat.mul_one,<- List.map_take,<- List.map_append,List.eraseIdx_eq_take_drop_succ]]at a6
 refine qR [] 8 [14] fun s7 g7 w7 c7=>?_;refine qV 4 (.slice (some ⟨b,(j+(n-(j+1)))*1,none⟩) (n-(j+(n-(j+1)))) (c-(j+(n-(j+1))))) (et b (j+(n-(j+1))) c (j+(n-(j+1))) n (by omega) (by omega) (by omega)) ?_;refine dJ 5 (x:=⟨some ⟨b,0,none⟩,(j+(n-(j+1))),c⟩) (b:=b) 0 rfl (n-(j+(n-(j+1)))) (c-(j+(n-(j+1)))) (a6.ch c7) (by kernel_rfl) (by kernel_rfl) (by kernel_rfl) (by omega) (by show(j+(n-(j+1)))+(n-(j+(n-(j+1))))<=c;omega) ?_;intro w9 a9 cc9 hz9;have c9:=cc9 w.heap.size [.n 51 0] (List.mem_singleton.2 rfl);refine qR [] 6 [] fun s10 g10 w10 c10=>?_;exact qE (S3.v ⟨some ⟨b,0,none⟩,(j+(n-(j+1))),c⟩) fun K=>⟨_,_,rfl,(a9.ch c10),K.new,((((((((c1.nil [.n 51 0]).n c2).n c3).n c4).trans c6).n c7).trans c9).n c10)⟩
end
section
theorem NOk.mono{n m:Nat}{p:Nod}(h:NOk n p)(hn:n<=m):NOk m p:={ h with wa:=Nat.le_trans h.wa hn }
theorem NOk.zero(n:Nat):NOk n CH:=⟨Nat.zero_le _,Nat.le_refl _,Nat.zero_le _,Nat.zero_le _,fun c h=>(by cases h),⟨Int.le_refl _,by decide⟩,Bm.b0,Bn.nil,fun _=>Bn.nil,fun q h=>(by cases h)⟩
theorem NOk.bare(n:Nat)(p:Nod)(up:Bool)(d:List Int)(sy:Int){vo:Acc}(h1:Bm vo.p)(h2:Bn vo.vs)(l:List Pend)(hl:∀ q∈l,POk 0 q):NOk n (p.bare up d sy vo l):=⟨Nat.zero_le _,Nat.le_refl _,Nat.zero_le _,Nat.zero_le _,fun c h=>(by cases h),⟨Int.le_refl _,by show(0:Int)<=65536;decide⟩,h1,h2,fun _=>Bn.nil,hl⟩
theorem NOk.crash{n:Nat}{p:Nod}(h:NOk n p)(k:Int):NOk n (p.crash k)/\At (p.crash k).pend<=At p.pend/\(p.crash k).wants.length<=p.wants.length/\(p.crash k).bad=p.bad:=by
 unfold Nod.crash;split
 .exact⟨h,Nat.le_refl _,Nat.le_refl _,rfl⟩
 .exact⟨NOk.bare n p _ _ _ Bm.b0 Bn.nil [] (fun q hq=>(by cases hq)),Nat.zero_le _,Nat.zero_le _,rfl⟩
theorem NOk.start{n:Nat}{p:Nod}(h:NOk n p):NOk n p.start/\At p.start.pend<=At p.pend+4/\p.start.wants.length<=p.wants.length/\p.start.bad=p.bad:=by
 have hr:=YK p.d p.sy;have hq:∀ q∈[Pend.start],POk 0 q:=fun q hq=>by rw[List.mem_singleton.1 hq];trivial
 unfold Nod.start;split
 .exact⟨h,Nat.le_add_right _ _,Nat.le_refl _,rfl⟩
 .split
  .exact⟨NOk.bare n p _ _ _ hr.1 hr.2 _ hq,by show 4<=_;omega,Nat.zero_le _,rfl⟩
  .exact⟨NOk.bare n p _ _ _ hr.1 hr.2 _ hq,by show 4<=_;omega,Nat.zero_le _,rfl⟩
theorem E8(p:Nod)(b:Bal):(p.promise b).1.wants=p.wants/\(p.promise b).1.bad=p.bad/\(p.promise b).1.asked=p.asked/\(p.promise b).1.done=p.done/\(p.promise b).1.rounds=p.rounds:=by
 unfold Nod.promise;split
 .exact⟨rfl,rfl,rfl,rfl,rfl⟩
 .split
  .exact⟨rfl,rfl,rfl,rfl,rfl⟩
  .split<;>exact⟨rfl,rfl,rfl,rfl,rfl⟩
theorem NOk.lead{n:Nat}{p:Nod}(h:NOk n p)(i:Nat):NOk n (p.lead i)/\At (p.lead i).pend<=At p.pend+4/\(p.lead i).wants=p.wants/\(p.lead i).bad=p.bad:=by
 unfold Nod.lead;simp only;split
 .exact⟨h,Nat.le_add_right _ _,rfl,rfl⟩
 .have hp:=h.promise ⟨max p.rounds p.vo.p.r+1,(i:Int)⟩;have hr:=E8 p ⟨max p.rounds p.vo.p.r+1,(i:Int)⟩;have h1:NOk n { (p.promise ⟨max p.rounds p.vo.p.r+1,(i:Int)⟩).1 with rnd:=⟨⟨max p.rounds p.vo.p.r+1,(i:Int)⟩,fun _=>false,fun _=>DY,fun _=>p.agreed.length,0,[]⟩ }:={ hp.1 with qu:=Nat.zero_le _,he:=fun _=>Bn.nil };refine⟨h1.wait hp.2.2.2.1,?_,hr.1,hr.2.1⟩;show At ((p.promise _).1.pend++[_])<=_;rw[E7,hp.2.1];exact Nat.le_refl _
theorem NOk.want{n:Nat}{p:Nod}(h:NOk n p)(c:Cmd):NOk (n+1) (p.want c)/\(p.want c).wants.length<=p.wants.length+1/\(p.want c).pend=p.pend/\(p.want c).bad=p.bad:=by
 unfold Nod.want;split
 .exact⟨h.mono (Nat.le_succ _),Nat.le_succ _,rfl,rfl⟩
 .refine⟨{ h with wa:=?_,ask:=fun d hd=>?_ },by simp,rfl,rfl⟩
  .have:=h.wa;simp;omega
  .unfold DW at hd;simp only at hd ⊢;split at hd
   .rename_i e;exact List.mem_append.2 (.inr (List.mem_singleton.2 e))
   .exact List.mem_append.2 (.inl (h.ask d hd))
theorem NOk.subm{n:Nat}{p:Nod}(h:NOk n p)(i:Nat)(e:Int)(c:Cmd)(ts:List Tol):NOk (n+1) (p.sub0 i e c ts).1/\(p.sub0 i e c ts).1.pend=p.pend/\(p.sub0 i e c ts).2.length+(p.sub0 i e c ts).1.wants.length<=ts.length+p.wants.length+1/\(p.sub0 i e c ts).1.bad<=p.bad+1:=by
 have h1:=h.mono (Nat.le_succ n);unfold Nod.sub0;split
 .exact⟨h1,rfl,Nat.le_succ _,Nat.le_succ _⟩
 .split
  .exact⟨{ h1 with },rfl,Nat.le_succ _,Nat.le_refl _⟩
  .split
   .exact⟨h1,rfl,by simp;omega,Nat.le_succ _⟩
   .have:=h.want c;exact⟨this.1,this.2.2.1,by have:=this.2.1;simp only;omega,by rw[this.2.2.2];exact Nat.le_succ _⟩
theorem Mm(p:Nod)(v:Vt):(p.vote v).1.wants=p.wants/\(p.vote v).1.bad=p.bad:=by
 unfold Nod.vote;split
 .exact⟨rfl,rfl⟩
 .split
  .exact⟨rfl,rfl⟩
  .split<;>exact⟨rfl,rfl⟩
theorem IK(p:Nod)(to:Nat)(e:Int):(p.refuse to e).wants=p.wants/\(p.refuse to e).bad=p.bad:=by unfold Nod.refuse;split<;>exact⟨rfl,rfl⟩
theorem Eu(p:Nod)(j:Nat)(v:Vt):(p.count j v).wants=p.wants/\(p.count j v).bad=p.bad/\(p.count j v).pend=p.pend:=by
 unfold Nod.count;split
 .exact⟨rfl,rfl,rfl⟩
 .split<;>exact⟨rfl,rfl,rfl⟩
theorem Ew(p:Nod)(l:List Cmd):(p.enqueue l).wants=p.wants/\(p.enqueue l).bad=p.bad:=by unfold Nod.enqueue;split<;>exact⟨rfl,rfl⟩
theorem TV(p:Nod)(l:Let):(p.take l).wants=p.wants/\(p.take l).bad=p.bad:=by
 unfold Nod.take;split
 .split
  .exact IK _ _ _
  .exact⟨(E8 p l.bal).1,(E8 p l.bal).2.1⟩
 .simp only;split<;>exact⟨rfl,rfl⟩
 .exact⟨rfl,rfl⟩
 .split
  .exact IK _ _ _
  .exact Mm p l.vote
 .exact⟨(Eu p _ _).1,(Eu p _ _).2.1⟩
 .split<;>exact⟨rfl,rfl⟩
 .simp only;split
  .exact Ew p l.what
  .exact Ew p l.what
 .exact⟨rfl,rfl⟩
theorem T7(p:Nod)(i:Nat)(q:Pend):(p.runP i q).wants=p.wants/\(p.runP i q).bad=p.bad:=by
 cases q with
 | began b vs=>unfold Nod.runP;simp only;split<;>exact⟨rfl,rfl⟩
 | prop v=>exact⟨(Eu p i v).1,(Eu p i v).2.1⟩
 | _=>exact⟨rfl,rfl⟩
theorem PH(i:Nat)(l:List Pend)(p:Nod)(ls:List Let):(doneP i l p ls).1.wants=p.wants/\(doneP i l p ls).1.bad=p.bad:=by
 induction l generalizing p ls with
 | nil=>exact⟨rfl,rfl⟩
 | cons q l ih =>
  have h1:=ih (p.runP i q) (ls++p.sentP i q);have h2:=T7 p i q;exact⟨h1.1.trans h2.1,h1.2.trans h2.2⟩
theorem XN(i:Nat)(l:List Cmd)(p:Nod)(ts:List Tol):(doP i l p ts).1.bad=p.bad:=by
 induction l generalizing p ts with
 | nil=>rfl
 | cons c l ih =>
  rw[doP];split
  .rfl
  .rw[ih];unfold Nod.unwant;split<;>rfl
theorem QF(p:Nod)(i:Nat)(ls:List Let)(ts:List Tol):(p.piece i ls ts).1.wants=(doP i (p.agreed.drop p.done) p ts).1.wants/\(p.piece i ls ts).1.bad=p.bad:=by
 have h1:∀ q:Nod,(q.askd i).1.wants=q.wants/\(q.askd i).1.bad=q.bad:=by
  intro q;unfold Nod.askd;split
  .exact⟨rfl,rfl⟩
  .split
   .exact Ew _ _
   .exact⟨rfl,rfl⟩
 have h2:∀ q:Nod,q.propose.wants=q.wants/\q.propose.bad=q.bad:=by
  intro q;unfold Nod.propose;split
  .exact⟨rfl,rfl⟩
  .split
   .exact⟨rfl,rfl⟩
   .split
    .exact⟨rfl,rfl⟩
    .exact Mm q _
 have h3:∀ (q:Nod) (ls:List Let),(q.syncd i ls).1.wants=q.wants/\(q.syncd i ls).1.bad=q.bad:=by
  intro q ls;unfold Nod.syncd;split
  .exact⟨rfl,rfl⟩
  .have:=PH i q.pend { q.syn with pend:=[] } ls;have hs:q.syn.wants=q.wants/\q.syn.bad=q.bad:=by unfold Nod.syn;split<;>exact⟨rfl,rfl⟩
   exact⟨this.1.trans hs.1,this.2.trans hs.2⟩
 have h4:∀ (q:Nod) (ls:List Let),(q.taught i ls).1.wants=q.wants/\(q.taught i ls).1.bad=q.bad:=by
  intro q ls;unfold Nod.taught;split<;>exact⟨rfl,rfl⟩
 have hd:=XN i (p.agreed.drop p.done) p ts;unfold Nod.piece;simp only;rw[(h4 _ _).1,(h3 _ _).1,(h2 _).1,(h1 _).1,(h4 _ _).2,(h3 _ _).2,(h2 _).2,(h1 _).2];exact⟨rfl,hd⟩
def pw(M:Meet):Nat:=At (M.node 0).pend+At (M.node 1).pend+At (M.node 2).pend+At (M.node 3).pend+At (M.node 4).pend
def ww(M:Meet):Nat:=(M.node 0).wants.length+(M.node 1).wants.length+(M.node 2).wants.length+(M.node 3).wants.length+(M.node 4).wants.length
theorem Wn(M:Meet){i:Nat}(hi:i<5)(p:Nod)(ls:List Let)(ts:List Tol):pw (M.set i p ls ts)+At (M.node i).pend=pw M+At p.pend:=by
 unfold pw Meet.set;rcases five hi with rfl|rfl|rfl|rfl|rfl<;>simp[upN]<;>omega
theorem Xx(M:Meet){i:Nat}(hi:i<5)(p:Nod)(ls:List Let)(ts:List Tol):ww (M.set i p ls ts)+(M.node i).wants.length=ww M+p.wants.length:=by
 unfold ww Meet.set;rcases five hi with rfl|rfl|rfl|rfl|rfl<;>simp[upN]<;>omega
theorem OE(M:Meet){i:Nat}(hi:i<5):At (M.node i).pend<=pw M:=by
 unfold pw;rcases five hi with rfl|rfl|rfl|rfl|rfl<;>omega
theorem eV(M:Meet){i:Nat}(hi:i<5):(M.node i).wants.length<=ww M:=by
 unfold ww;rcases five hi with rfl|rfl|rfl|rfl|rfl<;>omega
structure MOk(n:Nat)(M:Meet):Prop where
 node:∀ i,i<5->NOk n (M.node i)
 lets:∀ l∈M.lets,LOk l
 wt:M.lets.length+pw M<=10*n
 told:M.told.length+ww M<=n
 bad:∀ i,i<5->(M.node i).bad<=n
theorem MOk.zero:MOk 0 Cx:=⟨fun _ _=>NOk.zero 0,fun l h=>(by cases h),Nat.le_refl _,Nat.le_refl _,fun _ _=>Nat.le_refl _⟩
theorem MOk.mono{n m:Nat}{M:Meet}(h:MOk n M)(hn:n<=m):MOk m M:=⟨fun i hi=>(h.node i hi).mono hn,h.lets,by have:=h.wt;omega,by have:=h.told;omega,fun i hi=>Nat.le_trans (h.bad i hi) hn⟩
theorem MOk.set{n:Nat}{M:Meet}(h:MOk n M){i:Nat}(hi:i<5){p:Nod}{ls:List Let}{ts:List Tol}(h1:NOk (n+1) p)(h2:∀ l∈ls,LOk l)(h3:ls.length+At p.pend<=M.lets.length+At (M.node i).pend+10)(h4:ts.length+p.wants.length<=M.told.length+(M.node i).wants.length+1)(h5:p.bad<=(M.node i).bad+1):MOk (n+1) (M.set i p ls ts):=by
 have e1:=Wn M hi p ls ts;have e2:=Xx M hi p ls ts;have:=h.wt;have:=h.told;refine⟨fun j hj=>?_,h2,by show ls.length+_<=_;omega,by show ts.length+_<=_;omega,fun j hj=>?_⟩
 .show NOk (n+1) (upN M.node i p j);unfold upN;split
  .exact h1
  .exact(h.node j hj).mono (Nat.le_succ _)
 .show(upN M.node i p j).bad<=n+1;unfold upN;split
  .have:=h.bad i hi;omega
  .have:=h.bad j hj;omega
structure COk(n k:Nat)(M:Meet):Prop where
 node:∀ i,i<5->NOk n (M.node i)
 wt:k+M.lets.length+pw M<=10*n
 told:M.told.length+ww M<=n
 bad:∀ i,i<5->(M.node i).bad<=n
 lets:∀ l∈M.lets,LOk l
theorem COk.come{n k:Nat}{M:Meet}(h:COk n (k+1) M){l:Let}(hl:LOk l):COk n k (M.come l)/\(M.come l).lets=M.lets:=by
 have hw:=h.wt;unfold Meet.come;split
 .have ht:=(h.node l.dst hl.dst).take hl;have hr:=TV (M.node l.dst) l;have e1:=Wn M hl.dst ((M.node l.dst).take l) M.lets M.told;have e2:=Xx M hl.dst ((M.node l.dst).take l) M.lets M.told;have e3:pw (M.put l.dst ((M.node l.dst).take l))=pw (M.set l.dst ((M.node l.dst).take l) M.lets M.told):=rfl;have e4:ww (M.put l.dst ((M.node l.dst).take l))=ww (M.set l.dst ((M.node l.dst).take l) M.lets M.told):=rfl;have:=h.told;rw[hr.1]at e2
  refine⟨⟨fun j hj=>?_,by show k+M.lets.length+_<=_;have:=ht.2.1;omega,by show M.told.length+_<=_;omega,fun j hj=>?_,h.lets⟩,rfl⟩
  .show NOk n (upN M.node l.dst _ j);unfold upN;split
   .exact ht.1
   .exact h.node j hj
  .show(upN M.node l.dst _ j).bad<=n;unfold upN;split
   .rw[hr.2];exact h.bad _ hl.dst
   .exact h.bad j hj
 .exact⟨⟨h.node,by omega,h.told,h.bad,h.lets⟩,rfl⟩
theorem COk.all{n:Nat}(ls:List Let){M:Meet}(h:COk n ls.length M)(hl:∀ l∈ls,LOk l):COk n 0 (ls.foldl (fun M l=>M.come l) M):=by
 induction ls generalizing M with
 | nil=>exact h
 | cons l ls ih=>exact ih ((h.come (hl l List.mem_cons_self)).1) fun m hm=>hl m (List.mem_cons_of_mem _ hm)
theorem COk.ok{n k:Nat}{M:Meet}(h:COk n k M):MOk n M:=⟨h.node,h.lets,by have:=h.wt;omega,h.told,h.bad⟩
theorem MOk.comeAll{n:Nat}{M:Meet}(h:MOk n M):MOk n M.comeAll :=
 (COk.all M.lets (M:={ M with lets:=[] }) ⟨h.node,by show M.lets.length+0+pw M<=_;exact h.wt,h.told,h.bad,fun l hl=>(by cases hl)⟩ h.lets).ok
theorem MOk.move{n:Nat}{M:Meet}(h:MOk n M)(k:Int)(a:Nat):MOk (n+1) (M.move k a):=by
 have hw:=h.wt;have h1:=h.mono (Nat.le_succ n);unfold Meet.move;split
 .exact h1
 .rename_i l hl
  have hll:LOk l:=h.lets l (List.mem_of_getElem? hl);have he:∀ m∈M.lets.eraseIdx (a%M.lets.length),LOk m:=fun m hm=>h.lets m (List.mem_of_mem_eraseIdx hm);have hlen:(M.lets.eraseIdx (a%M.lets.length)).length<=M.lets.length:=List.length_eraseIdx_le _ _;have hA:COk (n+1) 1 (if k≠6 then{ M with lets:=M.lets.eraseIdx (a%M.lets.length) }else M):=by
   split
   .exact⟨h1.node,by show 1+(M.lets.eraseIdx _).length+pw M<=_;omega,h1.told,h1.bad,he⟩
   .exact⟨h1.node,by omega,h1.told,h1.bad,h.lets⟩
  simp only;split
  .exact(hA.come hll).1.ok
  .exact hA.ok
theorem MOk.act{n:Nat}{M:Meet}(h:MOk n M)(hn:n<=1000000){x:Lac}(hx:LacOk x):MOk (n+1) (M.act x):=by
 have hi:x.n.toNat<5:=by
  cases hu:Fw x.k with
  | true=>have:=hx.n hu;omega
  | false=>have:=hx.n0 hu;omega
 have hp:=h.node _ hi;have h1:=hp.mono (Nat.le_succ n);unfold Meet.act;simp only;split
 .have hs:=hp.subm x.n.toNat (opE x.d ((M.node x.n.toNat).done:Int)) (Kp x.d ((M.node x.n.toNat).done:Int)) M.told;exact h.set hi hs.1 h.lets (by unfold Nod.subm;rw[hs.2.1];omega) (by unfold Nod.subm;omega) (by unfold Nod.subm;omega)
 .split
  .split
   .have hl:=h1.lead x.n.toNat;exact h.set hi hl.1 h.lets (by omega) (by rw[hl.2.2.1];omega) (by rw[hl.2.2.2];omega)
   .exact h.set hi h1 h.lets (by omega) (by omega) (by omega)
  .split
   .by_cases hu:(M.node x.n.toNat).up=true
    .rw[if_pos hu,if_pos hu,if_pos hu];have hpc:=h1.piece hi (ls:=M.lets) (ts:=M.told) (by have:=OE M hi;have:=h.wt;omega) h.lets;have hr:=QF (M.node x.n.toNat) x.n.toNat M.lets M.told;exact h.set hi hpc.1 hpc.2.1 hpc.2.2.1 (by rw[hr.1];have:=hpc.2.2.2;omega) (by rw[hr.2];omega)
    .rw[if_neg hu,if_neg hu,if_neg hu];exact h.set hi h1 h.lets (by omega) (by omega) (by omega)
   .split
    .exact h.move _ _
    .split
     .exact h.comeAll.mono (Nat.le_succ _)
     .split
      .split
       .have hc:=h1.crash x.p;exact h.set hi hc.1 h.lets (by omega) (by omega) (by rw[hc.2.2.2];omega)
       .exact h.set hi h1 h.lets (by omega) (by omega) (by omega)
      .split
       .split
        .exact h.set hi h1 h.lets (by omega) (by omega) (by omega)
        .have hc:=h1.start;exact h.set hi hc.1 h.lets (by omega) (by omega) (by rw[hc.2.2.2];omega)
       .exact h.mono (Nat.le_succ _)
end
section
open Go.RowKit
theorem er{P:Program}{W:World}{x y:Operand}(a b:Nat)(hk:P.underlying 3=some (.int .i64))(ha:a<9223372036854775808)(hb:0<b)(hb2:b<9223372036854775808):(do Go.eqGuard .rem 3 x y (iv (a:Int)) (iv (b:Int));Go.binOp .rem 3 (iv (a:Int)) (iv (b:Int)):Sem Value).run P W=.ok (iv ((a%b:Nat):Int)) W:=by
 have h1:Int.tmod (a:Int) (b:Int)=((a%b:Nat):Int):=rfl;have h0:¬ b=0:=by omega
 simp only[Go.eqGuard,go_sem,Op.intDiv];simp[h0,h1]
theorem ZQ{W:World}{b n c:Nat}(j:Nat)(hj:j<n):(Instr.indexAt 64 (.slice (some ⟨b,0,none⟩) n c) (iv (j:Int))).run prog W=.ok (pt b j) W :=
 OG (P:=prog) (e:=142) (z:=1) underlying64 (by kernel_rfl) (by kernel_rfl) hj _ (by omega)
theorem bX{W:World}{x:S3}{b:Nat}(hx:x.a=some ⟨b,0,none⟩)(j:Nat)(hj:j<x.n):(Instr.indexAt 64 x.v (iv (j:Int))).run prog W=.ok (pt b j) W:=by
 unfold S3.v;rw[hx];exact ZQ j hj
theorem FzL.cell{g:Gh}{w:World}{x:S3}{vs:List Value}(h:FzL g w x vs){b j:Nat}(hb:x.a=some ⟨b,0,none⟩){u:Value}(hj:vs[j]?=some u):w.cell? ⟨b,j,none⟩=some u:=by
 obtain⟨c,h1,_,_,h4⟩:=h.at_ j u hj;rw[hb]at h1
 simp only[Option.some.injEq,Addr.mk.injEq,and_true]at h1;subst h1;exact h4
theorem MS.outs{mb tb ob:Nat}{nb:Nat->Nat}{g g':Gh}{w w':World}{M:Meet}{B:Nat}(h:MS mb tb ob nb g w M)(c:Cg B [.n 50 0,.n 51 0] g w g' w'){lt tl:S3}{ls:List Let}(ho:OutAt g' w' ob lt tl ls M.told)(hn:Hu g' w'):MS mb tb ob nb g' w' { M with lets:=ls } :=
 ⟨h.box.ch c,h.tk.ch c,fun i hi=>let ⟨x,hx⟩:=h.node i hi;⟨x,hx.ch c (by simp) (fun r hr=>by simp;omega)⟩,⟨lt,tl,ho⟩,hn⟩
theorem Lets.erase{g:Gh}{w:World}{bs:List Nat}{l:List Let}(h:Lets g w bs l)(j:Nat):Lets g w (bs.eraseIdx j) (l.eraseIdx j):=by
 refine⟨by rw[List.length_eraseIdx,List.length_eraseIdx,h.len],fun k b m h1 h2=>?_⟩;rw[List.getElem?_eraseIdx]at h1 h2
 split at h1
 .rename_i hk;rw[if_pos hk]at h2;exact h.at_ _ _ _ h1 h2
 .rename_i hk;rw[if_neg hk]at h2;exact h.at_ _ _ _ h1 h2
theorem UX{l:List Let}{j:Nat}{c:Let}(h:l[j]?=some c):l.drop j=c::l.drop (j+1):=by
 obtain⟨h1,h2⟩:=List.getElem?_eq_some_iff.1 h;rw[<- h2];exact List.drop_eq_getElem_cons h1
theorem VO{M:Meet}(k:Int)(a:Nat)(h:M.lets.length=0):M.move k a=M:=by
 unfold Meet.move;rw[List.eq_nil_of_length_eq_zero h];rfl
theorem Yw{M:Meet}{k:Int}{a:Nat}{l:Let}(h:M.lets[a%M.lets.length]?=some l):M.move k a=(if k≠5 then(if k≠6 then{ M with lets:=M.lets.eraseIdx (a%M.lets.length) }else M).come l else if k≠6 then{ M with lets:=M.lets.eraseIdx (a%M.lets.length) }else M):=by
 unfold Meet.move;rw[h]
theorem Ki{g:Gh}{w:World}{mb tb ob:Nat}{nb:Nat->Nat}{M:Meet}(h:MS mb tb ob nb g w M){w0:World}(hB:Base w0 g w)(hT:Tabs w0)(k:Int)(a:Nat)(ha:a<=1048576){n:Nat}(hm:MOk n M)(hn:n<=1000000) :
  Calls prog 27 #[pt mb 0,iv k,iv (a:Int)] w (MP mb tb ob nb g w (.tuple #[]) (M.move k a)):=by
 obtain⟨lt,tl,hO⟩:=h.out;obtain⟨bs,hL,hLs⟩:=hO.lets;have hln:lt.n=M.lets.length:=by have:=hL.len;have:=hLs.len;simp at *;omega
 have hwt:=hm.wt;refine gI (fn:=f27) TM g func27 h.new ?_;refine BF ⟨mb,_,.z,false⟩ (fun _=>⟨h.box.r,h.box.z,fun h=>(by cases h),fun h=>absurd rfl h⟩) (by kernel_rfl) ?_;refine qO hO ?_;refine qR [] 18 [0,1] fun s1 g1 w1 c1=>?_;by_cases h1:lt.n=0
 .refine qI (((lt.n:Int)==0)) true (by simp;omega) ?_;refine qE (.tuple #[]) fun K=>?_;rw[VO k a (by omega)];exact⟨_,rfl,(h.ch0 c1 K.new),(c1.nil TM)⟩
 .refine qI (((lt.n:Int)==0)) false (by simp;omega) ?_;obtain⟨j,hj⟩:∃ j,j=a%M.lets.length:=⟨_,rfl⟩;have hjl:j<M.lets.length:=by rw[hj];exact Nat.mod_lt _ (by omega)
  obtain⟨l,hl⟩:∃ l,M.lets[j]?=some l:=⟨_,List.getElem?_eq_getElem hjl⟩;obtain⟨lb,hlb⟩:∃ lb,bs[j]?=some lb:=⟨_,List.getElem?_eq_getElem (by rw[hLs.len];exact hjl)⟩;have hlo:=hm.lets l (List.mem_of_getElem? hl);have hLA:=hLs.at_ j lb l hlb hl;obtain⟨b,hb,hbs,hbc⟩:=hL.cell (j:=j) (u:=pt lb 0) (by rw[List.getElem?_map,hlb];rfl);rw[Yw (hj▸hl)];rw[<- hj];obtain⟨la,lq,lc⟩:=lt;simp only at hb hln;subst hb;refine qR [] 5 [] fun s3 g3 w3 c3=>?_;have hjr {x y:Operand}:∀ {W:World},(do Go.eqGuard .rem 3 x y (iv (a:Int)) (iv (lq:Int));Go.binOp .rem 3 (iv (a:Int)) (iv (lq:Int)):Sem Value).run prog W=.ok (iv (j:Int)) W:=fun{W}=>by rw[hj,<- hln];exact er a lq underlying3 (by omega) (by omega) (by omega)
  refine qV 2 (iv (j:Int)) (hjr (x:=(.tmp 19)) (y:=(.tmp 20))) ?_;refine qR [] 12 [0,1] fun s4 g4 w4 c4=>?_;refine qV 8 (pt b j) (ZQ (b:=b) (n:=lq) (c:=lc) j (by omega)) ?_;refine qV 9 (pt lb 0) (CV underlying142 rfl ((Below.cell (Cg.below ((c1.trans c3).trans c4) (fun _ _=>List.not_mem_nil)) (p:=⟨b,j,none⟩) hbs).trans hbc)) ?_;refine qR [] 8 [] fun s6 g6 w6 c6=>?_;by_cases h2:k≠6
  .refine qI ((k != 6)) true (by simpa using h2) ?_;have h20:k≠6:=by simpa using h2
   rw[if_pos h20];refine qR [] 14 [17,0,2,4,6,0,8,10,12,14,0,16,18,20,1,22,24] fun s7 g7 w7 c7=>?_;refine qT 13 (iv ((j+1:Nat):Int)) (fun _=>(AN (x:=(.tmp 46)) (y:=(.const (iv 1))) (j:Int) 1 underlying3 (by omega))) ?_;refine Ae fun K=>?_;refine qG 14 [.n 51 0] [true,true] (NI (hL.ch ((((c1.trans c3).trans c4).trans c6).trans c7) (by simp) (by simp)) K.new j (by rw[hLs.len];exact hjl) (by rw[hLs.len];omega)) ?_;rintro e' w9 ⟨y9,g9,rfl,a9,n9,c9⟩;refine⟨_,g9,rfl,c9,n9,?_⟩;replace c9:=c9.ret (B:=w.heap.size);refine qR [.n 50 0] 9 [30,32,35,1,1] fun s10 g10 w10 c10=>?_;refine Ae fun K=>?_;have C9:Cg w.heap.size [.n 50 0,.n 51 0] g w g10 w10:=(((((((c1.nil [.n 50 0,.n 51 0]).n c3).n c4).n c6).n c7).trans (c9.mono (by simp))).trans (c10.mono (by simp)));obtain⟨o1,o2,o3⟩:=K.isN 1 ob (.cells #[S3.v y9,S3.v tl] 66) 50 0 (by kernel_rfl);have MS9:MS mb tb ob nb g10 w10 { M with lets:=M.lets.eraseIdx j }:=h.outs C9 ⟨o1,o2,o3,⟨bs.eraseIdx j,(a9.ch c10),(hLs.erase j).ch C9⟩,hO.told.ch C9⟩ K.new;by_cases h3:k≠5
   .refine qI ((k != 5)) true (by simpa using h3) ?_;rw[if_pos (show k≠5 from by simpa using h3)];refine qR [] 3 [] fun s11 g11 w11 c11=>?_;refine Ae fun K=>?_;have N12:MS mb tb ob nb g11 w11 ({ M with lets:=M.lets.eraseIdx j }):=(MS9.ch0 c11 K.new);refine qG 2 TM [true,false] (JI N12 (hB.ch ((((((((c1.nil TM).n c3).n c4).n c6).n c7).trans (c9.mono (by simp[TM,TN]))).trans (c10.mono (by simp[TM,TN]))).n c11) Ep) hT lb l (hLA.ch ((((((((c1.nil TM).n c3).n c4).n c6).n c7).trans (c9.mono (by simp[TM,TN]))).trans (c10.mono (by simp[TM,TN]))).n c11) Ep) hlo (hm.node l.dst hlo.dst) (by have:=Dj (M.node l.dst).pend;have:=OE M hlo.dst;show(M.node l.dst).pend.length<_;omega)) ?_;rintro e' w12 ⟨g12,rfl,M12,c12⟩;refine⟨_,g12,rfl,c12,M12.new,?_⟩;replace c12:=c12.ret (B:=w.heap.size);refine qR [] 1 [] fun s13 g13 w13 c13=>?_;refine qE (.tuple #[]) fun K=>?_;exact⟨_,rfl,(M12.ch0 c13 K.new),((((((((((c1.nil TM).n c3).n c4).n c6).n c7).trans (c9.mono (by simp[TM,TN]))).trans (c10.mono (by simp[TM,TN]))).n c11).trans (c12)).n c13)⟩
   .refine qI ((k != 5)) false (by simpa using h3) ?_;refine qR [] 1 [] fun s14 g14 w14 c14=>?_;rw[if_neg (show ¬ k≠5 from by simpa using h3)];refine qE (.tuple #[]) fun K=>?_;exact⟨_,rfl,(MS9.ch0 c14 K.new),((((((((c1.nil TM).n c3).n c4).n c6).n c7).trans (c9.mono (by simp[TM,TN]))).trans (c10.mono (by simp[TM,TN]))).n c14)⟩
  .refine qI ((k != 6)) false (by simpa using h2) ?_;have h20:¬ k≠6:=by simpa using h2
   rw[if_neg h20];refine qR [] 6 [] fun s15 g15 w15 c15=>?_;by_cases h3:k≠5
   .refine qI ((k != 5)) true (by simpa using h3) ?_;rw[if_pos (show k≠5 from by simpa using h3)];refine qR [] 3 [] fun s16 g16 w16 c16=>?_;refine Ae fun K=>?_;have N17:MS mb tb ob nb g16 w16 M:=(h.ch0 (((((c1.trans c3).trans c4).trans c6).trans c15).trans c16) K.new);refine qG 2 TM [true,false] (JI N17 (hB.ch ((((((c1.nil TM).n c3).n c4).n c6).n c15).n c16) Ep) hT lb l (hLA.ch ((((((c1.nil TM).n c3).n c4).n c6).n c15).n c16) Ep) hlo (hm.node l.dst hlo.dst) (by have:=Dj (M.node l.dst).pend;have:=OE M hlo.dst;show(M.node l.dst).pend.length<_;omega)) ?_;rintro e' w17 ⟨g17,rfl,M17,c17⟩;refine⟨_,g17,rfl,c17,M17.new,?_⟩;replace c17:=c17.ret (B:=w.heap.size);refine qR [] 1 [] fun s18 g18 w18 c18=>?_;refine qE (.tuple #[]) fun K=>?_;exact⟨_,rfl,(M17.ch0 c18 K.new),((((((((c1.nil TM).n c3).n c4).n c6).n c15).n c16).trans (c17)).n c18)⟩
   .refine qI ((k != 5)) false (by simpa using h3) ?_;refine qR [] 1 [] fun s19 g19 w19 c19=>?_;rw[if_neg (show ¬ k≠5 from by simpa using h3)];refine qE (.tuple #[]) fun K=>?_;exact⟨_,rfl,(h.ch0 (((((c1.trans c3).trans c4).trans c6).trans c15).trans c19) K.new),((((((c1.nil TM).n c3).n c4).n c6).n c15).n c19)⟩
theorem NE{g:Gh}{w:World}{mb tb ob:Nat}{nb:Nat->Nat}{M:Meet}(h:MS mb tb ob nb g w M){w0:World}(hB:Base w0 g w)(hT:Tabs w0){n:Nat}(hm:MOk n M)(hn:n<=1000000) :
  Calls prog 28 #[pt mb 0] w (MP mb tb ob nb g w (.tuple #[]) M.comeAll):=by
 obtain⟨lt,tl,hO⟩:=h.out;obtain⟨bs,hL,hLs⟩:=hO.lets;have hln:lt.n=M.lets.length:=by have:=hL.len;have:=hLs.len;simp at *;omega
 have hwt:=hm.wt;refine gI (fn:=f28) TM g func28 h.new ?_;refine BF ⟨mb,_,.z,false⟩ (fun _=>⟨h.box.r,h.box.z,fun h=>(by cases h),fun h=>absurd rfl h⟩) (by kernel_rfl) ?_;refine qO hO ?_;refine fs hL (by kernel_rfl) fun gF cF hF=>?_;refine qR [.n 50 0] 28 [0,1,0,1,1] fun s1 g1 w1 c1=>?_;refine Ae fun K0=>?_;refine Br 28 [(0,pt mb 0),(18,S3.v lt),(19,iv (lt.n:Int)),(20,iv 0)] [true,false] [⟨mb,.cells (mtA nb ob tb) 72,.z,false⟩] (fun k g' w' e L=>∃ (j:Nat) (A:Meet),k=M.lets.length-j/\j<=M.lets.length/\e=[(0,pt mb 0),(18,S3.v lt),(19,iv (lt.n:Int)),(20,iv (j:Int))]/\L=[⟨mb,.cells (mtA nb ob tb) 72,.z,false⟩]/\MS mb tb ob nb g' w' A/\(M.lets.drop j).foldl (fun M l=>M.come l) A=M.comeAll/\COk n (M.lets.length-j) A/\FzL g' w' lt (bs.map (pt · 0))/\Lets g' w' bs M.lets/\Cg w.heap.size TM g w g' w') (by kernel_rfl) (by kernel_rfl) (by kernel_rfl) (by kernel_rfl) M.lets.length (fun K=>?_) ?_
 .have C9:Cg w.heap.size [.n 50 0,.n 51 0] g w g1 w1:=((cF.mono (by simp)).trans (c1.mono (by simp)));obtain⟨o1,o2,o3⟩:=K0.isN 1 ob (.cells #[S3.v s30,S3.v tl] 66) 50 0 (by kernel_rfl);exact⟨0,{ M with lets:=[] },rfl,Nat.zero_le _,rfl,rfl,h.outs C9 ⟨o1,o2,o3,⟨[],OwnS.nil _ _ _ _ _ _,⟨rfl,fun k b m h=>(by cases h)⟩⟩,hO.told.ch C9⟩ K.new,rfl,⟨hm.node,by show M.lets.length+0+pw M<=_;exact hwt,hm.told,hm.bad,fun l hl=>(by cases hl)⟩,(hF.fz.ch c1),hLs.ch C9,C9.mono (by simp[TM,TN])⟩
 .rintro k gr wr _ zr _ ⟨j,A,rfl,hj,rfl,rfl,hM,hI,hA,hFz,hLt,hC⟩ J hJ;have hfn:=hFz.n;refine qR [] 5 [] fun s2 g2 w2 c2=>?_;by_cases h0:j<M.lets.length
  .refine qI ((decide ((j:Int)<(lt.n:Int)))) true (decide_eq_true (by omega)) ?_;obtain⟨l,hl⟩:∃ l,M.lets[j]?=some l:=⟨_,List.getElem?_eq_getElem h0⟩;obtain⟨lb,hlb⟩:∃ lb,bs[j]?=some lb:=⟨_,List.getElem?_eq_getElem (by rw[hLs.len];exact h0)⟩;have hlo:=hm.lets l (List.mem_of_getElem? hl);have hLA:=hLt.at_ j lb l hlb hl;have hvj:(bs.map (pt · 0))[j]?=some (pt lb 0):=by rw[List.getElem?_map,hlb];rfl
   obtain⟨b,hb,_⟩:=hFz.at_ j (pt lb 0) hvj;obtain⟨kk,hkk⟩:∃ kk,M.lets.length-j=kk+1:=⟨M.lets.length-j-1,by omega⟩;rw[hkk]at hA
   have hcm:=hA.come hlo;rw[UX hl,List.foldl_cons]at hI
   refine qR [] 5 [] fun s3 g3 w3 c3=>?_;refine qV 0 (pt b j) (bX hb j (by omega)) ?_;refine qV 1 (pt lb 0) (CV underlying142 rfl (((hFz.ch c2).ch c3).cell hb hvj)) ?_;refine qR [] 5 [] fun s5 g5 w5 c5=>?_;refine Ae fun K=>?_;have N6:MS mb tb ob nb g5 w5 A:=(hM.ch0 ((c2.trans c3).trans c5) K.new);refine qG 2 TM [true] (JI N6 (hB.ch ((((hC.n c2).n c3).n c5)) Ep) hT lb l (hLA.ch (((c2.nil TM).n c3).n c5) Ep) hlo (hA.node l.dst hlo.dst) (by have:=hA.wt;have:=Dj (A.node l.dst).pend;have:=OE A hlo.dst;omega)) ?_;rintro e' w6 ⟨g6,rfl,M6,c6⟩;refine⟨_,g6,rfl,c6,M6.new,?_⟩;replace c6:=c6.ret (B:=w.heap.size);refine qR [] 3 [] fun s7 g7 w7 c7=>?_;refine qV 0 (iv ((j:Int)+1)) (AN (x:=(.tmp 20)) (y:=(.const (iv 1))) (j:Int) 1 underlying3 (by omega)) ?_;refine qR [] 2 [] fun s8 g8 w8 c8=>?_;exact qB [true] fun z K0 K=>hJ (M.lets.length-(j+1)) _ _ _ z _ (by omega) ⟨j+1,A.come l,rfl,by omega,rfl,rfl,(M6.ch0 (c7.trans c8) K0.new),hI,(by rw[show M.lets.length-(j+1)=kk by omega];exact hcm.1),((((((hFz.ch c2).ch c3).ch c5).ch c6).ch c7).ch c8),hLt.ch ((((((c2.nil TM).n c3).n c5).trans (c6)).n c7).n c8) Ep,((((((hC.n c2).n c3).n c5).trans c6).n c7).n c8)⟩ K
  .refine qI ((decide ((j:Int)<(lt.n:Int)))) false (decide_eq_false (by omega)) ?_;refine qR [] 1 [] fun s9 g9 w9 c9=>?_;obtain rfl:j=M.lets.length:=by omega
   rw[List.drop_length]at hI
   rw[<- hI];refine qE (.tuple #[]) fun K=>?_;exact⟨_,rfl,(hM.ch0 (c2.trans c9) K.new),((hC.n c2).n c9)⟩
end
end Go.Proofs.YtalbmmghmoggcaaGreatDoor
