/- Part 19 of the walk. -/
import Derived.StillTailTactics
import Derived.Test.YtaeckakjdagddadGreatDoorZ3
import Derived.Test.YtaeckakjdagddadGreatDoorZ18
import Derived.Test.YtaeckakjdagddadGreatDoorZ17
set_option maxRecDepth 100000
set_option maxHeartbeats 4000000
open Go.Proofs.Tryz
set_option linter.unusedVariables false
namespace Go.Proofs.YtaeckakjdagddadGreatDoor
open Go.RowKit
theorem BN{B:Nat}{a w:World}(h:Below B a w){g:Nat}(hg:B≤g)(cs:Array Value):Below B a (w.setRow g cs) :=
 h.trans ⟨rfl,rfl,rfl,by simp,fun k hk=>setRow_other w g k cs (by omega)⟩
def ptA(g:Nat):Array Value:=#[.pointer (some ⟨g,0,none⟩),.pointer (some ⟨g,1,none⟩),.pointer (some ⟨g,2,none⟩),.pointer (some ⟨g,3,none⟩),.pointer (some ⟨g,4,none⟩)]
theorem Zt(g:Nat):(ptA g).all (·.oneCell')=true:=by simp[ptA,Value.oneCell']
def QO:Array Value:=#[.pointer none,.pointer none,.pointer none,.pointer none,.pointer none]
theorem db(g:Nat):(prog.info? 132).map (·.size)=some (ptA g).size:=by show _=some 5;kernel_rfl
theorem Pj(g:Nat)(j:Nat)(hj:j<5):∀ W,(Instr.index 132 (.agg (ptA g)) (.int .i64 (j:Int))).run prog W=.ok (.pointer (some ⟨g,j,none⟩)) W:=by
 intro W;rcases(by omega:j=0∨j=1∨j=2∨j=3∨j=4)with rfl|rfl|rfl|rfl|rfl
 all_goals kernel_rfl
theorem Gb(g:Nat)(w:World) :
  Calls prog 51 #[.pointer (some ⟨g,0,none⟩)] w fun e w'=>e=.returned (.agg (ptA g))∧Bw w w':=by
 have bb:Bw w (w.alloc (.cells QO 132)):=(Below.refl _ _).alloc (Nat.le_refl _) _;have rr:=heap_alloc_new w (.cells QO 132);have hi:=db g;go_enter func51,ntmps51
 go_wp2_with fail
 refine Aq 16 (by kernel_rfl) (by kernel_rfl) ?_;simp only[List.take_succ_cons,List.take_zero,List.drop_succ_cons,List.drop_zero]
 repeat (go_big_quiet_step (fail))
 refine wpQuiet_nil ?_;have rr':(w.alloc (.cells QO 132)).drew.heap[w.heap.size]?=some (.cells QO 132):=rr;have bb':Bw w (w.alloc (.cells QO 132)).drew:=bb.drew;have hn:QO=#[.pointer none,.pointer none,.pointer none,.pointer none,.pointer none]:=rfl;rw[← hn];generalize (w.alloc (.cells QO 132)).drew=W at rr' bb';go_wp2_with (refine wpList_store_row rfl 132 (.tmp 2) (.tmp 18) rfl w.heap.size (ptA g) rfl rfl 132 _ rr' hi rfl (Zt g) ?_)
 have r2:=setRow_heap W w.heap.size _ (ptA g) 132 _ rr';exact bodyPost_ret (v:=.agg (ptA g)) (results_cell_row rfl _ _ w.heap.size 132 _ (0,0) _ rfl r2 underlying132 rfl hi) rfl ⟨rfl,BN bb' (Nat.le_refl _) _⟩
theorem Sl.one2O(w:World)(b b':Int)(e:TypeId){g:Nat}(hg:g=w.heap.size)(hb:0≤b∧b<256)(he:b'=b):Sl (w.alloc (.cells #[.int .u8 b'] e)) (.slice (some ⟨g,0,none⟩) 1 1) [b]:=by
 subst he;exact Sl.one w b' e hg hb
theorem Zv(l:List Int)(n:Int)(j:Nat)(hl:l.length≤100000):(l++(Ag n).take j).length+1≤140737488355328:=by
 have:((Ag n).take j).length≤4:=by rw[List.length_take];exact Nat.min_le_right _ _
 rw[List.length_append];omega
theorem Ge(v:Value)(l:List Int)(n:Int)(B:Nat)(w:World)(ho:w.ownsRow B 5 1 v l.length (l.map (Value.int .u8)))(hB:B≤w.heap.size)(hl:l.length≤100000)(n0:0≤n)(n1:n<2147483648) :
  Calls prog 97 #[v,.int .i64 n] w fun e w'=>∃ v',e=.returned v'∧w'.ownsRow B 5 1 v' (l++Ag n).length ((l++Ag n).map (Value.int .u8))∧Below B w w':=by
 have HO0:Hid (w.ownsRow B 5 1 v (l++(Ag n).take 0).length ((l++(Ag n).take 0).map (Value.int .u8))):=by unfold Hid;simpa using ho
 clear ho;go_enter func97,ntmps97
 go_wp2_with fail
 go_loopw [0,5] (fun v iv wr=>∃ j:Nat,j≤4∧iv=.int .i64 (3-(j:Int))∧wr.ownsRow B 5 1 v (l++(Ag n).take j).length ((l++(Ag n).take j).map (Value.int .u8))∧Below B w wr) (fun _ iv _=>(intOf iv+1).toNat)
 case atStart=>exact⟨0,by omega,rfl,HO0.out,Below.refl _ _⟩
 case round =>
  obtain⟨j,hj,rfl,hown,hbel⟩:=hrel;clear HO0;have hlt:=hown.lt;have hz:B≤wr.heap.size:=Nat.le_trans hB hbel.size;have HL:=Zv l n;by_cases hj4:j<4
  ·rcases(by omega:j=0∨j=1∨j=2∨j=3)with rfl|rfl|rfl|rfl
   ·rw[show(3:Int)-((0:Nat):Int)=3 from rfl];have hx:Hid (l++(Ag n).take 1=l++(Ag n).take 0++[n/16777216%256]):=by unfold Hid;rw[List.append_assoc];rfl
    have hLL:=HL 0 hl;clear HL;generalize l++(Ag n).take 0=L at hown hx hLL;go_wp2_with (at_builtin;refine Aa _ rfl _ _ 40 rfl B 5 underlying40 As _ _ rfl rfl L [n/16777216%256] (hown.alloc _) (Sl.one2O _ (n/16777216%256) _ _ rfl (by omega) (by omega)) hLL (by simp;omega) ?_)
    intro v2 w2 ho2 hg2;have hb2:Below B w w2:=(hbel.alloc hz _).grown hg2 (by simp;omega) (fun k hk=>(hlt k hk).1);have HO2:Hid (w2.ownsRow B 5 1 v2 (l++(Ag n).take 1).length ((l++(Ag n).take 1).map (Value.int .u8))):=by
     unfold Hid;rw[hx.out];simpa using ho2
    clear ho2 hg2 hown hlt hbel hLL hx;go_wp2
    go_roundw
    case rel=>exact⟨1,by omega,rfl,HO2.out,hb2⟩
    case measure=>simp[intOf]
   ·rw[show(3:Int)-((1:Nat):Int)=2 from rfl];have hx:Hid (l++(Ag n).take 2=l++(Ag n).take 1++[n/65536%256]):=by unfold Hid;rw[List.append_assoc];rfl
    have hLL:=HL 1 hl;clear HL;generalize l++(Ag n).take 1=L at hown hx hLL;go_wp2_with (at_builtin;refine Aa _ rfl _ _ 40 rfl B 5 underlying40 As _ _ rfl rfl L [n/65536%256] (hown.alloc _) (Sl.one2O _ (n/65536%256) _ _ rfl (by omega) (by omega)) hLL (by simp;omega) ?_)
    intro v2 w2 ho2 hg2;have hb2:Below B w w2:=(hbel.alloc hz _).grown hg2 (by simp;omega) (fun k hk=>(hlt k hk).1);have HO2:Hid (w2.ownsRow B 5 1 v2 (l++(Ag n).take 2).length ((l++(Ag n).take 2).map (Value.int .u8))):=by
     unfold Hid;rw[hx.out];simpa using ho2
    clear ho2 hg2 hown hlt hbel hLL hx;go_wp2
    go_roundw
    case rel=>exact⟨2,by omega,rfl,HO2.out,hb2⟩
    case measure=>simp[intOf]
   ·rw[show(3:Int)-((2:Nat):Int)=1 from rfl];have hx:Hid (l++(Ag n).take 3=l++(Ag n).take 2++[n/256%256]):=by unfold Hid;rw[List.append_assoc];rfl
    have hLL:=HL 2 hl;clear HL;generalize l++(Ag n).take 2=L at hown hx hLL;go_wp2_with (at_builtin;refine Aa _ rfl _ _ 40 rfl B 5 underlying40 As _ _ rfl rfl L [n/256%256] (hown.alloc _) (Sl.one2O _ (n/256%256) _ _ rfl (by omega) (by omega)) hLL (by simp;omega) ?_)
    intro v2 w2 ho2 hg2;have hb2:Below B w w2:=(hbel.alloc hz _).grown hg2 (by simp;omega) (fun k hk=>(hlt k hk).1);have HO2:Hid (w2.ownsRow B 5 1 v2 (l++(Ag n).take 3).length ((l++(Ag n).take 3).map (Value.int .u8))):=by
     unfold Hid;rw[hx.out];simpa using ho2
    clear ho2 hg2 hown hlt hbel hLL hx;go_wp2
    go_roundw
    case rel=>exact⟨3,by omega,rfl,HO2.out,hb2⟩
    case measure=>simp[intOf]
   ·rw[show(3:Int)-((3:Nat):Int)=0 from rfl];have hx:Hid (l++(Ag n).take 4=l++(Ag n).take 3++[n%256]):=by unfold Hid;rw[List.append_assoc];rfl
    have hLL:=HL 3 hl;clear HL;generalize l++(Ag n).take 3=L at hown hx hLL;go_wp2_with (at_builtin;refine Aa _ rfl _ _ 40 rfl B 5 underlying40 As _ _ rfl rfl L [n%256] (hown.alloc _) (Sl.one2O _ (n%256) _ _ rfl (by omega) (by omega)) hLL (by simp;omega) ?_)
    intro v2 w2 ho2 hg2;have hb2:Below B w w2:=(hbel.alloc hz _).grown hg2 (by simp;omega) (fun k hk=>(hlt k hk).1);have HO2:Hid (w2.ownsRow B 5 1 v2 (l++(Ag n).take 4).length ((l++(Ag n).take 4).map (Value.int .u8))):=by
     unfold Hid;rw[hx.out];simpa using ho2
    clear ho2 hg2 hown hlt hbel hLL hx;go_wp2
    go_roundw
    case rel=>exact⟨4,by omega,rfl,HO2.out,hb2⟩
    case measure=>simp[intOf]
  ·obtain rfl:j=4:=by omega
   rw[show(3:Int)-((4:Nat):Int)=-1 from rfl];have HO:Hid _:=hown;clear hown hlt HL;go_wp2
   go_ret;exact⟨_,rfl,HO.out,hbel⟩
theorem Sl.spotO{w:World}{a:Option Addr}{n cap:Nat}{l:List Int}(h:Sl w (.slice a n cap) l)(k:Nat)(hk:k<l.length):∃ bd od,a=some ⟨bd,od,none⟩∧bd<w.heap.size∧w.cell? ⟨bd,od+k,none⟩=some (.int .u8 (l.getD k 0)):=by
 obtain⟨⟨a',cap',e,hc,hn,h1⟩,hla,hba⟩:=h;simp only[Value.slice.injEq]at e;obtain⟨rfl,rfl,rfl⟩:=e;rcases h1 with rfl|⟨b,off,rfl,hb,hcell⟩
 ·simp at hk
 ·exact⟨b,off,rfl,hb,hcell k hk⟩
theorem Iz{w:World}{x:S3}{l:List Int}(h:Sl w x.v l):x.n=l.length:=by obtain⟨a,cap,hh⟩:=h.shapeT;simp only[S3.v,Value.slice.injEq]at hh;exact hh.2.1
theorem ZX:prog.underlying 40=some (.slice (prog.elem 40)):=by kernel_rfl
theorem slB{w:World}{x:S3}{l:List Int}(h:Sl w x.v l)(lo:Nat)(hlo:lo≤l.length):∃ y:S3,(∀ W,(Instr.sliceAt 40 x.v (some (iv (lo:Int))) none none).run prog W=.ok y.v W)∧Sl w y.v (l.drop lo)∧y.n=l.length-lo:=by
 obtain⟨a',c',h1,h2⟩:=h.from lo hlo;refine⟨⟨a',x.n-lo,c'⟩,fun W=>?_,h2,by rw[Iz h]⟩;rw[run_sliceAt_slice _ _ _ _ _ _ ZX];exact h1 W
theorem slT{w:World}{x:S3}{l:List Int}(h:Sl w x.v l)(hi:Nat)(hhi:hi≤l.length):∃ y:S3,(∀ W,(Instr.sliceAt 40 x.v none (some (iv (hi:Int))) none).run prog W=.ok y.v W)∧Sl w y.v (l.take hi):=by
 obtain⟨a',c',h1,h2⟩:=h.upTo hi hhi;refine⟨⟨a',hi,c'⟩,fun W=>?_,h2⟩;rw[run_sliceAt_slice _ _ _ _ _ _ ZX];exact h1 W
theorem P0{w:World}{x:S3}{l:List Int}(h:Sl w x.v l)(h0:0<l.length):∃ bd od,(∀ W,(Instr.indexAt 40 x.v (iv 0)).run prog W=.ok (pt bd od) W)∧bd<w.heap.size∧w.cell? ⟨bd,od,none⟩=some (.int .u8 (l.getD 0 0)):=by
 obtain⟨xa,xn,xc⟩:=x;have hn:xn=l.length:=Iz h;obtain⟨bd,od,h1,h2,h3⟩:=h.spotO 0 h0;subst h1;exact⟨bd,od,fun W=>Pn (P:=prog) (e:=5) (z:=1) (i:=0) underlying40 (by kernel_rfl) (by kernel_rfl) (by rw[hn];exact h0) od (by rw[Nat.mul_zero,Nat.add_zero]),h2,h3⟩
theorem Uh{P:Program}{w:World}{t:TypeId}{x y:Operand}{m n:Int}{b:Bool}(h:(m==n)=b):(do Go.eqGuard .eql t x y (.int .u8 m) (.int .u8 n);Go.binOp .eql t (.int .u8 m) (.int .u8 n):Sem Value).run P w=.ok (.bool b) w:=by
 subst h;rfl
theorem rUi{w:World}{n:Int}(h:0≤n∧n<256):(convert 5 3 (.int .u8 n)).run prog w=.ok (iv n) w:=aS (by kernel_rfl) underlying3 (by kernel_rfl) (by rw[IntKind.wrap_i64];omega)
theorem Fr{w:World}{B:Nat}{y:Value}{l:List Int}(h:w.ownsRow B 5 1 y l.length (l.map (Value.int .u8)))(hl:l.length≤140737488351232)(hb:∀ x∈l,0≤x∧x<256):∃ z:S3,y=z.v∧Sl w z.v l:=by
 have hs:=Sl.ofOwns h hl hb;obtain⟨a,cap,rfl⟩:=hs.shapeT;exact⟨⟨a,l.length,cap⟩,rfl,hs⟩
theorem S5{w:World}{y:Value}{l:List Int}(hs:Sl w y l):∃ z:S3,y=z.v∧Sl w z.v l:=by
 obtain⟨a,cap,rfl⟩:=hs.shapeT;exact⟨⟨a,l.length,cap⟩,rfl,hs⟩
theorem DE(w:World):Sl w s30.v []:=⟨⟨none,0,rfl,Nat.le_refl _,fun _=>rfl,.inl rfl⟩,by simp,by simp⟩
theorem Kz(x:Value)(d:List Int)(s:Int)(w:World)(h:Sl w x d) :
  Calls prog 124 #[.agg (tpA x s)] w fun e w'=>e=.returned (.bool (decide (Bd d s)))∧Bw w w':=by
 have hlen:=h.len;obtain⟨ax,cp,rfl⟩:=h.shapeT;obtain⟨M,hM⟩:∃ M,d.length=M:=⟨_,rfl⟩;have HM:Hid (d.length=M):=hM;rw[hM]at hlen ⊢
 clear hM h;simp only[tpA];have bb:Bw w (w.alloc (.cells #[.slice ax M cp,.int .i64 s] 111)):=(Below.refl _ _).alloc (Nat.le_refl _) _;have rr:=heap_alloc_new w (.cells #[.slice ax M cp,.int .i64 s] 111);generalize hW:w.alloc (.cells #[.slice ax M cp,.int .i64 s] 111)=W0 at bb rr;have c0:W0.cell? ⟨w.heap.size,0,none⟩=some (.slice ax M cp):=cell_of_row _ _ 0 _ _ _ rr;have c1:W0.cell? ⟨w.heap.size,1,none⟩=some (.int .i64 s):=cell_of_row _ _ 1 _ _ _ rr;clear rr;have HT:Hid (Bd d s↔(M≤100000∧0≤s∧s≤(M:Int))):=by
  unfold Hid Bd;rw[HM.out]
 by_cases h1:M≤100000
 ·have h1i:(M:Int)≤100000:=by omega
  by_cases h2:0≤s
  ·by_cases h3:s≤(M:Int)
   ·go_enter func124,ntmps124
    go_wp2
    go_ret;exact⟨Ac (by rw[decide_eq_true (HT.out.2 ⟨h1,h2,h3⟩)]),bb⟩
   ·go_enter func124,ntmps124
    go_wp2
    go_ret;exact⟨Ac (by rw[decide_eq_false (fun g=>absurd (HT.out.1 g).2.2 (by omega))]),bb⟩
  ·go_enter func124,ntmps124
   go_wp2
   go_ret;exact⟨Ac (by rw[decide_eq_false (fun g=>absurd (HT.out.1 g).2.1 (by omega))]),bb⟩
 ·have h1i:¬ (M:Int)≤100000:=by omega
  go_enter func124,ntmps124
  go_wp2
  go_ret;exact⟨Ac (by rw[decide_eq_false (fun g=>absurd (HT.out.1 g).1 (by omega))]),bb⟩
theorem IG(x:Value)(d:List Int)(s:Int)(n:Nat)(w:World)(h:Sl w x d)(hn:n≤d.length) :
  Calls prog 125 #[.agg (tpA x s),.int .i64 (n:Int)] w fun e w'=>∃ y,e=.returned (.agg (tpA y (n:Int)))∧w'.ownsRow w.heap.size 5 1 y n ((d.take n).map (Value.int .u8))∧Bw w w':=by
 have hlen:=h.len;obtain⟨ax,cp,rfl⟩:=h.shapeT;obtain⟨M,hM⟩:∃ M,d.length=M:=⟨_,rfl⟩;have HM:Hid (d.length=M):=hM;have HN:Hid (n≤d.length):=hn;obtain⟨t,ht⟩:∃ t,t=d.take n:=⟨_,rfl⟩;have HT:Hid (t=d.take n):=ht;rw[← ht];clear ht;rw[hM]at h hlen hn ⊢
 clear hM;simp only[tpA];have r0:=heap_alloc2_old w (.cells #[.slice ax M cp,.int .i64 s] 111) (.cells #[.slice none 0 0,.int .i64 0] 111);have r1:=heap_alloc2_new w (.cells #[.slice ax M cp,.int .i64 s] 111) (.cells #[.slice none 0 0,.int .i64 0] 111);have bb:Bw w ((w.alloc (.cells #[.slice ax M cp,.int .i64 s] 111)).alloc (.cells #[.slice none 0 0,.int .i64 0] 111)):=((Below.refl _ _).alloc (Nat.le_refl _) _).alloc (by simp) _;have z0:((w.alloc (.cells #[.slice ax M cp,.int .i64 s] 111)).alloc (.cells #[.slice none 0 0,.int .i64 0] 111)).heap.size=w.heap.size+2:=by simp
 generalize hW:(w.alloc (.cells #[.slice ax M cp,.int .i64 s] 111)).alloc (.cells #[.slice none 0 0,.int .i64 0] 111)=W0 at r0 r1 bb z0;have s0:=h.below bb;have Z0:Hid (W0.heap.size=w.heap.size+2):=z0;have y0:w.heap.size+1<W0.heap.size:=by omega
 have y1:w.heap.size<W0.heap.size:=by omega
 clear z0;go_enter func125,ntmps125
 go_wp2_with ((with_reducible (refine Ee ?_));at_make;refine Ll _ rfl _ _ 40 rfl W0.heap.size 5 underlying40 As n rfl rfl (by omega) (Nat.le_refl _) ?_)
 clear hW;intro w1 o1 g1;have b1:Bw W0 w1:=(Below.refl _ _).grown g1 (Nat.le_refl _) (fun k hk=>by cases hk);have q0:=(b1.block w.heap.size y1).trans r0;have q1:=(b1.block (w.heap.size+1) y0).trans r1;have s1:=s0.below b1;obtain⟨xs,o1⟩:=o1.out;have HO:Hid (w1.ownsRow W0.heap.size 5 1 (.slice (some ⟨W0.heap.size,0,none⟩) n n) n xs):=o1;have d1:=bb.trans (b1.mono bb.size);clear o1 r0 r1 g1;have c0:w1.cell? ⟨w.heap.size,0,none⟩=some (.slice ax M cp):=cell_of_row _ _ 0 _ _ _ q0;go_wp2_with ((with_reducible (refine Ee ?_));refine Lj _ rfl _ _ 40 40 rfl W0.heap.size 5 underlying40 eo W0.heap.size n _ rfl HO.out _ rfl d HN.out s1 t HT.out ?_)
 intro w2 o2 b2;have HO2:Hid (w2.ownsRow W0.heap.size 5 1 (.slice (some ⟨W0.heap.size,0,none⟩) n n) n (t.map (Value.int .u8))):=o2;have e2:=b2.mono (show w.heap.size+2≤W0.heap.size by have:=Z0.out;omega);have p1:=(e2.block (w.heap.size+1) (by omega)).trans q1;have d2:=d1.trans (e2.mono (by omega));obtain⟨g,hg⟩:∃ g,W0.heap.size=g:=⟨_,rfl⟩;have HG:Hid (W0.heap.size=g):=hg;have z0:g=w.heap.size+2:=hg.symm.trans Z0.out;have Z1:Hid (g=w.heap.size+2):=z0;rw[hg]at HO2 ⊢
 clear o2 HO q0 q1 c0 hg z0 y0 y1 Z0;have on:=XN (some ⟨g,0,none⟩) n n (n:Int);go_wp2_with ((with_reducible (refine Ee ?_));refine wpList_store_row rfl 111 (.tmp 4) (.tmp 14) rfl (w.heap.size+1) #[.slice (some ⟨g,0,none⟩) n n,.int .i64 (n:Int)] rfl rfl 111 _ p1 KZ rfl on ?_)
 have q9:=setRow_heap w2 (w.heap.size+1) _ (#[.slice (some ⟨g,0,none⟩) n n,.int .i64 (n:Int)]) 111 _ p1;have d9:=Ck d2 (show w.heap.size≤w.heap.size+1 by omega) (#[.slice (some ⟨g,0,none⟩) n n,.int .i64 (n:Int)]);have o9:(w2.setRow (w.heap.size+1) #[.slice (some ⟨g,0,none⟩) n n,.int .i64 (n:Int)]).ownsRow g 5 1 (.slice (some ⟨g,0,none⟩) n n) n (t.map (Value.int .u8)):=CQ HO2.out (fun k hk=>setRow_other _ _ _ _ (by have:=(HO2.out.lt k hk).1;have:=Z1.out;omega));refine bodyPost_ret (XC rfl _ _ (w.heap.size+1) 111 _ (0,0) _ rfl q9 underlying111 rfl KZ) rfl ?_;exact⟨_,rfl,EN o9 (by have:=Z1.out;omega),d9⟩
end Go.Proofs.YtaeckakjdagddadGreatDoor
