/- Part 35 of the walk. -/
import Derived.Lib.AppendZeros
import Derived.Test.YtaeckakjdagddadGreatDoorZ34
set_option maxRecDepth 100000
set_option maxHeartbeats 4000000
open Go.Proofs.Tryz
set_option linter.unusedVariables false
namespace Go.Proofs.YtaeckakjdagddadGreatDoor
section
open Go.RowKit
theorem LY(ls:List (List Int))(j:Nat)(h:j<ls.length):(ls.take (j+1)).flatten=(ls.take j).flatten++ls.getD j []:=by
 rw[List.take_succ_eq_append_getElem h,List.flatten_append];simp[List.getD,List.getElem?_eq_getElem h]
theorem RX(ls:List (List Int))(h:∀ l∈ls,l.length≤1000):ls.flatten.length≤1000*ls.length:=by
 induction ls with
 | nil=>simp
 | cons x r ih =>
  have h1:=h x (by simp);have h2:=ih (fun l hl=>h l (by simp[hl]));simp only[List.flatten_cons,List.length_append,List.length_cons];omega
theorem Lp(n:Nat):(Builtin.zeroCells (Value.int .u8 0).cells n).size=n:=by
 simp[Builtin.zeroCells,Value.cells]
theorem VS(n:Nat)(w:World)(h0:0<n)(h1:n≤20000) :
  Calls prog 99 #[.slice none 0 0,.int .i64 (n:Int)] w fun e w'=>∃ v',e=.returned v'∧w'.ownsRow w.heap.size 5 1 v' 0 []∧Bw w w':=by
 obtain⟨i0,hi,hz0,hz1,hz2⟩:=info_parts As;have hr:=fun ty=>Lib.run_append_nil_zeros (P:=prog) w 40 3 ty 5 i0 (.int .u8 0) .i64 .i64 underlying40 underlying3 hi hz0 n h0 (by rw[hz1];decide) (by omega) (by rw[hz2];omega);have hge:=grownCap_ge w n 0 5;have hcm:=grownCap_le_maxLen w n 0 5 (by unfold maxLen;omega);have hcs:(Builtin.zeroCells (Value.int .u8 0).cells n++Builtin.zeroCells (Value.int .u8 0).cells (grownCap w n 0 5-n)).size=grownCap w n 0 5*1:=by rw[Array.size_append,Lp,Lp];omega
 generalize Builtin.zeroCells (Value.int .u8 0).cells n++Builtin.zeroCells (Value.int .u8 0).cells (grownCap w n 0 5-n)=Z at hr hcs;generalize grownCap w n 0 5=cap at hr hcs hge hcm;have bb:Bw w (w.drew.alloc (.cells Z 5)):=((Below.refl w.heap.size w).drew).alloc (by exact Nat.le_refl _) _;have rr:(w.drew.alloc (.cells Z 5)).heap[w.heap.size]?=some (.cells Z 5):=heap_alloc_new _ _;generalize w.drew.alloc (.cells Z 5)=W at hr bb rr;have ho:W.ownsRow w.heap.size 5 1 (.slice (some ⟨w.heap.size,0,none⟩) 0 cap) 0 []:=⟨by simp,.inr ⟨w.heap.size,cap,Z,rfl,Nat.le_refl _,rr,by omega,hcm,hcs,by simp⟩⟩;have hsl:∀ W',(Instr.slice 40 (.slice (some ⟨w.heap.size,0,none⟩) n cap) none (some (.int .i64 0)) none).run prog W'=.ok (.slice (some ⟨w.heap.size,0,none⟩) 0 cap) W':=fun W'=>by
  rw[run_slice_h (P:=prog) W' 40 (some ⟨w.heap.size,0,none⟩) n cap underlying40 .i64 0 (by omega) (by omega)];have e:prog.elem 40=5:=by kernel_rfl
  rw[e,G9];simp[Result.andThen,sliced,Addr.add_mid]
 have hpos:(0:Int)<(n:Int):=by omega
 clear rr hcs hcm hge hi hz0 hz1 hz2;go_enter func99,ntmps99
 go_wp2_with (at_builtin;refine Lib.wpList_append_run _ rfl _ _ _ _ rfl _ _ rfl rfl _ _ (hr _) ?_)
 go_ret;exact⟨_,rfl,ho,bb⟩
theorem Qj(g n cap:Nat)(vs:List Value)(ls:List (List Int))(w:World)(hg:g<w.heap.size)(hn:n≤10)(hls:ls.length=n)
  (hc:∀ i,i<n→w.cell? ⟨g,i,none⟩=some (vs.getD i undef))(hs:∀ i,i<n→Sl w (vs.getD i undef) (ls.getD i []))(hl:∀ l∈ls,l.length≤1000)(hp:0<ls.flatten.length) :
  Calls prog 59 #[.slice (some ⟨g,0,none⟩) n cap] w fun e w'=>∃ v',e=.returned v'∧w'.ownsRow w.heap.size 5 1 v' ls.flatten.length (ls.flatten.map (Value.int .u8))∧Bw w w':=by
 have HLS:Hid (ls.length=n):=hls;have HC:Hid _:=hc;have HS:Hid _:=hs;have HL:Hid _:=hl;have HP:Hid _:=hp;clear hls hc hs hl hp;go_enter func59,ntmps59
 go_wp2_with fail
 go_loopw [3,11] (fun sv i wr=>∃ j:Nat,j≤n∧i=.int .i64 j∧sv=.int .i64 ((ls.take j).flatten.length:Int)∧w=wr) (fun _ i _=>n-(intOf i).toNat)
 case atStart=>exact⟨0,by omega,rfl,by simp,rfl⟩
 case round =>
  obtain⟨j,hj,rfl,rfl,rfl⟩:=hrel;have hfl:=RX (ls.take j) (fun l hl=>HL.out l (List.mem_of_mem_take hl));by_cases hjn:j<n
  ·have hf2:(ls.take j).flatten.length≤10000:=by rw[List.length_take]at hfl;omega
   have HF:Hid ((ls.take (j+1)).flatten.length=(ls.take j).flatten.length+(ls.getD j []).length):=by unfold Hid;rw[LY ls j (by rw[HLS.out];exact hjn),List.length_append]
   have sj:=HS.out j hjn;have cj:=HC.out j hjn;have hlj:(ls.getD j []).length≤1000:=by
    have hj2:j<ls.length:=by rw[HLS.out];exact hjn
    have:ls.getD j []=ls[j]:=by simp[List.getD,List.getElem?_eq_getElem hj2]
    rw[this];exact HL.out _ (List.getElem_mem hj2)
   generalize vs.getD j undef=vj at sj cj;generalize ls.getD j []=lj at sj HF hlj;generalize (ls.take j).flatten.length=pre at HF hf2;clear hfl;obtain⟨⟨aj,kj,rfl,_,_,_⟩,_,_⟩:=sj;generalize lj.length=nj at *;go_wp2
   go_roundw
   case rel=>exact⟨j+1,by omega,by go_num,by rw[HF.out];go_num,by simp⟩
   case measure=>simp[intOf];omega
  ·obtain rfl:j=n:=by omega
   have HT:Hid (ls.take j=ls):=List.take_of_length_le (by rw[HLS.out];exact Nat.le_refl _);have hz:ls.flatten.length≤10000:=by rw[HT.out,HLS.out]at hfl;omega
   rw[HT.out];clear hfl;have HZ:=HP.out;generalize hz2:ls.flatten.length=Z at hz HZ;have HZZ:Hid (ls.flatten.length=Z):=hz2;clear hz2;go_wp2_with fail
   refine(VS Z w HZ (by omega)).mono ?_;rintro e w1 ⟨v1,rfl,ho1,hb1⟩;clear HZ hz;obtain⟨g1,c1,rfl⟩:=DN ho1;have HO1:Hid (w1.ownsRow w.heap.size 5 1 (.slice g1 0 c1) (ls.take 0).flatten.length ((ls.take 0).flatten.map (Value.int .u8))):=by unfold Hid;simpa using ho1
   clear ho1;go_wp2_with fail
   go_loopw [6,27] (fun v i wr=>∃ k:Nat,k≤j∧i=.int .i64 k∧Hid (wr.ownsRow w.heap.size 5 1 v (ls.take k).flatten.length ((ls.take k).flatten.map (Value.int .u8)))∧Bw w wr) (fun _ i _=>j-(intOf i).toNat)
   case atStart=>exact⟨0,by omega,rfl,HO1,hb1⟩
   case round =>
    obtain⟨k,hk,rfl,hown0,hb⟩:=hrel;have hown:=hown0.out;clear hown0 HO1 hb1;have hlt:=hown.lt;by_cases hkn:k<j
    ·have hfl:=RX (ls.take k) (fun l hl=>HL.out l (List.mem_of_mem_take hl));have hf2:(ls.take k).flatten.length≤10000:=by rw[List.length_take]at hfl;omega
     have HF:Hid ((ls.take (k+1)).flatten=(ls.take k).flatten++ls.getD k []):=LY ls k (by rw[HLS.out];exact hkn);have sj:=(HS.out k hkn).below hb;have cj:=(hb.cell (p:=⟨g,k,none⟩) hg).trans (HC.out k hkn);have hlj:(ls.getD k []).length≤1000:=by
      have hj2:k<ls.length:=by rw[HLS.out];exact hkn
      have:ls.getD k []=ls[k]:=by simp[List.getD,List.getElem?_eq_getElem hj2]
      rw[this];exact HL.out _ (List.getElem_mem hj2)
     generalize vs.getD k undef=vj at sj cj;generalize ls.getD k []=lj at sj HF hlj;generalize (ls.take k).flatten=pre at hown HF hf2;clear hfl;have sj2:=sj;obtain⟨⟨aj,kj,rfl,_,_,_⟩,_,_⟩:=sj;go_wp2_with (at_builtin;refine Aa _ rfl _ _ 40 rfl w.heap.size 5 underlying40 As _ _ rfl rfl pre lj hown sj2 (by omega) hb.size ?_)
     intro v2 w2 ho2 hg2;have ho2':w2.ownsRow w.heap.size 5 1 v2 (pre++lj).length ((pre++lj).map (Value.int .u8)):=by simpa using ho2
     have hb2:Bw w w2:=hb.grown hg2 hb.size (fun k hk=>(hlt k hk).1);clear ho2 hg2 hown hlt hb sj2 cj;go_wp2
     go_roundw
     case rel=>exact⟨k+1,by omega,by go_num,by rw[HF.out];exact ho2',hb2⟩
     case measure=>simp[intOf];omega
    ·have HJ:Hid (ls.take k=ls):=by unfold Hid;exact List.take_of_length_le (by rw[HLS.out];omega)
     go_wp2
     go_ret;refine⟨u6,rfl,?_,hb⟩;rw[HJ.out]at hown
     exact hown
theorem Yv{v0 v1:Value}{l0 l1:List Int}{w:World}{e:TypeId}{g:Nat}(hr:w.heap[g]?=some (.cells #[v0,v1] e))(h0:Sl w v0 l0)(h1:Sl w v1 l1)(q0:l0.length≤1000)(q1:l1.length≤1000)(q3:0<l0.length) :
  Calls prog 59 #[.slice (some ⟨g,0,none⟩) 2 2] w fun e w'=>∃ v',e=.returned v'∧w'.ownsRow w.heap.size 5 1 v' (l0++l1).length ((l0++l1).map (Value.int .u8))∧Bw w w':=by
 refine(Qj g 2 2 [v0,v1] [l0,l1] w (Array.getElem?_eq_some_iff.1 hr).1 (by omega) rfl ?_ ?_ ?_ ?_).mono ?_
 ·intro i hi;rw[cell_of_row _ _ i _ _ _ hr];obtain rfl|rfl:i=0∨i=1:=by omega
  all_goals rfl
 ·intro i hi;obtain rfl|rfl:i=0∨i=1:=by omega
  ·exact h0
  ·exact h1
 ·intro l hl;simp only[List.mem_cons,List.not_mem_nil,or_false]at hl;rcases hl with rfl|rfl
  ·exact q0
  ·exact q1
 ·simp;omega
 ·rintro e w2 ⟨v2,rfl,ho,hb⟩;exact⟨v2,rfl,by simpa using ho,hb⟩
end
section
def paE(n tc tr tu k c s m v:Int):Int:=if ¬ (0≤n∧n<1073741824)then 2 else if LI tc tr tu≠0 then LI tc tr tu else AU k c s m v
def paP(tc tr tu k c s m v:Int):List Int:=J0 FQ tc tr tu++Ij k c s m v
def paL(n tc tr tu k c s m v:Int):List Int:=if paE n tc tr tu k c s m v=0 then c::Js (FR c) n (paP tc tr tu k c s m v)else[]
theorem WM{n tc tr tu k c s m v:Int}(h:paE n tc tr tu k c s m v=0):(0≤n∧n<1073741824)∧CJ tc tr tu∧AU k c s m v=0:=by
 unfold paE at h;split at h
 ·cases h
 ·rename_i g1
  split at h
  ·rename_i g;exact absurd h g
  ·rename_i g2
   refine⟨Decidable.not_not.1 g1,?_,h⟩;have g3:=Decidable.not_not.1 g2;unfold LI at g3;split at g3
   ·assumption
   ·cases g3
theorem cY{n tc tr tu k c s m v:Int}(h1:0≤n∧n<1073741824)(h2:LI tc tr tu=0):paE n tc tr tu k c s m v=AU k c s m v:=by
 unfold paE;rw[if_neg (fun g=>g h1),if_neg (fun g=>g h2)]
theorem WO{n tc tr tu k c s m v:Int}(h:paE n tc tr tu k c s m v=0):paL n tc tr tu k c s m v=c::Js (FR c) n (paP tc tr tu k c s m v):=if_pos h
theorem G0(tc tr tu k c s m v:Int):(paP tc tr tu k c s m v).length=42:=by unfold paP;rw[List.length_append,DQ,Ff]
theorem Xt{c n:Int}{p:List Int}(h0:0≤n)(h1:n<1073741824)(hp:p.length=42):D5 (FR c) n 0 noB p=0:=by
 unfold D5;rw[if_neg (fun g=>g (OkC.new (Fk c) n h0 (by omega))),if_neg (by omega),if_neg (by omega)]
end
section
open Go.RowKit
theorem VR{x:S3}{tc tr tu:Int}{w:World}(hk:Sl w x.v FQ)(ht:AC w)(h:CJ tc tr tu) :
  Calls prog 56 #[x.v,.agg #[iv tc,iv tr,iv tu]] w fun e w'=>∃ y:S3,e=.returned (.tuple #[y.v,iv 0])∧Sl w' y.v (J0 FQ tc tr tu)∧Bw w w':=by
 refine(T5 x.v FQ tc tr tu w hk ht).mono ?_;have h9:Lx FQ tc tr tu=0:=by rw[OB IL];exact JD h
 rintro e w' ⟨v,rfl,ho,hb⟩;rw[show OC FQ tc tr tu=J0 FQ tc tr tu from if_pos h9]at ho
 rw[h9];obtain⟨y,rfl,hy⟩:=Fr ho (by rw[DQ];decide) (UF _ h);exact⟨y,rfl,hy,hb⟩
theorem Vh{x y:S3}{l m:List Int}{w:World}{e:TypeId}{g:Nat}(hr:w.heap[g]?=some (.cells #[x.v,y.v] e))(h0:Sl w x.v l)(h1:Sl w y.v m)(q0:l.length≤1000)(q1:m.length≤1000)(q3:0<l.length) :
  Calls prog 59 #[.slice (some ⟨g,0,none⟩) 2 2] w fun e w'=>∃ z:S3,e=.returned z.v∧Sl w' z.v (l++m)∧Nb w.heap.size z (l++m)∧Bw w w':=by
 refine(Yv hr h0 h1 q0 q1 q3).mono ?_;rintro e w' ⟨v,rfl,ho,hb⟩;obtain⟨z,rfl,hz,hn⟩:=QZ ho (by rw[List.length_append];omega) (fun a ha=>(List.mem_append.1 ha).elim (h0.byte a) (h1.byte a));exact⟨z,rfl,hz,hn,hb⟩
theorem ZK{x y:S3}{c n:Int}{p:List Int}{w:World}(hk:Sl w x.v (FR c))(hp:Sl w y.v p)(ht:Ci w)(h0:0≤n)(h1:n<1073741824)(hl:p.length=42) :
  Calls prog 58 #[.agg #[x.v,iv n,iv 0,.bool false,.bool false,.bool false,.bool false,.bool false,.bool false,.bool false,.bool false],y.v] w fun e w'=>∃ u z:S3,e=.returned (.tuple #[.agg #[u.v,iv (n+1),iv 0,.bool false,.bool false,.bool false,.bool false,.bool false,.bool false,.bool false,.bool false],z.v,iv 0])∧Sl w' z.v (Js (FR c) n p)∧Bw w w':=by
 refine(ZL x.v (FR c) n 0 noB y.v p w hk rfl hp ht (Xt h0 h1 hl)).mono ?_;rintro e w' ⟨v1,v2,rfl,h2,_,ho,hb⟩;obtain⟨u,rfl,_⟩:=S5 h2;obtain⟨z,rfl,hz⟩:=Fr ho (by rw[Fu];omega) (Ui _ _ hp.byte);exact⟨u,z,rfl,hz,hb⟩
theorem Zr{n tc tr tu k c s m v:Int}{w:World}(h:paE n tc tr tu k c s m v=0)(hT:Tabs w) :
  Calls prog 28 #[iv n,.agg #[iv tc,iv tr,iv tu],.agg #[iv k,iv c,iv s,iv m,iv v]] w fun e w'=>∃ y:S3,e=.returned (.tuple #[y.v,iv 0])∧Sl w' y.v (paL n tc tr tu k c s m v)∧Nb w.heap.size y (paL n tc tr tu k c s m v)∧Bw w w':=by
 obtain⟨hn,hB,hC⟩:=WM h;have hc:=(FE hC).2;unfold InC at hc;rw[WO h];refine kIn func28 ?_;refine kR 11 [0,0,0,0] fun σ1 w1 b1=>?_;refine kV 1 (.bool false) (rLt (x:=(.tmp 14)) (y:=(.const (iv 0))) (t:=3) (m:=n) (n:=0) (decide_eq_false (by omega))) ?_;refine kR 2 [] fun σ2 w2 b2=>?_;refine kV 4 (.bool false) (rGe (x:=(.tmp 17)) (y:=(.const (iv 1073741824))) (t:=3) (m:=n) (n:=1073741824) (decide_eq_false (by omega))) ?_;refine kR 7 [8,2,0] fun σ3 w3 b3=>?_;have B4:=(btr (btr b1 b2) b3);refine kC 0 (In (hT.t.below B4)) ?_;rintro _ w5 ⟨yi,rfl,hyi,b5⟩;refine⟨_,rfl,b5,?_⟩;have B7:=(btr B4 b5);refine kC 2 (VR hyi (hT.t.below B7) hB) ?_;rintro _ w8 ⟨yt,rfl,hyt,b8⟩;refine⟨_,rfl,b8,?_⟩;refine kR 17 [6,8,10,12,14,1] fun σ9 w9 b9=>?_;have B10:=(btr (btr B7 b8) b9);refine kC 1 (VC (m:=⟨k,c,s,m,v⟩) (hT.n.below B10) hC) ?_;rintro _ w11 ⟨yc,rfl,hyc,b11⟩;refine⟨_,rfl,b11,?_⟩;refine kR 18 [1] fun σ12 w12 b12=>?_;have B13:=(btr (btr B10 b11) b12);refine kC 2 (We (c:=c) (by omega) (hT.t.below B13) (if_pos (by omega))) ?_;rintro _ w14 ⟨yk,rfl,hyk,b14⟩;refine⟨_,rfl,b14,?_⟩;replace hyk:=hyk rfl;refine kR 22 [0,0] fun σ15 w15 b15=>?_;refine Ae fun K=>?_;refine kC 6 (Vh (K.ats 2 (σ15 0) _ 40 .z true (by kernel_rfl)) (((((hyt.below b9).below b11).below b12).below b14).below b15) (((hyc.below b12).below b14).below b15) (by rw[DQ];decide) (by rw[Ff];decide) (by rw[DQ];decide)) ?_;rintro _ w16 ⟨yp,rfl,hyp,_,b16⟩;refine⟨_,rfl,b16,?_⟩;have B18:=(btr (btr (btr B13 b14) b15) b16);refine kC 7 (ZK ((hyk.below b15).below b16) hyp (hT.q.below hT.q.pos B18) hn.1 hn.2 (G0 tc tr tu k c s m v)) ?_;rintro _ w19 ⟨u,z,rfl,hz,b19⟩;refine⟨_,rfl,b19,?_⟩;refine kR 21 [0,0,3,0,1] fun σ20 w20 b20=>?_;refine kV 2 (.int .u8 c) (aS (P:=prog) (src:=3) (dst:=5) (k:=.i64) (n:=c) (by kernel_rfl) underlying5 (by kernel_rfl) (by rw[IntKind.wrap_u8];omega)) ?_;refine kR 3 [0,0,0,0] fun σ21 w21 b21=>?_;refine Ae fun K=>?_;have hc1:Sl w21 (S3.v ⟨some ⟨(σ21 0),0,none⟩,1,1⟩) [c]:=Sl.ofRow (l:=[c]) (K.ats 4 (σ21 0) _ 5 .z true (by kernel_rfl)) (by show 1≤_;decide) (fun a ha=>by rw[List.mem_singleton.1 ha];omega);have B22:=(btr (btr (btr B18 b19) b20) b21);refine kC 6 (Vh (x:=⟨some ⟨(σ21 0),0,none⟩,1,1⟩) (K.ats 5 (σ21 1) _ 40 .z true (by kernel_rfl)) hc1 ((hz.below b20).below b21) (by show 1≤1000;decide) (by rw[Fu];show(paP tc tr tu k c s m v).length+20≤1000;rw[G0];decide) (by show 0<1;decide)) ?_;rintro _ w23 ⟨y,rfl,hy,hw,b23⟩;refine⟨_,rfl,b23,?_⟩;refine kR 3 [] fun σ24 w24 b24=>?_;have B25:=(btr (btr B22 b23) b24);exact kE (.tuple #[S3.v y,iv 0]) ⟨y,rfl,(hy.below b24),hw.mono B22.size,B25⟩
end
section
structure Gr where
 k:Int
 a:Int
 b:Int
 c:Int
 d:Int
def pkT(g:Gr):Int:=if pick g.d 17=16 then(pick g.c 4+1)%4 else pick g.c 4
def pkR(g:Gr):Int:=if pick g.d 17=15 then 0 else 7
def pkP(g:Gr):List Int:=paL (pick g.a 1000) (pkT g) (pkR g) 60 (wK g.b) (pick g.c 4) (pick g.d 6) (pick g.a 4) (wV g.b g.d)
theorem WU(g:Gr):paE (pick g.a 1000) (pkT g) (pkR g) 60 (wK g.b) (pick g.c 4) (pick g.d 6) (pick g.a 4) (wV g.b g.d)=0:=by
 have h1:=AR g.a 1000 (by omega);have h2:=AR g.c 4 (by omega);have h3:=AR g.d 6 (by omega);have hT:CJ (pkT g) (pkR g) 60:=by
  unfold CJ pkT pkR;refine⟨?_,?_,by omega⟩<;>split<;>omega
 rw[cY ⟨h1.1,by omega⟩ (JD hT)];exact aD g.b g.a g.d _ _ (by omega) (by omega)
def pkB(g:Gr):List Int:=if pick g.d 23=22∧30<(pkP g).length then(pkP g).take 30 else pkP g
def acN(k:Int)(n:Int):Lac:=⟨k,n,0,0,[]⟩
def O7(g:Gr)(cr:Bool):Lac :=
 if pick g.k 24<3 then⟨1,pick g.a 5,0,0,pkB g⟩
 else if pick g.k 24<5 then acN 2 (pick g.a 5)
 else if pick g.k 24<14 then acN 3 (pick g.a 5)
 else if pick g.k 24=14 then⟨4,0,pick g.c 20,0,[]⟩
 else if pick g.k 24=15 then⟨5,0,pick g.c 20,0,[]⟩
 else if pick g.k 24=16 then⟨6,0,pick g.c 20,0,[]⟩
 else if pick g.k 24=17∧cr=true then⟨8,pick g.a 5,0,pick g.c 90,[]⟩
 else if pick g.k 24=18∧cr=true then acN 9 (pick g.a 5)
 else acN 7 0
def Xn(s:Nat)(x:Lac):Lac:=if x.k=1∧6<s+1 then acN 7 0 else x
def dw(s:Nat)(x:Lac):Nat:=if x.k=1 then s+1 else s
def Ny(cr:Bool):Nat→List Gr→List Lac
 | _,[]=>[]
 | s,g::l=>Xn s (O7 g cr)::Ny cr (dw s (O7 g cr)) l
def scr(l:List Gr)(most:Nat)(cr:Bool):List Lac:=Ny cr 0 (l.take most)
def Ec:List Lac:=(List.range 5).map fun n:Nat=>acN 9 (n:Int)
def ey:List Lac:=(List.range 5).map (fun n:Nat=>acN 3 (n:Int))++[acN 7 0]
def BX:Nat→List Lac
 | 0=>[]
 | m+1=>BX m++ey
def CG(m:Nat):List Lac:=Ec++BX m
def hvy(x:Lac):Bool:=decide (x.k=1∨x.k=2∨x.k=6∨x.k=8)
def CA(l:List Lac):Nat:=100+20*(l.filter hvy).length
def El(m:Nat)(i:Int):List Lac:=CG 0++[acN 2 i]++CG m
def Ea(l:List Lac)(i:Int):List Lac:=El (CA l) i++El (CA l) i
end
end Go.Proofs.YtaeckakjdagddadGreatDoor
