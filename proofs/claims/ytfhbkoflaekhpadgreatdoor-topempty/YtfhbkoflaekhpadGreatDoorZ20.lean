/- Part 20 of the walk. -/
import Derived.Lib.AppendZeros
import Derived.Test.YtfhbkoflaekhpadGreatDoorZ19
set_option maxRecDepth 100000
set_option maxHeartbeats 4000000
open Go.Proofs.Tryz
set_option linter.unusedVariables false
namespace Go.Proofs.YtfhbkoflaekhpadGreatDoor
section
open Go.RowKit
theorem Mt(ls:List (List Int))(j:Nat)(h:j<ls.length):(ls.take (j+1)).flatten=(ls.take j).flatten++ls.getD j []:=by
 rw[List.take_succ_eq_append_getElem h,List.flatten_append];simp[List.getD,List.getElem?_eq_getElem h]
theorem So(ls:List (List Int))(h:∀ l∈ls,l.length≤1000):ls.flatten.length≤1000*ls.length:=by
 induction ls with
 | nil=>simp
 | cons x r ih =>
  have h1:=h x (by simp);have h2:=ih (fun l hl=>h l (by simp[hl]));simp only[List.flatten_cons,List.length_append,List.length_cons];omega
theorem LF(n:Nat):(Builtin.zeroCells (Value.int .u8 0).cells n).size=n:=by
 simp[Builtin.zeroCells,Value.cells]
theorem Wl(n:Nat)(w:World)(h0:0<n)(h1:n≤20000) :
  Calls prog 80 #[.slice none 0 0,.int .i64 (n:Int)] w fun e w'=>∃ v',e=.returned v'∧w'.ownsRow w.heap.size 5 1 v' 0 []∧Bw w w':=by
 obtain⟨i0,hi,hz0,hz1,hz2⟩:=info_parts At;have hr:=fun ty=>Lib.run_append_nil_zeros (P:=prog) w 25 3 ty 5 i0 (.int .u8 0) .i64 .i64 underlying25 underlying3 hi hz0 n h0 (by rw[hz1];decide) (by omega) (by rw[hz2];omega);have hge:=grownCap_ge w n 0 5;have hcm:=grownCap_le_maxLen w n 0 5 (by unfold maxLen;omega);have hcs:(Builtin.zeroCells (Value.int .u8 0).cells n++Builtin.zeroCells (Value.int .u8 0).cells (grownCap w n 0 5-n)).size=grownCap w n 0 5*1:=by rw[Array.size_append,LF,LF];omega
 generalize Builtin.zeroCells (Value.int .u8 0).cells n++Builtin.zeroCells (Value.int .u8 0).cells (grownCap w n 0 5-n)=Z at hr hcs;generalize grownCap w n 0 5=cap at hr hcs hge hcm;have bb:Bw w (w.drew.alloc (.cells Z 5)):=((Below.refl w.heap.size w).drew).alloc (by exact Nat.le_refl _) _;have rr:(w.drew.alloc (.cells Z 5)).heap[w.heap.size]?=some (.cells Z 5):=heap_alloc_new _ _;generalize w.drew.alloc (.cells Z 5)=W at hr bb rr;have ho:W.ownsRow w.heap.size 5 1 (.slice (some ⟨w.heap.size,0,none⟩) 0 cap) 0 []:=⟨by simp,.inr ⟨w.heap.size,cap,Z,rfl,Nat.le_refl _,rr,by omega,hcm,hcs,by simp⟩⟩;have hsl:∀ W',(Instr.slice 25 (.slice (some ⟨w.heap.size,0,none⟩) n cap) none (some (.int .i64 0)) none).run prog W'=.ok (.slice (some ⟨w.heap.size,0,none⟩) 0 cap) W':=fun W'=>by
  rw[run_slice_h (P:=prog) W' 25 (some ⟨w.heap.size,0,none⟩) n cap underlying25 .i64 0 (by omega) (by omega)];have e:prog.elem 25=5:=by kernel_rfl
  rw[e,GV];simp[Result.andThen,sliced,Addr.add_mid]
 have hpos:(0:Int)<(n:Int):=by omega
 clear rr hcs hcm hge hi hz0 hz1 hz2;go_enter func80,ntmps80
 go_wp2_with (at_builtin;refine Lib.wpList_append_run _ rfl _ _ _ _ rfl _ _ rfl rfl _ _ (hr _) ?_)
 go_ret;exact⟨_,rfl,ho,bb⟩
theorem Qv(g n cap:Nat)(vs:List Value)(ls:List (List Int))(w:World)(hg:g<w.heap.size)(hn:n≤10)(hls:ls.length=n)
  (hc:∀ i,i<n→w.cell? ⟨g,i,none⟩=some (vs.getD i undef))(hs:∀ i,i<n→Sl w (vs.getD i undef) (ls.getD i []))(hl:∀ l∈ls,l.length≤1000)(hp:0<ls.flatten.length) :
  Calls prog 40 #[.slice (some ⟨g,0,none⟩) n cap] w fun e w'=>∃ v',e=.returned v'∧w'.ownsRow w.heap.size 5 1 v' ls.flatten.length (ls.flatten.map (Value.int .u8))∧Bw w w':=by
 have HLS:Hid (ls.length=n):=hls;have HC:Hid _:=hc;have HS:Hid _:=hs;have HL:Hid _:=hl;have HP:Hid _:=hp;clear hls hc hs hl hp;go_enter func40,ntmps40
 go_wp2_with fail
 go_loopw [3,11] (fun sv i wr=>∃ j:Nat,j≤n∧i=.int .i64 j∧sv=.int .i64 ((ls.take j).flatten.length:Int)∧w=wr) (fun _ i _=>n-(intOf i).toNat)
 case atStart=>exact⟨0,by omega,rfl,by simp,rfl⟩
 case round =>
  obtain⟨j,hj,rfl,rfl,rfl⟩:=hrel;have hfl:=So (ls.take j) (fun l hl=>HL.out l (List.mem_of_mem_take hl));by_cases hjn:j<n
  ·have hf2:(ls.take j).flatten.length≤10000:=by rw[List.length_take]at hfl;omega
   have HF:Hid ((ls.take (j+1)).flatten.length=(ls.take j).flatten.length+(ls.getD j []).length):=by unfold Hid;rw[Mt ls j (by rw[HLS.out];exact hjn),List.length_append]
   have sj:=HS.out j hjn;have cj:=HC.out j hjn;have hlj:(ls.getD j []).length≤1000:=by
    have hj2:j<ls.length:=by rw[HLS.out];exact hjn
    have:ls.getD j []=ls[j]:=by simp[List.getD,List.getElem?_eq_getElem hj2]
    rw[this];exact HL.out _ (List.getElem_mem hj2)
   generalize vs.getD j undef=vj at sj cj;generalize ls.getD j []=lj at sj HF hlj;generalize (ls.take j).flatten.length=pre at HF hf2;clear hfl;obtain⟨⟨aj,kj,rfl,_,_,_⟩,_,_⟩:=sj;generalize lj.length=nj at *;go_wp2
   go_roundw
   case rel=>exact⟨j+1,by omega,by go_num,by rw[HF.out];go_num,by simp⟩
   case measure=>simp[intOf];omega
  ·obtain rfl:j=n:=by omega
   have HT:Hid (ls.take j=ls):=List.take_of_length_le (by rw[HLS.out];exact Nat.le_refl _);have hz:ls.flatten.length≤10000:=by rw[HT.out,HLS.out]at hfl;omega
   rw[HT.out];clear hfl;have HZ:=HP.out;generalize hz2:ls.flatten.length=Z at hz HZ;have HZZ:Hid (ls.flatten.length=Z):=hz2;clear hz2;go_wp2_with fail
   refine(Wl Z w HZ (by omega)).mono ?_;rintro e w1 ⟨v1,rfl,ho1,hb1⟩;clear HZ hz;obtain⟨g1,c1,rfl⟩:=DY ho1;have HO1:Hid (w1.ownsRow w.heap.size 5 1 (.slice g1 0 c1) (ls.take 0).flatten.length ((ls.take 0).flatten.map (Value.int .u8))):=by unfold Hid;simpa using ho1
   clear ho1;go_wp2_with fail
   go_loopw [6,27] (fun v i wr=>∃ k:Nat,k≤j∧i=.int .i64 k∧Hid (wr.ownsRow w.heap.size 5 1 v (ls.take k).flatten.length ((ls.take k).flatten.map (Value.int .u8)))∧Bw w wr) (fun _ i _=>j-(intOf i).toNat)
   case atStart=>exact⟨0,by omega,rfl,HO1,hb1⟩
   case round =>
    obtain⟨k,hk,rfl,hown0,hb⟩:=hrel;have hown:=hown0.out;clear hown0 HO1 hb1;have hlt:=hown.lt;by_cases hkn:k<j
    ·have hfl:=So (ls.take k) (fun l hl=>HL.out l (List.mem_of_mem_take hl));have hf2:(ls.take k).flatten.length≤10000:=by rw[List.length_take]at hfl;omega
     have HF:Hid ((ls.take (k+1)).flatten=(ls.take k).flatten++ls.getD k []):=Mt ls k (by rw[HLS.out];exact hkn);have sj:=(HS.out k hkn).below hb;have cj:=(hb.cell (p:=⟨g,k,none⟩) hg).trans (HC.out k hkn);have hlj:(ls.getD k []).length≤1000:=by
      have hj2:k<ls.length:=by rw[HLS.out];exact hkn
      have:ls.getD k []=ls[k]:=by simp[List.getD,List.getElem?_eq_getElem hj2]
      rw[this];exact HL.out _ (List.getElem_mem hj2)
     generalize vs.getD k undef=vj at sj cj;generalize ls.getD k []=lj at sj HF hlj;generalize (ls.take k).flatten=pre at hown HF hf2;clear hfl;have sj2:=sj;obtain⟨⟨aj,kj,rfl,_,_,_⟩,_,_⟩:=sj;go_wp2_with (at_builtin;refine Aa _ rfl _ _ 25 rfl w.heap.size 5 underlying25 At _ _ rfl rfl pre lj hown sj2 (by omega) hb.size ?_)
     intro v2 w2 ho2 hg2;have ho2':w2.ownsRow w.heap.size 5 1 v2 (pre++lj).length ((pre++lj).map (Value.int .u8)):=by simpa using ho2
     have hb2:Bw w w2:=hb.grown hg2 hb.size (fun k hk=>(hlt k hk).1);clear ho2 hg2 hown hlt hb sj2 cj;go_wp2
     go_roundw
     case rel=>exact⟨k+1,by omega,by go_num,by rw[HF.out];exact ho2',hb2⟩
     case measure=>simp[intOf];omega
    ·have HJ:Hid (ls.take k=ls):=by unfold Hid;exact List.take_of_length_le (by rw[HLS.out];omega)
     go_wp2
     go_ret;refine⟨u6,rfl,?_,hb⟩;rw[HJ.out]at hown
     exact hown
theorem YH{v0 v1:Value}{l0 l1:List Int}{w:World}{e:TypeId}{g:Nat}(hr:w.heap[g]?=some (.cells #[v0,v1] e))(h0:Sl w v0 l0)(h1:Sl w v1 l1)(q0:l0.length≤1000)(q1:l1.length≤1000)(q3:0<l0.length) :
  Calls prog 40 #[.slice (some ⟨g,0,none⟩) 2 2] w fun e w'=>∃ v',e=.returned v'∧w'.ownsRow w.heap.size 5 1 v' (l0++l1).length ((l0++l1).map (Value.int .u8))∧Bw w w':=by
 refine(Qv g 2 2 [v0,v1] [l0,l1] w (Array.getElem?_eq_some_iff.1 hr).1 (by omega) rfl ?_ ?_ ?_ ?_).mono ?_
 ·intro i hi;rw[cell_of_row _ _ i _ _ _ hr];obtain rfl|rfl:i=0∨i=1:=by omega
  all_goals rfl
 ·intro i hi;obtain rfl|rfl:i=0∨i=1:=by omega
  ·exact h0
  ·exact h1
 ·intro l hl;simp only[List.mem_cons,List.not_mem_nil,or_false]at hl;rcases hl with rfl|rfl
  ·exact q0
  ·exact q1
 ·simp;omega
 ·rintro e w2 ⟨v2,rfl,ho,hb⟩;exact⟨v2,rfl,by simpa using ho,hb⟩
end
section
def paE(n tc tr tu k c s m v:Int):Int:=if ¬ (0≤n∧n<1073741824)then 2 else if Md tc tr tu≠0 then Md tc tr tu else AZ k c s m v
def paP(tc tr tu k c s m v:Int):List Int:=JJ Gm tc tr tu++Ds k c s m v
def paL(n tc tr tu k c s m v:Int):List Int:=if paE n tc tr tu k c s m v=0 then c::JA (Gn c) n (paP tc tr tu k c s m v)else[]
theorem Xi{n tc tr tu k c s m v:Int}(h:paE n tc tr tu k c s m v=0):(0≤n∧n<1073741824)∧CS tc tr tu∧AZ k c s m v=0:=by
 unfold paE at h;split at h
 ·cases h
 ·rename_i g1
  split at h
  ·rename_i g;exact absurd h g
  ·rename_i g2
   refine⟨Decidable.not_not.1 g1,?_,h⟩;have g3:=Decidable.not_not.1 g2;unfold Md at g3;split at g3
   ·assumption
   ·cases g3
theorem dJ{n tc tr tu k c s m v:Int}(h1:0≤n∧n<1073741824)(h2:Md tc tr tu=0):paE n tc tr tu k c s m v=AZ k c s m v:=by
 unfold paE;rw[if_neg (fun g=>g h1),if_neg (fun g=>g h2)]
theorem Xj{n tc tr tu k c s m v:Int}(h:paE n tc tr tu k c s m v=0):paL n tc tr tu k c s m v=c::JA (Gn c) n (paP tc tr tu k c s m v):=if_pos h
theorem GP(tc tr tu k c s m v:Int):(paP tc tr tu k c s m v).length=42:=by unfold paP;rw[List.length_append,Eb,DR]
theorem XF{c n:Int}{p:List Int}(h0:0≤n)(h1:n<1073741824)(hp:p.length=42):DG (Gn c) n 0 noB p=0:=by
 unfold DG;rw[if_neg (fun g=>g (OkC.new (F4 c) n h0 (by omega))),if_neg (by omega),if_neg (by omega)]
end
section
open Go.RowKit
theorem Wk{x:S3}{tc tr tu:Int}{w:World}(hk:Sl w x.v Gm)(ht:AD w)(h:CS tc tr tu) :
  Calls prog 35 #[x.v,.agg #[iv tc,iv tr,iv tu]] w fun e w'=>∃ y:S3,e=.returned (.tuple #[y.v,iv 0])∧Sl w' y.v (JJ Gm tc tr tu)∧Bw w w':=by
 refine(TE x.v Gm tc tr tu w hk ht).mono ?_;have h9:LN Gm tc tr tu=0:=by rw[OM Ja];exact JU h
 rintro e w' ⟨v,rfl,ho,hb⟩;rw[show ON Gm tc tr tu=JJ Gm tc tr tu from if_pos h9]at ho
 rw[h9];obtain⟨y,rfl,hy⟩:=F9 ho (by rw[Eb];decide) (UR _ h);exact⟨y,rfl,hy,hb⟩
theorem Vv{x y:S3}{l m:List Int}{w:World}{e:TypeId}{g:Nat}(hr:w.heap[g]?=some (.cells #[x.v,y.v] e))(h0:Sl w x.v l)(h1:Sl w y.v m)(q0:l.length≤1000)(q1:m.length≤1000)(q3:0<l.length) :
  Calls prog 40 #[.slice (some ⟨g,0,none⟩) 2 2] w fun e w'=>∃ z:S3,e=.returned z.v∧Sl w' z.v (l++m)∧Nb w.heap.size z (l++m)∧Bw w w':=by
 refine(YH hr h0 h1 q0 q1 q3).mono ?_;rintro e w' ⟨v,rfl,ho,hb⟩;obtain⟨z,rfl,hz,hn⟩:=Rp ho (by rw[List.length_append];omega) (fun a ha=>(List.mem_append.1 ha).elim (h0.byte a) (h1.byte a));exact⟨z,rfl,hz,hn,hb⟩
theorem aA{x y:S3}{c n:Int}{p:List Int}{w:World}(hk:Sl w x.v (Gn c))(hp:Sl w y.v p)(ht:Cr w)(h0:0≤n)(h1:n<1073741824)(hl:p.length=42) :
  Calls prog 39 #[.agg #[x.v,iv n,iv 0,.bool false,.bool false,.bool false,.bool false,.bool false,.bool false,.bool false,.bool false],y.v] w fun e w'=>∃ u z:S3,e=.returned (.tuple #[.agg #[u.v,iv (n+1),iv 0,.bool false,.bool false,.bool false,.bool false,.bool false,.bool false,.bool false,.bool false],z.v,iv 0])∧Sl w' z.v (JA (Gn c) n p)∧Bw w w':=by
 refine(aB x.v (Gn c) n 0 noB y.v p w hk rfl hp ht (XF h0 h1 hl)).mono ?_;rintro e w' ⟨v1,v2,rfl,h2,_,ho,hb⟩;obtain⟨u,rfl,_⟩:=SM h2;obtain⟨z,rfl,hz⟩:=F9 ho (by rw[FF];omega) (Uv _ _ hp.byte);exact⟨u,z,rfl,hz,hb⟩
theorem ZP{n tc tr tu k c s m v:Int}{w:World}(h:paE n tc tr tu k c s m v=0)(hT:Tabs w) :
  Calls prog 19 #[iv n,.agg #[iv tc,iv tr,iv tu],.agg #[iv k,iv c,iv s,iv m,iv v]] w fun e w'=>∃ y:S3,e=.returned (.tuple #[y.v,iv 0])∧Sl w' y.v (paL n tc tr tu k c s m v)∧Nb w.heap.size y (paL n tc tr tu k c s m v)∧Bw w w':=by
 obtain⟨hn,hB,hC⟩:=Xi h;have hc:=(Eu hC).2;unfold InC at hc;rw[Xj h];refine kIn func19 ?_;refine kR 11 [0,0,0,0] fun σ1 w1 b1=>?_;refine kV 1 (.bool false) (rLt (x:=(.tmp 14)) (y:=(.const (iv 0))) (t:=3) (m:=n) (n:=0) (decide_eq_false (by omega))) ?_;refine kR 2 [] fun σ2 w2 b2=>?_;refine kV 4 (.bool false) (rGe (x:=(.tmp 17)) (y:=(.const (iv 1073741824))) (t:=3) (m:=n) (n:=1073741824) (decide_eq_false (by omega))) ?_;refine kR 7 [8,2,0] fun σ3 w3 b3=>?_;have B4:=(btr (btr b1 b2) b3);refine kC 0 (I3 (hT.t.below B4)) ?_;rintro _ w5 ⟨yi,rfl,hyi,b5⟩;refine⟨_,rfl,b5,?_⟩;have B7:=(btr B4 b5);refine kC 2 (Wk hyi (hT.t.below B7) hB) ?_;rintro _ w8 ⟨yt,rfl,hyt,b8⟩;refine⟨_,rfl,b8,?_⟩;refine kR 17 [6,8,10,12,14,1] fun σ9 w9 b9=>?_;have B10:=(btr (btr B7 b8) b9);refine kC 1 (VQ (m:=⟨k,c,s,m,v⟩) (hT.n.below B10) hC) ?_;rintro _ w11 ⟨yc,rfl,hyc,b11⟩;refine⟨_,rfl,b11,?_⟩;refine kR 18 [1] fun σ12 w12 b12=>?_;have B13:=(btr (btr B10 b11) b12);refine kC 2 (W7 (c:=c) (by omega) (hT.t.below B13) (if_pos (by omega))) ?_;rintro _ w14 ⟨yk,rfl,hyk,b14⟩;refine⟨_,rfl,b14,?_⟩;replace hyk:=hyk rfl;refine kR 22 [0,0] fun σ15 w15 b15=>?_;refine Af fun K=>?_;refine kC 6 (Vv (K.ats 2 (σ15 0) _ 25 .z true (by kernel_rfl)) (((((hyt.below b9).below b11).below b12).below b14).below b15) (((hyc.below b12).below b14).below b15) (by rw[Eb];decide) (by rw[DR];decide) (by rw[Eb];decide)) ?_;rintro _ w16 ⟨yp,rfl,hyp,_,b16⟩;refine⟨_,rfl,b16,?_⟩;have B18:=(btr (btr (btr B13 b14) b15) b16);refine kC 7 (aA ((hyk.below b15).below b16) hyp (hT.q.below hT.q.pos B18) hn.1 hn.2 (GP tc tr tu k c s m v)) ?_;rintro _ w19 ⟨u,z,rfl,hz,b19⟩;refine⟨_,rfl,b19,?_⟩;refine kR 21 [0,0,3,0,1] fun σ20 w20 b20=>?_;refine kV 2 (.int .u8 c) (bK (P:=prog) (src:=3) (dst:=5) (k:=.i64) (n:=c) (by kernel_rfl) underlying5 (by kernel_rfl) (by rw[IntKind.wrap_u8];omega)) ?_;refine kR 3 [0,0,0,0] fun σ21 w21 b21=>?_;refine Af fun K=>?_;have hc1:Sl w21 (S3.v ⟨some ⟨(σ21 0),0,none⟩,1,1⟩) [c]:=Sl.ofRow (l:=[c]) (K.ats 4 (σ21 0) _ 5 .z true (by kernel_rfl)) (by show 1≤_;decide) (fun a ha=>by rw[List.mem_singleton.1 ha];omega);have B22:=(btr (btr (btr B18 b19) b20) b21);refine kC 6 (Vv (x:=⟨some ⟨(σ21 0),0,none⟩,1,1⟩) (K.ats 5 (σ21 1) _ 25 .z true (by kernel_rfl)) hc1 ((hz.below b20).below b21) (by show 1≤1000;decide) (by rw[FF];show(paP tc tr tu k c s m v).length+20≤1000;rw[GP];decide) (by show 0<1;decide)) ?_;rintro _ w23 ⟨y,rfl,hy,hw,b23⟩;refine⟨_,rfl,b23,?_⟩;refine kR 3 [] fun σ24 w24 b24=>?_;have B25:=(btr (btr B22 b23) b24);exact kE (.tuple #[S3.v y,iv 0]) ⟨y,rfl,(hy.below b24),hw.mono B22.size,B25⟩
end
section
structure Gr where
 k:Int
 a:Int
 b:Int
 c:Int
 d:Int
def pkT(g:Gr):Int:=if pick g.d 17=16 then(pick g.c 4+1)%4 else pick g.c 4
def pkR(g:Gr):Int:=if pick g.d 17=15 then 0 else 7
def pkP(g:Gr):List Int:=paL (pick g.a 1000) (pkT g) (pkR g) 60 (wK g.b) (pick g.c 4) (pick g.d 6) (pick g.a 4) (wV g.b g.d)
theorem Xp(g:Gr):paE (pick g.a 1000) (pkT g) (pkR g) 60 (wK g.b) (pick g.c 4) (pick g.d 6) (pick g.a 4) (wV g.b g.d)=0:=by
 have h1:=AW g.a 1000 (by omega);have h2:=AW g.c 4 (by omega);have h3:=AW g.d 6 (by omega);have hT:CS (pkT g) (pkR g) 60:=by
  unfold CS pkT pkR;refine⟨?_,?_,by omega⟩<;>split<;>omega
 rw[dJ ⟨h1.1,by omega⟩ (JU hT)];exact bf g.b g.a g.d _ _ (by omega) (by omega)
def pkB(g:Gr):List Int:=if pick g.d 23=22∧30<(pkP g).length then(pkP g).take 30 else pkP g
def acN(k:Int)(n:Int):Lac:=⟨k,n,0,0,[]⟩
def OI(g:Gr)(cr:Bool):Lac :=
 if pick g.k 24<3 then⟨1,pick g.a 5,0,0,pkB g⟩
 else if pick g.k 24<5 then acN 2 (pick g.a 5)
 else if pick g.k 24<14 then acN 3 (pick g.a 5)
 else if pick g.k 24=14 then⟨4,0,pick g.c 20,0,[]⟩
 else if pick g.k 24=15 then⟨5,0,pick g.c 20,0,[]⟩
 else if pick g.k 24=16 then⟨6,0,pick g.c 20,0,[]⟩
 else if pick g.k 24=17∧cr=true then⟨8,pick g.a 5,0,pick g.c 90,[]⟩
 else if pick g.k 24=18∧cr=true then acN 9 (pick g.a 5)
 else acN 7 0
def XA(s:Nat)(x:Lac):Lac:=if x.k=1∧6<s+1 then acN 7 0 else x
def eh(s:Nat)(x:Lac):Nat:=if x.k=1 then s+1 else s
def NR(cr:Bool):Nat→List Gr→List Lac
 | _,[]=>[]
 | s,g::l=>XA s (OI g cr)::NR cr (eh s (OI g cr)) l
def scr(l:List Gr)(most:Nat)(cr:Bool):List Lac:=NR cr 0 (l.take most)
def Em:List Lac:=(List.range 5).map fun n:Nat=>acN 9 (n:Int)
def fp:List Lac:=(List.range 5).map (fun n:Nat=>acN 3 (n:Int))++[acN 7 0]
def Ci:Nat→List Lac
 | 0=>[]
 | m+1=>Ci m++fp
def CM(m:Nat):List Lac:=Em++Ci m
def hvy(x:Lac):Bool:=decide (x.k=1∨x.k=2∨x.k=6∨x.k=8)
def CH(l:List Lac):Nat:=100+20*(l.filter hvy).length
def Ex(m:Nat)(i:Int):List Lac:=CM 0++[acN 2 i]++CM m
def EW(l:List Lac)(i:Int):List Lac:=Ex (CH l) i++Ex (CH l) i
end
section
open Go.RowKit
section
variable{fn:Func}{R:Ending→World→Prop}{B:Nat}{T:List Tg}{g:Gh}{w:World}
theorem dg{s:Xs}(i':Nat)(r i:Nat)(hsem:CZ s i'=some (Instr.makeMap 89 none>>=fun v=>pure (.value v)))
  (hob:(nxt s i' undef s.L).o.map Ob.l'=(nxt s i' undef s.L).o.map Ob.r')
  (hk:∀ b g' w',w.heap.size≤b→AskAt g' w' (.n r i) b (fun _=>none)→(∀ B T,Cg B T g w g' w')→(∀ b,w'.heap.size≤b→g'.t b=.z∧g'.k b=0)→GG prog fn R B T (nxt s i' (.map (some b)) s.L).s g' w'):GG prog fn R B T s g w:=by
 refine K5 i' s.L hob (BI hsem) fun hK ops j o hop=>?_;have hr:(Instr.makeMap 89 none).run prog w=.ok (.map (some w.heap.size)) (w.alloc (.map #[] 0)):=by
  simp[Instr.makeMap,go_sem]
 have hC:∀ B T,Cg B T g w (Nr g w (.n r i) 0) (w.alloc (.map #[] 0)):=fun B T =>
  ⟨rfl,rfl,rfl,by simp,fun b hb=>.inl (if_neg (by omega)),fun b hb=>by show _≤(if b=w.heap.size then _ else g.k b);rw[if_neg (by omega)];exact Nat.le_refl _,fun b hb _ _=>if_neg (by omega),fun b hb _ _=>heap_alloc_old w _ hb,fun b hb j hj=>World.cell?_of_block (w:=w) (heap_alloc_old w _ hb)⟩
 have hG:∀ b,(w.alloc (.map #[] 0)).heap.size≤b→(Nr g w (.n r i) 0).t b=.z∧(Nr g w (.n r i) 0).k b=0:=fun b hb=>by
  have hb':w.heap.size+1≤b:=by simpa using hb
  show(if b=w.heap.size then _ else g.t b)=.z∧(if b=w.heap.size then _ else g.k b)=0;rw[if_neg (by omega),if_neg (by omega)];exact hK.new b (by omega)
 refine⟨.map (some w.heap.size),_,Nr g w (.n r i) 0,.inl ?_,hK.ch (hC _ []) hG (by simp),hk _ _ _ (Nat.le_refl _) ⟨if_pos rfl,if_pos rfl,[],0,heap_alloc_new _ _,fun x hx=>absurd hx List.not_mem_nil,List.nodup_nil,List.nodup_nil,fun _=>rfl⟩ hC hG⟩;rw[Dd hsem hop,Sem.run_bind,hr,Result.andThen_ok];rfl
end
def fI(a:Acc)(y:S3)(b:Nat):Array Value:=((AA 0 0 (CR.bare true [] 0 a []) (NX.mk s30 y s30 s30 s30 s30 (fun _=>s30) (some b))).toList.drop 6).toArray
theorem AR{g:Gh}{w:World}(i:Nat)(hg:∀ b,w.heap.size≤b→g.t b=.z∧g.k b=0)(a:Acc)(y:S3) :
  Calls prog 24 #[.agg #[iv a.p.r,iv a.p.n,S3.v y]] w fun e w'=>∃ (b:Nat) (g':Gh),e=.returned (.agg (fI a y b))∧AskAt g' w' (.n 5 i) b (fun _=>none)∧(∀ b,w'.heap.size≤b→g'.t b=.z∧g'.k b=0)∧Cg w.heap.size [] g w g' w':=by
 refine gI (fn:=f24) [] g func24 hg ?_;refine qR [] 8 [0,0,1,0,0] fun s1 g1 w1 c1=>?_;refine dg 1 5 i (by kernel_rfl) (by kernel_rfl) ?_;intro mb g2 w2 hmb A2 cc2 n2;have c2:=cc2 w.heap.size [];refine qR [] 3 [1,0] fun s3 g3 w3 c3=>?_;exact qE1 2 91 1 (s1 1) (fI a y mb) fun K=>⟨mb,_,rfl,(A2.ch c3),K.new,((c1.trans c2).trans c3)⟩
theorem Pends.nil(g:Gh)(w:World)(nb:Nat):Pends g w nb [] []:=⟨rfl,fun k v q h=>by cases h⟩
theorem V8{g:Gh}{w:World}{i nb ob:Nat}{p:Nod}{ls:List Let}{ts:List Tol}(h:NS i nb ob g w p ls ts)(k:Int)(hk1:-9223372036854775808≤k)(hk2:k≤9223372036854775807) :
  Calls prog 30 #[pt nb 0,iv k] w (NP i nb ob g w (.tuple #[]) (if p.up then p.crash k else p) ls ts):=by
 obtain⟨x,lt,tl,hN,hO,hg⟩:=h;refine gI (fn:=f30) (TN i) g func30 hg ?_;refine qN hN ?_;refine qO hO ?_;refine qR [] 9 [0] fun s1 g1 w1 c1=>?_;by_cases h1:p.up=true
 ·refine qI ((!p.up)) false (by simpa using h1) ?_;rw[if_pos h1];refine qR [] 8 [0] fun s2 g2 w2 c2=>?_;refine Af fun Kq=>?_;have hS:=(hN.tape.ch (c1.trans c2)).s;have hG:∀ z,w2.heap.size≤z→g2.t z=.z:=fun z hz=>(Kq.new z hz).1;refine qC 5 (V7 (s:=p.sy) (k:=k) hS hk1 hk2) ?_;rintro e' w3 ⟨tz,rfl,hy3,hn3,b3⟩;refine⟨_,rfl,b3,?_⟩;have c3:=Cg.ofBelow (B:=w.heap.size) (T:=[]) (g:=g2) b3;have htn:=IH hy3;have hts:FSl _ _ tz _:=⟨hy3,fun hl a ha=>hG _ (hn3 hl a ha)⟩;refine qR [] 13 [0,0,2,0] fun s4 g4 w4 c4=>?_;by_cases h2:Gk p.d p.sy k≠0
  ·refine qI (((Gk p.d p.sy k) != 0)) true (by simpa using h2) ?_;refine qE (.tuple #[]) fun K=>?_;rw[show p.crash k=p from if_pos h2];exact⟨_,rfl,(nsC hN hO (((c1.n c2).n c3).n c4) K),((((c1.nil (TN i)).n c2).n c3).n c4)⟩
  ·refine qI (((Gk p.d p.sy k) != 0)) false (by simpa using h2) ?_;refine qR [] 8 [7,0,2,4,8,10,12] fun s7 g7 w7 c7=>?_;refine BN 33 (fun g' w' e L=>e=[(0,pt nb 0)]∧L=[⟨nb,.cells (AA i ob (p.bare false (Jz p.d p.sy k) (J0 p.d p.sy k) Ed []) (NX.mk tz s30 s30 s30 s30 s30 (fun _=>s30) none)) 96,.n 0 i,false⟩,⟨ob,.cells #[S3.v lt,S3.v tl] 66,.n 50 0,false⟩,⟨(s4 0),.cells #[S3.v tz,iv (J0 p.d p.sy k)] 94,.z,false⟩]∧True∧Cg w.heap.size ([.n 0 i]:List Tg) g7 w7 g' w') (by kernel_rfl) ?_ ?_
   ·intro J hJ
    (exact CF 3 7 (by kernel_rfl) (by(refine qR [.n 0 i] 9 [2,15,0,1,16,18,21,0,1,22,24,27,0,1] fun s10 g10 w10 c10=>?_;exact qB [true,true,true] fun z K0 K=>hJ _ _ _ z _ ⟨rfl,rfl,trivial,c10⟩ K)) (by(refine qR [.n 0 i] 9 [0,1,7,2,16,18,21,0,1,22,24,27,0,1] fun s11 g11 w11 c11=>?_;exact qB [true,true,true] fun z K0 K=>hJ _ _ _ z _ ⟨rfl,rfl,trivial,c11⟩ K)))
   rintro g8 w8 _ z8 _ ⟨rfl,rfl,_,c8⟩;refine qE (.tuple #[]) fun K=>?_;rw[show p.crash k=(p.bare false (Jz p.d p.sy k) (J0 p.d p.sy k) Ed [])from if_neg h2];exact⟨_,rfl,⟨(NX.mk tz s30 s30 s30 s30 s30 (fun _=>s30) none),lt,tl,K.nd 0 (((hts.ch c4).ch c7).ch c8) ⟨Sv.nil _,fun h=>absurd rfl h⟩ (fun _ _=>⟨Sv.nil _,fun h=>absurd rfl h⟩) ⟨[],OwnS.nil _ _ _ _ _ _,Pends.nil _ _ _⟩ (OwnS.nil _ _ _ _ _ _) (OwnS.nil _ _ _ _ _ _) (OwnS.nil _ _ _ _ _ _) rfl (fun h=>by cases h),hO.ch ((((((c1.nil ([.n 0 i]:List Tg)).n c2).n c3).n c4).n c7).trans (c8)) (hn:=by simp<;>omega),K.new⟩,((((((c1.nil (TN i)).n c2).n c3).n c4).n c7).trans (c8.mono (by simp[TN])))⟩
 ·refine qI ((!p.up)) true (by simpa using h1) ?_;refine qE (.tuple #[]) fun K=>?_;rw[if_neg h1];exact⟨_,rfl,(nsC hN hO c1 K),(c1.nil (TN i))⟩
def nx0(b:Nat):NX:=NX.mk s30 s30 s30 s30 s30 s30 (fun _=>s30) (some b)
theorem Pc{g:Gh}{w:World}{i nb ob b:Nat}(hr:w.heap[nb]?=some (.cells (AA i ob CR (nx0 b)) 96))(ht:g.t nb=.n 0 i)(hk:g.k nb=0)(hA:AskAt g w (.n 5 i) b (fun _=>none)):NodeAt g w i nb ob (nx0 b) CR :=
 ⟨hr,ht,hk,⟨⟨⟨none,0,rfl,Nat.le_refl _,fun _=>rfl,.inl rfl⟩,by simp[CR],by simp[CR]⟩,fun h=>absurd rfl h⟩,⟨Sv.nil _,fun h=>absurd rfl h⟩,fun _ _=>⟨Sv.nil _,fun h=>absurd rfl h⟩,⟨[],OwnS.nil _ _ _ _ _ _,Pends.nil _ _ _⟩,OwnS.nil _ _ _ _ _ _,OwnS.nil _ _ _ _ _ _,OwnS.nil _ _ _ _ _ _,hA,fun _=>⟨b,rfl⟩⟩
def nbF(a b c d e:Nat):Nat→Nat
 | 0=>a
 | 1=>b
 | 2=>c
 | 3=>d
 | _=>e
theorem KJ{g:Gh}{w:World}(hg:∀ b,w.heap.size≤b→g.t b=.z∧g.k b=0) :
  Calls prog 15 #[] w fun e w'=>∃ (mb tb ob:Nat) (nb:Nat→Nat) (g':Gh),e=.returned (pt mb 0)∧MS mb tb ob nb g' w' BS∧Cg w.heap.size [.n 70 0] g w g' w':=by
 refine gI (fn:=f15) [.n 70 0] g func15 hg ?_;refine qR [] 8 [52,0] fun s1 g1 w1 c1=>?_;refine Af fun K=>?_;refine qG 2 [.n 70 0] [true] (RO K.new) ?_;rintro e' w2 ⟨tb,g2,rfl,A2,n2,c2⟩;refine⟨_,g2,rfl,c2,n2,?_⟩;replace c2:=c2.ret (B:=w.heap.size);refine qR [] 10 [1,0] fun s3 g3 w3 c3=>?_;refine bF 5 27 [(1,pt (s3 0) 0),(8,iv 0)] [true,true] [⟨(s1 0),.cells #[sn,sn] 66,.n 50 0,false⟩,⟨(s3 0),.cells #[.pointer none,.pointer none,.pointer none,.pointer none,.pointer none,pt (s1 0) 0,.map (some tb)] 72,.l,false⟩] (by kernel_rfl) (by kernel_rfl) (by kernel_rfl) (by kernel_rfl) fun J4 hJ4 z=>?_;refine qR [] 25 [14,0,2,4,6,8,10,12,1,14,22,24] fun s5 g5 w5 c5=>?_;refine Af fun K=>?_;refine qG 8 [] [true,true] (AR 0 K.new Ed s30) ?_;rintro e' w6 ⟨b6,g6,rfl,A6,n6,c6⟩;refine⟨_,g6,rfl,c6,n6,?_⟩;replace c6:=c6.ret (B:=w.heap.size);refine qR [] 10 [18,21,2,0,26,29,1,0] fun s7 g7 w7 c7=>?_;refine DS (J4 5) 27 [(1,pt (s3 0) 0),(8,iv 1)] [true,true,true] [⟨(s1 0),.cells #[sn,sn] 66,.n 50 0,false⟩,⟨(s3 0),.cells #[pt (s7 0) 0,.pointer none,.pointer none,.pointer none,.pointer none,pt (s1 0) 0,.map (some tb)] 72,.l,false⟩,⟨(s7 0),.cells (AA 0 (s1 0) CR (nx0 b6)) 96,.n 0 0,false⟩] (by kernel_rfl) (by kernel_rfl) (by kernel_rfl) (by kernel_rfl) (by kernel_rfl) fun z K0 K=>hJ4 4 _ _ _ _ _ ?_ K;refine qR [] 25 [14,0,2,4,6,8,10,12,1,14,22,24] fun s8 g8 w8 c8=>?_;refine Af fun K=>?_;refine qG 8 [] [true,true,true] (AR 1 K.new Ed s30) ?_;rintro e' w9 ⟨b9,g9,rfl,A9,n9,c9⟩;refine⟨_,g9,rfl,c9,n9,?_⟩;replace c9:=c9.ret (B:=w.heap.size);refine qR [] 10 [18,21,2,1,26,29,1,0] fun s10 g10 w10 c10=>?_;refine DS (J4 4) 27 [(1,pt (s3 0) 0),(8,iv 2)] [true,true,true,true] [⟨(s1 0),.cells #[sn,sn] 66,.n 50 0,false⟩,⟨(s3 0),.cells #[pt (s7 0) 0,pt (s10 0) 0,.pointer none,.pointer none,.pointer none,pt (s1 0) 0,.map (some tb)] 72,.l,false⟩,⟨(s7 0),.cells (AA 0 (s1 0) CR (nx0 b6)) 96,.n 0 0,false⟩,⟨(s10 0),.cells (AA 1 (s1 0) CR (nx0 b9)) 96,.n 0 1,false⟩] (by kernel_rfl) (by kernel_rfl) (by kernel_rfl) (by kernel_rfl) (by kernel_rfl) fun z K0 K=>hJ4 3 _ _ _ _ _ ?_ K;refine qR [] 25 [14,0,2,4,6,8,10,12,1,14,22,24] fun s11 g11 w11 c11=>?_;refine Af fun K=>?_;refine qG 8 [] [true,true,true,true] (AR 2 K.new Ed s30) ?_;rintro e' w12 ⟨b12,g12,rfl,A12,n12,c12⟩;refine⟨_,g12,rfl,c12,n12,?_⟩;replace c12:=c12.ret (B:=w.heap.size);refine qR [] 10 [18,21,2,2,26,29,1,0] fun s13 g13 w13 c13=>?_;refine DS (J4 3) 27 [(1,pt (s3 0) 0),(8,iv 3)] [true,true,true,true,true] [⟨(s1 0),.cells #[sn,sn] 66,.n 50 0,false⟩,⟨(s3 0),.cells #[pt (s7 0) 0,pt (s10 0) 0,pt (s13 0) 0,.pointer none,.pointer none,pt (s1 0) 0,.map (some tb)] 72,.l,false⟩,⟨(s7 0),.cells (AA 0 (s1 0) CR (nx0 b6)) 96,.n 0 0,false⟩,⟨(s10 0),.cells (AA 1 (s1 0) CR (nx0 b9)) 96,.n 0 1,false⟩,⟨(s13 0),.cells (AA 2 (s1 0) CR (nx0 b12)) 96,.n 0 2,false⟩] (by kernel_rfl) (by kernel_rfl) (by kernel_rfl) (by kernel_rfl) (by kernel_rfl) fun z K0 K=>hJ4 2 _ _ _ _ _ ?_ K;refine qR [] 25 [14,0,2,4,6,8,10,12,1,14,22,24] fun s14 g14 w14 c14=>?_;refine Af fun K=>?_;refine qG 8 [] [true,true,true,true,true] (AR 3 K.new Ed s30) ?_;rintro e' w15 ⟨b15,g15,rfl,A15,n15,c15⟩;refine⟨_,g15,rfl,c15,n15,?_⟩;replace c15:=c15.ret (B:=w.heap.size);refine qR [] 10 [18,21,2,3,26,29,1,0] fun s16 g16 w16 c16=>?_;refine DS (J4 2) 27 [(1,pt (s3 0) 0),(8,iv 4)] [true,true,true,true,true,true] [⟨(s1 0),.cells #[sn,sn] 66,.n 50 0,false⟩,⟨(s3 0),.cells #[pt (s7 0) 0,pt (s10 0) 0,pt (s13 0) 0,pt (s16 0) 0,.pointer none,pt (s1 0) 0,.map (some tb)] 72,.l,false⟩,⟨(s7 0),.cells (AA 0 (s1 0) CR (nx0 b6)) 96,.n 0 0,false⟩,⟨(s10 0),.cells (AA 1 (s1 0) CR (nx0 b9)) 96,.n 0 1,false⟩,⟨(s13 0),.cells (AA 2 (s1 0) CR (nx0 b12)) 96,.n 0 2,false⟩,⟨(s16 0),.cells (AA 3 (s1 0) CR (nx0 b15)) 96,.n 0 3,false⟩] (by kernel_rfl) (by kernel_rfl) (by kernel_rfl) (by kernel_rfl) (by kernel_rfl) fun z K0 K=>hJ4 1 _ _ _ _ _ ?_ K;refine qR [] 25 [14,0,2,4,6,8,10,12,1,14,22,24] fun s17 g17 w17 c17=>?_;refine Af fun K=>?_;refine qG 8 [] [true,true,true,true,true,true] (AR 4 K.new Ed s30) ?_;rintro e' w18 ⟨b18,g18,rfl,A18,n18,c18⟩;refine⟨_,g18,rfl,c18,n18,?_⟩;replace c18:=c18.ret (B:=w.heap.size);refine qR [] 10 [18,21,2,4,26,29,1,0] fun s19 g19 w19 c19=>?_;refine DS (J4 1) 27 [(1,pt (s3 0) 0),(8,iv 5)] [true,true,true,true,true,true,true] [⟨(s1 0),.cells #[sn,sn] 66,.n 50 0,false⟩,⟨(s3 0),.cells #[pt (s7 0) 0,pt (s10 0) 0,pt (s13 0) 0,pt (s16 0) 0,pt (s19 0) 0,pt (s1 0) 0,.map (some tb)] 72,.l,false⟩,⟨(s7 0),.cells (AA 0 (s1 0) CR (nx0 b6)) 96,.n 0 0,false⟩,⟨(s10 0),.cells (AA 1 (s1 0) CR (nx0 b9)) 96,.n 0 1,false⟩,⟨(s13 0),.cells (AA 2 (s1 0) CR (nx0 b12)) 96,.n 0 2,false⟩,⟨(s16 0),.cells (AA 3 (s1 0) CR (nx0 b15)) 96,.n 0 3,false⟩,⟨(s19 0),.cells (AA 4 (s1 0) CR (nx0 b18)) 96,.n 0 4,false⟩] (by kernel_rfl) (by kernel_rfl) (by kernel_rfl) (by kernel_rfl) (by kernel_rfl) fun z K0 K=>hJ4 0 _ _ _ _ _ ?_ K;refine qR [] 12 [] fun s20 g20 w20 c20=>?_;refine fA 1 (s3 0) (by kernel_rfl) fun g21 c21=>?_;refine qE (pt (s3 0) 0) fun K=>⟨(s3 0),tb,(s1 0),(nbF (s7 0) (s10 0) (s13 0) (s16 0) (s19 0)),_,rfl,?_,((((((((((((((((((((c1.nil [.n 70 0]).trans c2).n c3).n c5).n c6).n c7).n c8).n c9).n c10).n c11).n c12).n c13).n c14).n c15).n c16).n c17).n c18).n c19).n c20).n c21)⟩;obtain⟨z1,z2⟩:=K.isZ 1 (s3 0) (.cells (mtA (nbF (s7 0) (s10 0) (s13 0) (s16 0) (s19 0)) (s1 0) tb) 72) false (by kernel_rfl);obtain⟨o1,o2,o3⟩:=K.isN 0 (s1 0) (.cells #[S3.v s30,S3.v s30] 66) 50 0 (by kernel_rfl);obtain⟨q0,r0,t0⟩:=K.isN 2 (s7 0) (.cells (AA 0 (s1 0) CR (nx0 b6)) 96) 0 0 (by kernel_rfl);obtain⟨q1,r1,t1⟩:=K.isN 3 (s10 0) (.cells (AA 1 (s1 0) CR (nx0 b9)) 96) 0 1 (by kernel_rfl);obtain⟨q2,r2,t2⟩:=K.isN 4 (s13 0) (.cells (AA 2 (s1 0) CR (nx0 b12)) 96) 0 2 (by kernel_rfl);obtain⟨q3,r3,t3⟩:=K.isN 5 (s16 0) (.cells (AA 3 (s1 0) CR (nx0 b15)) 96) 0 3 (by kernel_rfl);obtain⟨q4,r4,t4⟩:=K.isN 6 (s19 0) (.cells (AA 4 (s1 0) CR (nx0 b18)) 96) 0 4 (by kernel_rfl);refine⟨⟨z1,z2⟩,((((((((((((((((((A2.ch c3).ch c5).ch c6).ch c7).ch c8).ch c9).ch c10).ch c11).ch c12).ch c13).ch c14).ch c15).ch c16).ch c17).ch c18).ch c19).ch c20).ch c21),fun i hi=>?_,⟨s30,s30,o1,o2,o3,⟨[],OwnS.nil _ _ _ _ _ _,⟨rfl,fun k b m h=>(by cases h)⟩⟩,OwnS.nil _ _ _ _ _ _⟩,K.new⟩;rcases five hi with rfl|rfl|rfl|rfl|rfl
 ·exact⟨_,Pc q0 r0 t0 (((((((((((((((A6.ch c7).ch c8).ch c9).ch c10).ch c11).ch c12).ch c13).ch c14).ch c15).ch c16).ch c17).ch c18).ch c19).ch c20).ch c21)⟩
 ·exact⟨_,Pc q1 r1 t1 ((((((((((((A9.ch c10).ch c11).ch c12).ch c13).ch c14).ch c15).ch c16).ch c17).ch c18).ch c19).ch c20).ch c21)⟩
 ·exact⟨_,Pc q2 r2 t2 (((((((((A12.ch c13).ch c14).ch c15).ch c16).ch c17).ch c18).ch c19).ch c20).ch c21)⟩
 ·exact⟨_,Pc q3 r3 t3 ((((((A15.ch c16).ch c17).ch c18).ch c19).ch c20).ch c21)⟩
 ·exact⟨_,Pc q4 r4 t4 (((A18.ch c19).ch c20).ch c21)⟩
theorem Yt{g:Gh}{w:World}{i nb ob:Nat}{p:Nod}{ls:List Let}{ts:List Tol}(h:NS i nb ob g w p ls ts)(hup:p.up=true)(hw:p.wants.length<100000000)(c:Cmd) :
  Calls prog 54 #[pt nb 0,.agg #[iv c.k,iv c.c,iv c.s,iv c.n,iv c.v]] w (NP i nb ob g w (.tuple #[]) (p.want c) ls ts):=by
 obtain⟨x,lt,tl,hN,hO,hg⟩:=h;obtain⟨mb,hmb⟩:=hN.upm hup;obtain⟨x0,rfl⟩:∃ x0:NX,x={ x0 with asked:=some mb }:=⟨x,by cases x;simp only at hmb;subst hmb;rfl⟩;clear hmb;have hA:AskAt g w (.n 5 i) mb p.asked:=hN.askSome rfl;refine gI (fn:=f54) (TN i) g func54 hg ?_;refine qN hN ?_;refine qO hO ?_;obtain⟨ht5,hk5,es,ck,hr5,hes⟩:=id hA;refine Hl mb _ 5 i hr5 ht5 hk5 (by kernel_rfl) ?_;refine qR [] 13 [0,0,13,0,2,4,6,8,0,10,3] fun s1 g1 w1 c1=>?_;refine qU 6 (.tuple #[.agg #[iv ((p.asked c).getD CB).r,iv ((p.asked c).getD CB).n],.bool (p.asked c).isSome]) (fun W hW=>(Xy (g:=g) (τ:=.n 5 i) (b:=mb) (f:=p.asked) ⟨ht5,hk5,es,ck,AM.at (hW rfl) 2 mb (.map (es.map mkA).toArray ck) (.n 5 i) (by kernel_rfl),hes⟩ c)) ?_;refine qR [] 11 [14,16,18,21,0,0,23,4,0,24] fun s2 g2 w2 c2=>?_;by_cases h1:(p.asked c).isSome=true
 ·refine qI ((p.asked c).isSome) true h1 ?_;refine qE (.tuple #[]) fun K=>?_;rw[show p.want c=p from if_pos h1];have C4:=c1.n c2;exact⟨_,rfl,⟨({ x0 with asked:=some mb }:NX),lt,tl,hN.ch C4,hO.ch C4,K.new⟩,((c1.nil (TN i)).n c2)⟩
 ·refine qI ((p.asked c).isSome) false (by simpa using h1) ?_;refine Hm [true,true,false,true,true] ?_;have hwn:x0.wants.n=p.wants.length:=hN.wants.num;refine qR [] 11 [12,0,2,4,6,8,10,0,12,2,15,0,0] fun s5 g5 w5 c5=>?_;refine J3 8 (x:=({ x0 with asked:=some mb }:NX).wants) 38 38 41 5 40 (.agg #[iv 0,iv 0,iv 0,iv 0,iv 0]) ⟨(s5 0),0,none⟩ 1 1 [iv c.k,iv c.c,iv c.s,iv c.n,iv c.v] (hN.wants.ch ((c1.trans c2).trans c5) (by simp) (by simp)) (by kernel_rfl) (by kernel_rfl) (by kernel_rfl) underlying38 (by kernel_rfl) (by kernel_rfl) (by decide) (by decide) rfl (by simp[Value.oneCell']) (fun K=>BT K 4 (s5 0) [iv c.k,iv c.c,iv c.s,iv c.n,iv c.v] 41 .z true (by kernel_rfl)) (by show x0.wants.n+1≤_;unfold maxLen;omega) (by show(x0.wants.n+1)*40≤_;omega) ?_;intro y6 g6 w6 a6 n6 cc6 G6;have c6:=cc6 w.heap.size [.n 4 i] (List.mem_singleton.2 rfl);refine qR [.n 0 i] 13 [18,20,22,25,0,1,8,0,2,4,6,8,0,10,2,12] fun s7 g7 w7 c7=>?_;refine Sq 7 (τ:=.n 5 i) (b:=mb) c CB (((((hA.ch c1).ch c2).ch c5).ch c6).ch c7) (by kernel_rfl) (by kernel_rfl) (by kernel_rfl) ?_;intro w8 A8 cc8;have c8:=cc8 w.heap.size [.n 5 i] (List.mem_singleton.2 rfl);refine qR [] 1 [] fun s9 g9 w9 c9=>?_;refine qE (.tuple #[]) fun K=>?_;rw[show p.want c={ p with wants:=p.wants++[c],asked:=Eo p.asked c (some CB) }from if_neg h1];have C10:=((((((c1.nil ([.n 4 i,.n 0 i,.n 5 i]:List Tg)).n c2).n c5).m c6).m c7).m c8).n c9;have Z10:Tg.z∉([.n 4 i,.n 0 i,.n 5 i]:List Tg):=by simp
  exact⟨_,rfl,⟨({ x0 with asked:=some mb,wants:=y6 }:NX),lt,tl,K.nd 0 (hN.tape.ch C10 Z10) (hN.votes.ch C10 Z10) (Bi hN.heard C10 Z10) (BF hN.pend C10 Z10 (by simp)) (hN.queue.ch C10) (hN.agreed.ch C10) (by rw[BR];exact(((a6.ch c7).ch c8).ch c9)) (A8.ch c9) (fun _=>⟨mb,rfl⟩),hO.ch C10 Z10 (by simp<;>omega),K.new⟩,(((((((c1.nil (TN i)).n c2).n c5).trans (c6.mono (by simp[TN]))).trans (c7.mono (by simp[TN]))).trans (c8.mono (by simp[TN]))).n c9)⟩
theorem MY(n g:Int)(w:World) :
  Calls prog 128 #[.int .i64 n,.int .i64 g] w fun e w'=>e=.returned (.bool (decide (0≤n∧n≤g)))∧w'=w:=by
 by_cases h0:0≤n
 ·by_cases h1:n≤g
  ·rw[decide_eq_true (show 0≤n∧n≤g from⟨h0,h1⟩)];go_enter func128,ntmps128
   go_wp2
   go_ret;exact⟨rfl,rfl⟩
  ·rw[decide_eq_false (show ¬ (0≤n∧n≤g)from fun h=>h1 h.2)];go_enter func128,ntmps128
   go_wp2
   go_ret;exact⟨rfl,rfl⟩
 ·rw[decide_eq_false (show ¬ (0≤n∧n≤g)from fun h=>h0 h.1)];go_enter func128,ntmps128
  go_wp2
  go_ret;exact⟨rfl,rfl⟩
theorem RR(s:Sto)(w:World) :
  Calls prog 97 #[.agg (stA s)] w fun e w'=>e=.returned (.int .i64 (Ma s))∧Bw w w':=by
 have bb:Bw w (w.alloc (.cells (stA s) 88)):=(Below.refl _ _).alloc (Nat.le_refl _) _;have hS:Bs (w.alloc (.cells (stA s) 88)) w.heap.size s:=heap_alloc_new _ _;generalize hW:w.alloc (.cells (stA s) 88)=W at bb hS;go_enter func97,ntmps97
 go_wp2_with ((with_reducible (refine En ?_));(refine FR rfl _ rfl w.heap.size 0 rfl s.V hS.rangeV ?_))
 clear hW
 go_loopw [9] (fun iv wr=>∃ i:Nat,i≤8∧iv=.int .i64 (i:Int)∧Hid (∀ j,j<i→VaB (s.V j))∧W=wr) (fun iv _=>(8-intOf iv).toNat)
 case atStart=>exact⟨0,by omega,rfl,fun j hj=>by omega,rfl⟩
 case round =>
  obtain⟨i,hi,rfl,hb,rfl⟩:=hrel;by_cases hlt:i<8
  ·have hlt':(i:Int)<8:=by omega
   have hix:=SX s.V i hlt;go_wp2_with fail
   refine(MY (s.V i) 1073741824 _).mono ?_;rintro e w1 ⟨rfl,rfl⟩;by_cases hv:0≤s.V i∧s.V i≤1073741824
   ·rw[decide_eq_true hv];have hB:Hid (∀ j,j<i+1→VaB (s.V j)):=fun j hj=>by
     by_cases h:j=i
     ·subst h;exact hv
     ·exact hb.out j (by omega)
    clear hv hix hb;go_wp2
    go_roundw
    case rel=>exact⟨i+1,by omega,by go_num,hB,by simp⟩
    case measure=>simp[intOf];omega
   ·rw[decide_eq_false hv];have hE:Hid (Ma s=5):=JS (fun h=>hv (h.1 i hlt));clear hv hix hb;go_wp2
    go_ret;rw[hE.out];exact⟨rfl,bb⟩
  ·obtain rfl:i=8:=by omega
   clear hlt hi;go_wp2_with ((with_reducible (refine En ?_));(refine FR rfl _ rfl w.heap.size 8 rfl s.L hS.rangeL ?_))
   go_loopw [18] (fun iv wr=>∃ i:Nat,i≤8∧iv=.int .i64 (i:Int)∧Hid (∀ j,j<i→ClB (s.L j) (s.C j) (s.A j))∧W=wr) (fun iv _=>(8-intOf iv).toNat)
   case atStart=>exact⟨0,by omega,rfl,fun j hj=>by omega,rfl⟩
   case round =>
    obtain⟨i,hi,rfl,hc,rfl⟩:=hrel;by_cases hlt:i<8
    ·have hlt':(i:Int)<8:=by omega
     have hix:=SX s.L i hlt;go_wp2_with fail
     refine(MY (s.L i) 1048577 _).mono ?_;rintro e w1 ⟨rfl,rfl⟩;by_cases hv:0≤s.L i∧s.L i≤1048577
     ·rw[decide_eq_true hv];have c0:=hS.cellC i hlt;have c1:=hS.cellA i hlt;have i0:(0:Int)≤(i:Int):=by omega
      by_cases h0:s.L i=0
      ·rw[h0];by_cases hca:s.C i=0∧s.A i=0
       ·rw[hca.1]at c0
        rw[hca.2]at c1
        have hB:Hid (∀ j,j<i+1→ClB (s.L j) (s.C j) (s.A j)):=fun j hj=>by
         by_cases h:j=i
         ·subst h;exact⟨hv,fun _=>hca⟩
         ·exact hc.out j (by omega)
        clear hv hix hca h0 hc;go_wp2
        go_roundw
        case rel=>exact⟨i+1,by omega,by go_num,hB,by simp⟩
        case measure=>simp[intOf];omega
       ·have hE:Hid (Ma s=5):=JS (fun h=>hca ((h.2 i hlt).2 h0));have hne:=ZB (s.C i) (s.A i);rw[decide_eq_false hca]at hne
        clear hv hix hca h0 hc hb;go_wp2
        go_ret;rw[hE.out];exact⟨rfl,bb⟩
      ·have hB:Hid (∀ j,j<i+1→ClB (s.L j) (s.C j) (s.A j)):=fun j hj=>by
        by_cases h:j=i
        ·subst h;exact⟨hv,fun g=>absurd g h0⟩
        ·exact hc.out j (by omega)
       have hne:(s.L i==0)=false:=by simpa using h0
       clear hv hix hc;go_wp2
       go_roundw
       case rel=>exact⟨i+1,by omega,by go_num,hB,by simp⟩
       case measure=>simp[intOf];omega
     ·rw[decide_eq_false hv];have hE:Hid (Ma s=5):=JS (fun h=>hv (h.2 i hlt).1);clear hv hix hb hc;go_wp2
      go_ret;rw[hE.out];exact⟨rfl,bb⟩
    ·obtain rfl:i=8:=by omega
     have hE:Hid (Ma s=0):=aD ⟨hb.out,hc.out⟩;clear hlt hi hc hb;go_wp2
     go_ret;rw[hE.out];exact⟨rfl,bb⟩
theorem lt8{i:Nat}(h:i<8):i=0∨i=1∨i=2∨i=3∨i=4∨i=5∨i=6∨i=7:=by omega
theorem cC(s:Sto)(ci ni:Nat)(q v:Int)(w:World)(hc:ci<8)(hn:ni<8)(q0:0≤q)(q1:q≤1048576) :
  Calls prog 129 #[.agg (stA s),.agg #[iv 1,iv (ci:Int),iv q,iv (ni:Int),iv v]] w fun e w'=>e=.returned (.tuple #[.agg (stA (NC s ⟨1,ci,q,ni,v⟩)),.agg #[iv 0,iv (LS s ⟨1,ci,q,ni,v⟩)]])∧Bw w w':=by
 have hgz:∀ b,w.heap.size≤b→gS.t b=.z∧gS.k b=0:=fun _ _=>⟨rfl,rfl⟩;refine gI (fn:=f129) [] gS func129 hgz ?_;refine qR [] 26 [1,0,0,0,1,0,1,0,1,0,1] fun σ1 g1 w1 c1=>?_;refine BN 48 (fun g' w' e L=>e=[(2,pt (σ1 0) 0),(3,pt (σ1 1) 0),(4,pt (σ1 2) 0),(5,pt (σ1 3) 0),(6,pt (σ1 4) 0)]∧L=[⟨(σ1 0),.cells (stA ({ s with V:=Bl s.V ni v })) 88,.l,false⟩,⟨(σ1 1),.cells #[iv 1,iv (ci:Int),iv q,iv (ni:Int),iv v] 41,.z,false⟩,⟨(σ1 2),.cells (stA FL) 88,.l,false⟩,⟨(σ1 3),.cells #[iv 0,iv 0] 84,.l,false⟩,⟨(σ1 4),.cells #[iv 0,iv 0] 84,.l,false⟩]∧True∧Cg w.heap.size ([]:List Tg) g1 w1 g' w') (by kernel_rfl) ?_ ?_
 ·intro J hJ;rcases lt8 hn with rfl|rfl|rfl|rfl|rfl|rfl|rfl|rfl <;>
  (refine qR [] 8 [1,1,0,0] fun σ3 g3 w3 c3=>?_;exact qB [true,true,true,true,true] fun z K0 K=>hJ _ _ _ z _ ⟨rfl,rfl,trivial,(c3.nil ([]:List Tg))⟩ K)
 rintro g2 w2 _ z2 _ ⟨rfl,rfl,_,c2⟩;refine qR [] 13 [1,4,0,1,1] fun σ4 g4 w4 c4=>?_;refine qV 4 (iv (q+1)) (AF (x:=(.tmp 37)) (y:=(.const (iv 1))) q 1 underlying3 (by omega)) ?_;refine BN 48 (fun g' w' e L=>e=[(2,pt (σ1 0) 0),(3,pt (σ1 1) 0),(4,pt (σ1 2) 0),(5,pt (σ1 3) 0),(6,pt (σ1 4) 0)]∧L=[⟨(σ1 0),.cells (stA (Sto.mk (Bl s.V ni v) (Bl s.L ci (q+1)) s.C s.A s.R)) 88,.l,false⟩,⟨(σ1 1),.cells #[iv 1,iv (ci:Int),iv q,iv (ni:Int),iv v] 41,.z,false⟩,⟨(σ1 2),.cells (stA FL) 88,.l,false⟩,⟨(σ1 3),.cells #[iv 0,iv 0] 84,.l,false⟩,⟨(σ1 4),.cells #[iv 0,iv v] 84,.l,false⟩]∧True∧Cg w.heap.size ([]:List Tg) g4 w4 g' w') (by kernel_rfl) ?_ ?_
 ·intro J hJ;rcases lt8 hc with rfl|rfl|rfl|rfl|rfl|rfl|rfl|rfl <;>
  (refine qR [] 4 [0,0] fun σ6 g6 w6 c6=>?_;exact qB [true,true,true,true,true] fun z K0 K=>hJ _ _ _ z _ ⟨rfl,rfl,trivial,(c6.nil ([]:List Tg))⟩ K)
 rintro g5 w5 _ z5 _ ⟨rfl,rfl,_,c5⟩;refine qR [] 2 [] fun σ7 g7 w7 c7=>?_;refine BN 48 (fun g' w' e L=>e=[(2,pt (σ1 0) 0),(3,pt (σ1 1) 0),(4,pt (σ1 2) 0),(5,pt (σ1 3) 0),(6,pt (σ1 4) 0)]∧L=[⟨(σ1 0),.cells (stA (Sto.mk (Bl s.V ni v) (Bl s.L ci (q+1)) (Bl s.C ci 0) (Bl s.A ci v) s.R)) 88,.l,false⟩,⟨(σ1 1),.cells #[iv 1,iv (ci:Int),iv q,iv (ni:Int),iv v] 41,.z,false⟩,⟨(σ1 2),.cells (stA FL) 88,.l,false⟩,⟨(σ1 3),.cells #[iv 0,iv 0] 84,.l,false⟩,⟨(σ1 4),.cells #[iv 0,iv v] 84,.l,false⟩]∧True∧Cg w.heap.size ([]:List Tg) g7 w7 g' w') (by kernel_rfl) ?_ ?_
 ·intro J hJ;rcases lt8 hc with rfl|rfl|rfl|rfl|rfl|rfl|rfl|rfl <;>
  (refine qR [] 7 [1,4,0,0] fun σ9 g9 w9 c9=>?_;exact qB [true,true,true,true,true] fun z K0 K=>hJ _ _ _ z _ ⟨rfl,rfl,trivial,(c9.nil ([]:List Tg))⟩ K)
 rintro g8 w8 _ z8 _ ⟨rfl,rfl,_,c8⟩;refine qR [] 3 [2,0,0] fun σ10 g10 w10 c10=>?_;refine BN 48 (fun g' w' e L=>e=[(2,pt (σ1 0) 0),(3,pt (σ1 1) 0),(4,pt (σ1 2) 0),(5,pt (σ1 3) 0),(6,pt (σ1 4) 0)]∧L=[⟨(σ1 0),.cells (stA (Sto.mk (Bl s.V ni v) (Bl s.L ci (q+1)) (Bl s.C ci 0) (Bl s.A ci v) s.R)) 88,.l,false⟩,⟨(σ1 1),.cells #[iv 1,iv (ci:Int),iv q,iv (ni:Int),iv v] 41,.z,false⟩,⟨(σ1 2),.cells (stA (Sto.mk (Bl s.V ni v) (Bl s.L ci (q+1)) (Bl s.C ci 0) (Bl s.A ci v) s.R)) 88,.l,false⟩,⟨(σ1 3),.cells #[iv 0,iv v] 84,.l,false⟩,⟨(σ1 4),.cells #[iv 0,iv v] 84,.l,false⟩]∧True∧Cg w.heap.size ([]:List Tg) g10 w10 g' w') (by kernel_rfl) ?_ ?_
 ·intro J hJ
  (exact CF 1 2 (by kernel_rfl) (by(refine qR [] 4 [4,5,2,0,7,3,0] fun σ13 g13 w13 c13=>?_;exact qB [true,true,true,true,true] fun z K0 K=>hJ _ _ _ z _ ⟨rfl,rfl,trivial,(c13.nil ([]:List Tg))⟩ K)) (by(refine qR [] 4 [2,0,3,4,7,3,0] fun σ14 g14 w14 c14=>?_;exact qB [true,true,true,true,true] fun z K0 K=>hJ _ _ _ z _ ⟨rfl,rfl,trivial,(c14.nil ([]:List Tg))⟩ K)))
 rintro g11 w11 _ z11 _ ⟨rfl,rfl,_,c11⟩;exact qE4 4 5 88 84 2 (σ1 2) 3 (σ1 3) (stA (NC s ⟨1,ci,q,ni,v⟩)) #[iv 0,iv (LS s ⟨1,ci,q,ni,v⟩)] fun K=>⟨rfl,Cg.below (((((((c1.trans c2).trans c4).trans c5).trans c7).trans c8).trans c10).trans c11) (fun _ _=>List.not_mem_nil)⟩
theorem cD(s:Sto)(ci ni:Nat)(q v:Int)(w:World)(hc:ci<8)(hn:ni<8)(q0:0≤q)(q1:q≤1048576) :
  Calls prog 129 #[.agg (stA s),.agg #[iv 2,iv (ci:Int),iv q,iv (ni:Int),iv v]] w fun e w'=>e=.returned (.tuple #[.agg (stA (NC s ⟨2,ci,q,ni,v⟩)),.agg #[iv 0,iv (LS s ⟨2,ci,q,ni,v⟩)]])∧Bw w w':=by
 have hgz:∀ b,w.heap.size≤b→gS.t b=.z∧gS.k b=0:=fun _ _=>⟨rfl,rfl⟩;refine gI (fn:=f129) [] gS func129 hgz ?_;refine qR [] 31 [1,0,0,0,1,0,1,0,1,0,1] fun σ1 g1 w1 c1=>?_;refine BN 48 (fun g' w' e L=>e=[(2,pt (σ1 0) 0),(3,pt (σ1 1) 0),(4,pt (σ1 2) 0),(5,pt (σ1 3) 0),(6,pt (σ1 4) 0)]∧L=[⟨(σ1 0),.cells (stA s) 88,.l,false⟩,⟨(σ1 1),.cells #[iv 2,iv (ci:Int),iv q,iv (ni:Int),iv v] 41,.z,false⟩,⟨(σ1 2),.cells (stA FL) 88,.l,false⟩,⟨(σ1 3),.cells #[iv 0,iv 0] 84,.l,false⟩,⟨(σ1 4),.cells #[iv 0,iv (s.V ni)] 84,.l,false⟩]∧True∧Cg w.heap.size ([]:List Tg) g1 w1 g' w') (by kernel_rfl) ?_ ?_
 ·intro J hJ;rcases lt8 hn with rfl|rfl|rfl|rfl|rfl|rfl|rfl|rfl <;>
  (refine qR [] 8 [1,0,4,0] fun σ3 g3 w3 c3=>?_;exact qB [true,true,true,true,true] fun z K0 K=>hJ _ _ _ z _ ⟨rfl,rfl,trivial,(c3.nil ([]:List Tg))⟩ K)
 rintro g2 w2 _ z2 _ ⟨rfl,rfl,_,c2⟩;refine qR [] 7 [1,1] fun σ4 g4 w4 c4=>?_;refine qV 4 (iv (q+1)) (AF (x:=(.tmp 37)) (y:=(.const (iv 1))) q 1 underlying3 (by omega)) ?_;refine BN 48 (fun g' w' e L=>e=[(2,pt (σ1 0) 0),(3,pt (σ1 1) 0),(4,pt (σ1 2) 0),(5,pt (σ1 3) 0),(6,pt (σ1 4) 0)]∧L=[⟨(σ1 0),.cells (stA (Sto.mk s.V (Bl s.L ci (q+1)) s.C s.A s.R)) 88,.l,false⟩,⟨(σ1 1),.cells #[iv 2,iv (ci:Int),iv q,iv (ni:Int),iv v] 41,.z,false⟩,⟨(σ1 2),.cells (stA FL) 88,.l,false⟩,⟨(σ1 3),.cells #[iv 0,iv 0] 84,.l,false⟩,⟨(σ1 4),.cells #[iv 0,iv (s.V ni)] 84,.l,false⟩]∧True∧Cg w.heap.size ([]:List Tg) g4 w4 g' w') (by kernel_rfl) ?_ ?_
 ·intro J hJ;rcases lt8 hc with rfl|rfl|rfl|rfl|rfl|rfl|rfl|rfl <;>
  (refine qR [] 4 [0,0] fun σ6 g6 w6 c6=>?_;exact qB [true,true,true,true,true] fun z K0 K=>hJ _ _ _ z _ ⟨rfl,rfl,trivial,(c6.nil ([]:List Tg))⟩ K)
 rintro g5 w5 _ z5 _ ⟨rfl,rfl,_,c5⟩;refine qR [] 2 [] fun σ7 g7 w7 c7=>?_;refine BN 48 (fun g' w' e L=>e=[(2,pt (σ1 0) 0),(3,pt (σ1 1) 0),(4,pt (σ1 2) 0),(5,pt (σ1 3) 0),(6,pt (σ1 4) 0)]∧L=[⟨(σ1 0),.cells (stA (Sto.mk s.V (Bl s.L ci (q+1)) (Bl s.C ci 0) (Bl s.A ci (s.V ni)) s.R)) 88,.l,false⟩,⟨(σ1 1),.cells #[iv 2,iv (ci:Int),iv q,iv (ni:Int),iv v] 41,.z,false⟩,⟨(σ1 2),.cells (stA FL) 88,.l,false⟩,⟨(σ1 3),.cells #[iv 0,iv 0] 84,.l,false⟩,⟨(σ1 4),.cells #[iv 0,iv (s.V ni)] 84,.l,false⟩]∧True∧Cg w.heap.size ([]:List Tg) g7 w7 g' w') (by kernel_rfl) ?_ ?_
 ·intro J hJ;rcases lt8 hc with rfl|rfl|rfl|rfl|rfl|rfl|rfl|rfl <;>
  (refine qR [] 7 [1,4,0,0] fun σ9 g9 w9 c9=>?_;exact qB [true,true,true,true,true] fun z K0 K=>hJ _ _ _ z _ ⟨rfl,rfl,trivial,(c9.nil ([]:List Tg))⟩ K)
 rintro g8 w8 _ z8 _ ⟨rfl,rfl,_,c8⟩;refine qR [] 3 [2,0,0] fun σ10 g10 w10 c10=>?_;refine BN 48 (fun g' w' e L=>e=[(2,pt (σ1 0) 0),(3,pt (σ1 1) 0),(4,pt (σ1 2) 0),(5,pt (σ1 3) 0),(6,pt (σ1 4) 0)]∧L=[⟨(σ1 0),.cells (stA (Sto.mk s.V (Bl s.L ci (q+1)) (Bl s.C ci 0) (Bl s.A ci (s.V ni)) s.R)) 88,.l,false⟩,⟨(σ1 1),.cells #[iv 2,iv (ci:Int),iv q,iv (ni:Int),iv v] 41,.z,false⟩,⟨(σ1 2),.cells (stA (Sto.mk s.V (Bl s.L ci (q+1)) (Bl s.C ci 0) (Bl s.A ci (s.V ni)) s.R)) 88,.l,false⟩,⟨(σ1 3),.cells #[iv 0,iv (s.V ni)] 84,.l,false⟩,⟨(σ1 4),.cells #[iv 0,iv (s.V ni)] 84,.l,false⟩]∧True∧Cg w.heap.size ([]:List Tg) g10 w10 g' w') (by kernel_rfl) ?_ ?_
 ·intro J hJ
  (exact CF 1 2 (by kernel_rfl) (by(refine qR [] 4 [4,5,2,0,7,3,0] fun σ13 g13 w13 c13=>?_;exact qB [true,true,true,true,true] fun z K0 K=>hJ _ _ _ z _ ⟨rfl,rfl,trivial,(c13.nil ([]:List Tg))⟩ K)) (by(refine qR [] 4 [2,0,3,4,7,3,0] fun σ14 g14 w14 c14=>?_;exact qB [true,true,true,true,true] fun z K0 K=>hJ _ _ _ z _ ⟨rfl,rfl,trivial,(c14.nil ([]:List Tg))⟩ K)))
 rintro g11 w11 _ z11 _ ⟨rfl,rfl,_,c11⟩;exact qE4 4 5 88 84 2 (σ1 2) 3 (σ1 3) (stA (NC s ⟨2,ci,q,ni,v⟩)) #[iv 0,iv (LS s ⟨2,ci,q,ni,v⟩)] fun K=>⟨rfl,Cg.below (((((((c1.trans c2).trans c4).trans c5).trans c7).trans c8).trans c10).trans c11) (fun _ _=>List.not_mem_nil)⟩
theorem cE(s:Sto)(ci ni:Nat)(q v:Int)(w:World)(hc:ci<8)(hn:ni<8)(q0:0≤q)(q1:q≤1048576) :
  Calls prog 129 #[.agg (stA s),.agg #[iv 3,iv (ci:Int),iv q,iv (ni:Int),iv v]] w fun e w'=>e=.returned (.tuple #[.agg (stA (NC s ⟨3,ci,q,ni,v⟩)),.agg #[iv 0,iv (LS s ⟨3,ci,q,ni,v⟩)]])∧Bw w w':=by
 have hgz:∀ b,w.heap.size≤b→gS.t b=.z∧gS.k b=0:=fun _ _=>⟨rfl,rfl⟩;refine gI (fn:=f129) [] gS func129 hgz ?_;refine qR [] 37 [1,0,0,0,1,0,1,0,1,0,1] fun σ1 g1 w1 c1=>?_;refine BN 48 (fun g' w' e L=>e=[(2,pt (σ1 0) 0),(3,pt (σ1 1) 0),(4,pt (σ1 2) 0),(5,pt (σ1 3) 0),(6,pt (σ1 4) 0)]∧L=[⟨(σ1 0),.cells (stA ({ s with R:=Bl s.R ni true })) 88,.l,false⟩,⟨(σ1 1),.cells #[iv 3,iv (ci:Int),iv q,iv (ni:Int),iv v] 41,.z,false⟩,⟨(σ1 2),.cells (stA FL) 88,.l,false⟩,⟨(σ1 3),.cells #[iv 0,iv 0] 84,.l,false⟩,⟨(σ1 4),.cells #[iv 0,iv 0] 84,.l,false⟩]∧True∧Cg w.heap.size ([]:List Tg) g1 w1 g' w') (by kernel_rfl) ?_ ?_
 ·intro J hJ;rcases lt8 hn with rfl|rfl|rfl|rfl|rfl|rfl|rfl|rfl <;>
  (refine qR [] 6 [1,0,0] fun σ3 g3 w3 c3=>?_;exact qB [true,true,true,true,true] fun z K0 K=>hJ _ _ _ z _ ⟨rfl,rfl,trivial,(c3.nil ([]:List Tg))⟩ K)
 rintro g2 w2 _ z2 _ ⟨rfl,rfl,_,c2⟩;refine qR [] 7 [1,1] fun σ4 g4 w4 c4=>?_;refine qV 4 (iv (q+1)) (AF (x:=(.tmp 37)) (y:=(.const (iv 1))) q 1 underlying3 (by omega)) ?_;refine BN 48 (fun g' w' e L=>e=[(2,pt (σ1 0) 0),(3,pt (σ1 1) 0),(4,pt (σ1 2) 0),(5,pt (σ1 3) 0),(6,pt (σ1 4) 0)]∧L=[⟨(σ1 0),.cells (stA (Sto.mk s.V (Bl s.L ci (q+1)) s.C s.A (Bl s.R ni true))) 88,.l,false⟩,⟨(σ1 1),.cells #[iv 3,iv (ci:Int),iv q,iv (ni:Int),iv v] 41,.z,false⟩,⟨(σ1 2),.cells (stA FL) 88,.l,false⟩,⟨(σ1 3),.cells #[iv 0,iv 0] 84,.l,false⟩,⟨(σ1 4),.cells #[iv 0,iv 0] 84,.l,false⟩]∧True∧Cg w.heap.size ([]:List Tg) g4 w4 g' w') (by kernel_rfl) ?_ ?_
 ·intro J hJ;rcases lt8 hc with rfl|rfl|rfl|rfl|rfl|rfl|rfl|rfl <;>
  (refine qR [] 4 [0,0] fun σ6 g6 w6 c6=>?_;exact qB [true,true,true,true,true] fun z K0 K=>hJ _ _ _ z _ ⟨rfl,rfl,trivial,(c6.nil ([]:List Tg))⟩ K)
 rintro g5 w5 _ z5 _ ⟨rfl,rfl,_,c5⟩;refine qR [] 2 [] fun σ7 g7 w7 c7=>?_;refine BN 48 (fun g' w' e L=>e=[(2,pt (σ1 0) 0),(3,pt (σ1 1) 0),(4,pt (σ1 2) 0),(5,pt (σ1 3) 0),(6,pt (σ1 4) 0)]∧L=[⟨(σ1 0),.cells (stA (Sto.mk s.V (Bl s.L ci (q+1)) (Bl s.C ci 0) (Bl s.A ci 0) (Bl s.R ni true))) 88,.l,false⟩,⟨(σ1 1),.cells #[iv 3,iv (ci:Int),iv q,iv (ni:Int),iv v] 41,.z,false⟩,⟨(σ1 2),.cells (stA FL) 88,.l,false⟩,⟨(σ1 3),.cells #[iv 0,iv 0] 84,.l,false⟩,⟨(σ1 4),.cells #[iv 0,iv 0] 84,.l,false⟩]∧True∧Cg w.heap.size ([]:List Tg) g7 w7 g' w') (by kernel_rfl) ?_ ?_
 ·intro J hJ;rcases lt8 hc with rfl|rfl|rfl|rfl|rfl|rfl|rfl|rfl <;>
  (refine qR [] 7 [1,4,0,0] fun σ9 g9 w9 c9=>?_;exact qB [true,true,true,true,true] fun z K0 K=>hJ _ _ _ z _ ⟨rfl,rfl,trivial,(c9.nil ([]:List Tg))⟩ K)
 rintro g8 w8 _ z8 _ ⟨rfl,rfl,_,c8⟩;refine qR [] 3 [2,0,0] fun σ10 g10 w10 c10=>?_;refine BN 48 (fun g' w' e L=>e=[(2,pt (σ1 0) 0),(3,pt (σ1 1) 0),(4,pt (σ1 2) 0),(5,pt (σ1 3) 0),(6,pt (σ1 4) 0)]∧L=[⟨(σ1 0),.cells (stA (Sto.mk s.V (Bl s.L ci (q+1)) (Bl s.C ci 0) (Bl s.A ci 0) (Bl s.R ni true))) 88,.l,false⟩,⟨(σ1 1),.cells #[iv 3,iv (ci:Int),iv q,iv (ni:Int),iv v] 41,.z,false⟩,⟨(σ1 2),.cells (stA (Sto.mk s.V (Bl s.L ci (q+1)) (Bl s.C ci 0) (Bl s.A ci 0) (Bl s.R ni true))) 88,.l,false⟩,⟨(σ1 3),.cells #[iv 0,iv 0] 84,.l,false⟩,⟨(σ1 4),.cells #[iv 0,iv 0] 84,.l,false⟩]∧True∧Cg w.heap.size ([]:List Tg) g10 w10 g' w') (by kernel_rfl) ?_ ?_
 ·intro J hJ
  (exact CF 1 2 (by kernel_rfl) (by(refine qR [] 4 [4,5,2,0,7,3,0] fun σ13 g13 w13 c13=>?_;exact qB [true,true,true,true,true] fun z K0 K=>hJ _ _ _ z _ ⟨rfl,rfl,trivial,(c13.nil ([]:List Tg))⟩ K)) (by(refine qR [] 4 [2,0,3,4,7,3,0] fun σ14 g14 w14 c14=>?_;exact qB [true,true,true,true,true] fun z K0 K=>hJ _ _ _ z _ ⟨rfl,rfl,trivial,(c14.nil ([]:List Tg))⟩ K)))
 rintro g11 w11 _ z11 _ ⟨rfl,rfl,_,c11⟩;exact qE4 4 5 88 84 2 (σ1 2) 3 (σ1 3) (stA (NC s ⟨3,ci,q,ni,v⟩)) #[iv 0,iv (LS s ⟨3,ci,q,ni,v⟩)] fun K=>⟨rfl,Cg.below (((((((c1.trans c2).trans c4).trans c5).trans c7).trans c8).trans c10).trans c11) (fun _ _=>List.not_mem_nil)⟩
theorem Vj(s:Sto)(k:Int)(ci ni:Nat)(q v:Int)(w:World)(hk:1≤k∧k≤3)(hc:ci<8)(hn:ni<8)(q0:0≤q)(q1:q≤1048576){S:Sto}(hS:NC s ⟨k,ci,q,ni,v⟩=S){A:Int}(hA:LS s ⟨k,ci,q,ni,v⟩=A) :
  Calls prog 129 #[.agg (stA s),.agg #[iv k,iv (ci:Int),iv q,iv (ni:Int),iv v]] w fun e w'=>e=.returned (.tuple #[.agg (stA S),.agg #[iv 0,iv A]])∧Bw w w':=by
 subst hS hA;rcases(show k=1∨k=2∨k=3 by omega)with rfl|rfl|rfl
 ·exact cC s ci ni q v w hc hn q0 q1
 ·exact cD s ci ni q v w hc hn q0 q1
 ·exact cE s ci ni q v w hc hn q0 q1
theorem UU(s:Sto)(k:Int)(ci ni:Nat)(q v:Int)(w:World)(k0:0≤k)(k3:k≤3)(hc:ci<8)(hn:ni<8)(q0:0≤q)(q1:q≤1048576) :
  Calls prog 98 #[.agg (stA s),.agg #[iv k,iv (ci:Int),iv q,iv (ni:Int),iv v]] w fun e w'=>e=.returned (.tuple #[.agg (stA (dnS s ⟨k,ci,q,ni,v⟩)),.agg #[iv (dnC s ⟨k,ci,q,ni,v⟩),iv (dnA s ⟨k,ci,q,ni,v⟩)]])∧Bw w w':=by
 have hgz:∀ b,w.heap.size≤b→gS.t b=.z∧gS.k b=0:=fun _ _=>⟨rfl,rfl⟩;refine gI (fn:=f98) [] gS func98 hgz ?_;refine qR [] 14 [0,0,0,0,1,0,1,0,1] fun σ1 g1 w1 c1=>?_;by_cases h1:k=0
 ·refine qI ((k==0)) true (by simpa using h1) ?_;refine qR [] 7 [0,2,0,3,0] fun σ2 g2 w2 c2=>?_;rw[show dnS s ⟨k,ci,q,ni,v⟩=s from if_neg (fun g=>g.1 h1),show dnC s ⟨k,ci,q,ni,v⟩=0 from if_pos h1,show dnA s ⟨k,ci,q,ni,v⟩=0 from if_pos h1];exact qE4 4 5 88 84 2 (σ1 2) 3 (σ1 3) (stA s) #[iv 0,iv 0] fun K=>⟨rfl,Cg.below (c1.trans c2) (fun _ _=>List.not_mem_nil)⟩
 ·refine qI ((k==0)) false (by simpa using h1) ?_;refine qR [] 3 [] fun σ3 g3 w3 c3=>?_;refine BN 49 (fun g' w' e L=>e=[(2,pt (σ1 0) 0),(3,pt (σ1 1) 0),(4,pt (σ1 2) 0),(5,pt (σ1 3) 0),(6,iv (s.L ci))]∧L=[⟨(σ1 0),.cells (stA s) 88,.z,false⟩,⟨(σ1 1),.cells #[iv k,iv (ci:Int),iv q,iv (ni:Int),iv v] 41,.z,false⟩,⟨(σ1 2),.cells (stA FL) 88,.l,false⟩,⟨(σ1 3),.cells #[iv 0,iv 0] 84,.l,false⟩]∧True∧Cg w.heap.size ([]:List Tg) g3 w3 g' w') (by kernel_rfl) ?_ ?_
  ·intro J hJ;rcases lt8 hc with rfl|rfl|rfl|rfl|rfl|rfl|rfl|rfl <;>
   (refine qR [] 7 [1,0] fun σ5 g5 w5 c5=>?_;exact qB [true,true,true,true] fun z K0 K=>hJ _ _ _ z _ ⟨rfl,rfl,trivial,(c5.nil ([]:List Tg))⟩ K)
  rintro g4 w4 _ z4 _ ⟨rfl,rfl,_,c4⟩;refine qR [] 7 [1] fun σ6 g6 w6 c6=>?_;refine qV 3 (iv (q+1)) (AF (x:=(.tmp 20)) (y:=(.const (iv 1))) q 1 underlying3 (by omega)) ?_;refine qR [] 3 [] fun σ7 g7 w7 c7=>?_;by_cases h2:s.L ci=q+1
  ·refine qI (((s.L ci)==(q+1))) true (by simpa using h2) ?_;refine qR [] 2 [6] fun σ8 g8 w8 c8=>?_;refine BN 49 (fun g' w' e L=>e=[(2,pt (σ1 0) 0),(3,pt (σ1 1) 0),(4,pt (σ1 2) 0),(5,pt (σ1 3) 0)]∧L=[⟨(σ1 0),.cells (stA s) 88,.z,false⟩,⟨(σ1 1),.cells #[iv k,iv (ci:Int),iv q,iv (ni:Int),iv v] 41,.z,false⟩,⟨(σ1 2),.cells (stA s) 88,.l,false⟩,⟨(σ1 3),.cells #[iv (s.C ci),iv (s.A ci)] 84,.l,false⟩]∧True∧Cg w.heap.size ([]:List Tg) g8 w8 g' w') (by kernel_rfl) ?_ ?_
   ·intro J hJ;rcases lt8 hc with rfl|rfl|rfl|rfl|rfl|rfl|rfl|rfl <;>
    (refine qR [] 3 [0,0,2,6] fun σ10 g10 w10 c10=>?_;exact CF 2 6 (by kernel_rfl) (by(refine qR [] 2 [1,8] fun σ11 g11 w11 c11=>?_;exact CF 5 6 (by kernel_rfl) (by(refine qR [] 4 [0,13,2,0,15,3,0] fun σ12 g12 w12 c12=>?_;exact qB [true,true,true,true] fun z K0 K=>hJ _ _ _ z _ ⟨rfl,rfl,trivial,(((c10.nil ([]:List Tg)).n c11).n c12)⟩ K)) (by(refine qR [] 4 [2,0,11,0,15,3,0] fun σ13 g13 w13 c13=>?_;exact qB [true,true,true,true] fun z K0 K=>hJ _ _ _ z _ ⟨rfl,rfl,trivial,(((c10.nil ([]:List Tg)).n c11).n c13)⟩ K)))) (by(refine qR [] 6 [2,0,5,1,8,11,0,15,3,0] fun σ14 g14 w14 c14=>?_;exact qB [true,true,true,true] fun z K0 K=>hJ _ _ _ z _ ⟨rfl,rfl,trivial,((c10.nil ([]:List Tg)).n c14)⟩ K)))
   rintro g9 w9 _ z9 _ ⟨rfl,rfl,_,c9⟩;rw[show dnS s ⟨k,ci,q,ni,v⟩=s from if_neg (fun g=>g.2.1 (by show q<s.L ci;omega)),show dnC s ⟨k,ci,q,ni,v⟩=s.C ci from(if_neg h1).trans (if_pos h2),show dnA s ⟨k,ci,q,ni,v⟩=s.A ci from(if_neg h1).trans (if_pos h2)];exact qE4 4 5 88 84 2 (σ1 2) 3 (σ1 3) (stA s) #[iv (s.C ci),iv (s.A ci)] fun K=>⟨rfl,Cg.below ((((((c1.trans c3).trans c4).trans c6).trans c7).trans c8).trans c9) (fun _ _=>List.not_mem_nil)⟩
  ·refine qI (((s.L ci)==(q+1))) false (by simpa using h2) ?_;refine qR [] 8 [1] fun σ16 g16 w16 c16=>?_;by_cases h3:q<s.L ci
   ·refine qI ((decide (q<(s.L ci)))) true (decide_eq_true h3) ?_;refine qR [] 7 [0,2,0,3,0] fun σ17 g17 w17 c17=>?_;rw[show dnS s ⟨k,ci,q,ni,v⟩=s from if_neg (fun g=>g.2.1 h3),show dnC s ⟨k,ci,q,ni,v⟩=7 from(if_neg h1).trans ((if_neg h2).trans (if_pos h3)),show dnA s ⟨k,ci,q,ni,v⟩=0 from(if_neg h1).trans ((if_neg h2).trans (if_pos h3))];exact qE4 4 5 88 84 2 (σ1 2) 3 (σ1 3) (stA s) #[iv 7,iv 0] fun K=>⟨rfl,Cg.below ((((((c1.trans c3).trans c4).trans c6).trans c7).trans c16).trans c17) (fun _ _=>List.not_mem_nil)⟩
   ·refine qI ((decide (q<(s.L ci)))) false (decide_eq_false h3) ?_;refine qR [] 2 [] fun σ18 g18 w18 c18=>?_;refine BN 49 (fun g' w' e L=>e=[(2,pt (σ1 0) 0),(3,pt (σ1 1) 0),(4,pt (σ1 2) 0),(5,pt (σ1 3) 0),(36,.bool (s.R ci))]∧L=[⟨(σ1 0),.cells (stA s) 88,.z,false⟩,⟨(σ1 1),.cells #[iv k,iv (ci:Int),iv q,iv (ni:Int),iv v] 41,.z,false⟩,⟨(σ1 2),.cells (stA FL) 88,.l,false⟩,⟨(σ1 3),.cells #[iv 0,iv 0] 84,.l,false⟩]∧True∧Cg w.heap.size ([]:List Tg) g18 w18 g' w') (by kernel_rfl) ?_ ?_
    ·intro J hJ;rcases lt8 hc with rfl|rfl|rfl|rfl|rfl|rfl|rfl|rfl <;>
     (refine qR [] 7 [1,0] fun σ20 g20 w20 c20=>?_;exact qB [true,true,true,true] fun z K0 K=>hJ _ _ _ z _ ⟨rfl,rfl,trivial,(c20.nil ([]:List Tg))⟩ K)
    rintro g19 w19 _ z19 _ ⟨rfl,rfl,_,c19⟩;by_cases h4:s.R ci=true
    ·refine qI ((s.R ci)) true h4 ?_;refine qR [] 7 [0,2,0,3,0] fun σ22 g22 w22 c22=>?_;rw[show dnS s ⟨k,ci,q,ni,v⟩=s from if_neg (fun g=>Bool.noConfusion (h4.symm.trans g.2.2)),show dnC s ⟨k,ci,q,ni,v⟩=11 from(if_neg h1).trans ((if_neg h2).trans ((if_neg h3).trans (if_pos h4))),show dnA s ⟨k,ci,q,ni,v⟩=0 from(if_neg h1).trans ((if_neg h2).trans ((if_neg h3).trans (if_pos h4)))];exact qE4 4 5 88 84 2 (σ1 2) 3 (σ1 3) (stA s) #[iv 11,iv 0] fun K=>⟨rfl,Cg.below ((((((((c1.trans c3).trans c4).trans c6).trans c7).trans c16).trans c18).trans c19).trans c22) (fun _ _=>List.not_mem_nil)⟩
    ·refine qI ((s.R ci)) false (by simpa using h4) ?_;obtain⟨S,hS⟩:∃ S,NC s ⟨k,ci,q,ni,v⟩=S:=⟨_,rfl⟩;obtain⟨A,hA⟩:∃ A,LS s ⟨k,ci,q,ni,v⟩=A:=⟨_,rfl⟩;refine qR [] 6 [0,1] fun σ23 g23 w23 c23=>?_;have bb24:=(Cg.below ((((((((c1.trans c3).trans c4).trans c6).trans c7).trans c16).trans c18).trans c19).trans c23) (fun _ _=>List.not_mem_nil));refine Af fun Kq24=>?_;have hG24:∀ z,w23.heap.size≤z→g23.t z=.z:=fun z hz=>(Kq24.new z hz).1;refine qC 2 (Vj s k ci ni q v w23 (by omega) hc hn q0 q1 hS hA) ?_;rintro e' w24 ⟨rfl,b24⟩;refine⟨_,rfl,b24,?_⟩;have c24:=Cg.ofBelow (B:=w.heap.size) (T:=[]) (g:=g23) b24;refine qR [] 5 [2,0,3,0] fun σ25 g25 w25 c25=>?_;rw[show dnS s ⟨k,ci,q,ni,v⟩=S from(if_pos ⟨h1,h3,by simpa using h4⟩).trans hS,show dnC s ⟨k,ci,q,ni,v⟩=0 from(if_neg h1).trans ((if_neg h2).trans ((if_neg h3).trans (if_neg h4))),show dnA s ⟨k,ci,q,ni,v⟩=A from(if_neg h1).trans ((if_neg h2).trans ((if_neg h3).trans ((if_neg h4).trans hA)))];exact qE4 4 5 88 84 2 (σ1 2) 3 (σ1 3) (stA S) #[iv 0,iv A] fun K=>⟨rfl,Cg.below ((((((((((c1.trans c3).trans c4).trans c6).trans c7).trans c16).trans c18).trans c19).trans c23).trans c24).trans c25) (fun _ _=>List.not_mem_nil)⟩
theorem Yo{s:Sto}{m:Cmd}{w:World}(he:m.e=0){S:Sto}(hS:dnS s m=S){C A:Int}(hC:dnC s m=C)(hA:dnA s m=A) :
  Calls prog 98 #[.agg (stA s),.agg #[iv m.k,iv m.c,iv m.s,iv m.n,iv m.v]] w fun e w'=>e=.returned (.tuple #[.agg (stA S),.agg #[iv C,iv A]])∧Bw w w':=by
 subst hS hC hA;obtain⟨k,c,q,n,v⟩:=m;obtain⟨hk,hi⟩:=YE he;unfold InC at hi;simp only at hk hi ⊢;obtain⟨ci,rfl⟩:∃ ci:Nat,c=(ci:Int):=⟨c.toNat,by omega⟩;obtain⟨ni,rfl⟩:∃ ni:Nat,n=(ni:Int):=⟨n.toNat,by omega⟩;exact UU s k ci ni q v w hk.1 hk.2 (by omega) (by omega) (by omega) (by omega)
theorem UT{s:Sto}{w:World}{E:Int}(hE:Ma s=E):Calls prog 97 #[.agg (stA s)] w fun e w'=>e=.returned (iv E)∧Bw w w':=by subst hE;exact RR s w
theorem Uh{m:Cmd}{w:World}(ht:NTab w){E:Int}(hE:m.e=E):Calls prog 75 #[.agg #[iv m.k,iv m.c,iv m.s,iv m.n,iv m.v]] w fun e w'=>e=.returned (iv E)∧Bw w w':=by subst hE;exact DB m.k m.c m.s m.n m.v w ht
theorem gw(s:Sto)(m:Cmd)(w:World)(hN:NTab w) :
  Calls prog 52 #[.agg (stA s),.agg #[iv m.k,iv m.c,iv m.s,iv m.n,iv m.v]] w fun e w'=>e=.returned (.tuple #[.agg (stA (doS s m)),.agg #[iv (doC s m),iv (doA s m)],iv (doE s m)])∧Bw w w':=by
 obtain⟨E,hE⟩:∃ E,Ma s=E:=⟨_,rfl⟩;obtain⟨F,hF⟩:∃ F,m.e=F:=⟨_,rfl⟩;have hgz:∀ b,w.heap.size≤b→gS.t b=.z∧gS.k b=0:=fun _ _=>⟨rfl,rfl⟩;refine gI (fn:=f52) [] gS func52 hgz ?_;refine qR [] 12 [0,0,0,0,1,0,1,0,0] fun σ1 g1 w1 c1=>?_;have bb2:=(Cg.below c1 (fun _ _=>List.not_mem_nil));refine Af fun Kq2=>?_;have hG2:∀ z,w1.heap.size≤z→g1.t z=.z:=fun z hz=>(Kq2.new z hz).1;refine qC 1 (UT hE) ?_;rintro e' w2 ⟨rfl,b2⟩;refine⟨_,rfl,b2,?_⟩;have c2:=Cg.ofBelow (B:=w.heap.size) (T:=[]) (g:=g1) b2;refine qR [] 7 [] fun σ3 g3 w3 c3=>?_;by_cases h1:E≠0
 ·refine qI ((E != 0)) true (by simpa using h1) ?_;refine qR [] 9 [2,0,3,0] fun σ4 g4 w4 c4=>?_;have hD:doE s m=E:=by unfold doE;unfold Ma at hE;split at hE;exact absurd hE.symm h1;rename_i g;rw[if_neg g];exact hE
  have hD0:doE s m≠0:=by rw[hD];exact h1
  rw[VH hD0,VE hD0,show doA s m=0 from if_neg hD0,hD];exact qE5 4 5 6 88 84 2 (σ1 2) 3 (σ1 3) (stA FL) #[iv 0,iv 0] (iv E) fun K=>⟨rfl,(Cg.below (((c1.trans c2).trans c3).trans c4) (fun _ _=>List.not_mem_nil))⟩
 ·refine qI ((E != 0)) false (by simpa using h1) ?_;have hB:Th s:=Classical.byContradiction fun g=>absurd (hE.symm.trans (JS g)) (by rw[show E=0 from by simpa using h1];decide);refine qR [] 5 [1] fun σ5 g5 w5 c5=>?_;have bb6:=(Cg.below (((c1.trans c2).trans c3).trans c5) (fun _ _=>List.not_mem_nil));refine Af fun Kq6=>?_;have hG6:∀ z,w5.heap.size≤z→g5.t z=.z:=fun z hz=>(Kq6.new z hz).1;refine qC 1 (Uh (hN.below bb6) hF) ?_;rintro e' w6 ⟨rfl,b6⟩;refine⟨_,rfl,b6,?_⟩;have c6:=Cg.ofBelow (B:=w.heap.size) (T:=[]) (g:=g5) b6;refine qR [] 7 [] fun σ7 g7 w7 c7=>?_;by_cases h2:F≠0
  ·refine qI ((F != 0)) true (by simpa using h2) ?_;refine qR [] 9 [2,0,3,0] fun σ8 g8 w8 c8=>?_;have hD:doE s m=F:=(if_pos hB).trans hF;have hD0:doE s m≠0:=by rw[hD];exact h2
   rw[VH hD0,VE hD0,show doA s m=0 from if_neg hD0,hD];exact qE5 4 5 6 88 84 2 (σ1 2) 3 (σ1 3) (stA FL) #[iv 0,iv 0] (iv F) fun K=>⟨rfl,(Cg.below ((((((c1.trans c2).trans c3).trans c5).trans c6).trans c7).trans c8) (fun _ _=>List.not_mem_nil))⟩
  ·refine qI ((F != 0)) false (by simpa using h2) ?_;have hF0:m.e=0:=by rw[hF];simpa using h2
   have hD:doE s m=0:=(if_pos hB).trans hF0;obtain⟨S,hS⟩:∃ S,dnS s m=S:=⟨_,rfl⟩;obtain⟨C,hC⟩:∃ C,dnC s m=C:=⟨_,rfl⟩;obtain⟨A,hA⟩:∃ A,dnA s m=A:=⟨_,rfl⟩;refine qR [] 5 [0,1] fun σ9 g9 w9 c9=>?_;have bb10:=(Cg.below ((((((c1.trans c2).trans c3).trans c5).trans c6).trans c7).trans c9) (fun _ _=>List.not_mem_nil));refine Af fun Kq10=>?_;have hG10:∀ z,w9.heap.size≤z→g9.t z=.z:=fun z hz=>(Kq10.new z hz).1;refine qC 2 (Yo hF0 hS hC hA) ?_;rintro e' w10 ⟨rfl,b10⟩;refine⟨_,rfl,b10,?_⟩;have c10:=Cg.ofBelow (B:=w.heap.size) (T:=[]) (g:=g9) b10;refine qR [] 11 [0,0,0,0,4,0,5,0,2,0,4] fun σ11 g11 w11 c11=>?_;refine BN 33 (fun g' w' e L=>e=[(4,pt (σ1 2) 0),(5,pt (σ1 3) 0),(6,iv 0)]∧L=[⟨(σ1 0),.cells (stA s) 88,.z,false⟩,⟨(σ1 1),.cells #[iv m.k,iv m.c,iv m.s,iv m.n,iv m.v] 41,.z,false⟩,⟨(σ1 2),.cells (stA S) 88,.l,false⟩,⟨(σ1 3),.cells #[iv C,iv A] 84,.l,false⟩,⟨(σ11 0),.cells (stA S) 88,.z,false⟩,⟨(σ11 1),.cells #[iv C,iv A] 84,.z,false⟩]∧True∧Cg w.heap.size ([]:List Tg) g11 w11 g' w') (by kernel_rfl) ?_ ?_
   ·intro J hJ
    (exact CF 1 2 (by kernel_rfl) (by(refine qR [] 5 [5,5,2,0,7,3,0,8] fun σ14 g14 w14 c14=>?_;exact qB [true,true,true,true,true,true] fun z K0 K=>hJ _ _ _ z _ ⟨rfl,rfl,trivial,(c14.nil ([]:List Tg))⟩ K)) (by(refine qR [] 5 [2,0,3,5,7,3,0,8] fun σ15 g15 w15 c15=>?_;exact qB [true,true,true,true,true,true] fun z K0 K=>hJ _ _ _ z _ ⟨rfl,rfl,trivial,(c15.nil ([]:List Tg))⟩ K)))
   rintro g12 w12 _ z12 _ ⟨rfl,rfl,_,c12⟩;rw[cY hD,cU hD,cT hD,hD,hS,hC,hA];exact qE5 4 5 6 88 84 2 (σ1 2) 3 (σ1 3) (stA S) #[iv C,iv A] (iv 0) fun K=>⟨rfl,(Cg.below (((((((((c1.trans c2).trans c3).trans c5).trans c6).trans c7).trans c9).trans c10).trans c11).trans c12) (fun _ _=>List.not_mem_nil))⟩
theorem De(s:Sto)(k c q n v:Int)(w:World)(hN:NTab w) :
  Calls prog 52 #[.agg (stA s),.agg (cmA k c q n v)] w fun e w'=>e=.returned (.tuple #[.agg (stA (doS s ⟨k,c,q,n,v⟩)),.agg #[.int .i64 (doC s ⟨k,c,q,n,v⟩),.int .i64 (doA s ⟨k,c,q,n,v⟩)],.int .i64 (doE s ⟨k,c,q,n,v⟩)])∧Bw w w':=gw s ⟨k,c,q,n,v⟩ w hN
theorem WT{v:Value}{l:List Int}{now:Int}{w:World}{e0:Int}{c:Cmd}(h:Sl w v l)(hT:AD w)(hq:Cr w)(hN:NTab w)(he:opE l now=e0)(hc:J9 l now=c) :
  Calls prog 50 #[v,iv now] w fun e w'=>e=.returned (.tuple #[.agg #[iv c.k,iv c.c,iv c.s,iv c.n,iv c.v],iv e0])∧Bw w w':=by
 have h1:=Ua v l now w h hT hq hN;rw[dH,he,hc]at h1
 exact h1
theorem U9{g:Gh}{w:World}{i nb ob:Nat}{p:Nod}{ls:List Let}{ts:List Tol}(h:NS i nb ob g w p ls ts){w0:World}(hB:Base w0 g w)(hT:Tabs w0)(dv:S3)(data:List Int)(hd:Sl w dv.v data){n:Nat}(hok:NOk n p)(hbad:p.bad<100000000)(hw:p.wants.length<100000000)(hts:ts.length<100000000){e0:Int}{c:Cmd}(he:opE data (p.done:Int)=e0)(hc:J9 data (p.done:Int)=c) :
  Calls prog 25 #[pt nb 0,dv.v] w (NP i nb ob g w (.tuple #[]) (p.sub0 i e0 c ts).1 ls (p.sub0 i e0 c ts).2):=by
 obtain⟨x,lt,tl,hN,hO,hg⟩:=h;have hdn:=hok.dn;have hag:=hok.ag;refine gI (fn:=f25) (TN i) g func25 hg ?_;refine qN hN ?_;refine qO hO ?_;refine qR [] 9 [0] fun s1 g1 w1 c1=>?_;by_cases h1:p.up=true
 ·refine qI ((!p.up)) false (by simpa using h1) ?_;have hdown:¬ p.up=false:=by simp[h1]
  refine qR [] 9 [0] fun s2 g2 w2 c2=>?_;have hB1:=hB.ch (c1.trans c2);have hb1:=Cg.below (c1.trans c2) (fun _ _=>List.not_mem_nil);refine qC 6 (WT (hd.below hb1) (hB1.tt hT) (hB1.tq hT) (hB1.tn hT) he hc) ?_;rintro e' w3 ⟨rfl,b3⟩;refine⟨_,rfl,b3,?_⟩;have c3:=Cg.ofBelow (B:=w.heap.size) (T:=[]) (g:=g2) b3;refine qR [] 13 [0,0,2,0] fun s4 g4 w4 c4=>?_;by_cases h2:e0≠0
  ·refine qI ((e0 != 0)) true (by simpa using h2) ?_;refine qR [] 6 [0] fun s5 g5 w5 c5=>?_;refine qV 4 (iv ((p.bad+1:Nat):Int)) (AF (x:=(.tmp 29)) (y:=(.const (iv 1))) (p.bad:Int) 1 underlying3 (by omega)) ?_;refine qR [.n 0 i] 4 [0,1] fun s6 g6 w6 c6=>?_;refine qE (.tuple #[]) fun K=>?_;rw[show p.sub0 i e0 c ts=({ p with bad:=p.bad+1 },ts)from(if_neg hdown).trans (if_pos h2)];have C7:=(((((c1.nil ([.n 0 i]:List Tg)).n c2).n c3).n c4).n c5).trans (c6);exact⟨_,rfl,⟨x,lt,tl,K.ndu 0 hN C7,hO.ch C7 (hn:=by simp<;>omega),K.new⟩,((((((c1.nil (TN i)).n c2).n c3).n c4).n c5).trans (c6.mono (by simp[TN])))⟩
  ·refine qI ((e0 != 0)) false (by simpa using h2) ?_;refine qR [] 6 [4,0,4,2] fun s8 g8 w8 c8=>?_;refine Af fun K=>?_;have N10:NS i nb ob g8 w8 p ls ts:=(nsC hN hO ((((c1.n c2).n c3).n c4).n c8) K);refine qC 1 (S1 N10 hdn) ?_;rintro e' w11 ⟨y11,rfl,hy11,b11⟩;refine⟨_,rfl,b11,?_⟩;have c11:=Cg.ofBelow (B:=w.heap.size) (T:=[]) (g:=g8) b11;refine qC 3 (EC (l:=p.agreed.take p.done) hy11 (by rw[List.length_take];omega) c) ?_;rintro e' w13 ⟨rfl,b13⟩;refine⟨_,rfl,b13,?_⟩;have c13:=Cg.ofBelow (B:=w.heap.size) (T:=[]) (g:=g8) b13;refine qR [] 1 [] fun s14 g14 w14 c14=>?_;by_cases h3:c∈p.agreed.take p.done
   ·refine qI ((decide (c∈p.agreed.take p.done))) true (by simpa using h3) ?_;refine qR [] 8 [16,0,2,4,6,8,0,10,2] fun s15 g15 w15 c15=>?_;refine BN 55 (fun g' w' e L=>∃ (b6 b7:Nat),e=[(0,pt nb 0),(4,pt (s4 0) 0),(6,pt b6 0),(7,pt b7 0)]∧L=[⟨nb,.cells (AA i ob p x) 96,.n 0 i,false⟩,⟨ob,.cells #[S3.v lt,S3.v tl] 66,.n 50 0,false⟩,⟨(s4 0),.cells #[iv c.k,iv c.c,iv c.s,iv c.n,iv c.v] 41,.z,false⟩,⟨b6,.cells (stA (doS p.sto c)) 88,.l,false⟩,⟨b7,.cells #[iv (doC p.sto c),iv (doA p.sto c)] 84,.l,false⟩]∧Cg w.heap.size [] g w g' w') (by kernel_rfl) ?_ ?_
    ·intro J hJ;refine Wf 6 11 12 (by kernel_rfl) ?_ ?_ ?_
     ·have hB18:=hB.ch ((((((((c1.trans c2).trans c3).trans c4).trans c8).trans c11).trans c13).trans c14).trans c15) (by simp);refine qC 6 (De p.sto c.k c.c c.s c.n c.v w15 (hB18.tn hT)) ?_;rintro e' w19 ⟨rfl,b19⟩;refine⟨_,rfl,b19,?_⟩;have c19:=Cg.ofBelow (B:=w.heap.size) (T:=[]) (g:=g15) b19;refine qR [] 4 [14,16,18,20] fun s20 g20 w20 c20=>?_;refine CF 11 12 (by kernel_rfl) ?_ ?_
      ·refine qR [] 6 [1,0,25,1,0,27,3,0,29,4,0,30] fun s21 g21 w21 c21=>?_;exact qB [true,true,true,true,true] fun z K0 K=>hJ _ _ _ z _ ⟨(s21 0),(s21 1),rfl,rfl,(((((((((((c1.trans c2).trans c3).trans c4).trans c8).trans c11).trans c13).trans c14).trans c15).trans c19).trans c20).trans c21)⟩ K
      ·refine qR [] 6 [1,0,23,1,0,27,4,0,29,3,0,30] fun s22 g22 w22 c22=>?_;refine Mv ?_;exact qB [true,true,true,true,true] fun z K0 K=>hJ _ _ _ z _ ⟨(s22 1),(s22 0),rfl,rfl,(((((((((((c1.trans c2).trans c3).trans c4).trans c8).trans c11).trans c13).trans c14).trans c15).trans c19).trans c20).trans c22)⟩ K
     ·refine qR [] 1 [1,0] fun s23 g23 w23 c23=>?_;refine CF 6 12 (by kernel_rfl) ?_ ?_
      ·have hB25:=hB.ch (((((((((c1.trans c2).trans c3).trans c4).trans c8).trans c11).trans c13).trans c14).trans c15).trans c23) (by simp);refine qC 6 (De p.sto c.k c.c c.s c.n c.v w23 (hB25.tn hT)) ?_;rintro e' w26 ⟨rfl,b26⟩;refine⟨_,rfl,b26,?_⟩;have c26:=Cg.ofBelow (B:=w.heap.size) (T:=[]) (g:=g23) b26;refine qR [] 9 [14,16,18,20,25,1,0,27,3,0,29,4,0,30] fun s27 g27 w27 c27=>?_;exact qB [true,true,true,true,true] fun z K0 K=>hJ _ _ _ z _ ⟨(s23 0),(s27 0),rfl,rfl,(((((((((((c1.trans c2).trans c3).trans c4).trans c8).trans c11).trans c13).trans c14).trans c15).trans c23).trans c26).trans c27)⟩ K
      ·refine qR [] 1 [1,0] fun s28 g28 w28 c28=>?_;have hB29:=hB.ch ((((((((((c1.trans c2).trans c3).trans c4).trans c8).trans c11).trans c13).trans c14).trans c15).trans c23).trans c28) (by simp);refine qC 6 (De p.sto c.k c.c c.s c.n c.v w28 (hB29.tn hT)) ?_;rintro e' w30 ⟨rfl,b30⟩;refine⟨_,rfl,b30,?_⟩;have c30:=Cg.ofBelow (B:=w.heap.size) (T:=[]) (g:=g28) b30;refine qR [] 8 [14,16,18,20,27,3,0,29,4,0,30] fun s31 g31 w31 c31=>?_;exact qB [true,true,true,true,true] fun z K0 K=>hJ _ _ _ z _ ⟨(s23 0),(s28 0),rfl,rfl,((((((((((((c1.trans c2).trans c3).trans c4).trans c8).trans c11).trans c13).trans c14).trans c15).trans c23).trans c28).trans c30).trans c31)⟩ K
     ·refine qR [] 1 [1,0] fun s32 g32 w32 c32=>?_;refine CF 6 11 (by kernel_rfl) ?_ ?_
      ·have hB34:=hB.ch (((((((((c1.trans c2).trans c3).trans c4).trans c8).trans c11).trans c13).trans c14).trans c15).trans c32) (by simp);refine qC 6 (De p.sto c.k c.c c.s c.n c.v w32 (hB34.tn hT)) ?_;rintro e' w35 ⟨rfl,b35⟩;refine⟨_,rfl,b35,?_⟩;have c35:=Cg.ofBelow (B:=w.heap.size) (T:=[]) (g:=g32) b35;refine qR [] 9 [14,16,18,20,23,1,0,27,4,0,29,3,0,30] fun s36 g36 w36 c36=>?_;refine Mv ?_;exact qB [true,true,true,true,true] fun z K0 K=>hJ _ _ _ z _ ⟨(s36 0),(s32 0),rfl,rfl,(((((((((((c1.trans c2).trans c3).trans c4).trans c8).trans c11).trans c13).trans c14).trans c15).trans c32).trans c35).trans c36)⟩ K
      ·refine qR [] 1 [1,0] fun s37 g37 w37 c37=>?_;have hB38:=hB.ch ((((((((((c1.trans c2).trans c3).trans c4).trans c8).trans c11).trans c13).trans c14).trans c15).trans c32).trans c37) (by simp);refine qC 6 (De p.sto c.k c.c c.s c.n c.v w37 (hB38.tn hT)) ?_;rintro e' w39 ⟨rfl,b39⟩;refine⟨_,rfl,b39,?_⟩;have c39:=Cg.ofBelow (B:=w.heap.size) (T:=[]) (g:=g37) b39;refine qR [] 8 [14,16,18,20,27,4,0,29,3,0,30] fun s40 g40 w40 c40=>?_;refine Mv ?_;exact qB [true,true,true,true,true] fun z K0 K=>hJ _ _ _ z _ ⟨(s37 0),(s32 0),rfl,rfl,((((((((((((c1.trans c2).trans c3).trans c4).trans c8).trans c11).trans c13).trans c14).trans c15).trans c32).trans c37).trans c39).trans c40)⟩ K
    ·rintro g16 w16 _ z16 _ ⟨b6,b7,rfl,rfl,hcc⟩;refine qR [] 5 [2,4] fun s41 g41 w41 c41=>?_;rw[show p.sub0 i e0 c ts=(p,(ts++[⟨i,c.c,c.s,doC p.sto c,doA p.sto c⟩]))from(if_neg hdown).trans ((if_neg h2).trans (if_pos h3))];refine qS 3 [false,false,true,true,true] hN hO (hcc.n c41) (fun N42=>PO N42 hts c (doC p.sto c) (doA p.sto c)) fun g42 w42 x42 lt42 tl42 hN42 hO42 c42=>?_;refine qR [] 1 [] fun s44 g44 w44 c44=>?_;exact qF hN42 hO42 c44 ((((hcc.nil (TN i)).n c41).trans (c42)).n c44)
   ·refine qI ((decide (c∈p.agreed.take p.done))) false (by simpa using h3) ?_;refine qR [] 4 [2] fun s46 g46 w46 c46=>?_;rw[show p.sub0 i e0 c ts=(p.want c,ts)from(if_neg hdown).trans ((if_neg h2).trans (if_neg h3))];refine qS 2 [false,false,true] hN hO ((((((((c1.n c2).n c3).n c4).n c8).n c11).n c13).n c14).n c46) (fun N47=>Yt N47 h1 hw c) fun g47 w47 x47 lt47 tl47 hN47 hO47 c47=>?_;refine qR [] 1 [] fun s49 g49 w49 c49=>?_;exact qF hN47 hO47 c49 (((((((((((c1.nil (TN i)).n c2).n c3).n c4).n c8).n c11).n c13).n c14).n c46).trans (c47)).n c49)
 ·refine qI ((!p.up)) true (by simpa using h1) ?_;refine qE (.tuple #[]) fun K=>?_;rw[show p.sub0 i e0 c ts=(p,ts)from if_pos (by simpa using h1)];exact⟨_,rfl,(nsC hN hO c1 K),(c1.nil (TN i))⟩
end
end Go.Proofs.YtfhbkoflaekhpadGreatDoor
