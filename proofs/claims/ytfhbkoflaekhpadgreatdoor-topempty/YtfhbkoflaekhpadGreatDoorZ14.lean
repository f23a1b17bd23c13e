/- Part 14 of the walk. -/
import Derived.Lib.SmallJoins
import Derived.Test.YtfhbkoflaekhpadGreatDoorZ11
set_option maxRecDepth 100000
set_option maxHeartbeats 4000000
open Go.Proofs.Tryz
namespace Go.Proofs.YtfhbkoflaekhpadGreatDoor
open Go.RowKit
def F0(l:List Int)(n:Nat):List Int:=l++List.replicate (n-l.length) 0
def Hp(l:List Int):List Int:=if 64<l.length then dig l else l
def fk(l:List Int):List Int:=F0 (Hp l) 64
def Bd(k:List Int)(m:Int):List Int:=k.map fun x=>bits .xor .u8 x m
def DL(key b:List Int):List Int:=dig (Bd (fk key) 92++dig (Bd (fk key) 54++b))
theorem LK(l:List Int)(n:Nat)(h:l.length≤n):(F0 l n).length=n:=by simp[F0];omega
theorem OG{l:List Int}(h:∀ x∈l,0≤x∧x<256)(n:Nat):∀ x∈F0 l n,0≤x∧x<256:=by
 intro x hx;rcases List.mem_append.1 hx with h1|h1
 ·exact h x h1
 ·rw[List.eq_of_mem_replicate h1];omega
theorem Nu(l:List Int):(Hp l).length≤64:=by
 unfold Hp;split
 ·rw[Aw];omega
 ·omega
theorem QP{l:List Int}(h:∀ x∈l,0≤x∧x<256):∀ x∈Hp l,0≤x∧x<256:=by
 unfold Hp;split
 ·exact Di l
 ·exact h
theorem Ev(l:List Int):(fk l).length=64:=LK _ _ (Nu l)
theorem YV{l:List Int}(h:∀ x∈l,0≤x∧x<256):∀ x∈fk l,0≤x∧x<256:=OG (QP h) 64
theorem EH(l:List Int)(m:Int):(Bd l m).length=l.length:=by simp[Bd]
theorem KE{l:List Int}(h:∀ x∈l,0≤x∧x<256){m:Int}(hm:0≤m∧m<256):∀ x∈Bd l m,0≤x∧x<256:=by
 intro x hx;obtain⟨y,hy,rfl⟩:=List.mem_map.1 hx;have hb:=h y hy;rw[u8_xor _ _ hb.1 hb.2 hm.1 hm.2];have:y.toNat ^^^ m.toNat<256:=Nat.xor_lt_two_pow (n:=8) (by omega) (by omega);omega
theorem Dl(k b:List Int):(DL k b).length=32:=rfl
theorem MB(k b:List Int):∀ x∈DL k b,0≤x∧x<256:=Di _
theorem Mz:(prog.info? 5).map (·.size)=some 1:=by kernel_rfl
theorem Jr(l:List Int):splice ((List.replicate 64 (0:Int)).map (Value.int .u8)) 0 (l.map (Value.int .u8))=(F0 l 64).map (Value.int .u8):=by
 have e:(List.replicate 64 (0:Int)).map (Value.int .u8)=List.replicate 64 (Value.int .u8 0):=List.map_replicate;rw[e];simp only[splice,F0,List.take_zero,List.nil_append,List.length_map,Nat.zero_add,List.drop_replicate,List.map_append,List.map_replicate]
theorem Ip{P:Program}{ops:Array Oper}{rest:List Oper}{o:Oper}{a:Act}{w:World}{Q:Exit→Act→World→Prop}(hgd:o.guard=none)(ty:TypeId)(x y:Operand)(ho:o.op=.store ty x y)
  (g:Nat)(cells:Array Value)(hx:a.eval x=.pointer (some ⟨g,0,none⟩))(hy:a.eval y=.agg cells)
  (t:TypeId)(old:Array Value)(hg:w.heap[g]?=some (.cells old t (0,0)))(hi:(P.info? ty).map (·.size)=some cells.size)
  (hold:old.size=cells.size)(h1:cells.all (·.oneCell')=true)(B:Nat)(w0:World)(hb:Below B w0 w)(hBg:B≤g)
  (h:∀ w',w'.heap[g]?=some (.cells cells t (0,0))→Below B w0 w'→wpList P ops Q rest (a.put o.dst undef) w'):wpList P ops Q (o::rest) a w :=
 wpList_store_row hgd ty x y ho g cells hx hy t old hg hi hold h1 (h _ (setRow_heap w g _ _ t _ hg) (B0 hb hBg _))
theorem Sl.copySrc{w:World}{sp:Option Addr}{n c:Nat}{l:List Int}(h:Sl w (.slice sp n c) l)(hp:0<l.length):∃ ad,sp=some ad∧∀ (j:Nat) (v:Value),(l.map (Value.int .u8))[j]?=some v→w.cell? (ad.add j)=some v:=by
 obtain⟨⟨a,cap,e,hc,hn,h1⟩,hla,hba⟩:=h;simp only[Value.slice.injEq]at e;obtain⟨rfl,rfl,rfl⟩:=e;rcases h1 with rfl|⟨b,off,rfl,_,hcell⟩
 ·simp at hp
 ·refine⟨_,rfl,fun j v hj=>?_⟩;have hjl:j<l.length:=by
   have:=(List.getElem?_eq_some_iff.1 hj).1;simpa using this
  have hadd:(⟨b,off,none⟩:Addr).add j=⟨b,off+j,none⟩:=by unfold Addr.add;split<;>simp_all
  rw[hadd,hcell j hjl];simp[List.getElem?_eq_getElem hjl]at hj
  rw[AN hjl,hj]
theorem OH(v:Value)(l:List Int)(w:World)(h:Sl w v l)(hl:l.length≤100000)(ht:AD w) :
  Calls prog 144 #[v] w fun e w'=>e=.returned (.agg (AL (fk l)))∧Bw w w':=by
 have hs:=h;obtain⟨⟨a,cap,rfl,hc,hn,h1⟩,hla,hba⟩:=h;have H1:Hid _:=h1;have hsz:(prog.info? 223).map (·.size)=some (AL (fk l)).size:=by rw[Az,Ev];kernel_rfl
 clear h1 hba;by_cases hk:64<l.length
 ·have ek:Hp l=dig l:=by unfold Hp;rw[if_pos hk]
  have EK:Hid (fk l=F0 (dig l) 64):=by unfold Hid fk;rw[ek]
  clear ek;go_enter func144,ntmps144
  go_wp2_with fail
  generalize hW0:w.alloc _=W0;have hb0:Bw w W0:=by rw[← hW0];exact(Below.refl _ _).alloc (Nat.le_refl _) _
  have hr0:W0.heap[w.heap.size]?=some (.cells (AL (List.replicate 64 0)) 223 (0,0)):=by rw[← hW0];exact heap_alloc_new _ _
  have hs0:W0.heap.size=w.heap.size+1:=by rw[← hW0];simp
  clear hW0;refine(EE _ l W0 (hs.below hb0) hl (ht.below hb0)).mono ?_;rintro e w1 ⟨v1,rfl,ho1,hb1⟩;obtain⟨g1,c1,hv,hgB,hgs,hcp,hcell,_⟩:=DD ho1 (EM (Aw l));subst hv;have hr1:w1.heap[w.heap.size]?=some (.cells (AL (List.replicate 64 0)) 223 (0,0)):=(hb1.block _ (by omega)).trans hr0;have hB1:Bw w w1:=hb0.trans (hb1.mono hb0.size);have hz1:w.heap.size<w1.heap.size:=(Array.getElem?_eq_some_iff.1 hr1).1;have s1:Sl w1 (.slice (some ⟨g1,0,none⟩) (dig l).length c1) (dig l):=Sl.ofOwns ho1 (by rw[Aw];omega) (Di l);go_wp2_with (refine wpList_copy_splice rfl _ _ 25 25 rfl 5 underlying25 Mz _ _ _ _ _ _ rfl rfl w1.heap.size 0 ((List.replicate 64 (0:Int)).map (Value.int .u8)) 223 (heap_alloc_new _ _) ((dig l).map (Value.int .u8)) (by rw[List.length_map,Aw];rfl) (fun _=>⟨rfl,(s1.below ((Below.refl _ _).alloc (Nat.le_refl _) _)).copySrc (by rw[Aw];omega)⟩) (by rw[List.length_map,Aw];simp) (Ey _) w1.heap.size _ (Below.refl _ _) (Nat.le_refl _) ?_)
  intro w2 H2 hb2;have hr2:w2.heap[w1.heap.size]?=some (.cells (AL (fk l)) 223 (0,0)):=by
   have h3:w2.heap[w1.heap.size]?=some (.cells (splice ((List.replicate 64 (0:Int)).map (Value.int .u8)) 0 ((dig l).map (Value.int .u8))).toArray 223 (0,0)):=H2.out;rw[Jr]at h3
   rw[EK.out];exact h3
  have hB2:Bw w w2:=(hB1.alloc hB1.size _).trans (hb2.mono (by omega));have hq2:w2.heap[w.heap.size]?=some (.cells (AL (List.replicate 64 0)) 223 (0,0)):=by
   rw[hb2.block _ hz1,heap_alloc_old _ _ hz1];exact hr1
  clear H2 hb2 hr1 hr0 hs0 hb0 hb1 hcell ho1 s1 hgs hgB;go_wp2_with (first|(refine wpList_load_row rfl 223 _ rfl w1.heap.size rfl 223 _ (0,0) _ hr2 underlying223 rfl hsz ?_)|(refine wpList_store_row rfl 223 _ _ rfl w.heap.size _ rfl rfl 223 _ hq2 hsz (by rw[Az,Az,Ev];rfl) (Kb _) ?_))
  refine bodyPost_ret (v:=.agg (AL (fk l))) (results_cell_row rfl _ _ w.heap.size 223 _ (0,0) _ rfl (setRow_heap w2 w.heap.size _ _ 223 _ hq2) underlying223 rfl hsz) rfl ⟨rfl,B0 hB2 (Nat.le_refl _) _⟩
 ·have ek:Hp l=l:=by unfold Hp;rw[if_neg hk]
  have EK:Hid (fk l=F0 l 64):=by unfold Hid fk;rw[ek]
  clear ek;go_enter func144,ntmps144
  go_wp2_with (refine wpList_copy_splice rfl _ _ 25 25 rfl 5 underlying25 Mz _ _ _ _ _ _ rfl rfl (w.heap.size+1) 0 ((List.replicate 64 (0:Int)).map (Value.int .u8)) 223 (heap_alloc2_new _ _ _) (l.map (Value.int .u8)) (by rw[List.length_map];exact(Nat.min_eq_left (show l.length≤64 by omega)).symm) (fun hp=>⟨rfl,(hs.below (((Below.refl _ _).alloc (Nat.le_refl _) _).alloc (by simp) _)).copySrc (by simpa using hp)⟩) (by rw[List.length_map,List.length_map,List.length_replicate];omega) (Ey _) (w.heap.size+1) _ (Below.refl _ _) (Nat.le_refl _) ?_)
  intro w2 H2 hb2;have hr2:w2.heap[w.heap.size+1]?=some (.cells (AL (fk l)) 223 (0,0)):=by
   have h3:w2.heap[w.heap.size+1]?=some (.cells (splice ((List.replicate 64 (0:Int)).map (Value.int .u8)) 0 (l.map (Value.int .u8))).toArray 223 (0,0)):=H2.out;rw[Jr]at h3
   rw[EK.out];exact h3
  have hB2:Bw w w2:=(((Below.refl _ _).alloc (Nat.le_refl _) _).alloc (by simp) _).trans (hb2.mono (by omega));have hq2:w2.heap[w.heap.size]?=some (.cells (AL (List.replicate 64 0)) 223 (0,0)):=by
   rw[hb2.block _ (by omega)];exact heap_alloc2_old _ _ _
  clear H2 hb2;go_wp2_with (first|(refine wpList_load_row rfl 223 _ rfl (w.heap.size+1) rfl 223 _ (0,0) _ hr2 underlying223 rfl hsz ?_)|(refine wpList_store_row rfl 223 _ _ rfl w.heap.size _ rfl rfl 223 _ hq2 hsz (by rw[Az,Az,Ev];rfl) (Kb _) ?_))
  refine bodyPost_ret (v:=.agg (AL (fk l))) (results_cell_row rfl _ _ w.heap.size 223 _ (0,0) _ rfl (setRow_heap w2 w.heap.size _ _ 223 _ hq2) underlying223 rfl hsz) rfl ⟨rfl,B0 hB2 (Nat.le_refl _) _⟩
theorem Zl(l:List Int)(hl:l.length=64)(j:Nat)(hj:j<64):∀ w,(Instr.index 223 (.agg (AL l)) (.int .i64 (j:Int))).run prog w=.ok (.int .u8 (l.getD j 0)) w:=by
 intro w;have hg:(AL l)[j]?=some (.int .u8 (l.getD j 0)):=by
  simp[AL,List.getElem?_eq_getElem (show j<l.length by omega),List.getD]
 have h0:(0:Int)≤j∧(j:Int)<64:=by omega
 simp[Instr.index,run_underlying underlying223,asIntOf,h0,part,hg];intro h;omega
theorem KF(k:List Int)(m:Int)(w:World)(hk:k.length=64)(hm:0≤m∧m<256)(hb:∀ x∈k,0≤x∧x<256) :
  Calls prog 146 #[.agg (AL k),.int .u8 m] w fun e w'=>∃ v',e=.returned v'∧w'.ownsRow w.heap.size 5 1 v' (Bd k m).length ((Bd k m).map (Value.int .u8))∧Bw w w':=by
 obtain⟨i0,hi,hz0,hz1,hz2⟩:=info_parts At;have hsz:(prog.info? 223).map (·.size)=some (AL k).size:=by rw[Az,hk];kernel_rfl
 have HK:Hid (k.length=64):=hk;clear hk;go_enter func146,ntmps146
 go_wp2_with (at_make;refine wpList_make_own _ rfl _ _ 25 rfl w.heap.size 5 i0 (.int .u8 0) 1 underlying25 hi hz0 hz1 _ _ _ 64 rfl rfl (by omega) (by rw[hz2];omega) (by unfold maxLen;omega) (by simp) ?_)
 intro w1 ho1 hg1;have hb1:Bw w w1:=((Below.refl _ _).alloc (Nat.le_refl _) _).grown hg1 (by simp) (by simp);have hrow:w1.heap[w.heap.size]?=some (.cells (AL k) 223 (0,0)):=by
  rw[hg1.block w.heap.size (by simp) (by simp)];exact heap_alloc_new _ _
 have ho1':w1.ownsRow w.heap.size 5 1 (.slice (some ⟨w.heap.size+1,0,none⟩) 0 64) (Bd (k.take 0) m).length ((Bd (k.take 0) m).map (Value.int .u8)):=ho1;clear ho1 hg1;go_wp2_with (refine wpList_load_row rfl 223 _ rfl w.heap.size rfl 223 _ (0,0) _ hrow underlying223 rfl hsz ?_)
 go_loopw [5,10] (fun v i wr=>∃ j:Nat,j≤64∧i=.int .i64 j∧wr.ownsRow w.heap.size 5 1 v (Bd (k.take j) m).length ((Bd (k.take j) m).map (Value.int .u8))∧Bw w wr) (fun _ i _=>64-(intOf i).toNat)
 case atStart=>exact⟨0,by omega,rfl,ho1',hb1⟩
 case round =>
  clear ho1' hb1 hrow;obtain⟨j,hj,rfl,hown,hbw⟩:=hrel;have hlt:=hown.lt;by_cases hj64:j<64
  ·have hix:=Zl k HK.out j hj64;have hlen:(Bd (k.take j) m).length≤64:=by rw[EH,List.length_take];omega
   have HT:Hid (Bd (k.take (j+1)) m=Bd (k.take j) m++[bits .xor .u8 (k.getD j 0) m]):=by
    unfold Hid;have hjl:j<k.length:=by rw[HK.out];exact hj64
    rw[List.take_succ_eq_append_getElem hjl,AN hjl,Bd,List.map_append];rfl
   have hxb:=Ak hb j;have hyb:0≤bits .xor .u8 (k.getD j 0) m∧bits .xor .u8 (k.getD j 0) m<256:=by
    rw[u8_xor _ _ hxb.1 hxb.2 hm.1 hm.2];have:(k.getD j 0).toNat ^^^ m.toNat<256:=Nat.xor_lt_two_pow (n:=8) (by omega) (by omega);omega
   have HY:Hid (0≤bits .xor .u8 (k.getD j 0) m∧bits .xor .u8 (k.getD j 0) m<256):=hyb;generalize Bd (k.take j) m=pre at hown HT hlen;generalize k.getD j 0=x at hix HT hxb hyb HY;clear hyb hxb;go_wp2_with (at_builtin;refine Aa _ rfl _ _ 25 rfl w.heap.size 5 underlying25 At _ _ rfl rfl pre _ (hown.alloc _) (Sl.one _ _ _ rfl HY.out) (by simp;omega) (by have:=hbw.size;simp;omega) ?_)
   intro v' w' ho hg;have ho':w'.ownsRow w.heap.size 5 1 v' (pre++[bits .xor .u8 x m]).length ((pre++[bits .xor .u8 x m]).map (Value.int .u8)):=by simpa using ho
   have hb':Bw w w':=(hbw.alloc hbw.size _).grown hg (by have:=hbw.size;simp;omega) (fun k hk=>(hlt k hk).1);clear ho hg hown hlt hbw;go_wp2
   go_roundw
   case rel=>exact⟨j+1,by omega,by go_num,by rw[HT.out];exact ho',hb'⟩
   case measure=>simp[intOf];omega
  ·have HJ:Hid (k.take j=k):=by unfold Hid;exact List.take_of_length_le (by rw[HK.out];omega)
   go_wp2
   go_ret;refine⟨u5,rfl,?_,hbw⟩;rw[HJ.out]at hown
   exact hown
theorem N1(vk vb:Value)(k b:List Int)(w:World)(hk:Sl w vk k)(hb:Sl w vb b)(hkl:k.length≤100000)(hbl:b.length≤90000)(ht:AD w) :
  Calls prog 113 #[vk,vb] w fun e w'=>∃ v',e=.returned v'∧Fresh w w' v' (DL k b):=by
 have hsz:(prog.info? 223).map (·.size)=some (AL (fk k)).size:=by rw[Az,Ev];kernel_rfl
 have hfb:=YV hk.byte;have hfl:=Ev k;have HF:Hid (DL k b=dig (Bd (fk k) 92++dig (Bd (fk k) 54++b))):=rfl;go_enter func113,ntmps113
 go_wp2_with fail
 refine(OH vk k w hk hkl ht).mono ?_;rintro e w1 ⟨rfl,hb1⟩;generalize fk k=K at hsz hfb hfl HF ⊢;go_wp2_with (refine Ip rfl 223 _ _ rfl w1.heap.size _ rfl rfl 223 _ (heap_alloc_new _ _) hsz (by rw[Az,hfl];rfl) (Kb _) w.heap.size w (hb1.alloc hb1.size _) hb1.size ?_)
 intro w2 hrow hb2;have hz:w1.heap.size<w2.heap.size:=(Array.getElem?_eq_some_iff.1 hrow).1;go_wp2_with (refine wpList_load_row rfl 223 _ rfl w1.heap.size rfl 223 _ (0,0) _ hrow underlying223 rfl hsz ?_)
 refine(KF K 54 w2 hfl (by omega) hfb).mono ?_;rintro e w3 ⟨v3,rfl,ho3,hb3⟩;have hB3:Bw w w3:=hb2.trans (hb3.mono hb2.size);have hlt3:=ho3.lt;have lm54:(Bd K 54).length=64:=by rw[EH,hfl]
 have lm92:(Bd K 92).length=64:=by rw[EH,hfl]
 have bm54:=KE hfb (m:=54) (by omega);have bm92:=KE hfb (m:=92) (by omega);go_wp2_with (at_builtin;refine Aa _ rfl _ _ 25 rfl w2.heap.size 5 underlying25 At _ _ rfl rfl (Bd K 54) b ho3 (hb.below hB3) (by omega) hb3.size ?_)
 intro v4 w4 ho4 hg4;have hb4:Bw w2 w4:=hb3.grown hg4 hb3.size (fun k hk=>(hlt3 k hk).1);have hB4:Bw w w4:=hb2.trans (hb4.mono hb2.size);have ho4':w4.ownsRow w2.heap.size 5 1 v4 (Bd K 54++b).length ((Bd K 54++b).map (Value.int .u8)):=by simpa[lm54]using ho4
 have by4:∀ x∈Bd K 54++b,0≤x∧x<256:=fun x hx=>by
  rcases List.mem_append.1 hx with h|h
  ·exact bm54 x h
  ·exact hb.byte x h
 have ly4:(Bd K 54++b).length≤91000:=by rw[List.length_append,lm54];omega
 clear ho4 hg4 ho3 hlt3;generalize Bd K 54++b=L4 at ho4' by4 ly4 HF;go_wp2_with fail
 refine(EE v4 L4 w4 (Sl.ofOwns ho4' (by omega) by4) (by omega) (ht.below hB4)).mono ?_;rintro e w5 ⟨v5,rfl,ho5,hb5⟩;have hb5':Bw w2 w5:=hb4.trans (hb5.mono hb4.size);have s5:Sl w5 v5 (dig L4):=Sl.ofOwns ho5 (by rw[Aw];omega) (Di L4);have l5:=Aw L4;have y5:=Di L4;generalize dig L4=D at s5 HF l5 y5;have hrow5:w5.heap[w1.heap.size]?=some (.cells (AL K) 223 (0,0)):=(hb5'.block _ hz).trans hrow;clear ho4' ho5;go_wp2_with (refine wpList_load_row rfl 223 _ rfl w1.heap.size rfl 223 _ (0,0) _ hrow5 underlying223 rfl hsz ?_)
 refine(KF K 92 w5 hfl (by omega) hfb).mono ?_;rintro e w6 ⟨v6,rfl,ho6,hb6⟩;have hlt6:=ho6.lt;go_wp2_with (at_builtin;refine Aa _ rfl _ _ 25 rfl w5.heap.size 5 underlying25 At _ _ rfl rfl (Bd K 92) D ho6 (s5.below hb6) (by omega) hb6.size ?_)
 intro v7 w7 ho7 hg7;have hb7:Bw w5 w7:=hb6.grown hg7 hb6.size (fun k hk=>(hlt6 k hk).1);have hB5:Bw w w5:=hb2.trans (hb5'.mono hb2.size);have hB7:Bw w w7:=hB5.trans (hb7.mono hB5.size);have ho7':w7.ownsRow w5.heap.size 5 1 v7 (Bd K 92++D).length ((Bd K 92++D).map (Value.int .u8)):=by simpa[lm92,l5]using ho7
 have by7:∀ x∈Bd K 92++D,0≤x∧x<256:=fun x hx=>by
  rcases List.mem_append.1 hx with h|h
  ·exact bm92 x h
  ·exact y5 x h
 have ly7:(Bd K 92++D).length≤96:=by rw[List.length_append,lm92];omega
 clear ho7 hg7 ho6 hlt6;generalize Bd K 92++D=L7 at ho7' by7 ly7 HF;go_wp2_with fail
 refine(EE v7 L7 w7 (Sl.ofOwns ho7' (by omega) by7) (by omega) (ht.below hB7)).mono ?_;rintro e w8 ⟨v8,rfl,ho8,hb8⟩;go_wp2
 go_ret;refine⟨v8,rfl,?_⟩;rw[HF.out];exact Fresh.ofOwns (AP ho8 hB7.size) (EM (Aw L7)) (by rw[Aw];omega) (Di L7) (hB7.trans (hb8.mono hB7.size))
theorem bW(vk vb:Value)(k b:List Int)(w:World)(hk:Sl w vk k)(hb:Sl w vb b)(hkl:k.length≤256)(hbl:b.length≤2000)(ht:AD w) :
  Calls prog 111 #[vk,vb] w fun e w'=>∃ v',e=.returned (.tuple #[v',.int .i64 0])∧Fresh w w' v' (DL k b):=by
 have hs:=hk;have hs2:=hb;obtain⟨⟨a,cap,rfl,_,_,_⟩,hla,hba⟩:=hk;obtain⟨⟨a2,cap2,rfl,_,_,_⟩,hla2,hba2⟩:=hb;clear hba hba2;go_enter func111,ntmps111
 go_wp2_with fail
 refine(N1 _ _ k b w hs hs2 (by omega) (by omega) ht).mono ?_;rintro e w1 ⟨v1,rfl,hf⟩;go_wp2
 go_ret2
 exact⟨v1,rfl,hf⟩
theorem NE(va vi:Value)(a i:List Int)(c:Int)(w:World)(ha:Sl w va a)(hi:Sl w vi i)(hal:a.length≤1000)(hil:i.length≤1000)(hc:0≤c∧c<256) :
  Calls prog 143 #[va,vi,.int .u8 c] w fun e w'=>∃ v',e=.returned v'∧w'.ownsRow w.heap.size 5 1 v' (a++i++[c]).length ((a++i++[c]).map (Value.int .u8))∧Bw w w':=by
 obtain⟨i0,hi0,hz0,hz1,hz2⟩:=info_parts At;have hs:=ha;have hs2:=hi;obtain⟨⟨aa,cap,rfl,_,_,_⟩,hla,hba⟩:=ha;obtain⟨⟨a2,cap2,rfl,_,_,_⟩,hla2,hba2⟩:=hi;clear hba hba2;go_enter func143,ntmps143
 go_wp2_with (at_make;refine wpList_make_own _ rfl _ _ 25 rfl w.heap.size 5 i0 (.int .u8 0) 1 underlying25 hi0 hz0 hz1 _ _ _ (a.length+i.length+1) rfl rfl (by omega) (by rw[hz2];omega) (by unfold maxLen;omega) (Nat.le_refl _) ?_)
 intro w1 ho1 hg1;have hb1:Bw w w1:=(Below.refl _ _).grown hg1 (Nat.le_refl _) (by simp);have ho1':w1.ownsRow w.heap.size 5 1 (.slice (some ⟨w.heap.size,0,none⟩) 0 (a.length+i.length+1)) ([]:List Int).length (([]:List Int).map (Value.int .u8)):=ho1;clear ho1 hg1;go_wp2_with (at_builtin;refine Aa _ rfl _ _ 25 rfl w.heap.size 5 underlying25 At _ _ rfl rfl [] a ho1' (hs.below hb1) (by simp;omega) hb1.size ?_)
 intro v2 w2 ho2 hg2;have ho2':w2.ownsRow w.heap.size 5 1 v2 a.length (a.map (Value.int .u8)):=by simpa using ho2
 have hb2:Bw w w2:=hb1.grown hg2 hb1.size (by simp[Value.ownBlock]);have hlt2:=ho2'.lt;clear ho1' hg2 hb1 ho2;go_wp2_with (at_builtin;refine Aa _ rfl _ _ 25 rfl w.heap.size 5 underlying25 At _ _ rfl rfl a i ho2' (hs2.below hb2) (by omega) hb2.size ?_)
 intro v3 w3 ho3 hg3;have ho3':w3.ownsRow w.heap.size 5 1 v3 (a++i).length ((a++i).map (Value.int .u8)):=by simpa using ho3
 have hb3:Bw w w3:=hb2.grown hg3 hb2.size (fun k hk=>(hlt2 k hk).1);have hlt3:=ho3'.lt;clear ho2' hg3 hb2 ho3 hlt2;go_wp2_with (at_builtin;refine Aa _ rfl _ _ 25 rfl w.heap.size 5 underlying25 At _ _ rfl rfl (a++i) [c] (ho3'.alloc _) (Sl.one _ _ _ rfl hc) (by simp;omega) (by have:=hb3.size;simp;omega) ?_)
 intro v4 w4 ho4 hg4;have ho4':w4.ownsRow w.heap.size 5 1 v4 (a++i++[c]).length ((a++i++[c]).map (Value.int .u8)):=by simpa using ho4
 have hb4:Bw w w4:=(hb3.alloc hb3.size _).grown hg4 (by have:=hb3.size;simp;omega) (fun k hk=>(hlt3 k hk).1);clear ho3' hg4 hb3 ho4 hlt3;go_wp2
 go_ret;exact⟨v4,rfl,ho4',hb4⟩
theorem Sl.grown{w w':World}{b off n cap:Nat}{l:List Int}{row:Option Nat}(h:Sl w (.slice (some ⟨b,off,none⟩) n cap) l)(hg:w.grownBy w' row)(hne:some b≠row):Sl w' (.slice (some ⟨b,off,none⟩) n cap) l:=by
 obtain⟨⟨a,cap',e,hc,hn,h1⟩,h2,h3⟩:=h;refine⟨⟨a,cap',e,hc,hn,?_⟩,h2,h3⟩;simp only[Value.slice.injEq]at e;obtain⟨rfl,_,_⟩:=e;rcases h1 with h1|⟨b',off',e',hbs,hcell⟩
 ·exact .inl h1
 ·simp only[Option.some.injEq,Addr.mk.injEq,and_true]at e';obtain⟨rfl,rfl⟩:=e';refine .inr ⟨b,off,rfl,Nat.lt_of_lt_of_le hbs hg.size,fun i hi=>?_⟩;rw[← hcell i hi];exact World.cell?_of_block (w:=w) (hg.block b hbs hne)
def blk(key info:List Int):Nat→List Int
 | 0=>[]
 | i+1=>DL key (blk key info i++info++[(i:Int)+1])
def AX(key info:List Int):Nat→List Int
 | 0=>[]
 | i+1=>AX key info i++blk key info (i+1)
def Fy(key info:List Int)(n:Nat):List Int:=(AX key info 16).take n
theorem GA(key info:List Int)(i:Nat):(blk key info (i+1)).length=32:=Dl _ _
theorem Vp(key info:List Int)(i:Nat):∀ x∈blk key info i,0≤x∧x<256:=by
 cases i with
 | zero=>intro x hx;cases hx
 | succ i=>exact MB _ _
theorem cJ(key info:List Int)(i:Nat):(blk key info i).length≤32:=by
 cases i with
 | zero=>simp[blk]
 | succ i=>rw[GA];omega
theorem Cp(key info:List Int)(i:Nat):(AX key info i).length=32*i:=by
 induction i with
 | zero=>rfl
 | succ i ih=>rw[AX,List.length_append,ih,GA];omega
theorem PG(key info:List Int)(i:Nat):∀ x∈AX key info i,0≤x∧x<256:=by
 induction i with
 | zero=>intro x hx;cases hx
 | succ i ih =>
  intro x hx;rcases List.mem_append.1 hx with h|h
  ·exact ih x h
  ·exact Vp key info (i+1) x h
theorem PH(key info:List Int)(n i j:Nat)(hn:n≤32*i):(AX key info (i+j)).take n=(AX key info i).take n:=by
 induction j with
 | zero=>rfl
 | succ j ih=>rw[← Nat.add_assoc,AX,List.take_append_of_le_length (by rw[Cp];omega),ih]
theorem T2(key info:List Int)(n i:Nat):(AX key info (i+1)).take n=(AX key info i).take n++(blk key info (i+1)).take (n-32*i):=by
 rw[AX,List.take_append,Cp]
theorem Q9(vk vi:Value)(k i:List Int)(n:Nat)(w:World)(hk:Sl w vk k)(hi:Sl w vi i)(hkl:k.length≤1000)(hil:i.length≤900)(hn:n≤512)(ht:AD w) :
  Calls prog 112 #[vk,vi,.int .i64 n] w fun e w'=>∃ v',e=.returned v'∧w'.ownsRow w.heap.size 5 1 v' (Fy k i n).length ((Fy k i n).map (Value.int .u8))∧Bw w w':=by
 obtain⟨i0,hi0,hz0,hz1,hz2⟩:=info_parts At;go_enter func112,ntmps112
 go_wp2_with (at_make;refine wpList_make_own _ rfl _ _ 25 rfl w.heap.size 5 i0 (.int .u8 0) 1 underlying25 hi0 hz0 hz1 _ _ _ n rfl rfl (by omega) (by rw[hz2];omega) (by unfold maxLen;omega) (Nat.le_refl _) ?_)
 intro w1 ho1 hg1;have hb1:Bw w w1:=(Below.refl _ _).grown hg1 (Nat.le_refl _) (by simp);have ho1':w1.ownsRow w.heap.size 5 1 (.slice (some ⟨w.heap.size,0,none⟩) 0 n) ((AX k i 0).take n).length (((AX k i 0).take n).map (Value.int .u8)):=by simpa[AX]using ho1
 clear ho1 hg1;go_wp2_with fail
 go_loopw [7,8,9] (fun v b c wr=>∃ j:Nat,j≤16∧c=.int .u8 ((j:Int)+1)∧(∃ m cap,v=.slice (some ⟨m,0,none⟩) (min (32*j) n) cap)∧Sl wr b (blk k i j)∧wr.ownsRow w.heap.size 5 1 v ((AX k i j).take n).length (((AX k i j).take n).map (Value.int .u8))∧Bw w wr) (fun _ _ c _=>(17-intOf c).toNat)
 case atStart=>exact⟨0,by omega,rfl,⟨w.heap.size,n,by simp⟩,Sl.nil _ _,ho1',hb1⟩
 case round =>
  clear ho1' hb1;obtain⟨j,hj,rfl,⟨m,cap,rfl⟩,sb,hown,hb⟩:=hrel;have hlt:=hown.lt;by_cases hc:32*j<n
  ·have hmin:min (32*j) n=32*j:=by omega
   rw[hmin]at hown hlt ⊢
   have hmw:m<wr.heap.size:=(hlt m rfl).2;have hlen:((AX k i j).take n).length=32*j:=by rw[List.length_take,Cp];omega
   have hbl:=cJ k i j;have hj15:j≤15:=by omega
   have HB:Hid (blk k i (j+1)=DL k (blk k i j++i++[(j:Int)+1])):=rfl;have HS:=T2 k i n j;have HSS:Hid _:=HS;have yb:∀ x∈blk k i j++i++[(j:Int)+1],0≤x∧x<256:=fun x hx=>by
    rcases List.mem_append.1 hx with h|h
    ·rcases List.mem_append.1 h with h|h
     ·exact sb.byte x h
     ·exact hi.byte x h
    ·obtain rfl:x=(j:Int)+1:=by simpa using h
     omega
   clear HS hmin;go_wp2_with fail
   refine(NE _ vi (blk k i j) i ((j:Int)+1) wr sb (hi.below hb) (by omega) (by omega) (by omega)).mono ?_;rintro e w2 ⟨v2,rfl,ho2,hb2⟩;have hB2:Bw w w2:=hb.trans (hb2.mono hb.size);have l2:(blk k i j++i++[(j:Int)+1]).length≤2000:=by simp;omega
   have s2:=Sl.ofOwns ho2 (by omega) yb;go_wp2_with fail
   refine(N1 vk v2 k _ w2 (hk.below hB2) s2 (by omega) (by omega) (ht.below hB2)).mono ?_;rintro e w3 ⟨v3,rfl,f3⟩;rw[← HB.out]at f3
   obtain⟨g3,c3,hv3,_,hc3⟩:=f3.shape;have s3:=f3.sl;have hb3:=f3.bel;have l3:=GA k i j;rw[l3]at hv3 hc3
   subst hv3;clear HB f3 s2 ho2 l2 yb sb;have ho3:=hown;have hown3:w3.ownsRow w.heap.size 5 1 (.slice (some ⟨m,0,none⟩) (32*j) cap) ((AX k i j).take n).length (((AX k i j).take n).map (Value.int .u8)):=by
    refine hown.kept (row:=none) ⟨(hb2.trans (hb3.mono hb2.size)).os,(hb2.trans (hb3.mono hb2.size)).tape,(hb2.trans (hb3.mono hb2.size)).output,(hb2.trans (hb3.mono hb2.size)).size,fun q hq _=>(hb2.trans (hb3.mono hb2.size)).block q hq⟩ (.inr (by simp[Value.ownBlock]))
   have hB3:Bw w w3:=hB2.trans (hb3.mono hB2.size);have hlt3:=hown3.lt;have HL:Hid ((AX k i (j+1)).take n=(AX k i j).take n++(blk k i (j+1)).take (n-32*j)):=HSS.out;clear HSS ho3 hown hlt;have hM:((blk k i (j+1)).take (n-32*j)).length=min (n-32*j) 32:=by rw[List.length_take,l3]
   have sM:Sl w3 (.slice (some ⟨g3,0,none⟩) (min (n-32*j) 32) c3) ((blk k i (j+1)).take (n-32*j)):=by
    by_cases hq:n-32*j≤32
    ·rw[Nat.min_eq_left hq];exact s3.take (n-32*j) (by omega)
    ·rw[Nat.min_eq_right (by omega),List.take_of_length_le (by omega)];exact s3
   have HN:=s3;have hlt2:((AX k i (j+1)).take n).length=min (32*(j+1)) n:=by rw[List.length_take,Cp];omega
   have HL2:Hid (((AX k i (j+1)).take n).length=min (32*(j+1)) n):=hlt2;clear HN hlt2;generalize (blk k i (j+1)).take (n-32*j)=M at sM hM HL;generalize (AX k i j).take n=P at hown3 hlt3 hlen HL;have SB:Sl w3 (.slice (some ⟨g3,0,none⟩) 32 c3) (blk k i (j+1)):=s3;clear s3;have hmin:(min (32:Int) ((n:Int)-32*(j:Int))).toNat=min (n-32*j) 32:=by omega
   have sM':Sl w3 (.slice (some ⟨g3,0,none⟩) (min (32:Int) ((n:Int)-32*(j:Int))).toNat c3) M:=by rw[hmin];exact sM
   have hmlt:m<w2.heap.size:=Nat.lt_of_lt_of_le hmw hb2.size;clear hmin sM;go_wp2_with (at_builtin;refine Aa _ rfl _ _ 25 rfl w.heap.size 5 underlying25 At _ _ rfl rfl P M hown3 sM' (by omega) hB3.size ?_)
   intro v4 w4 ho4 hg4;have ho4':w4.ownsRow w.heap.size 5 1 v4 (P++M).length ((P++M).map (Value.int .u8)):=by simpa[hlen,hM]using ho4
   have hb4:Bw w w4:=hB3.grown hg4 hB3.size (fun k hk=>(hlt3 k hk).1);have SB4:Sl w4 (.slice (some ⟨g3,0,none⟩) 32 c3) (blk k i (j+1)):=SB.grown hg4 (by simp[Value.ownBlock];omega);obtain⟨g4,c4,hv4,_,_,_,_,_⟩:=DD ho4' (by intro e;have:=congrArg List.length e;rw[List.length_append,hlen,hM]at this;simp at this;omega);have hPM:(P++M).length=min (32*(j+1)) n:=by rw[← HL.out];exact HL2.out
   rw[← HL.out]at ho4'
   rw[hPM]at hv4
   subst hv4;clear ho4 hg4 hown3 hlt3 hB3 SB sM' hM HL HL2 hPM hlen;go_wp2
   go_roundw
   case rel=>exact⟨j+1,by omega,by go_num,⟨g4,c4,rfl⟩,SB4,ho4',hb4⟩
   case measure=>simp[intOf];omega
  ·have hmin:min (32*j) n=n:=by omega
   rw[hmin]at hown ⊢
   have HQ:Hid (Fy k i n=(AX k i j).take n):=by
    unfold Hid Fy;have:=PH k i n j (16-j) (by omega);rw[show j+(16-j)=16 by omega]at this
    exact this
   go_wp2
   go_ret;refine⟨_,rfl,?_,hb⟩;rw[HQ.out];exact hown
theorem Hi(k i:List Int)(n:Nat)(h:n≤512):(Fy k i n).length=n:=by
 unfold Fy;rw[List.length_take,Cp];omega
theorem Kp(k i:List Int)(n:Nat):∀ x∈Fy k i n,0≤x∧x<256:=fun x hx=>PG k i 16 x (List.mem_of_mem_take hx)
theorem RV(v0 v1 v2:Value)(l0 l1 l2:List Int)(n:Nat)(w:World)(h0:Sl w v0 l0)(h1:Sl w v1 l1)(h2:Sl w v2 l2)(hl0:l0.length≤256)(hl1:l1.length≤256)(hl2:l2.length≤256)(hn:n≤512)(ht:AD w) :
  Calls prog 74 #[v0,v1,v2,.int .i64 n] w fun e w'=>∃ v',e=.returned (.tuple #[v',.int .i64 0])∧w'.ownsRow w.heap.size 5 1 v' (Fy (DL l1 l0) l2 n).length ((Fy (DL l1 l0) l2 n).map (Value.int .u8))∧Bw w w':=by
 have s0:=h0;have s1:=h1;have s2:=h2;obtain⟨⟨a0,c0,rfl,_,_,_⟩,_,_⟩:=h0;obtain⟨⟨a1,c1,rfl,_,_,_⟩,_,_⟩:=h1;obtain⟨⟨a2,c2,rfl,_,_,_⟩,_,_⟩:=h2;have d0:decide ((256:Int)<(l0.length:Int))=false:=by simp;omega
 have d1:decide ((256:Int)<(l1.length:Int))=false:=by simp;omega
 have d2:decide ((256:Int)<(l2.length:Int))=false:=by simp;omega
 have d3:decide ((n:Int)<0)=false:=by simp
 have d4:decide ((512:Int)<(n:Int))=false:=by simp;omega
 go_enter func74,ntmps74
 go_wp2_with fail
 refine(N1 _ _ l1 l0 w s1 s0 (by omega) (by omega) ht).mono ?_;rintro e w1 ⟨v1,rfl,f1⟩;have lm:=Dl l1 l0;go_wp2_with fail
 refine(Q9 v1 _ (DL l1 l0) l2 n w1 f1.sl (s2.below f1.bel) (by omega) (by omega) hn (ht.below f1.bel)).mono ?_;rintro e w2 ⟨v2,rfl,ho2,hb2⟩;go_wp2
 go_ret2
 exact⟨v2,rfl,AP ho2 f1.bel.size,f1.bel.trans (hb2.mono f1.bel.size)⟩
def Gn(c:Int):List Int:=Fy (DL [99,108,105,101,110,116] [c]) [] 32
def Gm:List Int:=Fy (DL [105,115,115,117,101,114] [255]) [] 32
theorem F4(c:Int):(Gn c).length=32:=Hi _ _ 32 (by omega)
theorem Ja:Gm.length=32:=Hi _ _ 32 (by omega)
theorem TS(c:Int):∀ x∈Gn c,0≤x∧x<256:=Kp _ _ _
theorem TJ:∀ x∈Gm,0≤x∧x<256:=Kp _ _ _
theorem Sl.sixM(w:World)(l:List Int)(e:TypeId)(fr:Nat × Nat){g:Nat}(hg:g=w.heap.size)(hl:l.length=6)(hb:∀ x∈l,0≤x∧x<256):Sl (w.alloc (.cells (l.map (Value.int .u8)).toArray e fr)) (.slice (some ⟨g,0,none⟩) 6 6) l:=by
 subst hg;refine⟨⟨_,6,by rw[hl],by omega,by simp,.inr ⟨w.heap.size,0,rfl,by simp,fun i hi=>?_⟩⟩,by omega,hb⟩;rw[cell_of_row _ _ (0+i) _ _ _ (heap_alloc_new w _)];simp[List.getElem?_eq_getElem hi,List.getD]
def FW(t:Nat)(x:Int):Int:=if t%4=3 then x%16 else if t%4=0∧0<t then x/4*4 else x
def Dm(l:List Int):List Int:=(List.range 16).map fun t=>FW t (l.getD t 0)
theorem LG(l:List Int):(Dm l).length=16:=by simp[Dm]
theorem Qo(l:List Int)(t:Nat)(h:t<16):(Dm l).getD t 0=FW t (l.getD t 0):=by
 simp[Dm,List.getD,List.getElem?_map,List.getElem?_range h]
theorem Nm(t:Nat){x:Int}(h:0≤x∧x<256):0≤FW t x∧FW t x<256:=by
 unfold FW;split
 ·omega
 ·split<;>omega
theorem O2{l:List Int}(h:∀ x∈l,0≤x∧x<256):∀ x∈Dm l,0≤x∧x<256:=by
 intro x hx;obtain⟨t,_,rfl⟩:=List.mem_map.1 hx;exact Nm t (Ak h t)
theorem Q7{l m:List Int}(h:l.length=m.length)(hg:∀ t,t<l.length→l.getD t 0=m.getD t 0):l=m:=by
 apply List.ext_getElem h;intro t h1 h2;have:=hg t h1
 rwa [AN h1,AN h2]at this
theorem eX(x:Int)(h0:0≤x)(h1:x<256):bits .and .u8 x 15=x%16:=by
 obtain⟨n,rfl⟩:=Int.eq_ofNat_of_zero_le h0;rw[show(15:Int)=((15:Nat):Int)from rfl,u8_and_nat _ _ (by omega) (by omega),show(15:Nat)=2^4-1 from rfl,Nat.and_two_pow_sub_one_eq_mod];omega
theorem Qe:∀ n:Fin 256,n.val &&& 252=n.val/4*4:=by decide +kernel
theorem cA(x:Int)(h0:0≤x)(h1:x<256):bits .and .u8 x 252=x/4*4:=by
 obtain⟨n,rfl⟩:=Int.eq_ofNat_of_zero_le h0;have e:n &&& 252=n/4*4:=Qe ⟨n,by omega⟩;rw[show(252:Int)=((252:Nat):Int)from rfl,u8_and_nat _ _ (by omega) (by omega),e];omega
structure Upper(l m:List Int)(j:Nat):Prop where
 len:m.length=16
 at_:∀ t,m.getD t 0=if t%4=3∧t<3+4*j then l.getD t 0%16 else l.getD t 0
theorem Upper.zero{l:List Int}(h:l.length=16):Upper l l 0:=by
 refine⟨h,fun t=>?_⟩;rw[if_neg (by omega)]
theorem Upper.succ{l m:List Int}{j:Nat}(h:Upper l m j)(hj:j<4):Upper l (m.set (3+4*j) (m.getD (3+4*j) 0%16)) (j+1):=by
 refine⟨by simpa using h.len,fun t=>?_⟩;by_cases e:3+4*j=t
 ·subst e;rw[AH (by rw[h.len];omega),h.at_,if_neg (by omega),if_pos (by omega)]
 ·rw[Ax e,h.at_];by_cases c:t%4=3∧t<3+4*j
  ·rw[if_pos c,if_pos (by omega)]
  ·rw[if_neg c,if_neg (by omega)]
structure Lower(l m:List Int)(j:Nat):Prop where
 len:m.length=16
 at_:∀ t,t<16→m.getD t 0=if t%4=3 then l.getD t 0%16 else if t%4=0∧0<t∧t<4+4*j then l.getD t 0/4*4 else l.getD t 0
theorem Upper.lower{l m:List Int}(h:Upper l m 4):Lower l m 0:=by
 refine⟨h.len,fun t ht=>?_⟩;rw[h.at_];by_cases c:t%4=3
 ·rw[if_pos (by omega),if_pos c]
 ·rw[if_neg (by omega),if_neg c,if_neg (by omega)]
theorem Lower.succ{l m:List Int}{j:Nat}(h:Lower l m j)(hj:j<3):Lower l (m.set (4+4*j) (m.getD (4+4*j) 0/4*4)) (j+1):=by
 refine⟨by simpa using h.len,fun t ht=>?_⟩;by_cases e:4+4*j=t
 ·subst e;rw[AH (by rw[h.len];omega),h.at_ _ ht,if_neg (by omega),if_neg (by omega),if_neg (by omega),if_pos (by omega)]
 ·rw[Ax e,h.at_ _ ht];by_cases c:t%4=3
  ·rw[if_pos c,if_pos c]
  ·rw[if_neg c,if_neg c];by_cases d:t%4=0∧0<t∧t<4+4*j
   ·rw[if_pos d,if_pos (by omega)]
   ·rw[if_neg d,if_neg (by omega)]
theorem Lower.clamp{l m:List Int}(h:Lower l m 3):m=Dm l:=by
 refine Q7 (by rw[h.len,LG]) (fun t ht=>?_);rw[h.len]at ht
 rw[h.at_ t ht,Qo l t ht,FW];by_cases c:t%4=3
 ·rw[if_pos c,if_pos c]
 ·rw[if_neg c,if_neg c];by_cases d:t%4=0∧0<t
  ·rw[if_pos d,if_pos (by omega)]
  ·rw[if_neg d,if_neg (by omega)]
theorem Upper.byte{l m:List Int}{j:Nat}(h:Upper l m j)(hl:∀ x∈l,0≤x∧x<256)(t:Nat):0≤m.getD t 0∧m.getD t 0<256:=by
 have:=Ak hl t;rw[h.at_];split<;>omega
theorem Lower.byte{l m:List Int}{j:Nat}(h:Lower l m j)(hl:∀ x∈l,0≤x∧x<256)(t:Nat)(ht:t<16):0≤m.getD t 0∧m.getD t 0<256:=by
 have:=Ak hl t;rw[h.at_ t ht];split
 ·omega
 ·split<;>omega
theorem QA(v:Value)(l:List Int)(w:World)(h:Sl w v l)(hl:l.length=16) :
  Calls prog 191 #[v] w fun e w'=>∃ r,e=.returned (.agg (Ah r))∧Lim 67108864 r∧val r%pp=leN (Dm l)%pp∧Bw w w':=by
 have hs:=h;obtain⟨⟨a,cap,rfl,hc,hn,h1⟩,hla,hba⟩:=h;have HBY:Hid (∀ x∈l,0≤x∧x<256):=hba;clear h1 hba hn hla;have HL:Hid (l.length=16):=hl;go_enter func191,ntmps191
 go_wp2_with (refine wpList_copy_splice rfl _ _ 25 25 rfl 5 underlying25 Wv _ _ _ _ _ _ rfl rfl (w.heap.size+1) 0 ((List.replicate 16 (0:Int)).map (Value.int .u8)) 283 (heap_alloc2_new _ _ _) (l.map (Value.int .u8)) (by rw[List.length_map];exact(Nat.min_eq_left (show l.length≤16 by omega)).symm) (fun hp=>⟨rfl,(hs.below (((Below.refl _ _).alloc (Nat.le_refl _) _).alloc (by simp) _)).src (by simpa using hp)⟩) (by rw[List.length_map,List.length_map,List.length_replicate];omega) (Ey _) (w.heap.size+1) _ (Below.refl _ _) (Nat.le_refl _) ?_)
 intro w2 H2 hb2;have hr2:w2.heap[w.heap.size+1]?=some (.cells (byA l) 283 (0,0)):=by
  have h3:w2.heap[w.heap.size+1]?=some (.cells (splice ((List.replicate 16 (0:Int)).map (Value.int .u8)) 0 (l.map (Value.int .u8))).toArray 283 (0,0)):=H2.out;rw[Ie,hl]at h3
  simpa[byA]using h3
 have hB2:Bw w w2:=(((Below.refl _ _).alloc (Nat.le_refl _) _).alloc (by simp) _).trans (hb2.mono (by omega));have hq2:w2.heap[w.heap.size]?=some (.cells (Ah [0,0,0,0,0]) 271 (0,0)):=by
  rw[hb2.block _ (by omega)];exact heap_alloc2_old _ _ _
 clear H2 hb2 hs;go_wp2_with fail
 go_loopw [4] (fun i wr=>∃ (j:Nat) (m:List Int),j≤4∧i=.int .i64 (3+4*(j:Int))∧Upper l m j∧wr.heap[w.heap.size]?=some (.cells (Ah [0,0,0,0,0]) 271 (0,0))∧wr.heap[w.heap.size+1]?=some (.cells (byA m) 283 (0,0))∧Bw w wr) (fun i _=>20-(intOf i).toNat)
 case atStart=>exact⟨0,l,by omega,rfl,Upper.zero HL.out,hq2,hr2,hB2⟩
 case round =>
  clear hq2 hr2 hB2;obtain⟨j,m,hj,rfl,hu,hq,hr,hb⟩:=hrel;have hm:=hu.len;by_cases hj4:j<4
  ·have hji:3+4*(j:Int)<16:=by omega
   have cl:=(cell_of_row _ _ (3+4*j) _ _ _ hr).trans (Hd m (3+4*j) (by omega));have fl:=frozen_of_row _ _ (3+4*j) _ _ hr;have hby:=hu.byte HBY.out (3+4*j);have HS:Hid (Upper l (m.set (3+4*j) (m.getD (3+4*j) 0%16)) (j+1)):=hu.succ hj4;have hand:=eX (m.getD (3+4*j) 0) hby.1 hby.2;generalize m.getD (3+4*j) 0=x at cl HS hby hand;clear hu;go_wp2
   go_roundw
   case rel =>
    refine⟨j+1,_,by omega,by go_num,HS.out,?_,FU hr _ _,?_⟩
    ·exact(heap_setCell_other _ _ _ _ (by simp)).trans hq
    ·exact hb.setCell (p:=⟨w.heap.size+1,3+4*j,none⟩) (by simp) _
   case measure=>simp[intOf];omega
  ·have HJ:Hid (j=4):=by unfold Hid;omega
   have hji:¬ 3+4*(j:Int)<16:=by omega
   have hlo:Lower l m 0:=by have:=HJ.out;subst this;exact hu.lower
   clear hu;go_wp2_with fail
   go_loopw [5] (fun i wr=>∃ (j:Nat) (m:List Int),j≤3∧i=.int .i64 (4+4*(j:Int))∧Lower l m j∧wr.heap[w.heap.size]?=some (.cells (Ah [0,0,0,0,0]) 271 (0,0))∧wr.heap[w.heap.size+1]?=some (.cells (byA m) 283 (0,0))∧Bw w wr) (fun i _=>20-(intOf i).toNat)
   case atStart=>exact⟨0,m,by omega,rfl,hlo,hq,hr,hb⟩
   case round =>
    clear hq hr hb hlo hm;obtain⟨k,m,hk,rfl,hu,hq,hr,hb⟩:=hrel;have hm:=hu.len;by_cases hk3:k<3
    ·have hki:4+4*(k:Int)<16:=by omega
     have cl:=(cell_of_row _ _ (4+4*k) _ _ _ hr).trans (Hd m (4+4*k) (by omega));have fl:=frozen_of_row _ _ (4+4*k) _ _ hr;have hby:=hu.byte HBY.out (4+4*k) (by omega);have HS:Hid (Lower l (m.set (4+4*k) (m.getD (4+4*k) 0/4*4)) (k+1)):=hu.succ hk3;have hand:=cA (m.getD (4+4*k) 0) hby.1 hby.2;generalize m.getD (4+4*k) 0=x at cl HS hby hand;clear hu;go_wp2
     go_roundw
     case rel =>
      refine⟨k+1,_,by omega,by go_num,HS.out,?_,FU hr _ _,?_⟩
      ·exact(heap_setCell_other _ _ _ _ (by simp)).trans hq
      ·exact hb.setCell (p:=⟨w.heap.size+1,4+4*k,none⟩) (by simp) _
     case measure=>simp[intOf];omega
    ·have hki:¬ 4+4*(k:Int)<16:=by omega
     have HK:Hid (k=3):=by unfold Hid;omega
     have hmc:m=Dm l:=by have:=HK.out;subst this;exact hu.clamp
     have s3:Sl wr (.slice (some ⟨w.heap.size+1,0,none⟩) 16 16) m:=by
      refine Sl.rowOf hr hm (by omega) ?_;rw[hmc];exact O2 HBY.out
     have HM:Hid (m=Dm l):=hmc;have HS3:Hid _:=s3;have hzz:w.heap.size<wr.heap.size:=(Array.getElem?_eq_some_iff.1 hq).1;clear hu s3 hmc hr;go_wp2_with fail
     refine(P0 _ m _ HS3.out (by omega)).mono ?_;rintro e w4 ⟨r,rfl,lr,vr,hb4⟩;have hq4:=(hb4.block w.heap.size hzz).trans hq;have hB4:Bw w w4:=hb.trans (hb4.mono hb.size);have hsz2:=Cx lr.1;go_wp2_with ((with_reducible (refine Ap ?_));(refine wpList_store_row rfl 271 _ _ rfl (w.heap.size) _ rfl rfl 271 _ hq4 hsz2 (by rw[Al,Al,lr.1];rfl) (Bn r) ?_))
     exact bodyPost_ret (v:=.agg (Ah r)) (results_cell_row rfl _ _ (w.heap.size) 271 _ (0,0) _ rfl (setRow_heap w4 (w.heap.size) _ _ 271 _ hq4) underlying271 rfl hsz2) rfl ⟨r,rfl,lr,by rw[vr,HM.out],AU hB4 (Nat.le_refl _) _⟩
end Go.Proofs.YtfhbkoflaekhpadGreatDoor
