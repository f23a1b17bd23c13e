/- Part 18 of the walk. -/
import Derived.Test.YtaeckakjdagddadGreatDoorZ13
import Derived.Test.YtaeckakjdagddadGreatDoorZ14
set_option maxRecDepth 100000
set_option maxHeartbeats 4000000
open Go.Proofs.Tryz
set_option linter.unusedVariables false
namespace Go.Proofs.YtaeckakjdagddadGreatDoor
open Go.RowKit
theorem Cr(p:Bal)(x:Value)(l:List Vt)(b:Bal)(w:World)(h:Sv w x l)(ht:NTab w) :
  Calls prog 116 #[.agg (acA p x),.agg (baA b)] w fun e w'=>∃ y z,e=.returned (.tuple #[.agg (acA (EV ⟨p,l⟩ b) y),z,.int .i64 (BO ⟨p,l⟩ b)])∧w'.ownsRow w.heap.size 162 8 y (EU ⟨p,l⟩ b).length (vtL (EU ⟨p,l⟩ b))∧w'.ownsRow w.heap.size 162 8 z (EU ⟨p,l⟩ b).length (vtL (EU ⟨p,l⟩ b))∧Bw w w':=by
 obtain⟨pr,pn⟩:=p;obtain⟨br,bn⟩:=b;have hlen:=h.len;obtain⟨ax,cp,rfl⟩:=h.shape;obtain⟨M,hM⟩:∃ M,l.length=M:=⟨_,rfl⟩;have HM:Hid (l.length=M):=hM;rw[hM]at h hlen ⊢
 clear hM;simp only[acA,baA];obtain⟨W0,hW0⟩:∃ W0,((w.alloc (.cells #[.int .i64 pr,.int .i64 pn,.slice ax M cp] 95)).alloc (.cells #[.int .i64 br,.int .i64 bn] 92)).alloc (.cells #[.int .i64 0,.int .i64 0,.slice none 0 0] 95)=W0:=⟨_,rfl⟩;obtain⟨r0,r1,r2,bb⟩:=Pc w (.cells #[.int .i64 pr,.int .i64 pn,.slice ax M cp] 95) (.cells #[.int .i64 br,.int .i64 bn] 92) (.cells #[.int .i64 0,.int .i64 0,.slice none 0 0] 95);have z0:W0.heap.size=w.heap.size+3:=by rw[← hW0];simp
 rw[hW0]at r0 r1 r2 bb
 have hl0:=h.below bb;go_enter func116,ntmps116
 go_wp2_with ((with_reducible (refine Ar ?_));refine wpList_load_row rfl 95 _ rfl w.heap.size rfl 95 _ (0,0) _ r0 underlying95 rfl (BG ⟨pr,pn⟩ (.slice ax M cp)) ?_)
 clear hW0;refine(If ⟨pr,pn⟩ (.slice ax M cp) l W0 hl0 (ht.below bb)).mono ?_;rintro e w1 ⟨rfl,b1⟩;have d1:=bb.trans (b1.mono bb.size);have z1:=b1.size;have q0:=(b1.block w.heap.size (by omega)).trans r0;have q1:=(b1.block (w.heap.size+1) (by omega)).trans r1;have q2:=(b1.block (w.heap.size+2) (by omega)).trans r2;have hl1:=hl0.below b1;clear r0 r1 r2 b1 bb hl0;have c0:w1.cell? ⟨w.heap.size+1,0,none⟩=some (.int .i64 br):=cell_of_row _ _ 0 _ _ _ q1;have c1:w1.cell? ⟨w.heap.size+1,1,none⟩=some (.int .i64 bn):=cell_of_row _ _ 1 _ _ _ q1;have hz3:(#[.int .i64 0,.int .i64 0,.slice none 0 0]:Array Value).all (·.oneCell')=true:=by simp[Value.oneCell']
 have HZero:Hid (∀ E,E≠0→BO ⟨⟨pr,pn⟩,l⟩ ⟨br,bn⟩=E→EV ⟨⟨pr,pn⟩,l⟩ ⟨br,bn⟩=⟨0,0⟩∧EU ⟨⟨pr,pn⟩,l⟩ ⟨br,bn⟩=[]):=fun E h1 h2=>⟨if_neg (by rw[h2];exact h1),if_neg (by rw[h2];exact h1)⟩;by_cases h1:AD ⟨⟨pr,pn⟩,l⟩
 ·rw[show FO ⟨⟨pr,pn⟩,l⟩=0 from if_pos h1];go_wp2_with fail
  refine(Ky ⟨br,bn⟩ w1).mono ?_;rintro e w2 ⟨rfl,b2⟩;have d2:=d1.trans (b2.mono d1.size);have z2:=b2.size;have hl2:=hl1.below b2;replace q0:=(b2.block w.heap.size (by omega)).trans q0;replace q1:=(b2.block (w.heap.size+1) (by omega)).trans q1;replace q2:=(b2.block (w.heap.size+2) (by omega)).trans q2;have c0:w2.cell? ⟨w.heap.size+1,0,none⟩=some (.int .i64 br):=cell_of_row _ _ 0 _ _ _ q1;have c1:w2.cell? ⟨w.heap.size+1,1,none⟩=some (.int .i64 bn):=cell_of_row _ _ 1 _ _ _ q1;have a0:w2.cell? ⟨w.heap.size,0,none⟩=some (.int .i64 pr):=cell_of_row _ _ 0 _ _ _ q0;have a1:w2.cell? ⟨w.heap.size,1,none⟩=some (.int .i64 pn):=cell_of_row _ _ 1 _ _ _ q0;clear b2 d1 hl1;by_cases h2:Ad ⟨br,bn⟩
  ·rw[decide_eq_true h2];go_wp2_with fail
   refine(Dw ⟨br,bn⟩ ⟨pr,pn⟩ w2).mono ?_;rintro e W ⟨rfl,b3⟩;have d3:=d2.trans (b3.mono d2.size);have z3:=b3.size;have hl:=hl2.below b3;replace q0:=(b3.block w.heap.size (by omega)).trans q0;replace q1:=(b3.block (w.heap.size+1) (by omega)).trans q1;have rR:=(b3.block (w.heap.size+2) (by omega)).trans q2;clear b3 d2 hl2 q2 c0 c1 a0 a1;by_cases h3:Bal.lt ⟨br,bn⟩ ⟨pr,pn⟩
   ·rw[decide_eq_true h3];have HE:Hid (BO ⟨⟨pr,pn⟩,l⟩ ⟨br,bn⟩=7):=by unfold Hid BO;rw[if_neg (fun g=>g h1),if_neg (fun g=>g h2),if_pos h3]
    go_wp2_with ((with_reducible (refine Ar ?_));refine wpList_store_row rfl 95 (.tmp 4) (.tmp 22) rfl (w.heap.size+2) #[.int .i64 0,.int .i64 0,.slice none 0 0] rfl rfl 95 _ rR (BG ⟨0,0⟩ (.slice none 0 0)) rfl hz3 ?_)
    have q9:=setRow_heap W (w.heap.size+2) _ (#[.int .i64 0,.int .i64 0,.slice none 0 0]) 95 _ rR;have d9:=Ai d3 (show w.heap.size≤w.heap.size+2 by omega) (#[.int .i64 0,.int .i64 0,.slice none 0 0]);have HZ:=HZero.out _ (by decide) HE.out;refine bodyPost_ret (IS rfl _ _ (w.heap.size+2) 95 _ (0,0) _ rfl q9 underlying95 rfl (BG ⟨0,0⟩ (.slice none 0 0))) rfl ?_;rw[HE.out,HZ.1,HZ.2];exact⟨.slice none 0 0,.slice none 0 0,rfl,World.ownsRow_nil _ _ _ _,World.ownsRow_nil _ _ _ _,d9⟩
   ·rw[decide_eq_false h3];have HE:Hid (BO ⟨⟨pr,pn⟩,l⟩ ⟨br,bn⟩=0):=by unfold Hid BO;rw[if_neg (fun g=>g h1),if_neg (fun g=>g h2),if_neg h3]
    have HP:Hid (EV ⟨⟨pr,pn⟩,l⟩ ⟨br,bn⟩=⟨br,bn⟩∧EU ⟨⟨pr,pn⟩,l⟩ ⟨br,bn⟩=l):=⟨if_pos HE.out,if_pos HE.out⟩;have a2:W.cell? ⟨w.heap.size,2,none⟩=some (.slice ax M cp):=cell_of_row _ _ 2 _ _ _ q0;have rB:W.rangeAt (w.heap.size+1) 0 [.int .i64 br,.int .i64 bn]:=Rr (cell_of_row _ _ 0 _ _ _ q1) (cell_of_row _ _ 1 _ _ _ q1);have hle:w.heap.size+2≤W.heap.size:=by omega
    have ltR:w.heap.size+2<W.heap.size:=by omega
    clear h1 h2 h3 HZero;go_wp2_with fail
    apply TU (fun g c y W2=>W2.heap[w.heap.size+2]?=some (.cells #[.int .i64 br,.int .i64 bn,.slice g M c] 95)∧W2.ownsRow W.heap.size 162 8 (.slice g M c) l.length (vtL l)∧W2.ownsRow W.heap.size 162 8 y l.length (vtL l)∧Below (w.heap.size+2) W W2)
    ·intro K2 HK2;have ed0:Bw W W.drew:=(Below.refl _ _).drew;have ed:Below (w.heap.size+2) W W.drew:=ed0.mono hle;refine wp_region_held (S:=fun w'=>Below (w.heap.size+2) W w') (by kernel_rfl) ?_;have hS0:(fun w'=>Below (w.heap.size+2) W w') W.drew:=ed;refine Af (i:=0) 23 (v:=.agg #[.int .i64 br,.int .i64 bn]) rfl rfl (by kernel_rfl) (by kernel_rfl) (by kernel_rfl) (fun _ _ _ h=>h) (yieldsIf_load_mid (by rfl) 92 (.tmp 3) rfl (w.heap.size+1) 0 rfl [.int .i64 br,.int .i64 bn] _ (fun w' hw'=>Gz hw' (by omega) rB) underlying92 rfl JN) hS0 ?_;simp only[Act.put,List.setIfInBounds_toArray,List.set_cons_zero,List.set_cons_succ];refine Af (i:=1) 24 (v:=.pointer (some ⟨w.heap.size,2,none⟩)) rfl rfl (by kernel_rfl) (by kernel_rfl) (by kernel_rfl) (fun _ _ _ h=>h) (Or.inl ⟨by rfl,fun _ _=>by kernel_rfl⟩) hS0 ?_;simp only[Act.put,List.setIfInBounds_toArray,List.set_cons_zero,List.set_cons_succ];refine Af (i:=2) 25 (v:=.slice ax M cp) rfl rfl (by kernel_rfl) (by kernel_rfl) (by kernel_rfl) (fun _ _ _ h=>h) (FN (by rfl) 93 (.tmp 24) rfl _ underlying93 rfl ⟨w.heap.size,2,none⟩ rfl (.slice ax M cp) (fun w' hw'=>(hw'.cell (p:=⟨w.heap.size,2,none⟩) (show w.heap.size<w.heap.size+2 by omega)).trans a2)) hS0 ?_;simp only[Act.put,List.setIfInBounds_toArray,List.set_cons_zero,List.set_cons_succ];refine Af (i:=5) 28 (v:=.pointer (some ⟨w.heap.size,2,none⟩)) rfl rfl (by kernel_rfl) (by kernel_rfl) (by kernel_rfl) (fun _ _ _ h=>h) (Or.inl ⟨by rfl,fun _ _=>by kernel_rfl⟩) hS0 ?_;simp only[Act.put,List.setIfInBounds_toArray,List.set_cons_zero,List.set_cons_succ];refine Af (i:=6) 29 (v:=.slice ax M cp) rfl rfl (by kernel_rfl) (by kernel_rfl) (by kernel_rfl) (fun _ _ _ h=>h) (FN (by rfl) 93 (.tmp 28) rfl _ underlying93 rfl ⟨w.heap.size,2,none⟩ rfl (.slice ax M cp) (fun w' hw'=>(hw'.cell (p:=⟨w.heap.size,2,none⟩) (show w.heap.size<w.heap.size+2 by omega)).trans a2)) hS0 ?_;simp only[Act.put,List.setIfInBounds_toArray,List.set_cons_zero,List.set_cons_succ];refine B1 (i:=3) (by kernel_rfl) (Gx (i:=3) (d:=26) (f:=150) (args:=#[.slice ax M cp]) rfl (by kernel_rfl) rfl (by kernel_rfl) ((JZ _ l _ (hl.below ed0)).mono ?_));rintro e' w5 ⟨x5,rfl,o5,b5⟩;have e5:Bw W w5:=ed0.trans (b5.mono ed0.size);have s5:=Sv.ofOwns o5 (by have:=HM.out;omega);obtain⟨a5,c5,h5⟩:=s5.shape;rw[HM.out]at h5
     subst h5;refine⟨_,rfl,e5.mono hle,?_⟩;simp only[Act.put,List.setIfInBounds_toArray,List.set_cons_zero,List.set_cons_succ];refine Af (i:=4) 27 (v:=.agg #[.int .i64 br,.int .i64 bn,(.slice a5 M c5)]) rfl rfl (by kernel_rfl) (by kernel_rfl) (by kernel_rfl) (fun _ _ _ h=>h) (Or.inl ⟨by rfl,fun _ _=>by kernel_rfl⟩) (e5.mono hle) ?_;simp only[Act.put,List.setIfInBounds_toArray,List.set_cons_zero,List.set_cons_succ];refine B1 (i:=7) (by kernel_rfl) (Gx (i:=7) (d:=30) (f:=150) (args:=#[.slice ax M cp]) rfl (by kernel_rfl) rfl (by kernel_rfl) ((JZ _ l _ (hl.below e5)).mono ?_));rintro e' w6 ⟨x6,rfl,o6,b6⟩;have e6:Bw W w6:=e5.trans (b6.mono e5.size);have s6:=Sv.ofOwns o6 (by have:=HM.out;omega);have s56:=s5.below b6;refine⟨_,rfl,e6.mono hle,?_⟩;simp only[Act.put,List.setIfInBounds_toArray,List.set_cons_zero,List.set_cons_succ];have hone:(#[.int .i64 br,.int .i64 bn,(.slice a5 M c5)]:Array Value).all (·.oneCell')=true:=by simp[Value.oneCell']
     have rS:=(e6.block (w.heap.size+2) ltR).trans rR;have e7:Below (w.heap.size+2) W (w6.setRow (w.heap.size+2) #[.int .i64 br,.int .i64 bn,(.slice a5 M c5)]):=Ai (e6.mono hle) (Nat.le_refl _) _;have q7:=setRow_heap w6 (w.heap.size+2) _ (#[.int .i64 br,.int .i64 bn,(.slice a5 M c5)]) 95 _ rS;have t5:(w6.setRow (w.heap.size+2) #[.int .i64 br,.int .i64 bn,(.slice a5 M c5)]).ownsRow W.heap.size 162 8 (.slice a5 M c5) l.length (vtL l):=Bh (EC (EC o5 (fun k hk=>b6.block k (o5.lt k hk).2)) (fun k hk=>setRow_other _ _ _ _ (by have:=(o5.lt k hk).1;have:=ed0.size;omega))) ed0.size;have t6:(w6.setRow (w.heap.size+2) #[.int .i64 br,.int .i64 bn,(.slice a5 M c5)]).ownsRow W.heap.size 162 8 x6 l.length (vtL l):=Bh (EC o6 (fun k hk=>setRow_other _ _ _ _ (by have:=(o6.lt k hk).1;have:=e5.size;omega))) e5.size;refine B1 (i:=8) (by kernel_rfl) (Hd (i:=8) rfl (by kernel_rfl) rfl 95 (.tmp 4) (.tmp 27) rfl (w.heap.size+2) #[.int .i64 br,.int .i64 bn,(.slice a5 M c5)] (by kernel_rfl) (by kernel_rfl) 95 _ rS (BG ⟨br,bn⟩ (.slice a5 M c5)) rfl hone ⟨e7,?_⟩);refine Af (i:=9) 5 (v:=x6) rfl rfl (by kernel_rfl) (by kernel_rfl) (by kernel_rfl) (fun _ _ _ h=>h) (Or.inl ⟨by rfl,fun _ _=>by kernel_rfl⟩) e7 ?_;simp only[Act.put,List.setIfInBounds_toArray,List.set_cons_zero,List.set_cons_succ];refine Af (i:=10) 6 (v:=.int .i64 0) rfl rfl (by kernel_rfl) (by kernel_rfl) (by kernel_rfl) (fun _ _ _ h=>h) (Or.inl ⟨by rfl,fun _ _=>by kernel_rfl⟩) e7 ?_;simp only[Act.put,List.setIfInBounds_toArray,List.set_cons_zero,List.set_cons_succ];exact wpAnyH_done (by kernel_rfl) (HK2.out a5 c5 x6 _ ⟨q7,t5,t6,e7⟩) _
    intro g c y W2 hW2;obtain⟨q7,t5,t6,e7⟩:=hW2;have d7:=d3.trans (e7.mono (by omega));clear rR q0 q1 a2 rB;go_wp2
    refine bodyPost_ret (IS rfl _ _ (w.heap.size+2) 95 _ (0,0) _ rfl q7 underlying95 rfl (BG ⟨br,bn⟩ (.slice g M c))) rfl ?_;rw[HE.out,HP.out.1,HP.out.2];exact⟨.slice g M c,y,rfl,Bh t5 d3.size,Bh t6 d3.size,d7⟩
  ·rw[decide_eq_false h2];have HE:Hid (BO ⟨⟨pr,pn⟩,l⟩ ⟨br,bn⟩=2):=by unfold Hid BO;rw[if_neg (fun g=>g h1),if_pos h2]
   clear c0 c1 a0 a1;go_wp2_with ((with_reducible (refine Ar ?_));refine wpList_store_row rfl 95 (.tmp 4) (.tmp 17) rfl (w.heap.size+2) #[.int .i64 0,.int .i64 0,.slice none 0 0] rfl rfl 95 _ q2 (BG ⟨0,0⟩ (.slice none 0 0)) rfl hz3 ?_)
   have q9:=setRow_heap w2 (w.heap.size+2) _ (#[.int .i64 0,.int .i64 0,.slice none 0 0]) 95 _ q2;have d9:=Ai d2 (show w.heap.size≤w.heap.size+2 by omega) (#[.int .i64 0,.int .i64 0,.slice none 0 0]);have HZ:=HZero.out _ (by decide) HE.out;refine bodyPost_ret (IS rfl _ _ (w.heap.size+2) 95 _ (0,0) _ rfl q9 underlying95 rfl (BG ⟨0,0⟩ (.slice none 0 0))) rfl ?_;rw[HE.out,HZ.1,HZ.2];exact⟨.slice none 0 0,.slice none 0 0,rfl,World.ownsRow_nil _ _ _ _,World.ownsRow_nil _ _ _ _,d9⟩
 ·rw[show FO ⟨⟨pr,pn⟩,l⟩=5 from if_neg h1];have HE:Hid (BO ⟨⟨pr,pn⟩,l⟩ ⟨br,bn⟩=5):=by unfold Hid BO;rw[if_pos h1]
  clear c0 c1;go_wp2_with ((with_reducible (refine Ar ?_));refine wpList_store_row rfl 95 (.tmp 4) (.tmp 12) rfl (w.heap.size+2) #[.int .i64 0,.int .i64 0,.slice none 0 0] rfl rfl 95 _ q2 (BG ⟨0,0⟩ (.slice none 0 0)) rfl hz3 ?_)
  have q9:=setRow_heap w1 (w.heap.size+2) _ (#[.int .i64 0,.int .i64 0,.slice none 0 0]) 95 _ q2;have d9:=Ai d1 (show w.heap.size≤w.heap.size+2 by omega) (#[.int .i64 0,.int .i64 0,.slice none 0 0]);have HZ:=HZero.out _ (by decide) HE.out;refine bodyPost_ret (IS rfl _ _ (w.heap.size+2) 95 _ (0,0) _ rfl q9 underlying95 rfl (BG ⟨0,0⟩ (.slice none 0 0))) rfl ?_;rw[HE.out,HZ.1,HZ.2];exact⟨.slice none 0 0,.slice none 0 0,rfl,World.ownsRow_nil _ _ _ _,World.ownsRow_nil _ _ _ _,d9⟩
theorem CF(a:Acc)(b:Bal):(EU a b).length≤a.vs.length:=by unfold EU;split<;>simp
theorem Ph(p:Bal)(x:Value)(l:List Vt)(b:Bal)(w:World)(h:Sv w x l)(ht:NTab w) :
  Calls prog 116 #[.agg (acA p x),.agg (baA b)] w fun e w'=>∃ y z,e=.returned (.tuple #[.agg (acA (EV ⟨p,l⟩ b) y),z,.int .i64 (BO ⟨p,l⟩ b)])∧Sv w' y (EU ⟨p,l⟩ b)∧Sv w' z (EU ⟨p,l⟩ b)∧Bw w w':=by
 refine(Cr p x l b w h ht).mono ?_;rintro e w' ⟨y,z,he,hy,hz,hb⟩;have h1:=CF ⟨p,l⟩ b;have h2:=h.len;exact⟨y,z,he,Sv.ofOwns hy (Nat.le_trans h1 h2),Sv.ofOwns hz (Nat.le_trans h1 h2),hb⟩
theorem btr{w w1 w2:World}(a:Bw w w1)(b:Bw w1 w2):Bw w w2:=a.trans (b.mono a.size)
def lB(L:List Sh):List Nat:=L.filterMap fun x=>match x.t with|.l=>some x.g|_=>none
def gK(L:List Sh):Gh:=⟨fun b=>if(lB L).elem b then .l else .z,fun _=>0⟩
def zl(L:List Sh):Bool:=L.all fun x=>match x.t with|.n _ _=>false|_=>true
theorem Kv{L:List Sh}{b:Nat}:b∈lB L↔∃ x∈L,x.t=.l∧x.g=b:=by
 unfold lB;rw[List.mem_filterMap];constructor
 ·rintro⟨x,hx,h⟩;cases ht:x.t<;>rw[ht]at h<;>simp at h;exact⟨x,hx,ht,h⟩
 ·rintro⟨x,hx,ht,rfl⟩;exact⟨x,hx,by rw[ht]⟩
section
variable{P:Program}{fn:Func}{R:Ending→World→Prop}{B:Nat}{T:List Tg}{g:Gh}{w:World}
theorem Kn.re{L:List Sh}(h:Kn B g w L)(hz:zl L=true):Kn B (gK L) w L:=by
 refine⟨fun x hx=>?_,h.nod,fun b hb=>⟨?_,rfl⟩,h.base⟩
 ·have h1:=h.row x hx;refine⟨h1.1,?_,h1.2.2.1,fun _=>rfl⟩;show(if(lB L).elem x.g then Tg.l else Tg.z)=x.t;cases ht:x.t with
  | l=>rw[if_pos (by rw[List.elem_eq_mem];exact decide_eq_true (Kv.2 ⟨x,hx,ht,rfl⟩))]
  | n r i=>have:=List.all_eq_true.1 hz x hx;rw[ht]at this;cases this
  | z =>
   rw[if_neg];rw[List.elem_eq_mem];intro hc;obtain⟨y,hy,hyt,hyg⟩:=Kv.1 (of_decide_eq_true hc);have hne:x≠y:=fun e=>by rw[e,hyt]at ht;cases ht
   have:(x.g=y.g→(x.t=.z∧x.w=false)∧y.t=.z∧y.w=false)∨(y.g=x.g→(y.t=.z∧y.w=false)∧x.t=.z∧x.w=false):=by
    obtain⟨i,hi,rfl⟩:=List.getElem_of_mem hx;obtain⟨j,hj,rfl⟩:=List.getElem_of_mem hy;rcases Nat.lt_trichotomy i j with h1|h1|h1
    ·exact .inl (List.pairwise_iff_getElem.1 h.nod i j hi hj h1)
    ·subst h1;exact absurd rfl hne
    ·exact .inr (List.pairwise_iff_getElem.1 h.nod j i hj hi h1)
   rcases this with h2|h2
   ·have:=(h2 hyg.symm).2.1;rw[hyt]at this;cases this
   ·have:=(h2 hyg).1.1;rw[hyt]at this;cases this
 ·show(if(lB L).elem b then Tg.l else Tg.z)=.z;rw[if_neg];rw[List.elem_eq_mem];intro hc;obtain⟨y,hy,_,hyg⟩:=Kv.1 (of_decide_eq_true hc);have:=(Array.getElem?_eq_some_iff.1 (h.row y hy).1).1;omega
def GK(P:Program)(fn:Func)(R:Ending→World→Prop)(B:Nat)(s:Xs)(w:World):Prop:=GG P fn R B [] s (gK s.L) w
theorem kIn{f:FuncId}{args:Array Value}(hf:P.funcs[f]?=some fn)(h:GK P fn R w.heap.size ⟨[.c (NW fn)],⟨fn.ntmps,MM 0 args.toList,fun _=>undef⟩,[]⟩ w)(hb:fn.body.isSome=true:=by kernel_rfl)(hn:Nat.ble args.size fn.ntmps=true:=by kernel_rfl):Calls P f args w R:=gIn [] (gK []) hf hb hn (fun _ _=>⟨rfl,rfl⟩) h
theorem YC{s:Xs}{L':List Sh}{g':Gh}{w':World}(c:Cg B [] (gK s.L) w g' w')(hK:Kn B g w s.L)(hK':Kn B g' w' L')(hs:(L'.take s.L.length).map (fun x=>(x.g,x.o))=s.L.map (fun x=>(x.g,x.o))):Bw w w':=by
 refine⟨c.os,c.tape,c.output,c.size,fun b hb=>?_⟩;by_cases hc:b∈lB s.L
 ·obtain⟨x,hx,_,rfl⟩:=Kv.1 hc;have h1:(x.g,x.o)∈(L'.take s.L.length).map (fun x=>(x.g,x.o)):=by rw[hs];exact List.mem_map.2 ⟨x,hx,rfl⟩
  obtain⟨y,hy,he⟩:=List.mem_map.1 h1;injection he with e1 e2
  have h2:=(hK'.row y (List.mem_of_mem_take hy)).1;rw[← e1,h2,e2,e1];exact(hK.row x hx).1.symm
 ·refine c.same b hb List.not_mem_nil (fun h=>?_);have:(if(lB s.L).elem b then Tg.l else Tg.z)=.l:=h;rw[if_neg (by rw[List.elem_eq_mem];simpa using hc)]at this
  cases this
theorem kR{s:Xs}(m:Nat)(h:List Nat)(hk:∀ gs w',Bw w w'→GK P fn R B (rn0 P [] gs m s h).s w')(hob:∀ gs,(rn0 P [] gs m s h).o.map Ob.l'=(rn0 P [] gs m s h).o.map Ob.r':=by intro _;kernel_rfl)(hz:∀ gs,zl (rn0 P [] gs m s h).s.L=true:=by intro _;kernel_rfl)(hs:∀ gs,((rn0 P [] gs m s h).s.L.take s.L.length).map (fun x=>(x.g,x.o))=s.L.map (fun x=>(x.g,x.o)):=by intro _;kernel_rfl):GK P fn R B s w :=
 Ae fun hK=>YD [] m h hob fun gs g' w' c=>⟨fun hK'=>(hk gs w' (YC c hK hK' (hs gs))).ex (hK'.re (hz gs))⟩
structure Kept(L:List Sh)(w w':World):Prop where
 size:w.heap.size≤w'.heap.size
 rows:AK L w
 same:∀ b,b<w.heap.size→b∉lB L→w'.heap[b]?=w.heap[b]?
theorem kF{s:Xs}(m:Nat)(h:List Nat)(hk:∀ gs w',Below B w w'→Kept s.L w w'→GK P fn R B (rn0 P [] gs m s h).s w')(hob:∀ gs,(rn0 P [] gs m s h).o.map Ob.l'=(rn0 P [] gs m s h).o.map Ob.r':=by intro _;kernel_rfl)(hz:∀ gs,zl (rn0 P [] gs m s h).s.L=true:=by intro _;kernel_rfl):GK P fn R B s w :=
 Ae fun hK=>YD [] m h hob fun gs g' w' c=>⟨fun hK'=>(hk gs w' ⟨c.os,c.tape,c.output,c.size,fun b hb=>c.same b (Nat.lt_of_lt_of_le hb hK.base) List.not_mem_nil (fun _=>hb)⟩ ⟨c.size,hK.rows,fun b hb hn=>c.same b hb List.not_mem_nil fun h=>by
  have h2:(if(lB s.L).elem b then Tg.l else Tg.z)=.l:=h;rw[if_neg (by rw[List.elem_eq_mem];simpa using hn)]at h2
  cases h2⟩).ex (hK'.re (hz gs))⟩
def noU(L:List Sh):Bool:=L.all fun x=>match x.t,x.o with|.l,.cells c _ _=>c.all (fun v=>match v with|.int .u8 _=>false|_=>true)|.l,_=>false|_,_=>true
theorem Sl.kept{L:List Sh}{w':World}{x:Value}{l:List Int}(h:Sl w x l)(k:Kept L w w')(hno:noU L=true:=by kernel_rfl):Sl w' x l:=by
 obtain⟨⟨a,cap,hv,hc,hn,h1⟩,h2,h3⟩:=h;refine⟨⟨a,cap,hv,hc,hn,?_⟩,h2,h3⟩;rcases h1 with h1|⟨b,off,ha,hbs,hcell⟩
 ·exact .inl h1
 ·by_cases hl:l=[]
  ·exact .inl hl
  ·refine .inr ⟨b,off,ha,Nat.lt_of_lt_of_le hbs k.size,fun i hi=>?_⟩;have hb:b∉lB L:=by
    intro hb;obtain⟨y,hy,hyt,rfl⟩:=Kv.1 hb;have hr:=k.rows y hy;have hu:=List.all_eq_true.1 hno y hy;have hi0:0<l.length:=List.length_pos_iff.2 hl;have hc0:=hcell 0 hi0;rw[hyt]at hu
    cases ho:y.o with
    | cells c e fr =>
     rw[ho]at hu hr
     rw[cell_of_row _ _ _ _ _ _ hr]at hc0
     have:=Array.all_eq_true.1 hu (off+0) (Array.getElem?_eq_some_iff.1 hc0).1;rw[(Array.getElem?_eq_some_iff.1 hc0).2]at this
     cases this
    | _=>rw[ho]at hu;cases hu
   rw[World.cell?_of_block (w:=w) (k.same b hbs hb)];exact hcell i hi
theorem aP(s:Xs)(i:Nat)(v:Value)(hob:(nxt s i undef s.L).o.map Ob.l'=(nxt s i undef s.L).o.map Ob.r'):(nxt s i v s.L).s.L=s.L:=by
 obtain⟨K,f,L⟩:=s;unfold nxt;cases K with
 | nil=>rfl
 | cons t K=>cases t<;>first|rfl|(simp only;repeat' split)<;>rfl
theorem fJ(s:Xs)(i:Nat)(v:Value)(ld:Bool):(tkN s i v ld).s.L=s.L:=by
 obtain⟨K,f,L⟩:=s;unfold tkN;cases K with
 | nil=>rfl
 | cons t K=>cases t<;>first|rfl|(simp only;repeat' split)<;>rfl
theorem GK.of{s s':Xs}(h:GK P fn R B s' w)(e:s'.L=s.L):GG P fn R B [] s' (gK s.L) w:=by rw[← e];exact h
theorem kV{s:Xs}(i:Nat)(v:Value){S:Sem Value}(hr:S.run P w=.ok v w)(hk:GK P fn R B (nxt s i v s.L).s w)(hs:CP s i=some (S>>=fun v=>pure (.value v)):=by kernel_rfl)(hob:(nxt s i undef s.L).o.map Ob.l'=(nxt s i undef s.L).o.map Ob.r':=by kernel_rfl):GK P fn R B s w:=qV i v hr (hk.of (aP s i v hob)) hs hob
theorem kT{s:Xs}(i:Nat)(v:Value){S:Sem Value}(hr:∀ W,S.run P W=.ok v W)(hk:GK P fn R B (tkN s i v false).s w)(hs:CP s i=some (S>>=fun v=>pure (.value v)):=by kernel_rfl)(hob:(tkN s i undef false).o.map Ob.l'=(tkN s i undef false).o.map Ob.r':=by kernel_rfl):GK P fn R B s w:=qT i v hr (hk.of (fJ s i v false)) hs hob
theorem Yw(s:Xs)(t:Bool):(JY s t).L=s.L:=by unfold JY;split<;>rfl
theorem kI{s:Xs}(b t:Bool)(hb:b=t)(h:GK P fn R B (JY s t) w)(hc:Ot s=.bool b:=by kernel_rfl):GK P fn R B s w:=qI b t hb (h.of (Yw s t)) hc
theorem kC{s:Xs}(i:Nat){f:FuncId}{av:Array Value}{C:Ending→World→Prop}(hc:Calls P f av w C)(hk:∀ e w',C e w'→∃ v,e=.returned v∧Bw w w'∧GK P fn R B (nxt s i v s.L).s w')(hr:∀ W,Cz P s i W=some (.ok (.enter f av) W):=by intro _;kernel_rfl)(hd:Kc s i=true:=by kernel_rfl)(hob:(nxt s i undef s.L).o.map Ob.l'=(nxt s i undef s.L).o.map Ob.r':=by kernel_rfl):GK P fn R B s w:=qC i hc (fun e w' h=>let ⟨v,h1,h2,h3⟩:=hk e w' h;⟨v,h1,h2,h3.of (aP s i v hob)⟩) hr hd hob
theorem kE{s:Xs}(v:Value)(h:R (.returned v) w)(hr:Kn B (gK s.L) w s.L→(results fn s.f.act.tmps).run P w=.ok v w:=by intro _;kernel_rfl)(hs:Lu s.K=true:=by kernel_rfl):GK P fn R B s w:=qE v (fun _=>h) hr hs
theorem Wd{s:Xs}(n:Nat)(Inv:World→List (Nat × Value)→List Sh→Prop)(h1:∀ J:Act→World→Prop,(∀ w' e z L,Inv w' e L→Kn B (gK L) w' L→J (⟨n,e,z⟩:Fm).act w')→GK P fn R B (Vx s J) w)(h2:∀ w' e z L,Inv w' e L→GK P fn R B ⟨s.K.tail,⟨n,e,z⟩,L⟩ w')(hs:s.K.isEmpty=false:=by kernel_rfl):GK P fn R B s w:=by
 refine BI n (fun g' w' e L=>Inv w' e L∧g'=gK L) hs (fun J hJ=>?_) ?_
 ·have:=h1 J fun w' e z L hI hK=>hJ (gK L) w' e z L ⟨hI,rfl⟩ hK;exact this.of (by obtain⟨K,f,L⟩:=s;unfold Vx;cases K<;>rfl)
 ·rintro g' w' e z L ⟨hI,rfl⟩;exact h2 w' e z L hI
theorem kB{s:Xs}{J:Act→World→Prop}{n:Nat}{e:List (Nat × Value)}(m:List Bool){L':List Sh}(h:∀ z,Kn B (gK L') w L'→J (⟨n,e,z⟩:Fm).act w)(hi:isJ s.K=true:=by kernel_rfl)(hJ:jK s.K=J:=by kernel_rfl)(hn:s.f.n=n:=by kernel_rfl)(he:e.map (fun p=>lk s.f.z s.f.e p.1)=e.map (·.2):=by kernel_rfl)(hL:Bj (Ay m s.L)=L':=by kernel_rfl)(hz:zl L'=true:=by kernel_rfl):GK P fn R B s w:=qB m (fun z _ K=>h z (K.re hz)) hi hJ hn he hL
theorem TC{s:Xs}(i j:Nat)(h1:GK P fn R B (I6 s i) w)(h2:GK P fn R B (I6 s j) w)(hb:ZW s i j=true:=by kernel_rfl):GK P fn R B s w :=
 have e:∀ i,(I6 s i).L=s.L:=fun i=>by unfold I6;split<;>rfl
 C1 i j hb (h1.of (e i)) (h2.of (e j))
end
end Go.Proofs.YtaeckakjdagddadGreatDoor
