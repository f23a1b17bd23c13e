/- Part 10 of the walk. -/
import Derived.StillTailTactics
import Derived.Test.YtfhbkoflaekhpadGreatDoorZ9
set_option maxRecDepth 100000
set_option maxHeartbeats 4000000
open Go.Proofs.Tryz
set_option linter.unusedVariables false
namespace Go.Proofs.YtfhbkoflaekhpadGreatDoor
open Go.RowKit
theorem C6(p:Bal)(x:Value)(l:List Vt)(b:Bal)(w:World)(h:Sv w x l)(ht:NTab w) :
  Calls prog 99 #[.agg (acA p x),.agg (baA b)] w fun e w'=>∃ y z,e=.returned (.tuple #[.agg (acA (Fl ⟨p,l⟩ b) y),z,.int .i64 (BG ⟨p,l⟩ b)])∧w'.ownsRow w.heap.size 139 8 y (Fk ⟨p,l⟩ b).length (vtL (Fk ⟨p,l⟩ b))∧w'.ownsRow w.heap.size 139 8 z (Fk ⟨p,l⟩ b).length (vtL (Fk ⟨p,l⟩ b))∧Bw w w':=by
 obtain⟨pr,pn⟩:=p;obtain⟨br,bn⟩:=b;have hlen:=h.len;obtain⟨ax,cp,rfl⟩:=h.shape;obtain⟨M,hM⟩:∃ M,l.length=M:=⟨_,rfl⟩;have HM:Hid (l.length=M):=hM;rw[hM]at h hlen ⊢
 clear hM;simp only[acA,baA];obtain⟨W0,hW0⟩:∃ W0,((w.alloc (.cells #[.int .i64 pr,.int .i64 pn,.slice ax M cp] 77)).alloc (.cells #[.int .i64 br,.int .i64 bn] 74)).alloc (.cells #[.int .i64 0,.int .i64 0,.slice none 0 0] 77)=W0:=⟨_,rfl⟩;obtain⟨r0,r1,r2,bb⟩:=Po w (.cells #[.int .i64 pr,.int .i64 pn,.slice ax M cp] 77) (.cells #[.int .i64 br,.int .i64 bn] 74) (.cells #[.int .i64 0,.int .i64 0,.slice none 0 0] 77);have z0:W0.heap.size=w.heap.size+3:=by rw[← hW0];simp
 rw[hW0]at r0 r1 r2 bb
 have hl0:=h.below bb;go_enter func99,ntmps99
 go_wp2_with ((with_reducible (refine As ?_));refine wpList_load_row rfl 77 _ rfl w.heap.size rfl 77 _ (0,0) _ r0 underlying77 rfl (BL ⟨pr,pn⟩ (.slice ax M cp)) ?_)
 clear hW0;refine(Iw ⟨pr,pn⟩ (.slice ax M cp) l W0 hl0 (ht.below bb)).mono ?_;rintro e w1 ⟨rfl,b1⟩;have d1:=bb.trans (b1.mono bb.size);have z1:=b1.size;have q0:=(b1.block w.heap.size (by omega)).trans r0;have q1:=(b1.block (w.heap.size+1) (by omega)).trans r1;have q2:=(b1.block (w.heap.size+2) (by omega)).trans r2;have hl1:=hl0.below b1;clear r0 r1 r2 b1 bb hl0;have c0:w1.cell? ⟨w.heap.size+1,0,none⟩=some (.int .i64 br):=cell_of_row _ _ 0 _ _ _ q1;have c1:w1.cell? ⟨w.heap.size+1,1,none⟩=some (.int .i64 bn):=cell_of_row _ _ 1 _ _ _ q1;have hz3:(#[.int .i64 0,.int .i64 0,.slice none 0 0]:Array Value).all (·.oneCell')=true:=by simp[Value.oneCell']
 have HZero:Hid (∀ E,E≠0→BG ⟨⟨pr,pn⟩,l⟩ ⟨br,bn⟩=E→Fl ⟨⟨pr,pn⟩,l⟩ ⟨br,bn⟩=⟨0,0⟩∧Fk ⟨⟨pr,pn⟩,l⟩ ⟨br,bn⟩=[]):=fun E h1 h2=>⟨if_neg (by rw[h2];exact h1),if_neg (by rw[h2];exact h1)⟩;by_cases h1:Ao ⟨⟨pr,pn⟩,l⟩
 ·rw[show Gj ⟨⟨pr,pn⟩,l⟩=0 from if_pos h1];go_wp2_with fail
  refine(KG ⟨br,bn⟩ w1).mono ?_;rintro e w2 ⟨rfl,b2⟩;have d2:=d1.trans (b2.mono d1.size);have z2:=b2.size;have hl2:=hl1.below b2;replace q0:=(b2.block w.heap.size (by omega)).trans q0;replace q1:=(b2.block (w.heap.size+1) (by omega)).trans q1;replace q2:=(b2.block (w.heap.size+2) (by omega)).trans q2;have c0:w2.cell? ⟨w.heap.size+1,0,none⟩=some (.int .i64 br):=cell_of_row _ _ 0 _ _ _ q1;have c1:w2.cell? ⟨w.heap.size+1,1,none⟩=some (.int .i64 bn):=cell_of_row _ _ 1 _ _ _ q1;have a0:w2.cell? ⟨w.heap.size,0,none⟩=some (.int .i64 pr):=cell_of_row _ _ 0 _ _ _ q0;have a1:w2.cell? ⟨w.heap.size,1,none⟩=some (.int .i64 pn):=cell_of_row _ _ 1 _ _ _ q0;clear b2 d1 hl1;by_cases h2:Ad ⟨br,bn⟩
  ·rw[decide_eq_true h2];go_wp2_with fail
   refine(D6 ⟨br,bn⟩ ⟨pr,pn⟩ w2).mono ?_;rintro e W ⟨rfl,b3⟩;have d3:=d2.trans (b3.mono d2.size);have z3:=b3.size;have hl:=hl2.below b3;replace q0:=(b3.block w.heap.size (by omega)).trans q0;replace q1:=(b3.block (w.heap.size+1) (by omega)).trans q1;have rR:=(b3.block (w.heap.size+2) (by omega)).trans q2;clear b3 d2 hl2 q2 c0 c1 a0 a1;by_cases h3:Bal.lt ⟨br,bn⟩ ⟨pr,pn⟩
   ·rw[decide_eq_true h3];have HE:Hid (BG ⟨⟨pr,pn⟩,l⟩ ⟨br,bn⟩=7):=by unfold Hid BG;rw[if_neg (fun g=>g h1),if_neg (fun g=>g h2),if_pos h3]
    go_wp2_with ((with_reducible (refine As ?_));refine wpList_store_row rfl 77 (.tmp 4) (.tmp 22) rfl (w.heap.size+2) #[.int .i64 0,.int .i64 0,.slice none 0 0] rfl rfl 77 _ rR (BL ⟨0,0⟩ (.slice none 0 0)) rfl hz3 ?_)
    have q9:=setRow_heap W (w.heap.size+2) _ (#[.int .i64 0,.int .i64 0,.slice none 0 0]) 77 _ rR;have d9:=Ai d3 (show w.heap.size≤w.heap.size+2 by omega) (#[.int .i64 0,.int .i64 0,.slice none 0 0]);have HZ:=HZero.out _ (by decide) HE.out;refine bodyPost_ret (Jj rfl _ _ (w.heap.size+2) 77 _ (0,0) _ rfl q9 underlying77 rfl (BL ⟨0,0⟩ (.slice none 0 0))) rfl ?_;rw[HE.out,HZ.1,HZ.2];exact⟨.slice none 0 0,.slice none 0 0,rfl,World.ownsRow_nil _ _ _ _,World.ownsRow_nil _ _ _ _,d9⟩
   ·rw[decide_eq_false h3];have HE:Hid (BG ⟨⟨pr,pn⟩,l⟩ ⟨br,bn⟩=0):=by unfold Hid BG;rw[if_neg (fun g=>g h1),if_neg (fun g=>g h2),if_neg h3]
    have HP:Hid (Fl ⟨⟨pr,pn⟩,l⟩ ⟨br,bn⟩=⟨br,bn⟩∧Fk ⟨⟨pr,pn⟩,l⟩ ⟨br,bn⟩=l):=⟨if_pos HE.out,if_pos HE.out⟩;have a2:W.cell? ⟨w.heap.size,2,none⟩=some (.slice ax M cp):=cell_of_row _ _ 2 _ _ _ q0;have rB:W.rangeAt (w.heap.size+1) 0 [.int .i64 br,.int .i64 bn]:=R7 (cell_of_row _ _ 0 _ _ _ q1) (cell_of_row _ _ 1 _ _ _ q1);have hle:w.heap.size+2≤W.heap.size:=by omega
    have ltR:w.heap.size+2<W.heap.size:=by omega
    clear h1 h2 h3 HZero;go_wp2_with fail
    apply Ui (fun g c y W2=>W2.heap[w.heap.size+2]?=some (.cells #[.int .i64 br,.int .i64 bn,.slice g M c] 77)∧W2.ownsRow W.heap.size 139 8 (.slice g M c) l.length (vtL l)∧W2.ownsRow W.heap.size 139 8 y l.length (vtL l)∧Below (w.heap.size+2) W W2)
    ·intro K2 HK2;have ed0:Bw W W.drew:=(Below.refl _ _).drew;have ed:Below (w.heap.size+2) W W.drew:=ed0.mono hle;refine wp_region_held (S:=fun w'=>Below (w.heap.size+2) W w') (by kernel_rfl) ?_;have hS0:(fun w'=>Below (w.heap.size+2) W w') W.drew:=ed;refine Ag (i:=0) 23 (v:=.agg #[.int .i64 br,.int .i64 bn]) rfl rfl (by kernel_rfl) (by kernel_rfl) (by kernel_rfl) (fun _ _ _ h=>h) (yieldsIf_load_mid (by rfl) 74 (.tmp 3) rfl (w.heap.size+1) 0 rfl [.int .i64 br,.int .i64 bn] _ (fun w' hw'=>GO hw' (by omega) rB) underlying74 rfl Kc) hS0 ?_;simp only[Act.put,List.setIfInBounds_toArray,List.set_cons_zero,List.set_cons_succ];refine Ag (i:=1) 24 (v:=.pointer (some ⟨w.heap.size,2,none⟩)) rfl rfl (by kernel_rfl) (by kernel_rfl) (by kernel_rfl) (fun _ _ _ h=>h) (Or.inl ⟨by rfl,fun _ _=>by kernel_rfl⟩) hS0 ?_;simp only[Act.put,List.setIfInBounds_toArray,List.set_cons_zero,List.set_cons_succ];refine Ag (i:=2) 25 (v:=.slice ax M cp) rfl rfl (by kernel_rfl) (by kernel_rfl) (by kernel_rfl) (fun _ _ _ h=>h) (Gi (by rfl) 75 (.tmp 24) rfl _ underlying75 rfl ⟨w.heap.size,2,none⟩ rfl (.slice ax M cp) (fun w' hw'=>(hw'.cell (p:=⟨w.heap.size,2,none⟩) (show w.heap.size<w.heap.size+2 by omega)).trans a2)) hS0 ?_;simp only[Act.put,List.setIfInBounds_toArray,List.set_cons_zero,List.set_cons_succ];refine Ag (i:=5) 28 (v:=.pointer (some ⟨w.heap.size,2,none⟩)) rfl rfl (by kernel_rfl) (by kernel_rfl) (by kernel_rfl) (fun _ _ _ h=>h) (Or.inl ⟨by rfl,fun _ _=>by kernel_rfl⟩) hS0 ?_;simp only[Act.put,List.setIfInBounds_toArray,List.set_cons_zero,List.set_cons_succ];refine Ag (i:=6) 29 (v:=.slice ax M cp) rfl rfl (by kernel_rfl) (by kernel_rfl) (by kernel_rfl) (fun _ _ _ h=>h) (Gi (by rfl) 75 (.tmp 28) rfl _ underlying75 rfl ⟨w.heap.size,2,none⟩ rfl (.slice ax M cp) (fun w' hw'=>(hw'.cell (p:=⟨w.heap.size,2,none⟩) (show w.heap.size<w.heap.size+2 by omega)).trans a2)) hS0 ?_;simp only[Act.put,List.setIfInBounds_toArray,List.set_cons_zero,List.set_cons_succ];refine BE (i:=3) (by kernel_rfl) (GM (i:=3) (d:=26) (f:=133) (args:=#[.slice ax M cp]) rfl (by kernel_rfl) rfl (by kernel_rfl) ((Km _ l _ (hl.below ed0)).mono ?_));rintro e' w5 ⟨x5,rfl,o5,b5⟩;have e5:Bw W w5:=ed0.trans (b5.mono ed0.size);have s5:=Sv.ofOwns o5 (by have:=HM.out;omega);obtain⟨a5,c5,h5⟩:=s5.shape;rw[HM.out]at h5
     subst h5;refine⟨_,rfl,e5.mono hle,?_⟩;simp only[Act.put,List.setIfInBounds_toArray,List.set_cons_zero,List.set_cons_succ];refine Ag (i:=4) 27 (v:=.agg #[.int .i64 br,.int .i64 bn,(.slice a5 M c5)]) rfl rfl (by kernel_rfl) (by kernel_rfl) (by kernel_rfl) (fun _ _ _ h=>h) (Or.inl ⟨by rfl,fun _ _=>by kernel_rfl⟩) (e5.mono hle) ?_;simp only[Act.put,List.setIfInBounds_toArray,List.set_cons_zero,List.set_cons_succ];refine BE (i:=7) (by kernel_rfl) (GM (i:=7) (d:=30) (f:=133) (args:=#[.slice ax M cp]) rfl (by kernel_rfl) rfl (by kernel_rfl) ((Km _ l _ (hl.below e5)).mono ?_));rintro e' w6 ⟨x6,rfl,o6,b6⟩;have e6:Bw W w6:=e5.trans (b6.mono e5.size);have s6:=Sv.ofOwns o6 (by have:=HM.out;omega);have s56:=s5.below b6;refine⟨_,rfl,e6.mono hle,?_⟩;simp only[Act.put,List.setIfInBounds_toArray,List.set_cons_zero,List.set_cons_succ];have hone:(#[.int .i64 br,.int .i64 bn,(.slice a5 M c5)]:Array Value).all (·.oneCell')=true:=by simp[Value.oneCell']
     have rS:=(e6.block (w.heap.size+2) ltR).trans rR;have e7:Below (w.heap.size+2) W (w6.setRow (w.heap.size+2) #[.int .i64 br,.int .i64 bn,(.slice a5 M c5)]):=Ai (e6.mono hle) (Nat.le_refl _) _;have q7:=setRow_heap w6 (w.heap.size+2) _ (#[.int .i64 br,.int .i64 bn,(.slice a5 M c5)]) 77 _ rS;have t5:(w6.setRow (w.heap.size+2) #[.int .i64 br,.int .i64 bn,(.slice a5 M c5)]).ownsRow W.heap.size 139 8 (.slice a5 M c5) l.length (vtL l):=Bo (EP (EP o5 (fun k hk=>b6.block k (o5.lt k hk).2)) (fun k hk=>setRow_other _ _ _ _ (by have:=(o5.lt k hk).1;have:=ed0.size;omega))) ed0.size;have t6:(w6.setRow (w.heap.size+2) #[.int .i64 br,.int .i64 bn,(.slice a5 M c5)]).ownsRow W.heap.size 139 8 x6 l.length (vtL l):=Bo (EP o6 (fun k hk=>setRow_other _ _ _ _ (by have:=(o6.lt k hk).1;have:=e5.size;omega))) e5.size;refine BE (i:=8) (by kernel_rfl) (Hx (i:=8) rfl (by kernel_rfl) rfl 77 (.tmp 4) (.tmp 27) rfl (w.heap.size+2) #[.int .i64 br,.int .i64 bn,(.slice a5 M c5)] (by kernel_rfl) (by kernel_rfl) 77 _ rS (BL ⟨br,bn⟩ (.slice a5 M c5)) rfl hone ⟨e7,?_⟩);refine Ag (i:=9) 5 (v:=x6) rfl rfl (by kernel_rfl) (by kernel_rfl) (by kernel_rfl) (fun _ _ _ h=>h) (Or.inl ⟨by rfl,fun _ _=>by kernel_rfl⟩) e7 ?_;simp only[Act.put,List.setIfInBounds_toArray,List.set_cons_zero,List.set_cons_succ];refine Ag (i:=10) 6 (v:=.int .i64 0) rfl rfl (by kernel_rfl) (by kernel_rfl) (by kernel_rfl) (fun _ _ _ h=>h) (Or.inl ⟨by rfl,fun _ _=>by kernel_rfl⟩) e7 ?_;simp only[Act.put,List.setIfInBounds_toArray,List.set_cons_zero,List.set_cons_succ];exact wpAnyH_done (by kernel_rfl) (HK2.out a5 c5 x6 _ ⟨q7,t5,t6,e7⟩) _
    intro g c y W2 hW2;obtain⟨q7,t5,t6,e7⟩:=hW2;have d7:=d3.trans (e7.mono (by omega));clear rR q0 q1 a2 rB;go_wp2
    refine bodyPost_ret (Jj rfl _ _ (w.heap.size+2) 77 _ (0,0) _ rfl q7 underlying77 rfl (BL ⟨br,bn⟩ (.slice g M c))) rfl ?_;rw[HE.out,HP.out.1,HP.out.2];exact⟨.slice g M c,y,rfl,Bo t5 d3.size,Bo t6 d3.size,d7⟩
  ·rw[decide_eq_false h2];have HE:Hid (BG ⟨⟨pr,pn⟩,l⟩ ⟨br,bn⟩=2):=by unfold Hid BG;rw[if_neg (fun g=>g h1),if_pos h2]
   clear c0 c1 a0 a1;go_wp2_with ((with_reducible (refine As ?_));refine wpList_store_row rfl 77 (.tmp 4) (.tmp 17) rfl (w.heap.size+2) #[.int .i64 0,.int .i64 0,.slice none 0 0] rfl rfl 77 _ q2 (BL ⟨0,0⟩ (.slice none 0 0)) rfl hz3 ?_)
   have q9:=setRow_heap w2 (w.heap.size+2) _ (#[.int .i64 0,.int .i64 0,.slice none 0 0]) 77 _ q2;have d9:=Ai d2 (show w.heap.size≤w.heap.size+2 by omega) (#[.int .i64 0,.int .i64 0,.slice none 0 0]);have HZ:=HZero.out _ (by decide) HE.out;refine bodyPost_ret (Jj rfl _ _ (w.heap.size+2) 77 _ (0,0) _ rfl q9 underlying77 rfl (BL ⟨0,0⟩ (.slice none 0 0))) rfl ?_;rw[HE.out,HZ.1,HZ.2];exact⟨.slice none 0 0,.slice none 0 0,rfl,World.ownsRow_nil _ _ _ _,World.ownsRow_nil _ _ _ _,d9⟩
 ·rw[show Gj ⟨⟨pr,pn⟩,l⟩=5 from if_neg h1];have HE:Hid (BG ⟨⟨pr,pn⟩,l⟩ ⟨br,bn⟩=5):=by unfold Hid BG;rw[if_pos h1]
  clear c0 c1;go_wp2_with ((with_reducible (refine As ?_));refine wpList_store_row rfl 77 (.tmp 4) (.tmp 12) rfl (w.heap.size+2) #[.int .i64 0,.int .i64 0,.slice none 0 0] rfl rfl 77 _ q2 (BL ⟨0,0⟩ (.slice none 0 0)) rfl hz3 ?_)
  have q9:=setRow_heap w1 (w.heap.size+2) _ (#[.int .i64 0,.int .i64 0,.slice none 0 0]) 77 _ q2;have d9:=Ai d1 (show w.heap.size≤w.heap.size+2 by omega) (#[.int .i64 0,.int .i64 0,.slice none 0 0]);have HZ:=HZero.out _ (by decide) HE.out;refine bodyPost_ret (Jj rfl _ _ (w.heap.size+2) 77 _ (0,0) _ rfl q9 underlying77 rfl (BL ⟨0,0⟩ (.slice none 0 0))) rfl ?_;rw[HE.out,HZ.1,HZ.2];exact⟨.slice none 0 0,.slice none 0 0,rfl,World.ownsRow_nil _ _ _ _,World.ownsRow_nil _ _ _ _,d9⟩
theorem CL(a:Acc)(b:Bal):(Fk a b).length≤a.vs.length:=by unfold Fk;split<;>simp
theorem Pr(p:Bal)(x:Value)(l:List Vt)(b:Bal)(w:World)(h:Sv w x l)(ht:NTab w) :
  Calls prog 99 #[.agg (acA p x),.agg (baA b)] w fun e w'=>∃ y z,e=.returned (.tuple #[.agg (acA (Fl ⟨p,l⟩ b) y),z,.int .i64 (BG ⟨p,l⟩ b)])∧Sv w' y (Fk ⟨p,l⟩ b)∧Sv w' z (Fk ⟨p,l⟩ b)∧Bw w w':=by
 refine(C6 p x l b w h ht).mono ?_;rintro e w' ⟨y,z,he,hy,hz,hb⟩;have h1:=CL ⟨p,l⟩ b;have h2:=h.len;exact⟨y,z,he,Sv.ofOwns hy (Nat.le_trans h1 h2),Sv.ofOwns hz (Nat.le_trans h1 h2),hb⟩
theorem btr{w w1 w2:World}(a:Bw w w1)(b:Bw w1 w2):Bw w w2:=a.trans (b.mono a.size)
def lB(L:List Sh):List Nat:=L.filterMap fun x=>match x.t with|.l=>some x.g|_=>none
def gK(L:List Sh):Gh:=⟨fun b=>if(lB L).elem b then .l else .z,fun _=>0⟩
def zl(L:List Sh):Bool:=L.all fun x=>match x.t with|.n _ _=>false|_=>true
theorem KC{L:List Sh}{b:Nat}:b∈lB L↔∃ x∈L,x.t=.l∧x.g=b:=by
 unfold lB;rw[List.mem_filterMap];constructor
 ·rintro⟨x,hx,h⟩;cases ht:x.t<;>rw[ht]at h<;>simp at h;exact⟨x,hx,ht,h⟩
 ·rintro⟨x,hx,ht,rfl⟩;exact⟨x,hx,by rw[ht]⟩
section
variable{P:Program}{fn:Func}{R:Ending→World→Prop}{B:Nat}{T:List Tg}{g:Gh}{w:World}
theorem Kn.re{L:List Sh}(h:Kn B g w L)(hz:zl L=true):Kn B (gK L) w L:=by
 refine⟨fun x hx=>?_,h.nod,fun b hb=>⟨?_,rfl⟩,h.base⟩
 ·have h1:=h.row x hx;refine⟨h1.1,?_,h1.2.2.1,fun _=>rfl⟩;show(if(lB L).elem x.g then Tg.l else Tg.z)=x.t;cases ht:x.t with
  | l=>rw[if_pos (by rw[List.elem_eq_mem];exact decide_eq_true (KC.2 ⟨x,hx,ht,rfl⟩))]
  | n r i=>have:=List.all_eq_true.1 hz x hx;rw[ht]at this;cases this
  | z =>
   rw[if_neg];rw[List.elem_eq_mem];intro hc;obtain⟨y,hy,hyt,hyg⟩:=KC.1 (of_decide_eq_true hc);have hne:x≠y:=fun e=>by rw[e,hyt]at ht;cases ht
   have:(x.g=y.g→(x.t=.z∧x.w=false)∧y.t=.z∧y.w=false)∨(y.g=x.g→(y.t=.z∧y.w=false)∧x.t=.z∧x.w=false):=by
    obtain⟨i,hi,rfl⟩:=List.getElem_of_mem hx;obtain⟨j,hj,rfl⟩:=List.getElem_of_mem hy;rcases Nat.lt_trichotomy i j with h1|h1|h1
    ·exact .inl (List.pairwise_iff_getElem.1 h.nod i j hi hj h1)
    ·subst h1;exact absurd rfl hne
    ·exact .inr (List.pairwise_iff_getElem.1 h.nod j i hj hi h1)
   rcases this with h2|h2
   ·have:=(h2 hyg.symm).2.1;rw[hyt]at this;cases this
   ·have:=(h2 hyg).1.1;rw[hyt]at this;cases this
 ·show(if(lB L).elem b then Tg.l else Tg.z)=.z;rw[if_neg];rw[List.elem_eq_mem];intro hc;obtain⟨y,hy,_,hyg⟩:=KC.1 (of_decide_eq_true hc);have:=(Array.getElem?_eq_some_iff.1 (h.row y hy).1).1;omega
def GK(P:Program)(fn:Func)(R:Ending→World→Prop)(B:Nat)(s:Xs)(w:World):Prop:=GG P fn R B [] s (gK s.L) w
theorem kIn{f:FuncId}{args:Array Value}(hf:P.funcs[f]?=some fn)(h:GK P fn R w.heap.size ⟨[.c (On fn)],⟨fn.ntmps,Ni 0 args.toList,fun _=>undef⟩,[]⟩ w)(hb:fn.body.isSome=true:=by kernel_rfl)(hn:Nat.ble args.size fn.ntmps=true:=by kernel_rfl):Calls P f args w R:=gIn [] (gK []) hf hb hn (fun _ _=>⟨rfl,rfl⟩) h
theorem YZ{s:Xs}{L':List Sh}{g':Gh}{w':World}(c:Cg B [] (gK s.L) w g' w')(hK:Kn B g w s.L)(hK':Kn B g' w' L')(hs:(L'.take s.L.length).map (fun x=>(x.g,x.o))=s.L.map (fun x=>(x.g,x.o))):Bw w w':=by
 refine⟨c.os,c.tape,c.output,c.size,fun b hb=>?_⟩;by_cases hc:b∈lB s.L
 ·obtain⟨x,hx,_,rfl⟩:=KC.1 hc;have h1:(x.g,x.o)∈(L'.take s.L.length).map (fun x=>(x.g,x.o)):=by rw[hs];exact List.mem_map.2 ⟨x,hx,rfl⟩
  obtain⟨y,hy,he⟩:=List.mem_map.1 h1;injection he with e1 e2
  have h2:=(hK'.row y (List.mem_of_mem_take hy)).1;rw[← e1,h2,e2,e1];exact(hK.row x hx).1.symm
 ·refine c.same b hb List.not_mem_nil (fun h=>?_);have:(if(lB s.L).elem b then Tg.l else Tg.z)=.l:=h;rw[if_neg (by rw[List.elem_eq_mem];simpa using hc)]at this
  cases this
theorem kR{s:Xs}(m:Nat)(h:List Nat)(hk:∀ gs w',Bw w w'→GK P fn R B (rn0 P [] gs m s h).s w')(hob:∀ gs,(rn0 P [] gs m s h).o.map Ob.l'=(rn0 P [] gs m s h).o.map Ob.r':=by intro _;kernel_rfl)(hz:∀ gs,zl (rn0 P [] gs m s h).s.L=true:=by intro _;kernel_rfl)(hs:∀ gs,((rn0 P [] gs m s h).s.L.take s.L.length).map (fun x=>(x.g,x.o))=s.L.map (fun x=>(x.g,x.o)):=by intro _;kernel_rfl):GK P fn R B s w :=
 Af fun hK=>Za [] m h hob fun gs g' w' c=>⟨fun hK'=>(hk gs w' (YZ c hK hK' (hs gs))).ex (hK'.re (hz gs))⟩
structure Kept(L:List Sh)(w w':World):Prop where
 size:w.heap.size≤w'.heap.size
 rows:AM L w
 same:∀ b,b<w.heap.size→b∉lB L→w'.heap[b]?=w.heap[b]?
theorem kF{s:Xs}(m:Nat)(h:List Nat)(hk:∀ gs w',Below B w w'→Kept s.L w w'→GK P fn R B (rn0 P [] gs m s h).s w')(hob:∀ gs,(rn0 P [] gs m s h).o.map Ob.l'=(rn0 P [] gs m s h).o.map Ob.r':=by intro _;kernel_rfl)(hz:∀ gs,zl (rn0 P [] gs m s h).s.L=true:=by intro _;kernel_rfl):GK P fn R B s w :=
 Af fun hK=>Za [] m h hob fun gs g' w' c=>⟨fun hK'=>(hk gs w' ⟨c.os,c.tape,c.output,c.size,fun b hb=>c.same b (Nat.lt_of_lt_of_le hb hK.base) List.not_mem_nil (fun _=>hb)⟩ ⟨c.size,hK.rows,fun b hb hn=>c.same b hb List.not_mem_nil fun h=>by
  have h2:(if(lB s.L).elem b then Tg.l else Tg.z)=.l:=h;rw[if_neg (by rw[List.elem_eq_mem];simpa using hn)]at h2
  cases h2⟩).ex (hK'.re (hz gs))⟩
def noU(L:List Sh):Bool:=L.all fun x=>match x.t,x.o with|.l,.cells c _ _=>c.all (fun v=>match v with|.int .u8 _=>false|_=>true)|.l,_=>false|_,_=>true
theorem Sl.kept{L:List Sh}{w':World}{x:Value}{l:List Int}(h:Sl w x l)(k:Kept L w w')(hno:noU L=true:=by kernel_rfl):Sl w' x l:=by
 obtain⟨⟨a,cap,hv,hc,hn,h1⟩,h2,h3⟩:=h;refine⟨⟨a,cap,hv,hc,hn,?_⟩,h2,h3⟩;rcases h1 with h1|⟨b,off,ha,hbs,hcell⟩
 ·exact .inl h1
 ·by_cases hl:l=[]
  ·exact .inl hl
  ·refine .inr ⟨b,off,ha,Nat.lt_of_lt_of_le hbs k.size,fun i hi=>?_⟩;have hb:b∉lB L:=by
    intro hb;obtain⟨y,hy,hyt,rfl⟩:=KC.1 hb;have hr:=k.rows y hy;have hu:=List.all_eq_true.1 hno y hy;have hi0:0<l.length:=List.length_pos_iff.2 hl;have hc0:=hcell 0 hi0;rw[hyt]at hu
    cases ho:y.o with
    | cells c e fr =>
     rw[ho]at hu hr
     rw[cell_of_row _ _ _ _ _ _ hr]at hc0
     have:=Array.all_eq_true.1 hu (off+0) (Array.getElem?_eq_some_iff.1 hc0).1;rw[(Array.getElem?_eq_some_iff.1 hc0).2]at this
     cases this
    | _=>rw[ho]at hu;cases hu
   rw[World.cell?_of_block (w:=w) (k.same b hbs hb)];exact hcell i hi
theorem bH(s:Xs)(i:Nat)(v:Value)(hob:(nxt s i undef s.L).o.map Ob.l'=(nxt s i undef s.L).o.map Ob.r'):(nxt s i v s.L).s.L=s.L:=by
 obtain⟨K,f,L⟩:=s;unfold nxt;cases K with
 | nil=>rfl
 | cons t K=>cases t<;>first|rfl|(simp only;repeat' split)<;>rfl
theorem gp(s:Xs)(i:Nat)(v:Value)(ld:Bool):(tkN s i v ld).s.L=s.L:=by
 obtain⟨K,f,L⟩:=s;unfold tkN;cases K with
 | nil=>rfl
 | cons t K=>cases t<;>first|rfl|(simp only;repeat' split)<;>rfl
theorem GK.of{s s':Xs}(h:GK P fn R B s' w)(e:s'.L=s.L):GG P fn R B [] s' (gK s.L) w:=by rw[← e];exact h
theorem kV{s:Xs}(i:Nat)(v:Value){S:Sem Value}(hr:S.run P w=.ok v w)(hk:GK P fn R B (nxt s i v s.L).s w)(hs:CZ s i=some (S>>=fun v=>pure (.value v)):=by kernel_rfl)(hob:(nxt s i undef s.L).o.map Ob.l'=(nxt s i undef s.L).o.map Ob.r':=by kernel_rfl):GK P fn R B s w:=qV i v hr (hk.of (bH s i v hob)) hs hob
theorem kT{s:Xs}(i:Nat)(v:Value){S:Sem Value}(hr:∀ W,S.run P W=.ok v W)(hk:GK P fn R B (tkN s i v false).s w)(hs:CZ s i=some (S>>=fun v=>pure (.value v)):=by kernel_rfl)(hob:(tkN s i undef false).o.map Ob.l'=(tkN s i undef false).o.map Ob.r':=by kernel_rfl):GK P fn R B s w:=qT i v hr (hk.of (gp s i v false)) hs hob
theorem YI(s:Xs)(t:Bool):(Kl s t).L=s.L:=by unfold Kl;split<;>rfl
theorem kI{s:Xs}(b t:Bool)(hb:b=t)(h:GK P fn R B (Kl s t) w)(hc:O6 s=.bool b:=by kernel_rfl):GK P fn R B s w:=qI b t hb (h.of (YI s t)) hc
theorem kC{s:Xs}(i:Nat){f:FuncId}{av:Array Value}{C:Ending→World→Prop}(hc:Calls P f av w C)(hk:∀ e w',C e w'→∃ v,e=.returned v∧Bw w w'∧GK P fn R B (nxt s i v s.L).s w')(hr:∀ W,CE P s i W=some (.ok (.enter f av) W):=by intro _;kernel_rfl)(hd:Kr s i=true:=by kernel_rfl)(hob:(nxt s i undef s.L).o.map Ob.l'=(nxt s i undef s.L).o.map Ob.r':=by kernel_rfl):GK P fn R B s w:=qC i hc (fun e w' h=>let ⟨v,h1,h2,h3⟩:=hk e w' h;⟨v,h1,h2,h3.of (bH s i v hob)⟩) hr hd hob
theorem kE{s:Xs}(v:Value)(h:R (.returned v) w)(hr:Kn B (gK s.L) w s.L→(results fn s.f.act.tmps).run P w=.ok v w:=by intro _;kernel_rfl)(hs:LI s.K=true:=by kernel_rfl):GK P fn R B s w:=qE v (fun _=>h) hr hs
theorem W6{s:Xs}(n:Nat)(Inv:World→List (Nat × Value)→List Sh→Prop)(h1:∀ J:Act→World→Prop,(∀ w' e z L,Inv w' e L→Kn B (gK L) w' L→J (⟨n,e,z⟩:Fm).act w')→GK P fn R B (V9 s J) w)(h2:∀ w' e z L,Inv w' e L→GK P fn R B ⟨s.K.tail,⟨n,e,z⟩,L⟩ w')(hs:s.K.isEmpty=false:=by kernel_rfl):GK P fn R B s w:=by
 refine BN n (fun g' w' e L=>Inv w' e L∧g'=gK L) hs (fun J hJ=>?_) ?_
 ·have:=h1 J fun w' e z L hI hK=>hJ (gK L) w' e z L ⟨hI,rfl⟩ hK;exact this.of (by obtain⟨K,f,L⟩:=s;unfold V9;cases K<;>rfl)
 ·rintro g' w' e z L ⟨hI,rfl⟩;exact h2 w' e z L hI
theorem kB{s:Xs}{J:Act→World→Prop}{n:Nat}{e:List (Nat × Value)}(m:List Bool){L':List Sh}(h:∀ z,Kn B (gK L') w L'→J (⟨n,e,z⟩:Fm).act w)(hi:isJ s.K=true:=by kernel_rfl)(hJ:jK s.K=J:=by kernel_rfl)(hn:s.f.n=n:=by kernel_rfl)(he:e.map (fun p=>lk s.f.z s.f.e p.1)=e.map (·.2):=by kernel_rfl)(hL:Br (AB m s.L)=L':=by kernel_rfl)(hz:zl L'=true:=by kernel_rfl):GK P fn R B s w:=qB m (fun z _ K=>h z (K.re hz)) hi hJ hn he hL
theorem TP{s:Xs}(i j:Nat)(h1:GK P fn R B (IM s i) w)(h2:GK P fn R B (IM s j) w)(hb:aM s i j=true:=by kernel_rfl):GK P fn R B s w :=
 have e:∀ i,(IM s i).L=s.L:=fun i=>by unfold IM;split<;>rfl
 CF i j hb (h1.of (e i)) (h2.of (e j))
end
theorem BU{B:Nat}{a w:World}(h:Below B a w){g:Nat}(hg:B≤g)(cs:Array Value):Below B a (w.setRow g cs) :=
 h.trans ⟨rfl,rfl,rfl,by simp,fun k hk=>setRow_other w g k cs (by omega)⟩
def ptA(g:Nat):Array Value:=#[.pointer (some ⟨g,0,none⟩),.pointer (some ⟨g,1,none⟩),.pointer (some ⟨g,2,none⟩),.pointer (some ⟨g,3,none⟩),.pointer (some ⟨g,4,none⟩)]
theorem ZR(g:Nat):(ptA g).all (·.oneCell')=true:=by simp[ptA,Value.oneCell']
def Ra:Array Value:=#[.pointer none,.pointer none,.pointer none,.pointer none,.pointer none]
theorem dM(g:Nat):(prog.info? 154).map (·.size)=some (ptA g).size:=by show _=some 5;kernel_rfl
theorem Pt(g:Nat)(j:Nat)(hj:j<5):∀ W,(Instr.index 154 (.agg (ptA g)) (.int .i64 (j:Int))).run prog W=.ok (.pointer (some ⟨g,j,none⟩)) W:=by
 intro W;rcases(by omega:j=0∨j=1∨j=2∨j=3∨j=4)with rfl|rfl|rfl|rfl|rfl
 all_goals kernel_rfl
theorem Gy(g:Nat)(w:World) :
  Calls prog 76 #[.pointer (some ⟨g,0,none⟩)] w fun e w'=>e=.returned (.agg (ptA g))∧Bw w w':=by
 have bb:Bw w (w.alloc (.cells Ra 154)):=(Below.refl _ _).alloc (Nat.le_refl _) _;have rr:=heap_alloc_new w (.cells Ra 154);have hi:=dM g;go_enter func76,ntmps76
 go_wp2_with fail
 refine Ar 16 (by kernel_rfl) (by kernel_rfl) ?_;simp only[List.take_succ_cons,List.take_zero,List.drop_succ_cons,List.drop_zero]
 repeat (go_big_quiet_step (fail))
 refine wpQuiet_nil ?_;have rr':(w.alloc (.cells Ra 154)).drew.heap[w.heap.size]?=some (.cells Ra 154):=rr;have bb':Bw w (w.alloc (.cells Ra 154)).drew:=bb.drew;have hn:Ra=#[.pointer none,.pointer none,.pointer none,.pointer none,.pointer none]:=rfl;rw[← hn];generalize (w.alloc (.cells Ra 154)).drew=W at rr' bb';go_wp2_with (refine wpList_store_row rfl 154 (.tmp 2) (.tmp 18) rfl w.heap.size (ptA g) rfl rfl 154 _ rr' hi rfl (ZR g) ?_)
 have r2:=setRow_heap W w.heap.size _ (ptA g) 154 _ rr';exact bodyPost_ret (v:=.agg (ptA g)) (results_cell_row rfl _ _ w.heap.size 154 _ (0,0) _ rfl r2 underlying154 rfl hi) rfl ⟨rfl,BU bb' (Nat.le_refl _) _⟩
theorem Sl.one2O(w:World)(b b':Int)(e:TypeId){g:Nat}(hg:g=w.heap.size)(hb:0≤b∧b<256)(he:b'=b):Sl (w.alloc (.cells #[.int .u8 b'] e)) (.slice (some ⟨g,0,none⟩) 1 1) [b]:=by
 subst he;exact Sl.one w b' e hg hb
theorem ZT(l:List Int)(n:Int)(j:Nat)(hl:l.length≤100000):(l++(Ac n).take j).length+1≤140737488355328:=by
 have:((Ac n).take j).length≤4:=by rw[List.length_take];exact Nat.min_le_right _ _
 rw[List.length_append];omega
theorem G0(v:Value)(l:List Int)(n:Int)(B:Nat)(w:World)(ho:w.ownsRow B 5 1 v l.length (l.map (Value.int .u8)))(hB:B≤w.heap.size)(hl:l.length≤100000)(n0:0≤n)(n1:n<2147483648) :
  Calls prog 77 #[v,.int .i64 n] w fun e w'=>∃ v',e=.returned v'∧w'.ownsRow B 5 1 v' (l++Ac n).length ((l++Ac n).map (Value.int .u8))∧Below B w w':=by
 have HO0:Hid (w.ownsRow B 5 1 v (l++(Ac n).take 0).length ((l++(Ac n).take 0).map (Value.int .u8))):=by unfold Hid;simpa using ho
 clear ho;go_enter func77,ntmps77
 go_wp2_with fail
 go_loopw [0,5] (fun v iv wr=>∃ j:Nat,j≤4∧iv=.int .i64 (3-(j:Int))∧wr.ownsRow B 5 1 v (l++(Ac n).take j).length ((l++(Ac n).take j).map (Value.int .u8))∧Below B w wr) (fun _ iv _=>(intOf iv+1).toNat)
 case atStart=>exact⟨0,by omega,rfl,HO0.out,Below.refl _ _⟩
 case round =>
  obtain⟨j,hj,rfl,hown,hbel⟩:=hrel;clear HO0;have hlt:=hown.lt;have hz:B≤wr.heap.size:=Nat.le_trans hB hbel.size;have HL:=ZT l n;by_cases hj4:j<4
  ·rcases(by omega:j=0∨j=1∨j=2∨j=3)with rfl|rfl|rfl|rfl
   ·rw[show(3:Int)-((0:Nat):Int)=3 from rfl];have hx:Hid (l++(Ac n).take 1=l++(Ac n).take 0++[n/16777216%256]):=by unfold Hid;rw[List.append_assoc];rfl
    have hLL:=HL 0 hl;clear HL;generalize l++(Ac n).take 0=L at hown hx hLL;go_wp2_with (at_builtin;refine Aa _ rfl _ _ 25 rfl B 5 underlying25 At _ _ rfl rfl L [n/16777216%256] (hown.alloc _) (Sl.one2O _ (n/16777216%256) _ _ rfl (by omega) (by omega)) hLL (by simp;omega) ?_)
    intro v2 w2 ho2 hg2;have hb2:Below B w w2:=(hbel.alloc hz _).grown hg2 (by simp;omega) (fun k hk=>(hlt k hk).1);have HO2:Hid (w2.ownsRow B 5 1 v2 (l++(Ac n).take 1).length ((l++(Ac n).take 1).map (Value.int .u8))):=by
     unfold Hid;rw[hx.out];simpa using ho2
    clear ho2 hg2 hown hlt hbel hLL hx;go_wp2
    go_roundw
    case rel=>exact⟨1,by omega,rfl,HO2.out,hb2⟩
    case measure=>simp[intOf]
   ·rw[show(3:Int)-((1:Nat):Int)=2 from rfl];have hx:Hid (l++(Ac n).take 2=l++(Ac n).take 1++[n/65536%256]):=by unfold Hid;rw[List.append_assoc];rfl
    have hLL:=HL 1 hl;clear HL;generalize l++(Ac n).take 1=L at hown hx hLL;go_wp2_with (at_builtin;refine Aa _ rfl _ _ 25 rfl B 5 underlying25 At _ _ rfl rfl L [n/65536%256] (hown.alloc _) (Sl.one2O _ (n/65536%256) _ _ rfl (by omega) (by omega)) hLL (by simp;omega) ?_)
    intro v2 w2 ho2 hg2;have hb2:Below B w w2:=(hbel.alloc hz _).grown hg2 (by simp;omega) (fun k hk=>(hlt k hk).1);have HO2:Hid (w2.ownsRow B 5 1 v2 (l++(Ac n).take 2).length ((l++(Ac n).take 2).map (Value.int .u8))):=by
     unfold Hid;rw[hx.out];simpa using ho2
    clear ho2 hg2 hown hlt hbel hLL hx;go_wp2
    go_roundw
    case rel=>exact⟨2,by omega,rfl,HO2.out,hb2⟩
    case measure=>simp[intOf]
   ·rw[show(3:Int)-((2:Nat):Int)=1 from rfl];have hx:Hid (l++(Ac n).take 3=l++(Ac n).take 2++[n/256%256]):=by unfold Hid;rw[List.append_assoc];rfl
    have hLL:=HL 2 hl;clear HL;generalize l++(Ac n).take 2=L at hown hx hLL;go_wp2_with (at_builtin;refine Aa _ rfl _ _ 25 rfl B 5 underlying25 At _ _ rfl rfl L [n/256%256] (hown.alloc _) (Sl.one2O _ (n/256%256) _ _ rfl (by omega) (by omega)) hLL (by simp;omega) ?_)
    intro v2 w2 ho2 hg2;have hb2:Below B w w2:=(hbel.alloc hz _).grown hg2 (by simp;omega) (fun k hk=>(hlt k hk).1);have HO2:Hid (w2.ownsRow B 5 1 v2 (l++(Ac n).take 3).length ((l++(Ac n).take 3).map (Value.int .u8))):=by
     unfold Hid;rw[hx.out];simpa using ho2
    clear ho2 hg2 hown hlt hbel hLL hx;go_wp2
    go_roundw
    case rel=>exact⟨3,by omega,rfl,HO2.out,hb2⟩
    case measure=>simp[intOf]
   ·rw[show(3:Int)-((3:Nat):Int)=0 from rfl];have hx:Hid (l++(Ac n).take 4=l++(Ac n).take 3++[n%256]):=by unfold Hid;rw[List.append_assoc];rfl
    have hLL:=HL 3 hl;clear HL;generalize l++(Ac n).take 3=L at hown hx hLL;go_wp2_with (at_builtin;refine Aa _ rfl _ _ 25 rfl B 5 underlying25 At _ _ rfl rfl L [n%256] (hown.alloc _) (Sl.one2O _ (n%256) _ _ rfl (by omega) (by omega)) hLL (by simp;omega) ?_)
    intro v2 w2 ho2 hg2;have hb2:Below B w w2:=(hbel.alloc hz _).grown hg2 (by simp;omega) (fun k hk=>(hlt k hk).1);have HO2:Hid (w2.ownsRow B 5 1 v2 (l++(Ac n).take 4).length ((l++(Ac n).take 4).map (Value.int .u8))):=by
     unfold Hid;rw[hx.out];simpa using ho2
    clear ho2 hg2 hown hlt hbel hLL hx;go_wp2
    go_roundw
    case rel=>exact⟨4,by omega,rfl,HO2.out,hb2⟩
    case measure=>simp[intOf]
  ·obtain rfl:j=4:=by omega
   rw[show(3:Int)-((4:Nat):Int)=-1 from rfl];have HO:Hid _:=hown;clear hown hlt HL;go_wp2
   go_ret;exact⟨_,rfl,HO.out,hbel⟩
theorem Sl.spotO{w:World}{a:Option Addr}{n cap:Nat}{l:List Int}(h:Sl w (.slice a n cap) l)(k:Nat)(hk:k<l.length):∃ bd od,a=some ⟨bd,od,none⟩∧bd<w.heap.size∧w.cell? ⟨bd,od+k,none⟩=some (.int .u8 (l.getD k 0)):=by
 obtain⟨⟨a',cap',e,hc,hn,h1⟩,hla,hba⟩:=h;simp only[Value.slice.injEq]at e;obtain⟨rfl,rfl,rfl⟩:=e;rcases h1 with rfl|⟨b,off,rfl,hb,hcell⟩
 ·simp at hk
 ·exact⟨b,off,rfl,hb,hcell k hk⟩
theorem IH{w:World}{x:S3}{l:List Int}(h:Sl w x.v l):x.n=l.length:=by obtain⟨a,cap,hh⟩:=h.shapeT;simp only[S3.v,Value.slice.injEq]at hh;exact hh.2.1
theorem aN:prog.underlying 25=some (.slice (prog.elem 25)):=by kernel_rfl
theorem slB{w:World}{x:S3}{l:List Int}(h:Sl w x.v l)(lo:Nat)(hlo:lo≤l.length):∃ y:S3,(∀ W,(Instr.sliceAt 25 x.v (some (iv (lo:Int))) none none).run prog W=.ok y.v W)∧Sl w y.v (l.drop lo)∧y.n=l.length-lo:=by
 obtain⟨a',c',h1,h2⟩:=h.from lo hlo;refine⟨⟨a',x.n-lo,c'⟩,fun W=>?_,h2,by rw[IH h]⟩;rw[run_sliceAt_slice _ _ _ _ _ _ aN];exact h1 W
theorem slT{w:World}{x:S3}{l:List Int}(h:Sl w x.v l)(hi:Nat)(hhi:hi≤l.length):∃ y:S3,(∀ W,(Instr.sliceAt 25 x.v none (some (iv (hi:Int))) none).run prog W=.ok y.v W)∧Sl w y.v (l.take hi):=by
 obtain⟨a',c',h1,h2⟩:=h.upTo hi hhi;refine⟨⟨a',hi,c'⟩,fun W=>?_,h2⟩;rw[run_sliceAt_slice _ _ _ _ _ _ aN];exact h1 W
theorem PC{w:World}{x:S3}{l:List Int}(h:Sl w x.v l)(h0:0<l.length):∃ bd od,(∀ W,(Instr.indexAt 25 x.v (iv 0)).run prog W=.ok (pt bd od) W)∧bd<w.heap.size∧w.cell? ⟨bd,od,none⟩=some (.int .u8 (l.getD 0 0)):=by
 obtain⟨xa,xn,xc⟩:=x;have hn:xn=l.length:=IH h;obtain⟨bd,od,h1,h2,h3⟩:=h.spotO 0 h0;subst h1;exact⟨bd,od,fun W=>Pw (P:=prog) (e:=5) (z:=1) (i:=0) underlying25 (by kernel_rfl) (by kernel_rfl) (by rw[hn];exact h0) od (by rw[Nat.mul_zero,Nat.add_zero]),h2,h3⟩
theorem Uu{P:Program}{w:World}{t:TypeId}{x y:Operand}{m n:Int}{b:Bool}(h:(m==n)=b):(do Go.eqGuard .eql t x y (.int .u8 m) (.int .u8 n);Go.binOp .eql t (.int .u8 m) (.int .u8 n):Sem Value).run P w=.ok (.bool b) w:=by
 subst h;rfl
theorem rUi{w:World}{n:Int}(h:0≤n∧n<256):(convert 5 3 (.int .u8 n)).run prog w=.ok (iv n) w:=bK (by kernel_rfl) underlying3 (by kernel_rfl) (by rw[IntKind.wrap_i64];omega)
theorem F9{w:World}{B:Nat}{y:Value}{l:List Int}(h:w.ownsRow B 5 1 y l.length (l.map (Value.int .u8)))(hl:l.length≤140737488351232)(hb:∀ x∈l,0≤x∧x<256):∃ z:S3,y=z.v∧Sl w z.v l:=by
 have hs:=Sl.ofOwns h hl hb;obtain⟨a,cap,rfl⟩:=hs.shapeT;exact⟨⟨a,l.length,cap⟩,rfl,hs⟩
theorem SM{w:World}{y:Value}{l:List Int}(hs:Sl w y l):∃ z:S3,y=z.v∧Sl w z.v l:=by
 obtain⟨a,cap,rfl⟩:=hs.shapeT;exact⟨⟨a,l.length,cap⟩,rfl,hs⟩
theorem DP(w:World):Sl w s30.v []:=⟨⟨none,0,rfl,Nat.le_refl _,fun _=>rfl,.inl rfl⟩,by simp,by simp⟩
theorem KH(x:Value)(d:List Int)(s:Int)(w:World)(h:Sl w x d) :
  Calls prog 107 #[.agg (tpA x s)] w fun e w'=>e=.returned (.bool (decide (AY d s)))∧Bw w w':=by
 have hlen:=h.len;obtain⟨ax,cp,rfl⟩:=h.shapeT;obtain⟨M,hM⟩:∃ M,d.length=M:=⟨_,rfl⟩;have HM:Hid (d.length=M):=hM;rw[hM]at hlen ⊢
 clear hM h;simp only[tpA];have bb:Bw w (w.alloc (.cells #[.slice ax M cp,.int .i64 s] 94)):=(Below.refl _ _).alloc (Nat.le_refl _) _;have rr:=heap_alloc_new w (.cells #[.slice ax M cp,.int .i64 s] 94);generalize hW:w.alloc (.cells #[.slice ax M cp,.int .i64 s] 94)=W0 at bb rr;have c0:W0.cell? ⟨w.heap.size,0,none⟩=some (.slice ax M cp):=cell_of_row _ _ 0 _ _ _ rr;have c1:W0.cell? ⟨w.heap.size,1,none⟩=some (.int .i64 s):=cell_of_row _ _ 1 _ _ _ rr;clear rr;have HT:Hid (AY d s↔(M≤100000∧0≤s∧s≤(M:Int))):=by
  unfold Hid AY;rw[HM.out]
 by_cases h1:M≤100000
 ·have h1i:(M:Int)≤100000:=by omega
  by_cases h2:0≤s
  ·by_cases h3:s≤(M:Int)
   ·go_enter func107,ntmps107
    go_wp2
    go_ret;exact⟨Ae (by rw[decide_eq_true (HT.out.2 ⟨h1,h2,h3⟩)]),bb⟩
   ·go_enter func107,ntmps107
    go_wp2
    go_ret;exact⟨Ae (by rw[decide_eq_false (fun g=>absurd (HT.out.1 g).2.2 (by omega))]),bb⟩
  ·go_enter func107,ntmps107
   go_wp2
   go_ret;exact⟨Ae (by rw[decide_eq_false (fun g=>absurd (HT.out.1 g).2.1 (by omega))]),bb⟩
 ·have h1i:¬ (M:Int)≤100000:=by omega
  go_enter func107,ntmps107
  go_wp2
  go_ret;exact⟨Ae (by rw[decide_eq_false (fun g=>absurd (HT.out.1 g).1 (by omega))]),bb⟩
theorem IW(x:Value)(d:List Int)(s:Int)(n:Nat)(w:World)(h:Sl w x d)(hn:n≤d.length) :
  Calls prog 108 #[.agg (tpA x s),.int .i64 (n:Int)] w fun e w'=>∃ y,e=.returned (.agg (tpA y (n:Int)))∧w'.ownsRow w.heap.size 5 1 y n ((d.take n).map (Value.int .u8))∧Bw w w':=by
 have hlen:=h.len;obtain⟨ax,cp,rfl⟩:=h.shapeT;obtain⟨M,hM⟩:∃ M,d.length=M:=⟨_,rfl⟩;have HM:Hid (d.length=M):=hM;have HN:Hid (n≤d.length):=hn;obtain⟨t,ht⟩:∃ t,t=d.take n:=⟨_,rfl⟩;have HT:Hid (t=d.take n):=ht;rw[← ht];clear ht;rw[hM]at h hlen hn ⊢
 clear hM;simp only[tpA];have r0:=heap_alloc2_old w (.cells #[.slice ax M cp,.int .i64 s] 94) (.cells #[.slice none 0 0,.int .i64 0] 94);have r1:=heap_alloc2_new w (.cells #[.slice ax M cp,.int .i64 s] 94) (.cells #[.slice none 0 0,.int .i64 0] 94);have bb:Bw w ((w.alloc (.cells #[.slice ax M cp,.int .i64 s] 94)).alloc (.cells #[.slice none 0 0,.int .i64 0] 94)):=((Below.refl _ _).alloc (Nat.le_refl _) _).alloc (by simp) _;have z0:((w.alloc (.cells #[.slice ax M cp,.int .i64 s] 94)).alloc (.cells #[.slice none 0 0,.int .i64 0] 94)).heap.size=w.heap.size+2:=by simp
 generalize hW:(w.alloc (.cells #[.slice ax M cp,.int .i64 s] 94)).alloc (.cells #[.slice none 0 0,.int .i64 0] 94)=W0 at r0 r1 bb z0;have s0:=h.below bb;have Z0:Hid (W0.heap.size=w.heap.size+2):=z0;have y0:w.heap.size+1<W0.heap.size:=by omega
 have y1:w.heap.size<W0.heap.size:=by omega
 clear z0;go_enter func108,ntmps108
 go_wp2_with ((with_reducible (refine En ?_));at_make;refine LA _ rfl _ _ 25 rfl W0.heap.size 5 underlying25 At n rfl rfl (by omega) (Nat.le_refl _) ?_)
 clear hW;intro w1 o1 g1;have b1:Bw W0 w1:=(Below.refl _ _).grown g1 (Nat.le_refl _) (fun k hk=>by cases hk);have q0:=(b1.block w.heap.size y1).trans r0;have q1:=(b1.block (w.heap.size+1) y0).trans r1;have s1:=s0.below b1;obtain⟨xs,o1⟩:=o1.out;have HO:Hid (w1.ownsRow W0.heap.size 5 1 (.slice (some ⟨W0.heap.size,0,none⟩) n n) n xs):=o1;have d1:=bb.trans (b1.mono bb.size);clear o1 r0 r1 g1;have c0:w1.cell? ⟨w.heap.size,0,none⟩=some (.slice ax M cp):=cell_of_row _ _ 0 _ _ _ q0;go_wp2_with ((with_reducible (refine En ?_));refine L8 _ rfl _ _ 25 25 rfl W0.heap.size 5 underlying25 fe W0.heap.size n _ rfl HO.out _ rfl d HN.out s1 t HT.out ?_)
 intro w2 o2 b2;have HO2:Hid (w2.ownsRow W0.heap.size 5 1 (.slice (some ⟨W0.heap.size,0,none⟩) n n) n (t.map (Value.int .u8))):=o2;have e2:=b2.mono (show w.heap.size+2≤W0.heap.size by have:=Z0.out;omega);have p1:=(e2.block (w.heap.size+1) (by omega)).trans q1;have d2:=d1.trans (e2.mono (by omega));obtain⟨g,hg⟩:∃ g,W0.heap.size=g:=⟨_,rfl⟩;have HG:Hid (W0.heap.size=g):=hg;have z0:g=w.heap.size+2:=hg.symm.trans Z0.out;have Z1:Hid (g=w.heap.size+2):=z0;rw[hg]at HO2 ⊢
 clear o2 HO q0 q1 c0 hg z0 y0 y1 Z0;have on:=Yg (some ⟨g,0,none⟩) n n (n:Int);go_wp2_with ((with_reducible (refine En ?_));refine wpList_store_row rfl 94 (.tmp 4) (.tmp 14) rfl (w.heap.size+1) #[.slice (some ⟨g,0,none⟩) n n,.int .i64 (n:Int)] rfl rfl 94 _ p1 Lu rfl on ?_)
 have q9:=setRow_heap w2 (w.heap.size+1) _ (#[.slice (some ⟨g,0,none⟩) n n,.int .i64 (n:Int)]) 94 _ p1;have d9:=Cv d2 (show w.heap.size≤w.heap.size+1 by omega) (#[.slice (some ⟨g,0,none⟩) n n,.int .i64 (n:Int)]);have o9:(w2.setRow (w.heap.size+1) #[.slice (some ⟨g,0,none⟩) n n,.int .i64 (n:Int)]).ownsRow g 5 1 (.slice (some ⟨g,0,none⟩) n n) n (t.map (Value.int .u8)):=Da HO2.out (fun k hk=>setRow_other _ _ _ _ (by have:=(HO2.out.lt k hk).1;have:=Z1.out;omega));refine bodyPost_ret (XW rfl _ _ (w.heap.size+1) 94 _ (0,0) _ rfl q9 underlying94 rfl Lu) rfl ?_;exact⟨_,rfl,EZ o9 (by have:=Z1.out;omega),d9⟩
end Go.Proofs.YtfhbkoflaekhpadGreatDoor
