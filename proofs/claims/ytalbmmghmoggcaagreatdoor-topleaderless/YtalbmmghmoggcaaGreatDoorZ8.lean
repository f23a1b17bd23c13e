/- Part 8 of the walk. -/
import Derived.StillTailTactics
import Derived.Lib.SlBytesRow
import Derived.Test.YtalbmmghmoggcaaGreatDoorZ7
set_option maxRecDepth 100000
set_option maxHeartbeats 4000000
open Go.Proofs.Tryz
set_option linter.unusedVariables false
namespace Go.Proofs.YtalbmmghmoggcaaGreatDoor
open Go.RowKit
theorem Cq(p:Bal)(x:Value)(l:List Vt)(b:Bal)(w:World)(h:Sv w x l)(ht:NTab w) :
  Calls prog 98 #[.agg (acA p x),.agg (baA b)] w fun e w'=>∃ y z,e=.returned (.tuple #[.agg (acA (EP ⟨p,l⟩ b) y),z,.int .i64 (BL ⟨p,l⟩ b)])/\w'.ownsRow w.heap.size 139 8 y (EO ⟨p,l⟩ b).length (vtL (EO ⟨p,l⟩ b))/\w'.ownsRow w.heap.size 139 8 z (EO ⟨p,l⟩ b).length (vtL (EO ⟨p,l⟩ b))/\Bw w w':=by
 obtain⟨pr,pn⟩:=p;obtain⟨br,bn⟩:=b;have hlen:=h.len;obtain⟨ax,cp,rfl⟩:=h.shape;obtain⟨M,hM⟩:∃ M,l.length=M:=⟨_,rfl⟩;have HM:Hid (l.length=M):=hM;rw[hM]at h hlen ⊢
 clear hM;simp only[acA,baA];obtain⟨W0,hW0⟩:∃ W0,((w.alloc (.cells #[.int .i64 pr,.int .i64 pn,.slice ax M cp] 77)).alloc (.cells #[.int .i64 br,.int .i64 bn] 74)).alloc (.cells #[.int .i64 0,.int .i64 0,.slice none 0 0] 77)=W0:=⟨_,rfl⟩;obtain⟨r0,r1,r2,bb⟩:=O7 w (.cells #[.int .i64 pr,.int .i64 pn,.slice ax M cp] 77) (.cells #[.int .i64 br,.int .i64 bn] 74) (.cells #[.int .i64 0,.int .i64 0,.slice none 0 0] 77);have z0:W0.heap.size=w.heap.size+3:=by rw[<- hW0];simp
 rw[hW0]at r0 r1 r2 bb
 have hl0:=h.below bb;go_enter func98,ntmps98
 go_wp2_with ((with_reducible (refine Ar ?_));refine wpList_load_row rfl 77 _ rfl w.heap.size rfl 77 _ (0,0) _ r0 underlying77 rfl (BE ⟨pr,pn⟩ (.slice ax M cp)) ?_)
 clear hW0;refine(H6 ⟨pr,pn⟩ (.slice ax M cp) l W0 hl0 (ht.below bb)).mono ?_;rintro e w1 ⟨rfl,b1⟩;have d1:=bb.trans (b1.mono bb.size);have z1:=b1.size;have q0:=(b1.block w.heap.size (by omega)).trans r0;have q1:=(b1.block (w.heap.size+1) (by omega)).trans r1;have q2:=(b1.block (w.heap.size+2) (by omega)).trans r2;have hl1:=hl0.below b1;clear r0 r1 r2 b1 bb hl0;have c0:w1.cell? ⟨w.heap.size+1,0,none⟩=some (.int .i64 br):=cell_of_row _ _ 0 _ _ _ q1;have c1:w1.cell? ⟨w.heap.size+1,1,none⟩=some (.int .i64 bn):=cell_of_row _ _ 1 _ _ _ q1;have hz3:(#[.int .i64 0,.int .i64 0,.slice none 0 0]:Array Value).all (·.oneCell')=true:=by simp[Value.oneCell']
 have HZero:Hid (∀ E,E≠0->BL ⟨⟨pr,pn⟩,l⟩ ⟨br,bn⟩=E->EP ⟨⟨pr,pn⟩,l⟩ ⟨br,bn⟩=⟨0,0⟩/\EO ⟨⟨pr,pn⟩,l⟩ ⟨br,bn⟩=[]):=fun E h1 h2=>⟨if_neg (by rw[h2];exact h1),if_neg (by rw[h2];exact h1)⟩;by_cases h1:AC ⟨⟨pr,pn⟩,l⟩
 .rw[show FG ⟨⟨pr,pn⟩,l⟩=0 from if_pos h1];go_wp2_with fail
  refine(Kg ⟨br,bn⟩ w1).mono ?_;rintro e w2 ⟨rfl,b2⟩;have d2:=d1.trans (b2.mono d1.size);have z2:=b2.size;have hl2:=hl1.below b2;replace q0:=(b2.block w.heap.size (by omega)).trans q0;replace q1:=(b2.block (w.heap.size+1) (by omega)).trans q1;replace q2:=(b2.block (w.heap.size+2) (by omega)).trans q2;have c0:w2.cell? ⟨w.heap.size+1,0,none⟩=some (.int .i64 br):=cell_of_row _ _ 0 _ _ _ q1;have c1:w2.cell? ⟨w.heap.size+1,1,none⟩=some (.int .i64 bn):=cell_of_row _ _ 1 _ _ _ q1;have a0:w2.cell? ⟨w.heap.size,0,none⟩=some (.int .i64 pr):=cell_of_row _ _ 0 _ _ _ q0;have a1:w2.cell? ⟨w.heap.size,1,none⟩=some (.int .i64 pn):=cell_of_row _ _ 1 _ _ _ q0;clear b2 d1 hl1;by_cases h2:Ad ⟨br,bn⟩
  .rw[decide_eq_true h2];go_wp2_with fail
   refine(Dq ⟨br,bn⟩ ⟨pr,pn⟩ w2).mono ?_;rintro e W ⟨rfl,b3⟩;have d3:=d2.trans (b3.mono d2.size);have z3:=b3.size;have hl:=hl2.below b3;replace q0:=(b3.block w.heap.size (by omega)).trans q0;replace q1:=(b3.block (w.heap.size+1) (by omega)).trans q1;have rR:=(b3.block (w.heap.size+2) (by omega)).trans q2;clear b3 d2 hl2 q2 c0 c1 a0 a1;by_cases h3:Bal.lt ⟨br,bn⟩ ⟨pr,pn⟩
   .rw[decide_eq_true h3];have HE:Hid (BL ⟨⟨pr,pn⟩,l⟩ ⟨br,bn⟩=7):=by unfold Hid BL;rw[if_neg (fun g=>g h1),if_neg (fun g=>g h2),if_pos h3]
    go_wp2_with ((with_reducible (refine Ar ?_));refine wpList_store_row rfl 77 (.tmp 4) (.tmp 22) rfl (w.heap.size+2) #[.int .i64 0,.int .i64 0,.slice none 0 0] rfl rfl 77 _ rR (BE ⟨0,0⟩ (.slice none 0 0)) rfl hz3 ?_)
    have q9:=setRow_heap W (w.heap.size+2) _ (#[.int .i64 0,.int .i64 0,.slice none 0 0]) 77 _ rR;have d9:=Ai d3 (show w.heap.size<=w.heap.size+2 by omega) (#[.int .i64 0,.int .i64 0,.slice none 0 0]);have HZ:=HZero.out _ (by decide) HE.out;refine bodyPost_ret (IH rfl _ _ (w.heap.size+2) 77 _ (0,0) _ rfl q9 underlying77 rfl (BE ⟨0,0⟩ (.slice none 0 0))) rfl ?_;rw[HE.out,HZ.1,HZ.2];exact⟨.slice none 0 0,.slice none 0 0,rfl,World.ownsRow_nil _ _ _ _,World.ownsRow_nil _ _ _ _,d9⟩
   .rw[decide_eq_false h3];have HE:Hid (BL ⟨⟨pr,pn⟩,l⟩ ⟨br,bn⟩=0):=by unfold Hid BL;rw[if_neg (fun g=>g h1),if_neg (fun g=>g h2),if_neg h3]
    have HP:Hid (EP ⟨⟨pr,pn⟩,l⟩ ⟨br,bn⟩=⟨br,bn⟩/\EO ⟨⟨pr,pn⟩,l⟩ ⟨br,bn⟩=l):=⟨if_pos HE.out,if_pos HE.out⟩;have a2:W.cell? ⟨w.heap.size,2,none⟩=some (.slice ax M cp):=cell_of_row _ _ 2 _ _ _ q0;have rB:W.rangeAt (w.heap.size+1) 0 [.int .i64 br,.int .i64 bn]:=QN (cell_of_row _ _ 0 _ _ _ q1) (cell_of_row _ _ 1 _ _ _ q1);have hle:w.heap.size+2<=W.heap.size:=by omega
    have ltR:w.heap.size+2<W.heap.size:=by omega
    clear h1 h2 h3 HZero;go_wp2_with fail
    apply Tl (fun g c y W2=>W2.heap[w.heap.size+2]?=some (.cells #[.int .i64 br,.int .i64 bn,.slice g M c] 77)/\W2.ownsRow W.heap.size 139 8 (.slice g M c) l.length (vtL l)/\W2.ownsRow W.heap.size 139 8 y l.length (vtL l)/\Below (w.heap.size+2) W W2)
    .intro K2 HK2;have ed0:Bw W W.drew:=(Below.refl _ _).drew;have ed:Below (w.heap.size+2) W W.drew:=ed0.mono hle;refine wp_region_held (S:=fun w'=>Below (w.heap.size+2) W w') (by kernel_rfl) ?_;have hS0:(fun w'=>Below (w.heap.size+2) W w') W.drew:=ed;refine Af (i:=0) 23 (v:=.agg #[.int .i64 br,.int .i64 bn]) rfl rfl (by kernel_rfl) (by kernel_rfl) (by kernel_rfl) (fun _ _ _ h=>h) (yieldsIf_load_mid (by rfl) 74 (.tmp 3) rfl (w.heap.size+1) 0 rfl [.int .i64 br,.int .i64 bn] _ (fun w' hw'=>Gn hw' (by omega) rB) underlying74 rfl J9) hS0 ?_;simp only[Act.put,List.setIfInBounds_toArray,List.set_cons_zero,List.set_cons_succ];refine Af (i:=1) 24 (v:=.pointer (some ⟨w.heap.size,2,none⟩)) rfl rfl (by kernel_rfl) (by kernel_rfl) (by kernel_rfl) (fun _ _ _ h=>h) (Or.inl ⟨by rfl,fun _ _=>by kernel_rfl⟩) hS0 ?_;simp only[Act.put,List.setIfInBounds_toArray,List.set_cons_zero,List.set_cons_succ];refine Af (i:=2) 25 (v:=.slice ax M cp) rfl rfl (by kernel_rfl) (by kernel_rfl) (by kernel_rfl) (fun _ _ _ h=>h) (FF (by rfl) 75 (.tmp 24) rfl _ underlying75 rfl ⟨w.heap.size,2,none⟩ rfl (.slice ax M cp) (fun w' hw'=>(hw'.cell (p:=⟨w.heap.size,2,none⟩) (show w.heap.size<w.heap.size+2 by omega)).trans a2)) hS0 ?_;simp only[Act.put,List.setIfInBounds_toArray,List.set_cons_zero,List.set_cons_succ];refine Af (i:=5) 28 (v:=.pointer (some ⟨w.heap.size,2,none⟩)) rfl rfl (by kernel_rfl) (by kernel_rfl) (by kernel_rfl) (fun _ _ _ h=>h) (Or.inl ⟨by rfl,fun _ _=>by kernel_rfl⟩) hS0 ?_;simp only[Act.put,List.setIfInBounds_toArray,List.set_cons_zero,List.set_cons_succ];refine Af (i:=6) 29 (v:=.slice ax M cp) rfl rfl (by kernel_rfl) (by kernel_rfl) (by kernel_rfl) (fun _ _ _ h=>h) (FF (by rfl) 75 (.tmp 28) rfl _ underlying75 rfl ⟨w.heap.size,2,none⟩ rfl (.slice ax M cp) (fun w' hw'=>(hw'.cell (p:=⟨w.heap.size,2,none⟩) (show w.heap.size<w.heap.size+2 by omega)).trans a2)) hS0 ?_;simp only[Act.put,List.setIfInBounds_toArray,List.set_cons_zero,List.set_cons_succ];refine Bz (i:=3) (by kernel_rfl) (Gl (i:=3) (d:=26) (f:=132) (args:=#[.slice ax M cp]) rfl (by kernel_rfl) rfl (by kernel_rfl) ((JK _ l _ (hl.below ed0)).mono ?_));rintro e' w5 ⟨x5,rfl,o5,b5⟩;have e5:Bw W w5:=ed0.trans (b5.mono ed0.size);have s5:=Sv.ofOwns o5 (by have:=HM.out;omega);obtain⟨a5,c5,h5⟩:=s5.shape;rw[HM.out]at h5
     subst h5;refine⟨_,rfl,e5.mono hle,?_⟩;simp only[Act.put,List.setIfInBounds_toArray,List.set_cons_zero,List.set_cons_succ];refine Af (i:=4) 27 (v:=.agg #[.int .i64 br,.int .i64 bn,(.slice a5 M c5)]) rfl rfl (by kernel_rfl) (by kernel_rfl) (by kernel_rfl) (fun _ _ _ h=>h) (Or.inl ⟨by rfl,fun _ _=>by kernel_rfl⟩) (e5.mono hle) ?_;simp only[Act.put,List.setIfInBounds_toArray,List.set_cons_zero,List.set_cons_succ];refine Bz (i:=7) (by kernel_rfl) (Gl (i:=7) (d:=30) (f:=132) (args:=#[.slice ax M cp]) rfl (by kernel_rfl) rfl (by kernel_rfl) ((JK _ l _ (hl.below e5)).mono ?_));rintro e' w6 ⟨x6,rfl,o6,b6⟩;have e6:Bw W w6:=e5.trans (b6.mono e5.size);have s6:=Sv.ofOwns o6 (by have:=HM.out;omega);have s56:=s5.below b6;refine⟨_,rfl,e6.mono hle,?_⟩;simp only[Act.put,List.setIfInBounds_toArray,List.set_cons_zero,List.set_cons_succ];have hone:(#[.int .i64 br,.int .i64 bn,(.slice a5 M c5)]:Array Value).all (·.oneCell')=true:=by simp[Value.oneCell']
     have rS:=(e6.block (w.heap.size+2) ltR).trans rR;have e7:Below (w.heap.size+2) W (w6.setRow (w.heap.size+2) #[.int .i64 br,.int .i64 bn,(.slice a5 M c5)]):=Ai (e6.mono hle) (Nat.le_refl _) _;have q7:=setRow_heap w6 (w.heap.size+2) _ (#[.int .i64 br,.int .i64 bn,(.slice a5 M c5)]) 77 _ rS;have t5:(w6.setRow (w.heap.size+2) #[.int .i64 br,.int .i64 bn,(.slice a5 M c5)]).ownsRow W.heap.size 139 8 (.slice a5 M c5) l.length (vtL l):=Bh (E5 (E5 o5 (fun k hk=>b6.block k (o5.lt k hk).2)) (fun k hk=>setRow_other _ _ _ _ (by have:=(o5.lt k hk).1;have:=ed0.size;omega))) ed0.size;have t6:(w6.setRow (w.heap.size+2) #[.int .i64 br,.int .i64 bn,(.slice a5 M c5)]).ownsRow W.heap.size 139 8 x6 l.length (vtL l):=Bh (E5 o6 (fun k hk=>setRow_other _ _ _ _ (by have:=(o6.lt k hk).1;have:=e5.size;omega))) e5.size;refine Bz (i:=8) (by kernel_rfl) (GW (i:=8) rfl (by kernel_rfl) rfl 77 (.tmp 4) (.tmp 27) rfl (w.heap.size+2) #[.int .i64 br,.int .i64 bn,(.slice a5 M c5)] (by kernel_rfl) (by kernel_rfl) 77 _ rS (BE ⟨br,bn⟩ (.slice a5 M c5)) rfl hone ⟨e7,?_⟩);refine Af (i:=9) 5 (v:=x6) rfl rfl (by kernel_rfl) (by kernel_rfl) (by kernel_rfl) (fun _ _ _ h=>h) (Or.inl ⟨by rfl,fun _ _=>by kernel_rfl⟩) e7 ?_;simp only[Act.put,List.setIfInBounds_toArray,List.set_cons_zero,List.set_cons_succ];refine Af (i:=10) 6 (v:=.int .i64 0) rfl rfl (by kernel_rfl) (by kernel_rfl) (by kernel_rfl) (fun _ _ _ h=>h) (Or.inl ⟨by rfl,fun _ _=>by kernel_rfl⟩) e7 ?_;simp only[Act.put,List.setIfInBounds_toArray,List.set_cons_zero,List.set_cons_succ];exact wpAnyH_done (by kernel_rfl) (HK2.out a5 c5 x6 _ ⟨q7,t5,t6,e7⟩) _
    intro g c y W2 hW2;obtain⟨q7,t5,t6,e7⟩:=hW2;have d7:=d3.trans (e7.mono (by omega));clear rR q0 q1 a2 rB;go_wp2
    refine bodyPost_ret (IH rfl _ _ (w.heap.size+2) 77 _ (0,0) _ rfl q7 underlying77 rfl (BE ⟨br,bn⟩ (.slice g M c))) rfl ?_;rw[HE.out,HP.out.1,HP.out.2];exact⟨.slice g M c,y,rfl,Bh t5 d3.size,Bh t6 d3.size,d7⟩
  .rw[decide_eq_false h2];have HE:Hid (BL ⟨⟨pr,pn⟩,l⟩ ⟨br,bn⟩=2):=by unfold Hid BL;rw[if_neg (fun g=>g h1),if_pos h2]
   clear c0 c1 a0 a1;go_wp2_with ((with_reducible (refine Ar ?_));refine wpList_store_row rfl 77 (.tmp 4) (.tmp 17) rfl (w.heap.size+2) #[.int .i64 0,.int .i64 0,.slice none 0 0] rfl rfl 77 _ q2 (BE ⟨0,0⟩ (.slice none 0 0)) rfl hz3 ?_)
   have q9:=setRow_heap w2 (w.heap.size+2) _ (#[.int .i64 0,.int .i64 0,.slice none 0 0]) 77 _ q2;have d9:=Ai d2 (show w.heap.size<=w.heap.size+2 by omega) (#[.int .i64 0,.int .i64 0,.slice none 0 0]);have HZ:=HZero.out _ (by decide) HE.out;refine bodyPost_ret (IH rfl _ _ (w.heap.size+2) 77 _ (0,0) _ rfl q9 underlying77 rfl (BE ⟨0,0⟩ (.slice none 0 0))) rfl ?_;rw[HE.out,HZ.1,HZ.2];exact⟨.slice none 0 0,.slice none 0 0,rfl,World.ownsRow_nil _ _ _ _,World.ownsRow_nil _ _ _ _,d9⟩
 .rw[show FG ⟨⟨pr,pn⟩,l⟩=5 from if_neg h1];have HE:Hid (BL ⟨⟨pr,pn⟩,l⟩ ⟨br,bn⟩=5):=by unfold Hid BL;rw[if_pos h1]
  clear c0 c1;go_wp2_with ((with_reducible (refine Ar ?_));refine wpList_store_row rfl 77 (.tmp 4) (.tmp 12) rfl (w.heap.size+2) #[.int .i64 0,.int .i64 0,.slice none 0 0] rfl rfl 77 _ q2 (BE ⟨0,0⟩ (.slice none 0 0)) rfl hz3 ?_)
  have q9:=setRow_heap w1 (w.heap.size+2) _ (#[.int .i64 0,.int .i64 0,.slice none 0 0]) 77 _ q2;have d9:=Ai d1 (show w.heap.size<=w.heap.size+2 by omega) (#[.int .i64 0,.int .i64 0,.slice none 0 0]);have HZ:=HZero.out _ (by decide) HE.out;refine bodyPost_ret (IH rfl _ _ (w.heap.size+2) 77 _ (0,0) _ rfl q9 underlying77 rfl (BE ⟨0,0⟩ (.slice none 0 0))) rfl ?_;rw[HE.out,HZ.1,HZ.2];exact⟨.slice none 0 0,.slice none 0 0,rfl,World.ownsRow_nil _ _ _ _,World.ownsRow_nil _ _ _ _,d9⟩
theorem C6(a:Acc)(b:Bal):(EO a b).length<=a.vs.length:=by unfold EO;split<;>simp
theorem OB(p:Bal)(x:Value)(l:List Vt)(b:Bal)(w:World)(h:Sv w x l)(ht:NTab w) :
  Calls prog 98 #[.agg (acA p x),.agg (baA b)] w fun e w'=>∃ y z,e=.returned (.tuple #[.agg (acA (EP ⟨p,l⟩ b) y),z,.int .i64 (BL ⟨p,l⟩ b)])/\Sv w' y (EO ⟨p,l⟩ b)/\Sv w' z (EO ⟨p,l⟩ b)/\Bw w w':=by
 refine(Cq p x l b w h ht).mono ?_;rintro e w' ⟨y,z,he,hy,hz,hb⟩;have h1:=C6 ⟨p,l⟩ b;have h2:=h.len;exact⟨y,z,he,Sv.ofOwns hy (Nat.le_trans h1 h2),Sv.ofOwns hz (Nat.le_trans h1 h2),hb⟩
theorem btr{w w1 w2:World}(a:Bw w w1)(b:Bw w1 w2):Bw w w2:=a.trans (b.mono a.size)
def lB(L:List Sh):List Nat:=L.filterMap fun x=>match x.t with|.l=>some x.g|_=>none
def gK(L:List Sh):Gh:=⟨fun b=>if(lB L).elem b then .l else .z,fun _=>0⟩
def zl(L:List Sh):Bool:=L.all fun x=>match x.t with|.n _ _=>false|_=>true
theorem Kd{L:List Sh}{b:Nat}:b∈lB L↔∃ x∈L,x.t=.l/\x.g=b:=by
 unfold lB;rw[List.mem_filterMap];constructor
 .rintro⟨x,hx,h⟩;cases ht:x.t<;>rw[ht]at h<;>simp at h;exact⟨x,hx,ht,h⟩
 .rintro⟨x,hx,ht,rfl⟩;exact⟨x,hx,by rw[ht]⟩
section
variable{P:Program}{fn:Func}{R:Ending->World->Prop}{B:Nat}{T:List Tg}{g:Gh}{w:World}
theorem Kn.re{L:List Sh}(h:Kn B g w L)(hz:zl L=true):Kn B (gK L) w L:=by
 refine⟨fun x hx=>?_,h.nod,fun b hb=>⟨?_,rfl⟩,h.base⟩
 .have h1:=h.row x hx;refine⟨h1.1,?_,h1.2.2.1,fun _=>rfl⟩;show(if(lB L).elem x.g then Tg.l else Tg.z)=x.t;cases ht:x.t with
  | l=>rw[if_pos (by rw[List.elem_eq_mem];exact decide_eq_true (Kd.2 ⟨x,hx,ht,rfl⟩))]
  | n r i=>have:=List.all_eq_true.1 hz x hx;rw[ht]at this;cases this
  | z =>
   rw[if_neg];rw[List.elem_eq_mem];intro hc;obtain⟨y,hy,hyt,hyg⟩:=Kd.1 (of_decide_eq_true hc);have hne:x≠y:=fun e=>by rw[e,hyt]at ht;cases ht
   have:(x.g=y.g->(x.t=.z/\x.w=false)/\y.t=.z/\y.w=false)\/(y.g=x.g->(y.t=.z/\y.w=false)/\x.t=.z/\x.w=false):=by
    obtain⟨i,hi,rfl⟩:=List.getElem_of_mem hx;obtain⟨j,hj,rfl⟩:=List.getElem_of_mem hy;rcases Nat.lt_trichotomy i j with h1|h1|h1
    .exact .inl (List.pairwise_iff_getElem.1 h.nod i j hi hj h1)
    .subst h1;exact absurd rfl hne
    .exact .inr (List.pairwise_iff_getElem.1 h.nod j i hj hi h1)
   rcases this with h2|h2
   .have:=(h2 hyg.symm).2.1;rw[hyt]at this;cases this
   .have:=(h2 hyg).1.1;rw[hyt]at this;cases this
 .show(if(lB L).elem b then Tg.l else Tg.z)=.z;rw[if_neg];rw[List.elem_eq_mem];intro hc;obtain⟨y,hy,_,hyg⟩:=Kd.1 (of_decide_eq_true hc);have:=(Array.getElem?_eq_some_iff.1 (h.row y hy).1).1;omega
def GK(P:Program)(fn:Func)(R:Ending->World->Prop)(B:Nat)(s:Xs)(w:World):Prop:=GG P fn R B [] s (gK s.L) w
theorem kIn{f:FuncId}{args:Array Value}(hf:P.funcs[f]?=some fn)(h:GK P fn R w.heap.size ⟨[.c (Np fn)],⟨fn.ntmps,Mr 0 args.toList,fun _=>undef⟩,[]⟩ w)(hb:fn.body.isSome=true:=by kernel_rfl)(hn:Nat.ble args.size fn.ntmps=true:=by kernel_rfl):Calls P f args w R:=gIn [] (gK []) hf hb hn (fun _ _=>⟨rfl,rfl⟩) h
theorem XZ{s:Xs}{L':List Sh}{g':Gh}{w':World}(c:Cg B [] (gK s.L) w g' w')(hK:Kn B g w s.L)(hK':Kn B g' w' L')(hs:(L'.take s.L.length).map (fun x=>(x.g,x.o))=s.L.map (fun x=>(x.g,x.o))):Bw w w':=by
 refine⟨c.os,c.tape,c.output,c.size,fun b hb=>?_⟩;by_cases hc:b∈lB s.L
 .obtain⟨x,hx,_,rfl⟩:=Kd.1 hc;have h1:(x.g,x.o)∈(L'.take s.L.length).map (fun x=>(x.g,x.o)):=by rw[hs];exact List.mem_map.2 ⟨x,hx,rfl⟩
  obtain⟨y,hy,he⟩:=List.mem_map.1 h1;injection he with e1 e2
  have h2:=(hK'.row y (List.mem_of_mem_take hy)).1;rw[<- e1,h2,e2,e1];exact(hK.row x hx).1.symm
 .refine c.same b hb List.not_mem_nil (fun h=>?_);have:(if(lB s.L).elem b then Tg.l else Tg.z)=.l:=h;rw[if_neg (by rw[List.elem_eq_mem];simpa using hc)]at this
  cases this
theorem kR{s:Xs}(m:Nat)(h:List Nat)(hk:∀ gs w',Bw w w'->GK P fn R B (rn0 P [] gs m s h).s w')(hob:∀ gs,(rn0 P [] gs m s h).o.map Ob.l'=(rn0 P [] gs m s h).o.map Ob.r':=by intro _;kernel_rfl)(hz:∀ gs,zl (rn0 P [] gs m s h).s.L=true:=by intro _;kernel_rfl)(hs:∀ gs,((rn0 P [] gs m s h).s.L.take s.L.length).map (fun x=>(x.g,x.o))=s.L.map (fun x=>(x.g,x.o)):=by intro _;kernel_rfl):GK P fn R B s w :=
 Ae fun hK=>Ya [] m h hob fun gs g' w' c=>⟨fun hK'=>(hk gs w' (XZ c hK hK' (hs gs))).ex (hK'.re (hz gs))⟩
structure Kept(L:List Sh)(w w':World):Prop where
 size:w.heap.size<=w'.heap.size
 rows:AJ L w
 same:∀ b,b<w.heap.size->b∉lB L->w'.heap[b]?=w.heap[b]?
theorem kF{s:Xs}(m:Nat)(h:List Nat)(hk:∀ gs w',Below B w w'->Kept s.L w w'->GK P fn R B (rn0 P [] gs m s h).s w')(hob:∀ gs,(rn0 P [] gs m s h).o.map Ob.l'=(rn0 P [] gs m s h).o.map Ob.r':=by intro _;kernel_rfl)(hz:∀ gs,zl (rn0 P [] gs m s h).s.L=true:=by intro _;kernel_rfl):GK P fn R B s w :=
 Ae fun hK=>Ya [] m h hob fun gs g' w' c=>⟨fun hK'=>(hk gs w' ⟨c.os,c.tape,c.output,c.size,fun b hb=>c.same b (Nat.lt_of_lt_of_le hb hK.base) List.not_mem_nil (fun _=>hb)⟩ ⟨c.size,hK.rows,fun b hb hn=>c.same b hb List.not_mem_nil fun h=>by
  have h2:(if(lB s.L).elem b then Tg.l else Tg.z)=.l:=h;rw[if_neg (by rw[List.elem_eq_mem];simpa using hn)]at h2
  cases h2⟩).ex (hK'.re (hz gs))⟩
def noU(L:List Sh):Bool:=L.all fun x=>match x.t,x.o with|.l,.cells c _ _=>c.all (fun v=>match v with|.int .u8 _=>false|_=>true)|.l,_=>false|_,_=>true
theorem Sl.kept{L:List Sh}{w':World}{x:Value}{l:List Int}(h:Sl w x l)(k:Kept L w w')(hno:noU L=true:=by kernel_rfl):Sl w' x l:=by
 obtain⟨⟨a,cap,hv,hc,hn,h1⟩,h2,h3⟩:=h;refine⟨⟨a,cap,hv,hc,hn,?_⟩,h2,h3⟩;rcases h1 with h1|⟨b,off,ha,hbs,hcell⟩
 .exact .inl h1
 .by_cases hl:l=[]
  .exact .inl hl
  .refine .inr ⟨b,off,ha,Nat.lt_of_lt_of_le hbs k.size,fun i hi=>?_⟩;have hb:b∉lB L:=by
    intro hb;obtain⟨y,hy,hyt,rfl⟩:=Kd.1 hb;have hr:=k.rows y hy;have hu:=List.all_eq_true.1 hno y hy;have hi0:0<l.length:=List.length_pos_iff.2 hl;have hc0:=hcell 0 hi0;rw[hyt]at hu
    cases ho:y.o with
    | cells c e fr =>
     rw[ho]at hu hr
     rw[cell_of_row _ _ _ _ _ _ hr]at hc0
     have:=Array.all_eq_true.1 hu (off+0) (Array.getElem?_eq_some_iff.1 hc0).1;rw[(Array.getElem?_eq_some_iff.1 hc0).2]at this
     cases this
    | _=>rw[ho]at hu;cases hu
   rw[World.cell?_of_block (w:=w) (k.same b hbs hb)];exact hcell i hi
theorem ZL(s:Xs)(i:Nat)(v:Value)(hob:(nxt s i undef s.L).o.map Ob.l'=(nxt s i undef s.L).o.map Ob.r'):(nxt s i v s.L).s.L=s.L:=by
 obtain⟨K,f,L⟩:=s;unfold nxt;cases K with
 | nil=>rfl
 | cons t K=>cases t<;>first|rfl|(simp only;repeat' split)<;>rfl
theorem eO(s:Xs)(i:Nat)(v:Value)(ld:Bool):(tkN s i v ld).s.L=s.L:=by
 obtain⟨K,f,L⟩:=s;unfold tkN;cases K with
 | nil=>rfl
 | cons t K=>cases t<;>first|rfl|(simp only;repeat' split)<;>rfl
theorem GK.of{s s':Xs}(h:GK P fn R B s' w)(e:s'.L=s.L):GG P fn R B [] s' (gK s.L) w:=by rw[<- e];exact h
theorem kV{s:Xs}(i:Nat)(v:Value){S:Sem Value}(hr:S.run P w=.ok v w)(hk:GK P fn R B (nxt s i v s.L).s w)(hs:CK s i=some (S>>=fun v=>pure (.value v)):=by kernel_rfl)(hob:(nxt s i undef s.L).o.map Ob.l'=(nxt s i undef s.L).o.map Ob.r':=by kernel_rfl):GK P fn R B s w:=qV i v hr (hk.of (ZL s i v hob)) hs hob
theorem kT{s:Xs}(i:Nat)(v:Value){S:Sem Value}(hr:∀ W,S.run P W=.ok v W)(hk:GK P fn R B (tkN s i v false).s w)(hs:CK s i=some (S>>=fun v=>pure (.value v)):=by kernel_rfl)(hob:(tkN s i undef false).o.map Ob.l'=(tkN s i undef false).o.map Ob.r':=by kernel_rfl):GK P fn R B s w:=qT i v hr (hk.of (eO s i v false)) hs hob
theorem XK(s:Xs)(t:Bool):(JJ s t).L=s.L:=by unfold JJ;split<;>rfl
theorem kI{s:Xs}(b t:Bool)(hb:b=t)(h:GK P fn R B (JJ s t) w)(hc:NF s=.bool b:=by kernel_rfl):GK P fn R B s w:=qI b t hb (h.of (XK s t)) hc
theorem kC{s:Xs}(i:Nat){f:FuncId}{av:Array Value}{C:Ending->World->Prop}(hc:Calls P f av w C)(hk:∀ e w',C e w'->∃ v,e=.returned v/\Bw w w'/\GK P fn R B (nxt s i v s.L).s w')(hr:∀ W,CD P s i W=some (.ok (.enter f av) W):=by intro _;kernel_rfl)(hd:La s i=true:=by kernel_rfl)(hob:(nxt s i undef s.L).o.map Ob.l'=(nxt s i undef s.L).o.map Ob.r':=by kernel_rfl):GK P fn R B s w:=qC i hc (fun e w' h=>let ⟨v,h1,h2,h3⟩:=hk e w' h;⟨v,h1,h2,h3.of (ZL s i v hob)⟩) hr hd hob
theorem kE{s:Xs}(v:Value)(h:R (.returned v) w)(hr:Kn B (gK s.L) w s.L->(results fn s.f.act.tmps).run P w=.ok v w:=by intro _;kernel_rfl)(hs:Lb s.K=true:=by kernel_rfl):GK P fn R B s w:=qE v (fun _=>h) hr hs
theorem V1{s:Xs}(n:Nat)(Inv:World->List (Nat × Value)->List Sh->Prop)(h1:∀ J:Act->World->Prop,(∀ w' e z L,Inv w' e L->Kn B (gK L) w' L->J (⟨n,e,z⟩:Fm).act w')->GK P fn R B (UL s J) w)(h2:∀ w' e z L,Inv w' e L->GK P fn R B ⟨s.K.tail,⟨n,e,z⟩,L⟩ w')(hs:s.K.isEmpty=false:=by kernel_rfl):GK P fn R B s w:=by
 refine BG n (fun g' w' e L=>Inv w' e L/\g'=gK L) hs (fun J hJ=>?_) ?_
 .have:=h1 J fun w' e z L hI hK=>hJ (gK L) w' e z L ⟨hI,rfl⟩ hK;exact this.of (by obtain⟨K,f,L⟩:=s;unfold UL;cases K<;>rfl)
 .rintro g' w' e z L ⟨hI,rfl⟩;exact h2 w' e z L hI
theorem kB{s:Xs}{J:Act->World->Prop}{n:Nat}{e:List (Nat × Value)}(m:List Bool){L':List Sh}(h:∀ z,Kn B (gK L') w L'->J (⟨n,e,z⟩:Fm).act w)(hi:isJ s.K=true:=by kernel_rfl)(hJ:jK s.K=J:=by kernel_rfl)(hn:s.f.n=n:=by kernel_rfl)(he:e.map (fun p=>lk s.f.z s.f.e p.1)=e.map (·.2):=by kernel_rfl)(hL:Bj (AB m s.L)=L':=by kernel_rfl)(hz:zl L'=true:=by kernel_rfl):GK P fn R B s w:=qB m (fun z _ K=>h z (K.re hz)) hi hJ hn he hL
theorem SX{s:Xs}(i j:Nat)(h1:GK P fn R B (Iy s i) w)(h2:GK P fn R B (Iy s j) w)(hb:Zl s i j=true:=by kernel_rfl):GK P fn R B s w :=
 have e:∀ i,(Iy s i).L=s.L:=fun i=>by unfold Iy;split<;>rfl
 Cv i j hb (h1.of (e i)) (h2.of (e j))
end
theorem BK{B:Nat}{a w:World}(h:Below B a w){g:Nat}(hg:B<=g)(cs:Array Value):Below B a (w.setRow g cs) :=
 h.trans ⟨rfl,rfl,rfl,by simp,fun k hk=>setRow_other w g k cs (by omega)⟩
def ptA(g:Nat):Array Value:=#[.pointer (some ⟨g,0,none⟩),.pointer (some ⟨g,1,none⟩),.pointer (some ⟨g,2,none⟩),.pointer (some ⟨g,3,none⟩),.pointer (some ⟨g,4,none⟩)]
theorem YG(g:Nat):(ptA g).all (·.oneCell')=true:=by simp[ptA,Value.oneCell']
def Qt:Array Value:=#[.pointer none,.pointer none,.pointer none,.pointer none,.pointer none]
theorem bV(g:Nat):(prog.info? 154).map (·.size)=some (ptA g).size:=by show _=some 5;kernel_rfl
theorem OD(g:Nat)(j:Nat)(hj:j<5):∀ W,(Instr.index 154 (.agg (ptA g)) (.int .i64 (j:Int))).run prog W=.ok (.pointer (some ⟨g,j,none⟩)) W:=by
 intro W;rcases(by omega:j=0\/j=1\/j=2\/j=3\/j=4)with rfl|rfl|rfl|rfl|rfl
 all_goals kernel_rfl
theorem FU(g:Nat)(w:World) :
  Calls prog 75 #[.pointer (some ⟨g,0,none⟩)] w fun e w'=>e=.returned (.agg (ptA g))/\Bw w w':=by
 have bb:Bw w (w.alloc (.cells Qt 154)):=(Below.refl _ _).alloc (Nat.le_refl _) _;have rr:=heap_alloc_new w (.cells Qt 154);have hi:=bV g;go_enter func75,ntmps75
 go_wp2_with fail
 refine Aq 16 (by kernel_rfl) (by kernel_rfl) ?_;simp only[List.take_succ_cons,List.take_zero,List.drop_succ_cons,List.drop_zero]
 repeat (go_big_quiet_step (fail))
 refine wpQuiet_nil ?_;have rr':(w.alloc (.cells Qt 154)).drew.heap[w.heap.size]?=some (.cells Qt 154):=rr;have bb':Bw w (w.alloc (.cells Qt 154)).drew:=bb.drew;have hn:Qt=#[.pointer none,.pointer none,.pointer none,.pointer none,.pointer none]:=rfl;rw[<- hn];generalize (w.alloc (.cells Qt 154)).drew=W at rr' bb';go_wp2_with (refine wpList_store_row rfl 154 (.tmp 2) (.tmp 18) rfl w.heap.size (ptA g) rfl rfl 154 _ rr' hi rfl (YG g) ?_)
 have r2:=setRow_heap W w.heap.size _ (ptA g) 154 _ rr';exact bodyPost_ret (v:=.agg (ptA g)) (results_cell_row rfl _ _ w.heap.size 154 _ (0,0) _ rfl r2 underlying154 rfl hi) rfl ⟨rfl,BK bb' (Nat.le_refl _) _⟩
theorem Sl.one2O(w:World)(b b':Int)(e:TypeId){g:Nat}(hg:g=w.heap.size)(hb:0<=b/\b<256)(he:b'=b):Sl (w.alloc (.cells #[.int .u8 b'] e)) (.slice (some ⟨g,0,none⟩) 1 1) [b]:=by
 subst he;exact Sl.one w b' e hg hb
theorem YI(l:List Int)(n:Int)(j:Nat)(hl:l.length<=100000):(l++(Ag n).take j).length+1<=140737488355328:=by
 have:((Ag n).take j).length<=4:=by rw[List.length_take];exact Nat.min_le_right _ _
 rw[List.length_append];omega
theorem FW(v:Value)(l:List Int)(n:Int)(B:Nat)(w:World)(ho:w.ownsRow B 5 1 v l.length (l.map (Value.int .u8)))(hB:B<=w.heap.size)(hl:l.length<=100000)(n0:0<=n)(n1:n<2147483648) :
  Calls prog 76 #[v,.int .i64 n] w fun e w'=>∃ v',e=.returned v'/\w'.ownsRow B 5 1 v' (l++Ag n).length ((l++Ag n).map (Value.int .u8))/\Below B w w':=by
 have HO0:Hid (w.ownsRow B 5 1 v (l++(Ag n).take 0).length ((l++(Ag n).take 0).map (Value.int .u8))):=by unfold Hid;simpa using ho
 clear ho;go_enter func76,ntmps76
 go_wp2_with fail
 go_loopw [0,5] (fun v iv wr=>∃ j:Nat,j<=4/\iv=.int .i64 (3-(j:Int))/\wr.ownsRow B 5 1 v (l++(Ag n).take j).length ((l++(Ag n).take j).map (Value.int .u8))/\Below B w wr) (fun _ iv _=>(intOf iv+1).toNat)
 case atStart=>exact⟨0,by omega,rfl,HO0.out,Below.refl _ _⟩
 case round =>
  obtain⟨j,hj,rfl,hown,hbel⟩:=hrel;clear HO0;have hlt:=hown.lt;have hz:B<=wr.heap.size:=Nat.le_trans hB hbel.size;have HL:=YI l n;by_cases hj4:j<4
  .rcases(by omega:j=0\/j=1\/j=2\/j=3)with rfl|rfl|rfl|rfl
   .rw[show(3:Int)-((0:Nat):Int)=3 from rfl];have hx:Hid (l++(Ag n).take 1=l++(Ag n).take 0++[n/16777216%256]):=by unfold Hid;rw[List.append_assoc];rfl
    have hLL:=HL 0 hl;clear HL;generalize l++(Ag n).take 0=L at hown hx hLL;go_wp2_with (at_builtin;refine Aa _ rfl _ _ 25 rfl B 5 underlying25 As _ _ rfl rfl L [n/16777216%256] (hown.alloc _) (Sl.one2O _ (n/16777216%256) _ _ rfl (by omega) (by omega)) hLL (by simp;omega) ?_)
    intro v2 w2 ho2 hg2;have hb2:Below B w w2:=(hbel.alloc hz _).grown hg2 (by simp;omega) (fun k hk=>(hlt k hk).1);have HO2:Hid (w2.ownsRow B 5 1 v2 (l++(Ag n).take 1).length ((l++(Ag n).take 1).map (Value.int .u8))):=by
     unfold Hid;rw[hx.out];simpa using ho2
    clear ho2 hg2 hown hlt hbel hLL hx;go_wp2
    go_roundw
    case rel=>exact⟨1,by omega,rfl,HO2.out,hb2⟩
    case measure=>simp[intOf]
   .rw[show(3:Int)-((1:Nat):Int)=2 from rfl];have hx:Hid (l++(Ag n).take 2=l++(Ag n).take 1++[n/65536%256]):=by unfold Hid;rw[List.append_assoc];rfl
    have hLL:=HL 1 hl;clear HL;generalize l++(Ag n).take 1=L at hown hx hLL;go_wp2_with (at_builtin;refine Aa _ rfl _ _ 25 rfl B 5 underlying25 As _ _ rfl rfl L [n/65536%256] (hown.alloc _) (Sl.one2O _ (n/65536%256) _ _ rfl (by omega) (by omega)) hLL (by simp;omega) ?_)
    intro v2 w2 ho2 hg2;have hb2:Below B w w2:=(hbel.alloc hz _).grown hg2 (by simp;omega) (fun k hk=>(hlt k hk).1);have HO2:Hid (w2.ownsRow B 5 1 v2 (l++(Ag n).take 2).length ((l++(Ag n).take 2).map (Value.int .u8))):=by
     unfold Hid;rw[hx.out];simpa using ho2
    clear ho2 hg2 hown hlt hbel hLL hx;go_wp2
    go_roundw
    case rel=>exact⟨2,by omega,rfl,HO2.out,hb2⟩
    case measure=>simp[intOf]
   .rw[show(3:Int)-((2:Nat):Int)=1 from rfl];have hx:Hid (l++(Ag n).take 3=l++(Ag n).take 2++[n/256%256]):=by unfold Hid;rw[List.append_assoc];rfl
    have hLL:=HL 2 hl;clear HL;generalize l++(Ag n).take 2=L at hown hx hLL;go_wp2_with (at_builtin;refine Aa _ rfl _ _ 25 rfl B 5 underlying25 As _ _ rfl rfl L [n/256%256] (hown.alloc _) (Sl.one2O _ (n/256%256) _ _ rfl (by omega) (by omega)) hLL (by simp;omega) ?_)
    intro v2 w2 ho2 hg2;have hb2:Below B w w2:=(hbel.alloc hz _).grown hg2 (by simp;omega) (fun k hk=>(hlt k hk).1);have HO2:Hid (w2.ownsRow B 5 1 v2 (l++(Ag n).take 3).length ((l++(Ag n).take 3).map (Value.int .u8))):=by
     unfold Hid;rw[hx.out];simpa using ho2
    clear ho2 hg2 hown hlt hbel hLL hx;go_wp2
    go_roundw
    case rel=>exact⟨3,by omega,rfl,HO2.out,hb2⟩
    case measure=>simp[intOf]
   .rw[show(3:Int)-((3:Nat):Int)=0 from rfl];have hx:Hid (l++(Ag n).take 4=l++(Ag n).take 3++[n%256]):=by unfold Hid;rw[List.append_assoc];rfl
    have hLL:=HL 3 hl;clear HL;generalize l++(Ag n).take 3=L at hown hx hLL;go_wp2_with (at_builtin;refine Aa _ rfl _ _ 25 rfl B 5 underlying25 As _ _ rfl rfl L [n%256] (hown.alloc _) (Sl.one2O _ (n%256) _ _ rfl (by omega) (by omega)) hLL (by simp;omega) ?_)
    intro v2 w2 ho2 hg2;have hb2:Below B w w2:=(hbel.alloc hz _).grown hg2 (by simp;omega) (fun k hk=>(hlt k hk).1);have HO2:Hid (w2.ownsRow B 5 1 v2 (l++(Ag n).take 4).length ((l++(Ag n).take 4).map (Value.int .u8))):=by
     unfold Hid;rw[hx.out];simpa using ho2
    clear ho2 hg2 hown hlt hbel hLL hx;go_wp2
    go_roundw
    case rel=>exact⟨4,by omega,rfl,HO2.out,hb2⟩
    case measure=>simp[intOf]
  .obtain rfl:j=4:=by omega
   rw[show(3:Int)-((4:Nat):Int)=-1 from rfl];have HO:Hid _:=hown;clear hown hlt HL;go_wp2
   go_ret;exact⟨_,rfl,HO.out,hbel⟩
theorem Sl.spotO{w:World}{a:Option Addr}{n cap:Nat}{l:List Int}(h:Sl w (.slice a n cap) l)(k:Nat)(hk:k<l.length):∃ bd od,a=some ⟨bd,od,none⟩/\bd<w.heap.size/\w.cell? ⟨bd,od+k,none⟩=some (.int .u8 (l.getD k 0)):=by
 obtain⟨⟨a',cap',e,hc,hn,h1⟩,hla,hba⟩:=h;simp only[Value.slice.injEq]at e;obtain⟨rfl,rfl,rfl⟩:=e;rcases h1 with rfl|⟨b,off,rfl,hb,hcell⟩
 .simp at hk
 .exact⟨b,off,rfl,hb,hcell k hk⟩
theorem Ir{w:World}{x:S3}{l:List Int}(h:Sl w x.v l):x.n=l.length:=by obtain⟨a,cap,hh⟩:=h.shapeT;simp only[S3.v,Value.slice.injEq]at hh;exact hh.2.1
theorem Zm:prog.underlying 25=some (.slice (prog.elem 25)):=by kernel_rfl
theorem slB{w:World}{x:S3}{l:List Int}(h:Sl w x.v l)(lo:Nat)(hlo:lo<=l.length):∃ y:S3,(∀ W,(Instr.sliceAt 25 x.v (some (iv (lo:Int))) none none).run prog W=.ok y.v W)/\Sl w y.v (l.drop lo)/\y.n=l.length-lo:=by
 obtain⟨a',c',h1,h2⟩:=h.from lo hlo;refine⟨⟨a',x.n-lo,c'⟩,fun W=>?_,h2,by rw[Ir h]⟩;rw[run_sliceAt_slice _ _ _ _ _ _ Zm];exact h1 W
theorem slT{w:World}{x:S3}{l:List Int}(h:Sl w x.v l)(hi:Nat)(hhi:hi<=l.length):∃ y:S3,(∀ W,(Instr.sliceAt 25 x.v none (some (iv (hi:Int))) none).run prog W=.ok y.v W)/\Sl w y.v (l.take hi):=by
 obtain⟨a',c',h1,h2⟩:=h.upTo hi hhi;refine⟨⟨a',hi,c'⟩,fun W=>?_,h2⟩;rw[run_sliceAt_slice _ _ _ _ _ _ Zm];exact h1 W
theorem OS{w:World}{x:S3}{l:List Int}(h:Sl w x.v l)(h0:0<l.length):∃ bd od,(∀ W,(Instr.indexAt 25 x.v (iv 0)).run prog W=.ok (pt bd od) W)/\bd<w.heap.size/\w.cell? ⟨bd,od,none⟩=some (.int .u8 (l.getD 0 0)):=by
 obtain⟨xa,xn,xc⟩:=x;have hn:xn=l.length:=Ir h;obtain⟨bd,od,h1,h2,h3⟩:=h.spotO 0 h0;subst h1;exact⟨bd,od,fun W=>OG (P:=prog) (e:=5) (z:=1) (i:=0) underlying25 (by kernel_rfl) (by kernel_rfl) (by rw[hn];exact h0) od (by rw[Nat.mul_zero,Nat.add_zero]),h2,h3⟩
theorem Tx{P:Program}{w:World}{t:TypeId}{x y:Operand}{m n:Int}{b:Bool}(h:(m==n)=b):(do Go.eqGuard .eql t x y (.int .u8 m) (.int .u8 n);Go.binOp .eql t (.int .u8 m) (.int .u8 n):Sem Value).run P w=.ok (.bool b) w:=by
 subst h;rfl
theorem rUi{w:World}{n:Int}(h:0<=n/\n<256):(convert 5 3 (.int .u8 n)).run prog w=.ok (iv n) w:=ZO (by kernel_rfl) underlying3 (by kernel_rfl) (by rw[IntKind.wrap_i64];omega)
theorem Fi{w:World}{B:Nat}{y:Value}{l:List Int}(h:w.ownsRow B 5 1 y l.length (l.map (Value.int .u8)))(hl:l.length<=140737488351232)(hb:∀ x∈l,0<=x/\x<256):∃ z:S3,y=z.v/\Sl w z.v l:=by
 have hs:=Sl.ofOwns h hl hb;obtain⟨a,cap,rfl⟩:=hs.shapeT;exact⟨⟨a,l.length,cap⟩,rfl,hs⟩
theorem RQ{w:World}{y:Value}{l:List Int}(hs:Sl w y l):∃ z:S3,y=z.v/\Sl w z.v l:=by
 obtain⟨a,cap,rfl⟩:=hs.shapeT;exact⟨⟨a,l.length,cap⟩,rfl,hs⟩
theorem D7(w:World):Sl w s30.v []:=⟨⟨none,0,rfl,Nat.le_refl _,fun _=>rfl,.inl rfl⟩,by simp,by simp⟩
theorem Kh(x:Value)(d:List Int)(s:Int)(w:World)(h:Sl w x d) :
  Calls prog 106 #[.agg (tpA x s)] w fun e w'=>e=.returned (.bool (decide (Bf d s)))/\Bw w w':=by
 have hlen:=h.len;obtain⟨ax,cp,rfl⟩:=h.shapeT;obtain⟨M,hM⟩:∃ M,d.length=M:=⟨_,rfl⟩;have HM:Hid (d.length=M):=hM;rw[hM]at hlen ⊢
 clear hM h;simp only[tpA];have bb:Bw w (w.alloc (.cells #[.slice ax M cp,.int .i64 s] 94)):=(Below.refl _ _).alloc (Nat.le_refl _) _;have rr:=heap_alloc_new w (.cells #[.slice ax M cp,.int .i64 s] 94);generalize hW:w.alloc (.cells #[.slice ax M cp,.int .i64 s] 94)=W0 at bb rr;have c0:W0.cell? ⟨w.heap.size,0,none⟩=some (.slice ax M cp):=cell_of_row _ _ 0 _ _ _ rr;have c1:W0.cell? ⟨w.heap.size,1,none⟩=some (.int .i64 s):=cell_of_row _ _ 1 _ _ _ rr;clear rr;have HT:Hid (Bf d s↔(M<=100000/\0<=s/\s<=(M:Int))):=by
  unfold Hid Bf;rw[HM.out]
 by_cases h1:M<=100000
 .have h1i:(M:Int)<=100000:=by omega
  by_cases h2:0<=s
  .by_cases h3:s<=(M:Int)
   .go_enter func106,ntmps106
    go_wp2
    go_ret;exact⟨Ac (by rw[decide_eq_true (HT.out.2 ⟨h1,h2,h3⟩)]),bb⟩
   .go_enter func106,ntmps106
    go_wp2
    go_ret;exact⟨Ac (by rw[decide_eq_false (fun g=>absurd (HT.out.1 g).2.2 (by omega))]),bb⟩
  .go_enter func106,ntmps106
   go_wp2
   go_ret;exact⟨Ac (by rw[decide_eq_false (fun g=>absurd (HT.out.1 g).2.1 (by omega))]),bb⟩
 .have h1i:¬ (M:Int)<=100000:=by omega
  go_enter func106,ntmps106
  go_wp2
  go_ret;exact⟨Ac (by rw[decide_eq_false (fun g=>absurd (HT.out.1 g).1 (by omega))]),bb⟩
theorem I6(x:Value)(d:List Int)(s:Int)(n:Nat)(w:World)(h:Sl w x d)(hn:n<=d.length) :
  Calls prog 107 #[.agg (tpA x s),.int .i64 (n:Int)] w fun e w'=>∃ y,e=.returned (.agg (tpA y (n:Int)))/\w'.ownsRow w.heap.size 5 1 y n ((d.take n).map (Value.int .u8))/\Bw w w':=by
 have hlen:=h.len;obtain⟨ax,cp,rfl⟩:=h.shapeT;obtain⟨M,hM⟩:∃ M,d.length=M:=⟨_,rfl⟩;have HM:Hid (d.length=M):=hM;have HN:Hid (n<=d.length):=hn;obtain⟨t,ht⟩:∃ t,t=d.take n:=⟨_,rfl⟩;have HT:Hid (t=d.take n):=ht;rw[<- ht];clear ht;rw[hM]at h hlen hn ⊢
 clear hM;simp only[tpA];have r0:=heap_alloc2_old w (.cells #[.slice ax M cp,.int .i64 s] 94) (.cells #[.slice none 0 0,.int .i64 0] 94);have r1:=heap_alloc2_new w (.cells #[.slice ax M cp,.int .i64 s] 94) (.cells #[.slice none 0 0,.int .i64 0] 94);have bb:Bw w ((w.alloc (.cells #[.slice ax M cp,.int .i64 s] 94)).alloc (.cells #[.slice none 0 0,.int .i64 0] 94)):=((Below.refl _ _).alloc (Nat.le_refl _) _).alloc (by simp) _;have z0:((w.alloc (.cells #[.slice ax M cp,.int .i64 s] 94)).alloc (.cells #[.slice none 0 0,.int .i64 0] 94)).heap.size=w.heap.size+2:=by simp
 generalize hW:(w.alloc (.cells #[.slice ax M cp,.int .i64 s] 94)).alloc (.cells #[.slice none 0 0,.int .i64 0] 94)=W0 at r0 r1 bb z0;have s0:=h.below bb;have Z0:Hid (W0.heap.size=w.heap.size+2):=z0;have y0:w.heap.size+1<W0.heap.size:=by omega
 have y1:w.heap.size<W0.heap.size:=by omega
 clear z0;go_enter func107,ntmps107
 go_wp2_with ((with_reducible (refine DV ?_));at_make;refine KR _ rfl _ _ 25 rfl W0.heap.size 5 underlying25 As n rfl rfl (by omega) (Nat.le_refl _) ?_)
 clear hW;intro w1 o1 g1;have b1:Bw W0 w1:=(Below.refl _ _).grown g1 (Nat.le_refl _) (fun k hk=>by cases hk);have q0:=(b1.block w.heap.size y1).trans r0;have q1:=(b1.block (w.heap.size+1) y0).trans r1;have s1:=s0.below b1;obtain⟨xs,o1⟩:=o1.out;have HO:Hid (w1.ownsRow W0.heap.size 5 1 (.slice (some ⟨W0.heap.size,0,none⟩) n n) n xs):=o1;have d1:=bb.trans (b1.mono bb.size);clear o1 r0 r1 g1;have c0:w1.cell? ⟨w.heap.size,0,none⟩=some (.slice ax M cp):=cell_of_row _ _ 0 _ _ _ q0;go_wp2_with ((with_reducible (refine DV ?_));refine KP _ rfl _ _ 25 25 rfl W0.heap.size 5 underlying25 dA W0.heap.size n _ rfl HO.out _ rfl d HN.out s1 t HT.out ?_)
 intro w2 o2 b2;have HO2:Hid (w2.ownsRow W0.heap.size 5 1 (.slice (some ⟨W0.heap.size,0,none⟩) n n) n (t.map (Value.int .u8))):=o2;have e2:=b2.mono (show w.heap.size+2<=W0.heap.size by have:=Z0.out;omega);have p1:=(e2.block (w.heap.size+1) (by omega)).trans q1;have d2:=d1.trans (e2.mono (by omega));obtain⟨g,hg⟩:∃ g,W0.heap.size=g:=⟨_,rfl⟩;have HG:Hid (W0.heap.size=g):=hg;have z0:g=w.heap.size+2:=hg.symm.trans Z0.out;have Z1:Hid (g=w.heap.size+2):=z0;rw[hg]at HO2 ⊢
 clear o2 HO q0 q1 c0 hg z0 y0 y1 Z0;have on:=Xh (some ⟨g,0,none⟩) n n (n:Int);go_wp2_with ((with_reducible (refine DV ?_));refine wpList_store_row rfl 94 (.tmp 4) (.tmp 14) rfl (w.heap.size+1) #[.slice (some ⟨g,0,none⟩) n n,.int .i64 (n:Int)] rfl rfl 94 _ p1 KH rfl on ?_)
 have q9:=setRow_heap w2 (w.heap.size+1) _ (#[.slice (some ⟨g,0,none⟩) n n,.int .i64 (n:Int)]) 94 _ p1;have d9:=Cj d2 (show w.heap.size<=w.heap.size+1 by omega) (#[.slice (some ⟨g,0,none⟩) n n,.int .i64 (n:Int)]);have o9:(w2.setRow (w.heap.size+1) #[.slice (some ⟨g,0,none⟩) n n,.int .i64 (n:Int)]).ownsRow g 5 1 (.slice (some ⟨g,0,none⟩) n n) n (t.map (Value.int .u8)):=CL HO2.out (fun k hk=>setRow_other _ _ _ _ (by have:=(HO2.out.lt k hk).1;have:=Z1.out;omega));refine bodyPost_ret (WX rfl _ _ (w.heap.size+1) 94 _ (0,0) _ rfl q9 underlying94 rfl KH) rfl ?_;exact⟨_,rfl,EE o9 (by have:=Z1.out;omega),d9⟩
theorem UF:(prog.info? 54).map (·.size)=some 5:=by kernel_rfl
theorem Sg:(prog.info? 139).map (·.size)=some 8:=by kernel_rfl
theorem cU{v r:Value}{lo hi:Option Value}(h:∀ W,(Instr.slice 25 v lo hi none).run prog W=.ok r W)(w:World) :
  (do let x <- Instr.slice 25 v lo hi none;pure (Next.value x):Sem Next).run prog w=.ok (.value r) w:=by
 simp only[Sem.run_bind,h w,Result.andThen_ok,Sem.run_pure]
theorem Sl.four2(w:World)(b0 b1 b2 b3 c0 c1 c2 c3:Int)(e:TypeId){g:Nat}(hg:g=w.heap.size)(h0:0<=b0/\b0<256)(h1:0<=b1/\b1<256)(h2:0<=b2/\b2<256)(h3:0<=b3/\b3<256)(e0:c0=b0)(e1:c1=b1)(e2:c2=b2)(e3:c3=b3) :
  Sl (w.alloc (.cells #[.int .u8 c0,.int .u8 c1,.int .u8 c2,.int .u8 c3] e)) (.slice (some ⟨g,0,none⟩) 4 4) [b0,b1,b2,b3]:=by
 subst e0 e1 e2 e3;exact Sl.built w [c0,c1,c2,c3] e hg (by simp) (by intro x hx;simp at hx;omega)
theorem Pa(w:World)(l:List Int)(e:TypeId){g:Nat}(hg:g=w.heap.size){base:Nat}(hb:base<=w.heap.size)(hl:l.length<=1000):(w.alloc (.cells (l.map (Value.int .u8)).toArray e)).ownsRow base e 1 (.slice (some ⟨g,0,none⟩) l.length l.length) l.length (l.map (Value.int .u8)):=by
 subst hg;refine⟨by simp,.inr ⟨w.heap.size,l.length,_,rfl,hb,heap_alloc_new _ _,Nat.le_refl _,by unfold maxLen;omega,by simp,by rw[List.take_of_length_le (by simp)]⟩⟩
theorem It(w:World)(b c:Int)(e:TypeId){g:Nat}(hg:g=w.heap.size){base:Nat}(hb:base<=w.heap.size)(he:c=b):(w.alloc (.cells #[.int .u8 c] e)).ownsRow base e 1 (.slice (some ⟨g,0,none⟩) 1 1) [b].length ([b].map (Value.int .u8)):=by
 subst he;exact Pa w [c] e hg hb (by simp)
def Co(ns:List Int):List Int:=ns.flatMap Ag
theorem Tj(ns:List Int):(Co ns).length=4*ns.length:=by
 induction ns with
 | nil=>rfl
 | cons n ns ih =>
  show(Ag n++Co ns).length=_;rw[List.length_append,BP,ih,List.length_cons];omega
theorem Qw(ns:List Int)(n:Int):Co (ns++[n])=Co ns++Ag n:=by simp[Co]
theorem Ra(l:List Int)(k:Nat)(hk:k<l.length):l.take (k+1)=l.take k++[l.getD k 0]:=by
 rw[List.take_succ_eq_append_getElem hk,AK hk]
theorem Fk(v:Value)(l ns:List Int)(B g:Nat)(w:World)(ho:w.ownsRow B 5 1 v l.length (l.map (Value.int .u8)))(hB:B<=w.heap.size)(hl:l.length<=1000)(hk:ns.length<=10)(hn:∀ x∈ns,0<=x/\x<2147483648)
  (hg:w.heap[g]?=some (.cells (ns.map (Value.int .i64)).toArray 3)) :
  Calls prog 162 #[v,.slice (some ⟨g,0,none⟩) ns.length ns.length] w fun e w'=>∃ v',e=.returned v'/\w'.ownsRow B 5 1 v' (l++Co ns).length ((l++Co ns).map (Value.int .u8))/\Below B w w':=by
 obtain⟨N,hN⟩:∃ N,ns.length=N:=⟨_,rfl⟩;have HN:Hid (ns.length=N):=hN;have Hn:Hid (∀ x∈ns,0<=x/\x<2147483648):=hn;rw[hN]at hk ⊢
 clear hN hn;have HO0:Hid (w.ownsRow B 5 1 v (l++Co (ns.take 0)).length ((l++Co (ns.take 0)).map (Value.int .u8))):=by unfold Hid;simpa[Co]using ho
 clear ho;go_enter func162,ntmps162
 go_wp2_with fail
 go_loopw [0,9] (fun v iv wr=>∃ j:Nat,j<=N/\iv=.int .i64 (j:Int)/\Hid (wr.ownsRow B 5 1 v (l++Co (ns.take j)).length ((l++Co (ns.take j)).map (Value.int .u8)))/\wr.heap[g]?=some (.cells (ns.map (Value.int .i64)).toArray 3)/\Below B w wr) (fun _ iv _=>N-(intOf iv).toNat)
 case atStart=>exact⟨0,by omega,rfl,HO0,hg,Below.refl _ _⟩
 case round =>
  obtain⟨j,hj,rfl,HO,hgr,hbel⟩:=hrel;clear HO0 hg;by_cases hjN:j<N
  .have hji:(j:Int)<(N:Int):=by omega
   have hjl:j<ns.length:=by rw[HN.out];exact hjN
   have hlt:=HO.out.lt;have hz:B<=wr.heap.size:=Nat.le_trans hB hbel.size;have hx:=Hn.out (ns.getD j 0) (by rw[AK hjl];exact List.getElem_mem hjl);have hc:wr.cell? ⟨g,j,none⟩=some (.int .i64 (ns.getD j 0)):=by
    rw[cell_of_row _ _ j _ _ _ hgr,AK hjl];simp[List.getElem?_eq_getElem hjl]
   have HT:Hid (ns.take (j+1)=ns.take j++[ns.getD j 0]):=Ra ns j hjl;have hlen:(l++Co (ns.take j)).length+4<=140737488355328:=by
    rw[List.length_append,Tj,List.length_take];omega
   have hne:=KD HO.out hgr (by decide);have lg:g<wr.heap.size:=(Array.getElem?_eq_some_iff.1 hgr).1;have HH:Hid (∀ n,Ag n=[n/16777216%256,n/65536%256,n/256%256,n%256]):=fun n=>rfl;generalize ns.getD j 0=n at hx hc HT;generalize hL:l++Co (ns.take j)=L at HO hlen;have HL:Hid (l++Co (ns.take j)=L):=hL;clear hL hjl;go_wp2_with (at_builtin;refine Aa _ rfl _ _ 25 rfl B 5 underlying25 As _ _ rfl rfl L [n/16777216%256,n/65536%256,n/256%256,n%256] (HO.out.alloc _) (Sl.four2 _ (n/16777216%256) (n/65536%256) (n/256%256) (n%256) _ _ _ _ _ rfl (by omega) (by omega) (by omega) (by omega) (by omega) (by omega) (by omega) (by omega)) hlen (by simp;omega) ?_)
   intro v2 w2 ho2 hg2;have hb2:Below B w w2:=(hbel.alloc hz _).grown hg2 (by simp;omega) (fun k hk=>(hlt k hk).1);have hgr2:w2.heap[g]?=some (.cells (ns.map (Value.int .i64)).toArray 3):=by
    rw[hg2.block g (by simp;omega) (fun e=>hne g e.symm rfl),heap_alloc_old _ _ lg];exact hgr
   have HO2:Hid (w2.ownsRow B 5 1 v2 (l++Co (ns.take (j+1))).length ((l++Co (ns.take (j+1))).map (Value.int .u8))):=by
    unfold Hid;rw[HT.out,Qw,<- List.append_assoc,HL.out,HH.out];simpa using ho2
   clear ho2 hg2 hbel hlen HO hne hlt hgr hc HT HL;go_wp2
   go_roundw
   case rel=>exact⟨j+1,by omega,by go_num,HO2,hgr2,hb2⟩
   case measure=>simp[intOf];omega
  .obtain rfl:j=N:=by omega
   have ht:ns.take j=ns:=List.take_of_length_le (by rw[HN.out];exact Nat.le_refl _);rw[ht]at HO
   clear ht;go_wp2
   go_ret;exact⟨_,rfl,HO.out,hbel⟩
theorem Sl.cutT{w:World}{a:Option Addr}{n cap:Nat}{l:List Int}(h:Sl w (.slice a n cap) l)(lo hi m:Nat)(hlo:lo<=hi)(hhi:hi<=l.length)(hm:m=hi-lo)(li hj:Int)(hli:li=(lo:Int))(hhj:hj=(hi:Int)) :
  ∃ a' c',(∀ W,(Instr.slice 25 (.slice a n cap) (some (.int .i64 li)) (some (.int .i64 hj)) none).run prog W=.ok (.slice a' m c') W)/\Sl w (.slice a' m c') ((l.take hi).drop lo):=by
 subst hli;subst hhj;subst hm;have hw:=h.window lo hi hlo hhi;obtain⟨⟨a',cap',e,hc,hn,h1⟩,hla,hba⟩:=h;simp only[Value.slice.injEq]at e;obtain⟨rfl,rfl,rfl⟩:=e;refine⟨_,_,fun W=>?_,by simpa[sliced]using hw⟩;rw[run_slice_lh (P:=prog) W 25 a _ cap underlying25 .i64 .i64 _ _ (by omega) (by omega) (by omega)];have e:prog.elem 25=5:=by kernel_rfl
 rw[e,Gy,Int.toNat_natCast,Int.toNat_natCast];simp[Result.andThen,sliced]
def lenOf:Value->Nat
 | .slice _ n _=>n
 | _=>0
theorem Q8{w:World}{base e:Nat}{v:Value}{n:Nat}{xs:List Value}(h:w.ownsRow base e 1 v n xs):lenOf v=n:=by
 rcases h.2 with⟨rfl,rfl⟩|⟨g,cap,cur,rfl,_⟩<;>rfl
theorem QC(v:Value)(l:List Int)(w:World)(h:Sl w v l)(hl:l.length<=100000) :
  Calls prog 168 #[v] w fun e w'=>∃ v',e=.returned v'/\w'.ownsRow w.heap.size 5 1 v' (pad l).length ((pad l).map (Value.int .u8))/\Bw w w':=by
 have hs:=h;obtain⟨⟨a,cap,rfl,hc,hn,h1⟩,hla,hba⟩:=h;clear h1 hn hba;obtain⟨i0,hi,hz0,hz1,hz2⟩:=info_parts As;go_enter func168,ntmps168
 go_wp2_with (at_make;refine wpList_make_own _ rfl _ _ 25 rfl w.heap.size 5 i0 (.int .u8 0) 1 underlying25 hi hz0 hz1 _ _ _ (l.length+128) rfl rfl (by omega) (by rw[hz2];omega) (by unfold maxLen;omega) (Nat.le_refl _) ?_)
 intro w1 ho1 hg1;have hb1:Bw w w1:=(Below.refl _ _).grown hg1 (Nat.le_refl _) (by simp);have ho1':w1.ownsRow w.heap.size 5 1 (.slice (some ⟨w.heap.size,0,none⟩) 0 (l.length+128)) ([]:List Int).length (([]:List Int).map (Value.int .u8)):=ho1;clear ho1 hg1;go_wp2_with (at_builtin;refine Aa _ rfl _ _ 25 rfl w.heap.size 5 underlying25 As _ _ rfl rfl [] l ho1' (hs.below hb1) (by simp;omega) hb1.size ?_)
 intro v2 w2 ho2 hg2;have ho2':w2.ownsRow w.heap.size 5 1 v2 l.length (l.map (Value.int .u8)):=by simpa using ho2
 have hb2:Bw w w2:=hb1.grown hg2 hb1.size (by simp[Value.ownBlock]);have hlt2:=ho2'.lt;clear ho1' hg2 hb1 ho2;go_wp2_with (at_builtin;refine Aa _ rfl _ _ 25 rfl w.heap.size 5 underlying25 As _ _ rfl rfl l [128] (ho2'.alloc _) (Sl.one _ _ _ rfl (by omega)) (by simp;omega) (by have:=hb2.size;simp;omega) ?_)
 intro v3 w3 ho3 hg3;have ho3':w3.ownsRow w.heap.size 5 1 v3 (Cc l 0).length ((Cc l 0).map (Value.int .u8)):=by simpa[Cc]using ho3
 have hb3:Bw w w3:=(hb2.alloc hb2.size _).grown hg3 (by have:=hb2.size;simp;omega) (fun k hk=>(hlt2 k hk).1);clear ho3 hg3 hb2 hlt2 ho2';go_wp2
 go_loopw [3] (fun v wr=>∃ j:Nat,j<=Eo l.length/\wr.ownsRow w.heap.size 5 1 v (Cc l j).length ((Cc l j).map (Value.int .u8))/\Bw w wr) (fun v _=>Eo l.length+l.length+1-lenOf v)
 case atStart=>exact⟨0,Nat.zero_le _,ho3',hb3⟩
 case round =>
  clear ho3' hb3;obtain⟨j,hj,hown,hb⟩:=hrel;obtain⟨g,cp,hv,hgB,hgs,hcp,hcell,hfr⟩:=Dw hown (by simp[Cc]);rw[C1]at hv
  subst hv;clear hcell hfr hcp;have hz:Eo l.length<=63:=by unfold Eo;omega
  have hlt:=hown.lt;by_cases hjz:j<Eo l.length
  .have hne:¬ ((l.length+1+j)%64=56):=by unfold Eo at hjz;omega
   go_wp2_with (at_builtin;refine Aa _ rfl _ _ 25 rfl w.heap.size 5 underlying25 As _ _ rfl rfl (Cc l j) [0] (hown.alloc _) (Sl.one _ _ _ rfl (by omega)) (by rw[C1];simp;omega) (by have:=hb.size;simp;omega) ?_)
   intro v4 w4 ho4 hg4;have ho4':w4.ownsRow w.heap.size 5 1 v4 (Cc l (j+1)).length ((Cc l (j+1)).map (Value.int .u8)):=by rw[<- QA];simpa using ho4
   have hb4:Bw w w4:=(hb.alloc hb.size _).grown hg4 (by have:=hb.size;simp;omega) (fun k hk=>(hlt k hk).1);have hl4:=Q8 ho4';rw[C1]at hl4
   have HL:Hid (lenOf v4=l.length+1+(j+1)):=hl4;clear hl4 ho4 hg4 hown hlt hb;go_wp2
   go_roundw
   case rel=>exact⟨j+1,hjz,ho4',hb4⟩
   case measure =>
    have hl4:=HL.out;show Eo l.length+l.length+1-lenOf v4<Eo l.length+l.length+1-(l.length+1+j);rw[hl4];omega
  .have heq:(l.length+1+j)%64=56:=by unfold Eo at hjz hj;omega
   have H56:Hid ((l.length+1+j)%64=56):=heq;have h56:(((l.length:Int)+1+j)%64 != 56)=false:=by simp;omega
   have ejz:j=Eo l.length:=by omega
   have EJ:Hid (j=Eo l.length):=ejz;clear heq ejz;go_wp2_with fail
   go_loopw [3,5] (fun v s wr=>∃ k:Nat,k<=8/\s=.int .i64 (56-8*(k:Int))/\wr.ownsRow w.heap.size 5 1 v (Cc l j++(Ca l.length).take k).length ((Cc l j++(Ca l.length).take k).map (Value.int .u8))/\Bw w wr) (fun _ s _=>(intOf s+8).toNat)
   case atStart=>exact⟨0,by omega,rfl,by simpa using hown,hb⟩
   case round =>
    clear hown hb hlt hgs;obtain⟨k,hk,rfl,hown,hb⟩:=hrel;have hlt:=hown.lt;by_cases hk8:k<8
    .go_wp2_with (at_builtin;refine Aa _ rfl _ _ 25 rfl w.heap.size 5 underlying25 As _ _ rfl rfl _ _ (hown.alloc _) (Sl.one _ _ _ rfl ?_) (by rw[List.length_append,C1,List.length_take];simp;omega) (by have:=hb.size;simp;omega) ?_)
     .omega
     intro v5 w5 ho5 hg5;have ho5':w5.ownsRow w.heap.size 5 1 v5 (Cc l j++(Ca l.length).take (k+1)).length ((Cc l j++(Ca l.length).take (k+1)).map (Value.int .u8)):=by
      rw[Li _ _ hk8];simpa using ho5
     have hb5:Bw w w5:=(hb.alloc hb.size _).grown hg5 (by have:=hb.size;simp;omega) (fun k hk=>(hlt k hk).1);clear ho5 hg5 hown hlt hb;go_wp2
     go_roundw
     case rel=>exact⟨k+1,by omega,by go_num,ho5',hb5⟩
     case measure=>simp[intOf];omega
    .obtain rfl:k=8:=by omega
     go_wp2
     go_ret;refine⟨u3,rfl,?_,hb⟩;unfold pad;rw[<- EJ.out];exact hown
theorem Pn(s:St)(w:World) :
  Calls prog 171 #[.agg s.cells] w fun e w'=>∃ v',e=.returned v'/\w'.ownsRow w.heap.size 5 1 v' (Mt s).length ((Mt s).map (Value.int .u8))/\Bw w w':=by
 obtain⟨i0,hi,hz0,hz1,hz2⟩:=info_parts As;unfold St.cells;go_enter func171,ntmps171
 go_wp2_with (at_make;refine wpList_make_own _ rfl _ _ 25 rfl w.heap.size 5 i0 (.int .u8 0) 1 underlying25 hi hz0 hz1 _ _ _ 32 rfl rfl (by omega) (by rw[hz2];omega) (by unfold maxLen;omega) (by simp) ?_)
 intro w1 ho1 hg1;have hb1:Bw w w1:=((Below.refl _ _).alloc (Nat.le_refl _) _).grown hg1 (by simp) (by simp);have hrow:w1.heap[w.heap.size]?=some (.cells #[.int .u32 (uw s.a),.int .u32 (uw s.b),.int .u32 (uw s.c),.int .u32 (uw s.d),.int .u32 (uw s.e),.int .u32 (uw s.f),.int .u32 (uw s.g),.int .u32 (uw s.h)] 245 (0,0)):=by
  rw[hg1.block w.heap.size (by simp) (by simp)];exact heap_alloc_new _ _
 have ho1':w1.ownsRow w.heap.size 5 1 (.slice (some ⟨w.heap.size+1,0,none⟩) 0 32) (BU (s.list.take 0)).length ((BU (s.list.take 0)).map (Value.int .u8)):=ho1;clear ho1 hg1;go_wp2_with (refine wpList_load_row rfl 245 _ rfl w.heap.size rfl 245 _ (0,0) _ hrow underlying245 rfl (by kernel_rfl) ?_)
 go_loopw [3,8] (fun v i wr=>∃ k:Nat,k<=8/\i=.int .i64 k/\wr.ownsRow w.heap.size 5 1 v (BU (s.list.take k)).length ((BU (s.list.take k)).map (Value.int .u8))/\Bw w wr) (fun _ i _=>8-(intOf i).toNat)
 case atStart=>exact⟨0,by omega,rfl,ho1',hb1⟩
 case round =>
  clear ho1' hb1 hrow;obtain⟨k,hk,rfl,hown,hb⟩:=hrel;have hlt:=hown.lt;by_cases hk8:k<8
  .have hix:=Vx s k hk8;have hlen:=FQ (s.list.take k);have HT:Hid (s.list.take (k+1)=s.list.take k++[s.list.getD k 0#32]):=by
    unfold Hid;rw[List.take_succ_eq_append_getElem (by simpa[St.list]using hk8)];simp[List.getD,List.getElem?_eq_getElem (show k<s.list.length by simpa[St.list]using hk8)]
   have hkl:(s.list.take k).length<=8:=by rw[List.length_take];omega
   generalize s.list.take k=pre at hown hlen HT hkl;generalize s.list.getD k 0#32=x at hix HT;have nx:=Db x;go_wp2_with (at_builtin;refine Aa _ rfl _ _ 25 rfl w.heap.size 5 underlying25 As _ _ rfl rfl (BU pre) (Es x) (hown.alloc _) ?_ (by rw[hlen];simp[Es];omega) (by have:=hb.size;simp;omega) ?_)
   .exact Sl.built wr (Es x) 5 rfl (by simp[Es]) (I2 x)
   intro v' w' ho hg;have ho':w'.ownsRow w.heap.size 5 1 v' (BU (pre++[x])).length ((BU (pre++[x])).map (Value.int .u8)):=by
    rw[Nr];simpa[FQ]using ho
   have hb':Bw w w':=(hb.alloc hb.size _).grown hg (by have:=hb.size;simp;omega) (fun k hk=>(hlt k hk).1);clear ho hg hown hlt hb;go_wp2
   go_roundw
   case rel=>exact⟨k+1,by omega,by go_num,by rw[HT.out];exact ho',hb'⟩
   case measure=>simp[intOf];omega
  .have HK:Hid (k=8):=by unfold Hid;omega
   go_wp2
   go_ret;refine⟨u3,rfl,?_,hb⟩;rw[HK.out]at hown
   exact hown
theorem eF(w:World):(Go.sizeOf 5).run prog w=.ok 1 w:=by
 obtain⟨i,hi,_,hsz,_⟩:=info_parts As;simp[sizeOf,typeInfo,hi,hsz]
theorem Zb(g n cp k:Nat)(hk:64*k+64<=64*n)(hcp:64*n<=cp):∀ W,(Instr.slice 25 (.slice (some ⟨g,0,none⟩) (64*n) cp) (some (.int .i64 (64*(k:Int)))) (some (.int .i64 (64*(k:Int)+64))) none).run prog W=.ok (.slice (some ⟨g,64*k,none⟩) 64 (cp-64*k)) W:=by
 intro W;have:=Lib.run_slice_window (P:=prog) W 25 5 underlying25 eF g 0 (64*n) cp (64*k) (64*k+64) (by omega) (by omega);rw[show 64*k+64-64*k=64 by omega,Nat.zero_add]at this
 rw[<- this];rfl
theorem cP{w:World}{g:Nat}{old:Array Value}(s:St)(hg:w.heap[g]?=some (.cells old 245 (0,0)))(ho:old.size=8):(storeCells ⟨g,0,none⟩ s.cells.toList).run prog w=.ok () (w.setRow g s.cells):=by
 have:=run_storeCells_from (P:=prog) g 245 s.cells.toList 0 old w hg (by simp[St.cells];omega) (fun v hv=>by simp[St.cells]at hv;rcases hv with rfl|rfl|rfl|rfl|rfl|rfl|rfl|rfl<;>rfl);simpa using this
theorem Sl.setRowNe{w:World}{b off n cap:Nat}{l:List Int}(h:Sl w (.slice (some ⟨b,off,none⟩) n cap) l){g:Nat}(hg:g<b)(cs:Array Value):Sl (w.setRow g cs) (.slice (some ⟨b,off,none⟩) n cap) l:=by
 obtain⟨⟨a,cap',e,hc,hn,h1⟩,h2,h3⟩:=h;refine⟨⟨a,cap',e,hc,hn,?_⟩,h2,h3⟩;simp only[Value.slice.injEq]at e;obtain⟨rfl,_,_⟩:=e;rcases h1 with h1|⟨b',off',e',hbs,hcell⟩
 .exact .inl h1
 .simp only[Option.some.injEq,Addr.mk.injEq,and_true]at e';obtain⟨rfl,rfl⟩:=e';refine .inr ⟨b,off,rfl,by simpa using hbs,fun i hi=>?_⟩;rw[<- hcell i hi];exact World.cell?_of_block (w:=w) (setRow_other w g b cs (by omega))
theorem aG(l:List Int)(k:Nat)(hk:64*k+64<=l.length):((l.drop (64*k)).take 64).length=64:=by
 rw[List.length_take,List.length_drop];omega
theorem Ev(v:Value)(l:List Int)(w:World)(h:Sl w v l)(hl:l.length<=100000)(ht:AA w) :
  Calls prog 144 #[v] w fun e w'=>∃ v',e=.returned v'/\w'.ownsRow w.heap.size 5 1 v' (dig l).length ((dig l).map (Value.int .u8))/\Bw w w':=by
 go_enter func144,ntmps144
 go_wp2_with fail
 generalize hW0:w.alloc _=W0;have hb0:Bw w W0:=by rw[<- hW0];exact(Below.refl _ _).alloc (Nat.le_refl _) _
 have hr0:W0.heap[w.heap.size]?=some (.cells (Au start.list) 245 (0,0)):=by rw[<- hW0];exact heap_alloc_new _ _
 have hs0:W0.heap.size=w.heap.size+1:=by rw[<- hW0];simp
 clear hW0;refine(QC v l W0 (h.below hb0) hl).mono ?_;rintro e w1 ⟨vp,rfl,hop,hb1⟩;have hp:=QB l;have hpb:=We h.byte;have sp:Sl w1 vp (pad l):=Sl.ofOwns hop (by omega) hpb;obtain⟨g,cp,hv,hgB,hgs,hcp,_,_⟩:=Dw hop (by intro e;rw[e]at hp;simp at hp);subst hv;have hB1:Bw w w1:=hb0.trans (hb1.mono hb0.size);have hr1:w1.heap[w.heap.size]?=some (.cells (Au start.list) 245 (0,0)):=(hb1.block _ (by omega)).trans hr0;have HD:Hid (dig l=Mt (Mz (pad l) ((pad l).length/64))):=rfl;have hgne:w.heap.size<g:=by omega
 clear hb0 hr0 hop hb1 hgB hgs hs0;generalize pad l=p at HD sp hp hpb hcp ⊢;obtain⟨n,hn⟩:∃ n,p.length=64*n:=⟨p.length/64,by omega⟩;have HN:Hid (p.length/64=n):=by unfold Hid;omega
 rw[HN.out]at HD
 rw[hn]at sp hcp ⊢
 have hpn:n<=2000:=by omega
 have HP:Hid (p.length=64*n):=hn;clear hn hp;go_wp2_with fail
 go_loopw [5] (fun i wr=>∃ k:Nat,k<=n/\i=.int .i64 (64*(k:Int))/\wr.heap[w.heap.size]?=some (.cells (Au (Mz p k).list) 245 (0,0))/\Sl wr (.slice (some ⟨g,0,none⟩) (64*n) cp) p/\Bw w wr) (fun i _=>64*n-(intOf i).toNat)
 case atStart=>exact⟨0,by omega,rfl,hr1,sp,hB1⟩
 case round =>
  clear hr1 sp hB1;obtain⟨k,hk,rfl,hrow,sp,hb⟩:=hrel;by_cases hkn:k<n
  .have hblk:=aG p k (by rw[HP.out];omega);have HS:Hid (Mz p (k+1)=VL (Mz p k) (Me ((p.drop (64*k)).take 64))):=rfl;have ssl:Sl wr (.slice (some ⟨g,64*k,none⟩) 64 (cp-64*k)) ((p.drop (64*k)).take 64):=by
    have q1:=Sl.drop (n:=64*n) (off:=0) sp (64*k) (by rw[HP.out];omega) (cp-64*k) (by rw[HP.out];omega);rw[Nat.zero_add]at q1
    exact q1.take 64 (by rw[List.length_drop,HP.out];omega)
   generalize (p.drop (64*k)).take 64=bl at hblk HS ssl;generalize Mz p k=S at HS hrow;have c0:=cell_of_row wr _ 0 _ _ _ hrow;have c1:=cell_of_row wr _ 1 _ _ _ hrow;have c2:=cell_of_row wr _ 2 _ _ _ hrow;have c3:=cell_of_row wr _ 3 _ _ _ hrow;have c4:=cell_of_row wr _ 4 _ _ _ hrow;have c5:=cell_of_row wr _ 5 _ _ _ hrow;have c6:=cell_of_row wr _ 6 _ _ _ hrow;have c7:=cell_of_row wr _ 7 _ _ _ hrow;simp only[Au,St.list,List.map_cons,List.map_nil,List.getElem?_toArray,List.getElem?_cons_zero,List.getElem?_cons_succ]at c0 c1 c2 c3 c4 c5 c6 c7;have hBlt:w.heap.size<wr.heap.size:=(Array.getElem?_eq_some_iff.1 hrow).1;have ht1:AA wr:=ht.below hb;have hfz:∀ i,wr.frozen? ⟨w.heap.size,i,none⟩=false:=fun i=>frozen_of_row wr _ i _ _ hrow;have HR:Hid _:=hrow;have HB:Hid (Bw w wr):=hb;clear hrow hb;have hw64:IntKind.i64.wrap (64*(k:Int)+64)=64*(k:Int)+64:=by simp only[IntKind.wrap,IntKind.bits,IntKind.signed];simp;omega
   have hsl:=Zb g n cp k (by omega) hcp;go_wp2_with fail
   go_region_with (first
    | (go_at_call 170;refine(MV _ bl _ (ssl.below ((Below.refl _ _).drew)) hblk).mono ?_;rintro e w2 ⟨rfl,hb2⟩;have hz2:w.heap.size<w2.heap.size:=Nat.lt_of_lt_of_le hBlt hb2.size;have d0:=(hb2.cell (p:=⟨w.heap.size,0,none⟩) hBlt).trans c0;have d1:=(hb2.cell (p:=⟨w.heap.size,1,none⟩) hBlt).trans c1;have d2:=(hb2.cell (p:=⟨w.heap.size,2,none⟩) hBlt).trans c2;have d3:=(hb2.cell (p:=⟨w.heap.size,3,none⟩) hBlt).trans c3;have d4:=(hb2.cell (p:=⟨w.heap.size,4,none⟩) hBlt).trans c4;have d5:=(hb2.cell (p:=⟨w.heap.size,5,none⟩) hBlt).trans c5;have d6:=(hb2.cell (p:=⟨w.heap.size,6,none⟩) hBlt).trans c6;have d7:=(hb2.cell (p:=⟨w.heap.size,7,none⟩) hBlt).trans c7)
    | (go_at_call 169;refine(Te S (Me bl) _ (MU bl) (ht1.below ((Below.refl _ _).drew.trans hb2))).mono ?_;rintro e w3 ⟨rfl,hb3⟩;have hz3:w.heap.size<w3.heap.size:=Nat.lt_of_lt_of_le hz2 hb3.size;have hst:=cP (VL S (Me bl)) (((hb3.block _ hz2).trans (hb2.block _ hBlt)).trans HR.out) (by rfl)))
   all_goals
    clear c0 c1 c2 c3 c4 c5 c6 c7 d0 d1 d2 d3 d4 d5 d6 d7 hst;have b23:Bw wr w3:=((Below.refl wr.heap.size wr).drew.trans hb2).trans (hb3.mono hb2.size);go_wp2
    go_roundw
    case rel =>
     refine⟨k+1,by omega,by go_num,?_,(sp.below b23).setRowNe hgne _,Bo (HB.out.trans (b23.mono HB.out.size)) (Nat.le_refl _) _⟩;rw[HS.out];exact setRow_heap w3 _ _ _ 245 _ ((b23.block _ hBlt).trans HR.out)
    case measure=>simp[intOf];omega
  .have HK:Hid (k=n):=by unfold Hid;omega
   have HR:Hid _:=hrow;have hsz:(prog.info? 245).map (·.size)=some (Au (Mz p k).list).size:=by kernel_rfl
   go_wp2_with (refine wpList_load_row rfl 245 _ rfl w.heap.size rfl 245 _ (0,0) _ hrow underlying245 rfl hsz ?_)
   refine(Pn (Mz p k) wr).mono ?_;rintro e w2 ⟨v2,rfl,ho2,hb2⟩;go_wp2
   go_ret;refine⟨v2,rfl,?_,hb.trans (hb2.mono hb.size)⟩;rw[HD.out,<- HK.out];exact AM ho2 hb.size
structure Fresh(w w':World)(v:Value)(l:List Int):Prop where
 sl:Sl w' v l
 bel:Bw w w'
 shape:∃ g cap,v=.slice (some ⟨g,0,none⟩) l.length cap/\w.heap.size<=g/\l.length<=cap
theorem Fresh.ofOwns{w w':World}{v:Value}{l:List Int}(h:w'.ownsRow w.heap.size 5 1 v l.length (l.map (Value.int .u8)))(hne:l≠[])(hl:l.length<=140737488351232)(hb:∀ x∈l,0<=x/\x<256)(bel:Bw w w'):Fresh w w' v l:=by
 obtain⟨g,cap,hv,h1,_,h2,_,_⟩:=Dw h hne;exact⟨Sl.ofOwns h hl hb,bel,g,cap,hv,h1,h2⟩
theorem E3{l:List Int}{n:Nat}(h:l.length=n+1):l≠[]:=by
 intro e;rw[e]at h;simp at h
theorem cR(v:Value)(l:List Int)(w:World)(h:Sl w v l)(hl:l.length<=2000)(ht:AA w) :
  Calls prog 183 #[v] w fun e w'=>∃ v',e=.returned (.tuple #[v',.int .i64 0])/\Fresh w w' v' (dig l):=by
 have hs:=h;obtain⟨⟨a,cap,rfl,hc,hn,h1⟩,hla,hba⟩:=h;clear h1 hba;go_enter func183,ntmps183
 go_wp2_with fail
 refine(Ev _ l w hs (by omega) ht).mono ?_;rintro e w1 ⟨v1,rfl,ho,hb⟩;go_wp2
 go_ret2
 exact⟨v1,rfl,Fresh.ofOwns ho (E3 (Ay l)) (by rw[Ay];omega) (CS l) hb⟩
end Go.Proofs.YtalbmmghmoggcaaGreatDoor
