/- Part 28 of the walk: what the functions of the program do, one by one. -/
import Derived.Test.YtakgfdbjgeopdaaGreatDoorZ27
set_option maxRecDepth 100000
set_option maxHeartbeats 4000000
open Go.Proofs.Tryz
set_option linter.unusedVariables false
namespace Go.Proofs.YtakgfdbjgeopdaaGreatDoor
open Go.RowKit
def Hm(l:List Int)(j:Nat):List Int:=(l.take j).flatMap Aw
theorem R6(l:List Int)(j:Nat)(h:j<l.length):Hm l (j+1)=Hm l j++Aw (l.getD j 0):=by
 unfold Hm;rw[List.take_succ_eq_append_getElem h,List.flatMap_append,AG h];simp
theorem Nf(l:List Int)(j:Nat):(Hm l j).length≤4*j:=by
 unfold Hm;induction l generalizing j with
 | nil=>simp
 | cons x l ih =>
  cases j with
  | zero=>simp
  | succ j =>
   have:=ih j;rw[List.take_succ_cons,List.flatMap_cons,List.length_append,Gy];omega
theorem R5(k c s n v:Int):Hm [k,c,s,n,v] 5=Jm k c s n v:=rfl
def OZ(k c s n v:Int):List Int:=if Ba k c s n v=0 then Jm k c s n v else[]
theorem Wf{k c s n v:Int}(h:Ba k c s n v=0):OZ k c s n v=Jm k c s n v:=if_pos h
theorem We{k c s n v:Int}(h:¬ Ba k c s n v=0):OZ k c s n v=[]:=if_neg h
def LN:Array Value:=(List.replicate 20 (Value.int .u8 0)).toArray
theorem Y8(w:World):(Instr.makeSlice 26 (.int .i64 0) (.int .i64 20)).run prog w=.ok (.slice (some ⟨w.heap.size,0,none⟩) 0 20) (w.alloc (.cells LN 5)):=by
 obtain⟨i,hi,hz,hsz,hby⟩:=info_parts AB;rw[run_makeSlice (P:=prog) w 26 5 i (.int .u8 0) underlying26 hi hz .i64 .i64 0 20 (by omega) (by omega) (by rw[hsz];decide) (by rw[hby];decide) (by omega),hsz];have e:madeCells (Value.int .u8 0).cells ((20:Int).toNat*1)=LN:=by kernel_rfl
 rw[e];rfl
theorem Bc.num{w:World}{g:Nat}{k c s n v:Int}(h:Bc w g k c s n v)(j:Nat)(hj:j<5):w.cell? ⟨g,j,none⟩=some (.int .i64 ([k,c,s,n,v].getD j 0)):=by
 obtain⟨c0,c1,c2,c3,c4⟩:=DR h.row;rcases(by omega:j=0∨j=1∨j=2∨j=3∨j=4)with rfl|rfl|rfl|rfl|rfl
 ·exact c0
 ·exact c1
 ·exact c2
 ·exact c3
 ·exact c4
theorem PL{w w':World}{base e:Nat}{v:Value}{n:Nat}{xs:List Value}(h:w.ownsRow base e 1 v n xs)(hk:∀ k,v.ownBlock=some k→w'.heap[k]?=w.heap[k]?):w'.ownsRow base e 1 v n xs:=by
 refine⟨h.1,?_⟩;rcases h.2 with h2|⟨g,cap,cur,hv,hb,hg,hr⟩
 ·exact .inl h2
 ·exact .inr ⟨g,cap,cur,hv,hb,(hk g (by rw[hv];rfl)).trans hg,hr⟩
theorem NR{w w':World}{base e:Nat}{v:Value}{n:Nat}{xs:List Value}(h:w.ownsRow base e 1 v n xs)(hb:Below w.heap.size w w'):w'.ownsRow base e 1 v n xs :=
 PL h fun k hk=>hb.block k (h.lt k hk).2
theorem Pa(k c s n v:Int)(w:World)(ht:NTab w) :
  Calls prog 18 #[.agg (cmA k c s n v)] w fun e w'=>∃ v',e=.returned (.tuple #[v',.int .i64 (Ba k c s n v)])∧w'.ownsRow w.heap.size 5 1 v' (OZ k c s n v).length ((OZ k c s n v).map (Value.int .u8))∧Below w.heap.size w w':=by
 have bb:Below w.heap.size w (w.alloc (.cells (cmA k c s n v) 25)):=(Below.refl _ _).alloc (Nat.le_refl _) _;have bc:=Bc.made w k c s n v;have hT:=ht.below bb;have hi:=Fp k c s n v;generalize hW:w.alloc (.cells (cmA k c s n v) 25)=W at bb bc hT;clear ht;go_enter func18,ntmps18
 go_wp2_with (refine wpList_load_row rfl 25 _ rfl w.heap.size rfl 25 _ (0,0) _ bc.row underlying25 rfl hi ?_)
 clear hW;refine(Dp k c s n v W hT).mono ?_;rintro e w1 ⟨rfl,b1⟩;have d1:Below w.heap.size w w1:=bb.trans (b1.mono bb.size);replace bc:=bc.below b1;clear b1 bb hT;by_cases h1:Ba k c s n v=0
 ·have HE:Hid (OZ k c s n v=Hm [k,c,s,n,v] 5):=(Wf h1).trans (R5 k c s n v).symm;have hz:=Hk h1;have HS:Hid (∀ j,j<5→0≤[k,c,s,n,v].getD j 0∧[k,c,s,n,v].getD j 0<2147483648):=by
   unfold Hid;obtain⟨hk,hc⟩:=hz;unfold InC at hc;intro j hj;rcases(by omega:j=0∨j=1∨j=2∨j=3∨j=4)with rfl|rfl|rfl|rfl|rfl
   ·show 0≤k∧k<2147483648;omega
   ·show 0≤c∧c<2147483648;omega
   ·show 0≤s∧s<2147483648;omega
   ·show 0≤n∧n<2147483648;omega
   ·show 0≤v∧v<2147483648;omega
  have HL:Hid ([k,c,s,n,v].length=5):=rfl;have HZ:Hid (Ba k c s n v=0):=h1;rw[h1];clear hz h1;have hmk:=Y8 w1;have b2:Below w1.heap.size w1 (w1.alloc (.cells LN 5)):=(Below.refl _ _).alloc (Nat.le_refl _) _;have ho0:(w1.alloc (.cells LN 5)).ownsRow w1.heap.size 5 1 (.slice (some ⟨w1.heap.size,0,none⟩) 0 20) ([]:List Int).length (([]:List Int).map (Value.int .u8)) :=
   ⟨rfl,.inr ⟨w1.heap.size,20,LN,rfl,Nat.le_refl _,heap_alloc_new _ _,by decide,by simp[maxLen],rfl,rfl⟩⟩
  have HO0:Hid _:=ho0;clear ho0;generalize w1.alloc (.cells LN 5)=W2 at hmk b2 HO0;go_wp2_with fail
  refine(FD w.heap.size W2).mono ?_;rintro e w3 ⟨rfl,b3⟩;have HO3:Hid (w3.ownsRow w1.heap.size 5 1 (.slice (some ⟨w1.heap.size,0,none⟩) 0 20) ([]:List Int).length (([]:List Int).map (Value.int .u8))):=NR HO0.out b3;have d3:Below w1.heap.size w1 w3:=b2.trans (b3.mono b2.size);have z3:=d3.size;clear HO0 b2 b3 hmk;have hlt:=bc.lt;have hN:∀ wr,Below w1.heap.size w1 wr→∀ j,j<5→wr.cell? ⟨w.heap.size,j,none⟩=some (.int .i64 ([k,c,s,n,v].getD j 0)):=fun wr hb j hj=>(bc.below hb).num j hj;have HN:Hid _:=hN;clear bc hN;generalize [k,c,s,n,v]=L at HE HS HN HL;have hBz:w1.heap.size≤w1.heap.size:=Nat.le_refl _;have hwB:w.heap.size≤w1.heap.size:=d1.size;generalize hB:w1.heap.size=B at d3 z3 HO3 HN hlt hwB;replace hBz:B≤w1.heap.size:=by omega
  clear hB;have hix:=Oa w.heap.size;go_wp2_with fail
  go_loopw [5,15] (fun v iv wr=>∃ j:Nat,j≤5∧iv=.int .i64 (j:Int)∧wr.ownsRow B 5 1 v (Hm L j).length ((Hm L j).map (Value.int .u8))∧Below B w1 wr) (fun _ iv _=>(5-intOf iv).toNat)
  case atStart=>exact⟨0,by omega,rfl,HO3.out,d3⟩
  case round =>
   obtain⟨j,hj,rfl,hown,hbel⟩:=hrel;by_cases hj5:j<5
   ·have hji:(j:Int)<5:=by omega
    have hij:=hix j hj5;have hcj:=HN.out _ hbel j hj5;have hsj:=HS.out j hj5;have HK:Hid (Hm L (j+1)=Hm L j++Aw (L.getD j 0)):=R6 L j (by rw[HL.out];omega);have HQ:=Nf L j;have HO:Hid _:=hown;have hz:B≤wr.heap.size:=Nat.le_trans hBz hbel.size;clear hown hix HO3;generalize L.getD j 0=X at hcj hsj HK;go_wp2_with fail
    refine(KB _ _ X B wr HO.out hz (by omega) hsj.1 hsj.2).mono ?_;rintro e w5 ⟨v5,rfl,o5,b5⟩;have HO5:Hid (w5.ownsRow B 5 1 v5 (Hm L (j+1)).length ((Hm L (j+1)).map (Value.int .u8))):=by unfold Hid;rw[HK.out];exact o5
    have d5:=hbel.trans b5;clear o5 b5 HO HK HQ hcj hij hsj;go_wp2
    go_roundw
    case rel=>exact⟨j+1,by omega,by go_num,HO5.out,d5⟩
    case measure=>simp[intOf];omega
   ·obtain rfl:j=5:=by omega
    rw[show((5:Nat):Int)=5 from rfl];have HO:Hid _:=hown;clear hown hix HO3;go_wp2
    go_ret2
    rw[HE.out,HZ.out];exact⟨_,rfl,B1 HO.out hwB,d1.trans (hbel.mono hwB)⟩
 ·have HE:Hid (OZ k c s n v=[]):=We h1;go_wp2
  go_ret2
  rw[HE.out];exact⟨_,rfl,World.ownsRow_nil _ _ _ _,d1⟩
theorem Iv{P:Program}{fn:Func}{p u:Tmp}{ty:TypeId}(h:fn.results=#[.cell p ty,.tmp u])(tmps:Array Value)(w:World)(g:Nat)(t:TypeId)(cs:Array Value)(fr:Nat × Nat)(d:TypeDesc)
  (hp:tmps.getD p undef=.pointer (some ⟨g,0,none⟩))(hg:w.heap[g]?=some (.cells cs t fr))
  (hu:P.underlying ty=some d)(hd:(match d with|.struct _|.array _ _=>true|_=>false)=true)(hi:(P.info? ty).map (·.size)=some cs.size) :
  (results fn tmps).run P w=.ok (.tuple #[.agg cs,tmps.getD u undef]) w:=by
 have hp':tmps[p]?.getD undef=.pointer (some ⟨g,0,none⟩):=by simpa using hp
 simp[results,h,hp',asAddr,run_loadVar_row w g t ty cs fr d hg hu hd hi]
theorem Qx(k c s n v:Int):(cmA k c s n v).all (·.oneCell')=true:=by simp[cmA,Value.oneCell']
theorem L9(x:Value)(d:List Int)(s:Int)(v:Vt)(w:World)(h:Sl w x d)(hT:AI w)(hN:NTab w) :
  Calls prog 203 #[.agg (tpA x s),.agg (vtA v)] w fun e w'=>∃ y,e=.returned (.tuple #[.agg (tpA y (EB d s (Ah v) (Be v))),.int .i64 (BH d s (Ah v) (Be v))])∧w'.ownsRow w.heap.size 5 1 y (Da d s (Ah v) (Be v)).length ((Da d s (Ah v) (Be v)).map (Value.int .u8))∧Below w.heap.size w w':=by
 obtain⟨vs,⟨vr,vn⟩,⟨vk,vc,vq,vm,vx⟩⟩:=v;have hlen:=h.len;obtain⟨ax,cp,rfl⟩:=h.shapeT;obtain⟨M,hM⟩:∃ M,d.length=M:=⟨_,rfl⟩;have HM:Hid (d.length=M):=hM;rw[hM]at h hlen ⊢
 clear hM;simp only[tpA];simp only[vtA,vtC];obtain⟨W0,hW0⟩:∃ W0,((w.alloc (.cells #[.slice ax M cp,.int .i64 s] 132)).alloc (.cells #[.int .i64 vs,.int .i64 vr,.int .i64 vn,.int .i64 vk,.int .i64 vc,.int .i64 vq,.int .i64 vm,.int .i64 vx] 175)).alloc (.cells #[.slice none 0 0,.int .i64 0] 132)=W0:=⟨_,rfl⟩;have r0_p:W0.heap[w.heap.size]?=some (.cells #[.slice ax M cp,.int .i64 s] 132):=by rw[← hW0];exact JX _ _ _ _
 have r0_v:W0.heap[w.heap.size+1]?=some (.cells #[.int .i64 vs,.int .i64 vr,.int .i64 vn,.int .i64 vk,.int .i64 vc,.int .i64 vq,.int .i64 vm,.int .i64 vx] 175):=by rw[← hW0];exact JY _ _ _ _
 have r0_r:W0.heap[w.heap.size+2]?=some (.cells #[.slice none 0 0,.int .i64 0] 132):=by rw[← hW0];exact JZ _ _ _ _
 have bb:Below w.heap.size w W0:=by rw[← hW0];exact LB _ _ _ _
 have l0_p:w.heap.size<W0.heap.size:=(Array.getElem?_eq_some_iff.1 r0_p).1;have l0_v:(w.heap.size+1)<W0.heap.size:=(Array.getElem?_eq_some_iff.1 r0_v).1;have l0_r:(w.heap.size+2)<W0.heap.size:=(Array.getElem?_eq_some_iff.1 r0_r).1;have t0_0:=hT.below bb;have t0_1:=hN.below bb;have sl0_x:=h.below bb;go_enter func203,ntmps203
 have HE0:Hid (BH d s (Ah ⟨vs,⟨vr,vn⟩,⟨vk,vc,vq,vm,vx⟩⟩) (Be ⟨vs,⟨vr,vn⟩,⟨vk,vc,vq,vm,vx⟩⟩)=if DH d s 38≠0 then DH d s 38 else if Ah ⟨vs,⟨vr,vn⟩,⟨vk,vc,vq,vm,vx⟩⟩then 0 else 2):=rfl;go_wp2_with ((with_reducible (refine Az ?_));(refine wpList_load_row rfl 132 _ rfl w.heap.size rfl 132 _ (0,0) _ r0_p underlying132 rfl At ?_))
 clear hW0;refine(FB (.slice ax M cp) d s 38 (by decide) W0 sl0_x).mono ?_;rintro e w1 ⟨rfl,bw1⟩;have d1:=bb.trans (bw1.mono bb.size);have tt1_0:=t0_0.below bw1;have tt1_1:=t0_1.below bw1;have rw1_p:=(bw1.block _ l0_p).trans r0_p;have lw1_p:=Nat.lt_of_lt_of_le l0_p bw1.size;have rw1_v:=(bw1.block _ l0_v).trans r0_v;have lw1_v:=Nat.lt_of_lt_of_le l0_v bw1.size;have rw1_r:=(bw1.block _ l0_r).trans r0_r;have lw1_r:=Nat.lt_of_lt_of_le l0_r bw1.size;have sl1_x:=sl0_x.below bw1;clear t0_0 t0_1 l0_p r0_p l0_v r0_v l0_r r0_r sl0_x;clear bw1;have hRB:w.heap.size+2<w1.heap.size:=lw1_r;have hRC:=d1.size;have HDS:Hid (∀ E,E≠0→BH d s (Ah ⟨vs,⟨vr,vn⟩,⟨vk,vc,vq,vm,vx⟩⟩) (Be ⟨vs,⟨vr,vn⟩,⟨vk,vc,vq,vm,vx⟩⟩)=E→Da d s (Ah ⟨vs,⟨vr,vn⟩,⟨vk,vc,vq,vm,vx⟩⟩) (Be ⟨vs,⟨vr,vn⟩,⟨vk,vc,vq,vm,vx⟩⟩)=[]∧EB d s (Ah ⟨vs,⟨vr,vn⟩,⟨vk,vc,vq,vm,vx⟩⟩) (Be ⟨vs,⟨vr,vn⟩,⟨vk,vc,vq,vm,vx⟩⟩)=0):=fun E h1 h2=>⟨if_neg (by rw[h2];exact h1),if_neg (by rw[h2];exact h1)⟩;by_cases h1:DH d s 38=0
 ·have hM1:M+38≤100000:=by
   have:=h1;unfold DH at this;rw[HM.out]at this
   split at this
   ·cases this
   ·split at this
    ·cases this
    ·omega
  have HEm:Hid (BH d s (Ah ⟨vs,⟨vr,vn⟩,⟨vk,vc,vq,vm,vx⟩⟩) (Be ⟨vs,⟨vr,vn⟩,⟨vk,vc,vq,vm,vx⟩⟩)=if Ah ⟨vs,⟨vr,vn⟩,⟨vk,vc,vq,vm,vx⟩⟩then 0 else 2):=by unfold Hid;rw[HE0.out,if_neg (fun g=>g h1)]
  rw[h1];clear h1 HE0;go_wp2_with ((with_reducible (refine Az ?_));(refine wpList_load_row rfl 175 _ rfl (w.heap.size+1) rfl 175 _ (0,0) _ rw1_v underlying175 rfl LK ?_))
  have sN:Sv w1 (.slice none 0 0) []:=⟨⟨none,0,rfl,by simp,fun _=>rfl,.inl rfl⟩,by simp⟩;refine(OB ⟨0,0⟩ (.slice none 0 0) [] ⟨vs,⟨vr,vn⟩,⟨vk,vc,vq,vm,vx⟩⟩ w1 sN tt1_1).mono ?_;rintro e w2 ⟨y1,rfl,sy1,bw2⟩;obtain⟨⟨qr,qn⟩,hP1⟩:∃ P1,BT ⟨⟨0,0⟩,[]⟩ ⟨vs,⟨vr,vn⟩,⟨vk,vc,vq,vm,vx⟩⟩=P1:=⟨_,rfl⟩;have hE1:AW ⟨⟨0,0⟩,[]⟩ ⟨vs,⟨vr,vn⟩,⟨vk,vc,vq,vm,vx⟩⟩=if Ah ⟨vs,⟨vr,vn⟩,⟨vk,vc,vq,vm,vx⟩⟩then 0 else 2:=X3 _;rw[hP1,hE1];clear hP1 hE1;obtain⟨ay1,cy1,rfl⟩:=sy1.shape;generalize (CO ⟨⟨0,0⟩,[]⟩ ⟨vs,⟨vr,vn⟩,⟨vk,vc,vq,vm,vx⟩⟩).length=K1;clear sy1 sN;simp only[acA];have d2:=d1.trans (bw2.mono d1.size);have tt2_0:=tt1_0.below bw2;have tt2_1:=tt1_1.below bw2;have rw2_p:=(bw2.block _ lw1_p).trans rw1_p;have lw2_p:=Nat.lt_of_lt_of_le lw1_p bw2.size;have rw2_v:=(bw2.block _ lw1_v).trans rw1_v;have lw2_v:=Nat.lt_of_lt_of_le lw1_v bw2.size;have rw2_r:=(bw2.block _ lw1_r).trans rw1_r;have lw2_r:=Nat.lt_of_lt_of_le lw1_r bw2.size;have sl2_x:=sl1_x.below bw2;clear tt1_0 tt1_1 lw1_p rw1_p lw1_v rw1_v lw1_r rw1_r sl1_x;clear bw2;by_cases h2:Ah ⟨vs,⟨vr,vn⟩,⟨vk,vc,vq,vm,vx⟩⟩
  ·rw[if_pos h2];have HE:Hid (BH d s (Ah ⟨vs,⟨vr,vn⟩,⟨vk,vc,vq,vm,vx⟩⟩) (Be ⟨vs,⟨vr,vn⟩,⟨vk,vc,vq,vm,vx⟩⟩)=0):=by unfold Hid;rw[HEm.out,if_pos h2]
   have HZ:Hid (Da d s (Ah ⟨vs,⟨vr,vn⟩,⟨vk,vc,vq,vm,vx⟩⟩) (Be ⟨vs,⟨vr,vn⟩,⟨vk,vc,vq,vm,vx⟩⟩)=d++BF (Be ⟨vs,⟨vr,vn⟩,⟨vk,vc,vq,vm,vx⟩⟩)∧EB d s (Ah ⟨vs,⟨vr,vn⟩,⟨vk,vc,vq,vm,vx⟩⟩) (Be ⟨vs,⟨vr,vn⟩,⟨vk,vc,vq,vm,vx⟩⟩)=s):=⟨if_pos HE.out,if_pos HE.out⟩;have H2:Hid (Ah ⟨vs,⟨vr,vn⟩,⟨vk,vc,vq,vm,vx⟩⟩):=h2;clear h2 HEm HDS;have bN3:Below w2.heap.size w2 (w2.alloc (.cells #[.int .i64 0,.int .i64 0,.slice none 0 0] 115)):=(Below.refl _ _).alloc (Nat.le_refl _) _;have rN3:=heap_alloc_new w2 (.cells #[.int .i64 0,.int .i64 0,.slice none 0 0] 115);have on3:(#[.int .i64 qr,.int .i64 qn,.slice ay1 K1 cy1]:Array Value).all (·.oneCell')=true:=by simp[Value.oneCell']
   generalize hN3:w2.alloc (.cells #[.int .i64 0,.int .i64 0,.slice none 0 0] 115)=N3 at bN3 rN3
   go_upto_region 5 with((with_reducible (refine Az ?_));(refine wpList_store_row rfl 115 (.tmp 7) (.tmp 21) rfl w2.heap.size #[.int .i64 qr,.int .i64 qn,.slice ay1 K1 cy1] rfl rfl 115 _ rN3 Qs rfl on3 ?_))
   clear hN3;have qN3:=setRow_heap N3 w2.heap.size _ (#[.int .i64 qr,.int .i64 qn,.slice ay1 K1 cy1]) 115 _ rN3;replace bN3:=An bN3 (Nat.le_refl _) (#[.int .i64 qr,.int .i64 qn,.slice ay1 K1 cy1]);generalize N3.setRow w2.heap.size (#[.int .i64 qr,.int .i64 qn,.slice ay1 K1 cy1])=W3 at qN3 bN3 ⊢;have lN3:w2.heap.size<W3.heap.size:=(Array.getElem?_eq_some_iff.1 qN3).1;clear rN3 on3;have d3:=d2.trans (bN3.mono d2.size);have tt3_0:=tt2_0.below bN3;have tt3_1:=tt2_1.below bN3;have rw3_p:=(bN3.block _ lw2_p).trans rw2_p;have lw3_p:=Nat.lt_of_lt_of_le lw2_p bN3.size;have rw3_v:=(bN3.block _ lw2_v).trans rw2_v;have lw3_v:=Nat.lt_of_lt_of_le lw2_v bN3.size;have rw3_r:=(bN3.block _ lw2_r).trans rw2_r;have lw3_r:=Nat.lt_of_lt_of_le lw2_r bN3.size;have sl3_x:=sl2_x.below bN3;clear tt2_0 tt2_1 lw2_p rw2_p lw2_v rw2_v lw2_r rw2_r sl2_x;obtain⟨gA,hgA⟩:∃ g,g=w2.heap.size:=⟨_,rfl⟩;rw[← hgA]at qN3 lN3 ⊢
   clear hgA bN3;have rc:W3.rangeAt (w.heap.size+1) 3 [.int .i64 vk,.int .i64 vc,.int .i64 vq,.int .i64 vm,.int .i64 vx]:=Ss 3 (BP (cs:=[.int .i64 vs,.int .i64 vr,.int .i64 vn,.int .i64 vk,.int .i64 vc,.int .i64 vq,.int .i64 vm,.int .i64 vx]) rw3_v);go_wp2_with ((with_reducible (refine Az ?_));(refine wpList_load_mid rfl 25 (.tmp 28) rfl (w.heap.size+1) 3 rfl _ _ rc underlying25 rfl (by kernel_rfl) ?_))
   have hcE:Ba vk vc vq vm vx=0:=H2.out.2.2;have hcL:OZ vk vc vq vm vx=Jm vk vc vq vm vx:=if_pos hcE;refine(Pa vk vc vq vm vx W3 tt3_1).mono ?_;rintro e w3 ⟨v8,rfl,o8,bw3⟩;rw[hcL]at o8
   rw[hcE];have s8:=Sl.ofOwns o8 (by rw[Ik];decide) (KV vk vc vq vm vx);clear rc hcE hcL;rw[Ik]at o8
   obtain⟨a8,c8,rfl⟩:=AD o8;clear o8;have d4:=d3.trans (bw3.mono d3.size);have tt4_0:=tt3_0.below bw3;have tt4_1:=tt3_1.below bw3;have rw4_p:=(bw3.block _ lw3_p).trans rw3_p;have lw4_p:=Nat.lt_of_lt_of_le lw3_p bw3.size;have rw4_v:=(bw3.block _ lw3_v).trans rw3_v;have lw4_v:=Nat.lt_of_lt_of_le lw3_v bw3.size;have rw4_r:=(bw3.block _ lw3_r).trans rw3_r;have lw4_r:=Nat.lt_of_lt_of_le lw3_r bw3.size;have rw4_gA:=(bw3.block _ lN3).trans qN3;have lw4_gA:=Nat.lt_of_lt_of_le lN3 bw3.size;have sl4_x:=sl3_x.below bw3;clear tt3_0 tt3_1 lw3_p rw3_p lw3_v rw3_v lw3_r rw3_r lN3 qN3 sl3_x;clear bw3;have hr_p:w3.rangeAt w.heap.size 0 [.slice ax M cp,.int .i64 s]:=BP (cs:=[.slice ax M cp,.int .i64 s]) rw4_p;have hr_v:w3.rangeAt (w.heap.size+1) 0 [.int .i64 vs,.int .i64 vr,.int .i64 vn,.int .i64 vk,.int .i64 vc,.int .i64 vq,.int .i64 vm,.int .i64 vx]:=BP (cs:=[.int .i64 vs,.int .i64 vr,.int .i64 vn,.int .i64 vk,.int .i64 vc,.int .i64 vq,.int .i64 vm,.int .i64 vx]) rw4_v;go_wp2_with fail
   obtain⟨K,hK⟩:∃ K,(d++BF (Be ⟨vs,⟨vr,vn⟩,⟨vk,vc,vq,vm,vx⟩⟩)).length=K:=⟨_,rfl⟩;have HK:Hid ((d++BF (Be ⟨vs,⟨vr,vn⟩,⟨vk,vc,vq,vm,vx⟩⟩)).length=K):=hK;clear hK;apply LC (fun g c g2 c2 Wz=>Wz.heap[w.heap.size+2]?=some (.cells #[.slice g K c,.int .i64 s] 132)∧Wz.ownsRow w.heap.size 5 1 (.slice g K c) K ((d++BF (Be ⟨vs,⟨vr,vn⟩,⟨vk,vc,vq,vm,vx⟩⟩)).map (Value.int .u8))∧Below (w.heap.size+2) w3 Wz)
   ·intro K2 HK2;have ed0:Below w3.heap.size w3 w3.drew:=(Below.refl _ _).drew;have hle:(w.heap.size+2)≤w3.heap.size:=Nat.le_of_lt lw4_r;refine wp_region_held (S:=fun w'=>Below (w.heap.size+2) w3 w') (by kernel_rfl) ?_;have hS0:(fun w'=>Below (w.heap.size+2) w3 w') w3.drew:=ed0.mono hle;refine Ac (i:=0) 37 (v:=.agg #[.slice ax M cp,.int .i64 s]) rfl rfl (by kernel_rfl) (by kernel_rfl) (by kernel_rfl) (fun _ _ _ h=>h) (yieldsIf_load_mid (by rfl) 132 (.tmp 2) rfl w.heap.size 0 rfl [.slice ax M cp,.int .i64 s] _ (fun w' hw'=>Fd hw' (show w.heap.size<(w.heap.size+2)by omega) hr_p) underlying132 rfl At) hS0 ?_;simp only[Act.put,List.setIfInBounds_toArray,List.set_cons_zero,List.set_cons_succ];refine Ac (i:=1) 38 (v:=.agg #[.int .i64 vs,.int .i64 vr,.int .i64 vn,.int .i64 vk,.int .i64 vc,.int .i64 vq,.int .i64 vm,.int .i64 vx]) rfl rfl (by kernel_rfl) (by kernel_rfl) (by kernel_rfl) (fun _ _ _ h=>h) (yieldsIf_load_mid (by rfl) 175 (.tmp 3) rfl (w.heap.size+1) 0 rfl [.int .i64 vs,.int .i64 vr,.int .i64 vn,.int .i64 vk,.int .i64 vc,.int .i64 vq,.int .i64 vm,.int .i64 vx] _ (fun w' hw'=>Fd hw' (show(w.heap.size+1)<(w.heap.size+2)by omega) hr_v) underlying175 rfl LK) hS0 ?_;simp only[Act.put,List.setIfInBounds_toArray,List.set_cons_zero,List.set_cons_succ];refine Ac (i:=2) 39 (v:=.slice a8 20 c8) rfl rfl (by kernel_rfl) (by kernel_rfl) (by kernel_rfl) (fun _ _ _ h=>h) (Or.inl ⟨by rfl,fun _ _=>by kernel_rfl⟩) hS0 ?_;simp only[Act.put,List.setIfInBounds_toArray,List.set_cons_zero,List.set_cons_succ];refine AM (i:=3) (by kernel_rfl) (Dq (i:=3) (d:=40) (f:=234) (args:=#[.agg #[.int .i64 vs,.int .i64 vr,.int .i64 vn,.int .i64 vk,.int .i64 vc,.int .i64 vq,.int .i64 vm,.int .i64 vx],.slice a8 20 c8]) rfl (by kernel_rfl) rfl (by kernel_rfl) ((M0 ⟨vs,⟨vr,vn⟩,⟨vk,vc,vq,vm,vx⟩⟩ H2.out (.slice a8 20 c8) w3.drew (s8.below ed0)).mono ?_));rintro e' wh1 ⟨yb,rfl,ob,bh1⟩;have eh1:Below w3.heap.size w3 wh1:=ed0.trans (bh1.mono ed0.size);have sb:=Sl.ofOwns ob (by show 33≤_;decide) (Id ⟨vs,⟨vr,vn⟩,⟨vk,vc,vq,vm,vx⟩⟩);obtain⟨ab,cb,rfl⟩:=AD ob;refine⟨_,rfl,(eh1.mono hle),?_⟩;simp only[Act.put,List.setIfInBounds_toArray,List.set_cons_zero,List.set_cons_succ];refine AM (i:=4) (by kernel_rfl) (Dq (i:=4) (d:=41) (f:=211) (args:=#[.agg #[.slice ax M cp,.int .i64 s],.slice ab 33 cb]) rfl (by kernel_rfl) rfl (by kernel_rfl) ((Fi (.slice ax M cp) d s (.slice ab 33 cb) (Be ⟨vs,⟨vr,vn⟩,⟨vk,vc,vq,vm,vx⟩⟩) wh1 (sl4_x.below eh1) sb (by show 33≤255;decide) (by rw[HM.out];omega) (tt4_0.below eh1)).mono ?_));rintro e' wh2 ⟨yw,rfl,ow,bh2⟩;have eh2:Below w3.heap.size w3 wh2:=eh1.trans (bh2.mono eh1.size);rw[HK.out]at ow
    obtain⟨ay,cy,rfl⟩:=AD ow;simp only[tpA];refine⟨_,rfl,(eh2.mono hle),?_⟩;simp only[Act.put,List.setIfInBounds_toArray,List.set_cons_zero,List.set_cons_succ];refine Ac (i:=5) 42 (v:=.agg #[.slice ay K cy,.int .i64 s]) rfl rfl (by kernel_rfl) (by kernel_rfl) (by kernel_rfl) (fun _ _ _ h=>h) (Or.inl ⟨by rfl,fun _ _=>by kernel_rfl⟩) (eh2.mono hle) ?_;simp only[Act.put,List.setIfInBounds_toArray,List.set_cons_zero,List.set_cons_succ];refine Ac (i:=6) 43 (v:=.int .i64 0) rfl rfl (by kernel_rfl) (by kernel_rfl) (by kernel_rfl) (fun _ _ _ h=>h) (Or.inl ⟨by rfl,fun _ _=>by kernel_rfl⟩) (eh2.mono hle) ?_;simp only[Act.put,List.setIfInBounds_toArray,List.set_cons_zero,List.set_cons_succ];have hone:(#[.slice ay K cy,.int .i64 s]:Array Value).all (·.oneCell')=true:=by simp[Value.oneCell']
    have rS:=(eh2.block (w.heap.size+2) lw4_r).trans rw4_r;have e7:Below (w.heap.size+2) w3 (wh2.setRow (w.heap.size+2) #[.slice ay K cy,.int .i64 s]):=An (eh2.mono hle) (Nat.le_refl _) _;have q7:=setRow_heap wh2 (w.heap.size+2) _ (#[.slice ay K cy,.int .i64 s]) 132 _ rS;refine AM (i:=7) (by kernel_rfl) (Er (i:=7) rfl (by kernel_rfl) rfl 132 (.tmp 4) (.tmp 42) rfl (w.heap.size+2) #[.slice ay K cy,.int .i64 s] (by kernel_rfl) (by kernel_rfl) 132 _ rS At rfl hone ⟨e7,?_⟩);have o7:=De ow rS (by decide) (#[.slice ay K cy,.int .i64 s]);refine Ac (i:=8) 5 (v:=.int .i64 0) rfl rfl (by kernel_rfl) (by kernel_rfl) (by kernel_rfl) (fun _ _ _ h=>h) (Or.inl ⟨by rfl,fun _ _=>by kernel_rfl⟩) e7 ?_;simp only[Act.put,List.setIfInBounds_toArray,List.set_cons_zero,List.set_cons_succ];exact wpAnyH_done (by kernel_rfl) (HK2.out ay cy ab cb _ ⟨q7,Bm o7 (by have:=d4.size;have:=ed0.size;have:=bh1.size;omega),e7⟩) _
   rintro g c g2 c2 Wz ⟨qR,oR,eR⟩;have dR:=d4.trans (eR.mono (by omega));clear hr_p hr_v rw4_p rw4_r rw4_v;go_wp2
   refine bodyPost_ret (CU rfl _ _ (w.heap.size+2) 132 _ (0,0) _ rfl qR underlying132 rfl At) rfl ?_;rw[HE.out,HZ.out.1,HZ.out.2,HK.out];exact⟨_,rfl,oR,dR⟩
  ·rw[if_neg h2];have HE:Hid (BH d s (Ah ⟨vs,⟨vr,vn⟩,⟨vk,vc,vq,vm,vx⟩⟩) (Be ⟨vs,⟨vr,vn⟩,⟨vk,vc,vq,vm,vx⟩⟩)=2):=by unfold Hid;rw[HEm.out,if_neg h2]
   have HZ:Hid (Da d s (Ah ⟨vs,⟨vr,vn⟩,⟨vk,vc,vq,vm,vx⟩⟩) (Be ⟨vs,⟨vr,vn⟩,⟨vk,vc,vq,vm,vx⟩⟩)=[]∧EB d s (Ah ⟨vs,⟨vr,vn⟩,⟨vk,vc,vq,vm,vx⟩⟩) (Be ⟨vs,⟨vr,vn⟩,⟨vk,vc,vq,vm,vx⟩⟩)=0):=HDS.out 2 (by decide) HE.out;clear h2 HEm HDS;have bN3:Below w2.heap.size w2 (w2.alloc (.cells #[.int .i64 0,.int .i64 0,.slice none 0 0] 115)):=(Below.refl _ _).alloc (Nat.le_refl _) _;have rN3:=heap_alloc_new w2 (.cells #[.int .i64 0,.int .i64 0,.slice none 0 0] 115);have on3:(#[.int .i64 qr,.int .i64 qn,.slice ay1 K1 cy1]:Array Value).all (·.oneCell')=true:=by simp[Value.oneCell']
   generalize hN3:w2.alloc (.cells #[.int .i64 0,.int .i64 0,.slice none 0 0] 115)=N3 at bN3 rN3
   go_upto_region 5 with((with_reducible (refine Az ?_));(refine wpList_store_row rfl 115 (.tmp 7) (.tmp 21) rfl w2.heap.size #[.int .i64 qr,.int .i64 qn,.slice ay1 K1 cy1] rfl rfl 115 _ rN3 Qs rfl on3 ?_))
   clear hN3;have qN3:=setRow_heap N3 w2.heap.size _ (#[.int .i64 qr,.int .i64 qn,.slice ay1 K1 cy1]) 115 _ rN3;replace bN3:=An bN3 (Nat.le_refl _) (#[.int .i64 qr,.int .i64 qn,.slice ay1 K1 cy1]);generalize N3.setRow w2.heap.size (#[.int .i64 qr,.int .i64 qn,.slice ay1 K1 cy1])=W3 at qN3 bN3 ⊢;have lN3:w2.heap.size<W3.heap.size:=(Array.getElem?_eq_some_iff.1 qN3).1;clear rN3 on3;have d3:=d2.trans (bN3.mono d2.size);have tt3_0:=tt2_0.below bN3;have tt3_1:=tt2_1.below bN3;have rw3_p:=(bN3.block _ lw2_p).trans rw2_p;have lw3_p:=Nat.lt_of_lt_of_le lw2_p bN3.size;have rw3_v:=(bN3.block _ lw2_v).trans rw2_v;have lw3_v:=Nat.lt_of_lt_of_le lw2_v bN3.size;have rw3_r:=(bN3.block _ lw2_r).trans rw2_r;have lw3_r:=Nat.lt_of_lt_of_le lw2_r bN3.size;have sl3_x:=sl2_x.below bN3;clear tt2_0 tt2_1 lw2_p rw2_p lw2_v rw2_v lw2_r rw2_r sl2_x;obtain⟨gA,hgA⟩:∃ g,g=w2.heap.size:=⟨_,rfl⟩;rw[← hgA]at qN3 lN3 ⊢
   clear hgA bN3;have onR:(#[.slice none 0 0,.int .i64 0]:Array Value).all (·.oneCell')=true:=by simp[Value.oneCell']
   go_wp2_with ((with_reducible (refine Az ?_));(refine wpList_store_row rfl 132 (.tmp 4) (.tmp 25) rfl (w.heap.size+2) #[.slice none 0 0,.int .i64 0] rfl rfl 132 _ rw3_r At rfl onR ?_))
   have qR:=setRow_heap W3 (w.heap.size+2) _ (#[.slice none 0 0,.int .i64 0]) 132 _ rw3_r;have dR:=An d3 (show w.heap.size≤(w.heap.size+2)by omega) (#[.slice none 0 0,.int .i64 0]);refine bodyPost_ret (CU rfl _ _ (w.heap.size+2) 132 _ (0,0) _ rfl qR underlying132 rfl At) rfl ?_;rw[HE.out,HZ.out.1,HZ.out.2];exact⟨.slice none 0 0,rfl,World.ownsRow_nil _ _ _ _,dR⟩
 ·obtain⟨E,hE⟩:∃ E,DH d s 38=E:=⟨_,rfl⟩;rw[hE]at h1 ⊢
  have HE:Hid (BH d s (Ah ⟨vs,⟨vr,vn⟩,⟨vk,vc,vq,vm,vx⟩⟩) (Be ⟨vs,⟨vr,vn⟩,⟨vk,vc,vq,vm,vx⟩⟩)=E):=by unfold Hid;rw[HE0.out,hE,if_pos h1]
  have HZ:Hid (Da d s (Ah ⟨vs,⟨vr,vn⟩,⟨vk,vc,vq,vm,vx⟩⟩) (Be ⟨vs,⟨vr,vn⟩,⟨vk,vc,vq,vm,vx⟩⟩)=[]∧EB d s (Ah ⟨vs,⟨vr,vn⟩,⟨vk,vc,vq,vm,vx⟩⟩) (Be ⟨vs,⟨vr,vn⟩,⟨vk,vc,vq,vm,vx⟩⟩)=0):=HDS.out E h1 HE.out;have h1b:(E==0)=false:=by simpa using h1
  clear h1 hE HE0 HDS;have onR:(#[.slice none 0 0,.int .i64 0]:Array Value).all (·.oneCell')=true:=by simp[Value.oneCell']
  go_wp2_with ((with_reducible (refine Az ?_));(refine wpList_store_row rfl 132 (.tmp 4) (.tmp 15) rfl (w.heap.size+2) #[.slice none 0 0,.int .i64 0] rfl rfl 132 _ rw1_r At rfl onR ?_))
  have qR:=setRow_heap w1 (w.heap.size+2) _ (#[.slice none 0 0,.int .i64 0]) 132 _ rw1_r;have dR:=An d1 (show w.heap.size≤(w.heap.size+2)by omega) (#[.slice none 0 0,.int .i64 0]);refine bodyPost_ret (CU rfl _ _ (w.heap.size+2) 132 _ (0,0) _ rfl qR underlying132 rfl At) rfl ?_;rw[HE.out,HZ.out.1,HZ.out.2];exact⟨.slice none 0 0,rfl,World.ownsRow_nil _ _ _ _,dR⟩
end Go.Proofs.YtakgfdbjgeopdaaGreatDoor
