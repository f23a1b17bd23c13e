/- Part 43 of the walk: what the functions of the program do, one by one. -/
import Derived.Test.YtakgfdbjgeopdaaGreatDoorZ42
set_option maxRecDepth 100000
set_option maxHeartbeats 4000000
open Go.Proofs.Tryz
set_option linter.unusedVariables false
namespace Go.Proofs.YtakgfdbjgeopdaaGreatDoor
open Go.RowKit
theorem VH{ops:Array Oper}{S:World→Prop}{op:Oper}{a:Act}(hw:Region.wanted op (yielded ops a.tmps)=true)(x y:Operand)(ho:op.op=.binOp .neq 112 x y 112)
  (r n r' n':Int)(hx:a.eval x=.agg #[.int .i64 r,.int .i64 n])(hy:a.eval y=.agg #[.int .i64 r',.int .i64 n']):YieldsIf prog ops S op (.bool (!decide (r=r'∧n=n'))) a :=
 .inl ⟨hw,fun w _=>by
  unfold execOp;simp only[ho,hx,hy,Sem.run_bind,run_eqGuard_agg (P:=prog) (w:=w) .neq 112 x y _ _ (by kernel_rfl),QH r n r' n' w,Result.andThen_ok,Sem.run_pure]⟩
theorem cm5:(prog.info? 25).map (·.size)=some 5:=by kernel_rfl
structure Bv(w:World)(g:Nat)(v:Vt):Prop where
 lt:g<w.heap.size
 row:w.heap[g]?=some (.cells (vtA v) 175 (0,0))
theorem Bv.mid{w:World}{g:Nat}{v:Vt}(h:Bv w g v):w.rangeAt g 1 [.int .i64 v.b.r,.int .i64 v.b.n]∧w.rangeAt g 3 [.int .i64 v.w.k,.int .i64 v.w.c,.int .i64 v.w.s,.int .i64 v.w.n,.int .i64 v.w.v]:=by
 obtain⟨c0,c1,c2,c3,c4,c5,c6,c7⟩:=Ie h.row;refine⟨PZ (o:=1) c1 c2,fun j u hj=>?_⟩
 match j,hj with
 | 0,hj=>simp at hj;subst hj;exact c3
 | 1,hj=>simp at hj;subst hj;exact c4
 | 2,hj=>simp at hj;subst hj;exact c5
 | 3,hj=>simp at hj;subst hj;exact c6
 | 4,hj=>simp at hj;subst hj;exact c7
 | q+5,hj=>simp at hj
theorem UJ(x:Value)(ls:List (List Vt))(s:Int)(w:World)(h:Svv w x ls)(ht:NTab w) :
  Calls prog 216 #[x,.int .i64 s] w fun e w'=>e=.returned (.tuple #[.agg (cmC (GE ls s)),.bool (FE ls s),.int .i64 (Cl ls s)])∧Below w.heap.size w w':=by
 have hlen:=h.len;obtain⟨ax,cp,rfl⟩:=h.shape;obtain⟨N,hN⟩:∃ N,ls.length=N:=⟨_,rfl⟩;have HN:Hid (ls.length=N):=hN;rw[hN]at h hlen ⊢
 clear hN;have hz5:(#[.int .i64 0,.int .i64 0,.int .i64 0,.int .i64 0,.int .i64 0]:Array Value).all (·.oneCell')=true:=by simp[Value.oneCell']
 have rr:=heap_alloc_new w (.cells #[.int .i64 0,.int .i64 0,.int .i64 0,.int .i64 0,.int .i64 0] 25);have bb:Below w.heap.size w (w.alloc (.cells #[.int .i64 0,.int .i64 0,.int .i64 0,.int .i64 0,.int .i64 0] 25)):=(Below.refl _ _).alloc (Nat.le_refl _) _;have z0:(w.alloc (.cells #[.int .i64 0,.int .i64 0,.int .i64 0,.int .i64 0,.int .i64 0] 25)).heap.size=w.heap.size+1:=by simp
 generalize hW0:w.alloc (.cells #[.int .i64 0,.int .i64 0,.int .i64 0,.int .i64 0,.int .i64 0] 25)=W0 at rr bb z0;have h0:=h.below bb;have t0:=ht.below bb;clear h ht;go_enter func216,ntmps216
 go_wp2_with fail
 clear hW0;refine(FS s _).mono ?_;rintro e w1 ⟨rfl,rfl⟩;by_cases h1:0≤s∧s≤39
 ·rw[decide_eq_true h1];have HS:Hid (0≤s∧s≤39):=h1;clear h1;have b0:Below (w.heap.size+1) w1 (w1.alloc (.cells #[.int .i64 0,.int .i64 0,.int .i64 0,.int .i64 0,.int .i64 0,.int .i64 0,.int .i64 0,.int .i64 0] 175)):=(Below.refl _ _).alloc (by omega) _;have v0:(w1.alloc (.cells #[.int .i64 0,.int .i64 0,.int .i64 0,.int .i64 0,.int .i64 0,.int .i64 0,.int .i64 0,.int .i64 0] 175)).heap[w.heap.size+1]?=some (.cells (vtA vt0) 175 (0,0)):=by rw[← z0];exact heap_alloc_new _ _
  generalize hWA:w1.alloc (.cells #[.int .i64 0,.int .i64 0,.int .i64 0,.int .i64 0,.int .i64 0,.int .i64 0,.int .i64 0,.int .i64 0] 175)=WA at b0 v0;go_wp2_with fail
  clear hWA;have hne:w.heap.size<w.heap.size+1:=by omega
  generalize hB:w.heap.size+1=B at b0 v0 z0 hne ⊢;have HB:Hid (B=w1.heap.size):=z0.symm;have hwB:w.heap.size+1=B:=hB;clear hB z0
  go_loopw [18] (fun iv wr=>∃ (j:Nat) (best:Vt),j≤N∧iv=.int .i64 (j:Int)∧wr.heap[B]?=some (.cells (vtA best) 175 (0,0))∧D4 (Ch (Am (ls.take j).flatten s) none) best∧(∀ l∈ls.take j,∀ v∈l,Ah v)∧Below B w1 wr) (fun iv _=>((N:Int)-intOf iv).toNat)
  case atStart=>exact⟨0,vt0,by omega,rfl,v0,.inl ⟨rfl,rfl⟩,fun l hl=>by simp at hl,b0⟩
  case round =>
   clear v0 b0;obtain⟨j,best,hj,rfl,rB,hkv,hmay,hbel⟩:=hrel;have HKV:Hid (D4 (Ch (Am (ls.take j).flatten s) none) best):=hkv;have HMJ:Hid (∀ l∈ls.take j,∀ v∈l,Ah v):=hmay;clear hkv hmay;by_cases hjN:j<N
   ·have hji:(j:Int)<(N:Int):=by omega
    obtain⟨l,hl⟩:∃ l,ls[j]?=some l:=⟨_,List.getElem?_eq_getElem (by have:=HN.out;omega)⟩;obtain⟨b,off,y,rfl,ltb,hc0,hsy0⟩:=h0.spot j l hl;have hixS:=S1 b off N cp j hjN;obtain⟨ay,cy,hy⟩:=hsy0.shape;obtain⟨M,hM⟩:∃ M,l.length=M:=⟨_,rfl⟩;have HM:Hid (l.length=M):=hM;rw[hM]at hy
    subst hy;have HJ:Hid (ls[j]?=some l):=hl;have hMl:M≤2199023255488:=by have:=hsy0.len;omega
    have hc:=(hbel.cell (p:=⟨b,off+j,none⟩) (show b<B by rw[HB.out];exact ltb)).trans hc0;clear hl hM;go_wp2_with fail
    clear hc
    go_loopw [24] (fun kv wr=>∃ (k:Nat) (best:Vt),k≤M∧kv=.int .i64 (k:Int)∧wr.heap[B]?=some (.cells (vtA best) 175 (0,0))∧D4 (Ch (Am ((ls.take j).flatten++l.take k) s) none) best∧(∀ v∈l.take k,Ah v)∧Below B w1 wr) (fun kv _=>((M:Int)-intOf kv).toNat)
    case atStart=>exact⟨0,best,by omega,rfl,rB,by simpa using HKV.out,fun v hv=>by simp at hv,hbel⟩
    case round =>
     clear HKV hbel rB;obtain⟨k,best,hk,rfl,rB,hkv,hmay,hbel⟩:=hrel;have HKV:Hid (D4 (Ch (Am ((ls.take j).flatten++l.take k) s) none) best):=hkv;have HMK:Hid (∀ v∈l.take k,Ah v):=hmay;clear hkv hmay;have hsz:=hbel.size;have ltB:B<wr.heap.size:=(Array.getElem?_eq_some_iff.1 rB).1;by_cases hkM:k<M
     ·have hki:(k:Int)<(M:Int):=by omega
      obtain⟨u,hu⟩:∃ u,l[k]?=some u:=⟨_,List.getElem?_eq_getElem (by have:=HM.out;omega)⟩;obtain⟨b2,o2,rfl,ltb2,hr0⟩:=hsy0.spot k u hu;have hr:=FZ hbel (show b2<B by rw[HB.out];exact ltb2) hr0;have hix:=Dd b2 o2 M cy k hkM;have HU:Hid (l[k]?=some u):=hu;have hi:=H7 u;clear hu hr0;obtain⟨us,⟨ur,un⟩,⟨uk,uc,uq,um,ux⟩⟩:=u;simp only[vtC]at hr hi;have bN:Below wr.heap.size wr (wr.alloc (.cells #[.int .i64 0,.int .i64 0,.int .i64 0,.int .i64 0,.int .i64 0,.int .i64 0,.int .i64 0,.int .i64 0] 175)):=(Below.refl _ _).alloc (Nat.le_refl _) _;have rN:=heap_alloc_new wr (.cells #[.int .i64 0,.int .i64 0,.int .i64 0,.int .i64 0,.int .i64 0,.int .i64 0,.int .i64 0,.int .i64 0] 175);have hi2:(prog.info? 175).map (·.size)=some (#[.int .i64 us,.int .i64 ur,.int .i64 un,.int .i64 uk,.int .i64 uc,.int .i64 uq,.int .i64 um,.int .i64 ux]:Array Value).size:=hi;have hone:(#[.int .i64 us,.int .i64 ur,.int .i64 un,.int .i64 uk,.int .i64 uc,.int .i64 uq,.int .i64 um,.int .i64 ux]:Array Value).all (·.oneCell')=true:=by simp[Value.oneCell']
      generalize hWN:wr.alloc (.cells #[.int .i64 0,.int .i64 0,.int .i64 0,.int .i64 0,.int .i64 0,.int .i64 0,.int .i64 0,.int .i64 0] 175)=WN at bN rN
      go_upto_region 10 with((with_reducible (refine As ?_));first|(refine wpList_load_mid rfl 175 _ rfl b2 (o2+8*k) rfl [.int .i64 us,.int .i64 ur,.int .i64 un,.int .i64 uk,.int .i64 uc,.int .i64 uq,.int .i64 um,.int .i64 ux] _ hr underlying175 rfl hi ?_)|(refine wpList_store_row rfl 175 (.tmp 11) (.tmp 27) rfl wr.heap.size (#[.int .i64 us,.int .i64 ur,.int .i64 un,.int .i64 uk,.int .i64 uc,.int .i64 uq,.int .i64 um,.int .i64 ux]) rfl rfl 175 _ rN hi2 rfl hone ?_))
      clear hWN;have q:=setRow_heap WN wr.heap.size _ (#[.int .i64 us,.int .i64 ur,.int .i64 un,.int .i64 uk,.int .i64 uc,.int .i64 uq,.int .i64 um,.int .i64 ux]) 175 _ rN;replace bN:=Aj bN (Nat.le_refl _) (#[.int .i64 us,.int .i64 ur,.int .i64 un,.int .i64 uk,.int .i64 uc,.int .i64 uq,.int .i64 um,.int .i64 ux]);generalize WN.setRow wr.heap.size (#[.int .i64 us,.int .i64 ur,.int .i64 un,.int .i64 uk,.int .i64 uc,.int .i64 uq,.int .i64 um,.int .i64 ux])=W at q bN ⊢;have ltG:wr.heap.size<W.heap.size:=(Array.getElem?_eq_some_iff.1 q).1;have rBW:=(bN.block B ltB).trans rB;have eW:=hbel.trans (bN.mono (by omega));have tW:=t0.below (eW.mono (by rw[← HB.out];exact Nat.le_refl _));obtain⟨G,hG⟩:∃ G,G=wr.heap.size:=⟨_,rfl⟩;rw[← hG]at q ltG ltB ⊢
      clear rN hr hix hi2 bN rB hbel hsz hG;go_wp2_with ((with_reducible (refine As ?_));refine wpList_load_row rfl 175 _ rfl G rfl 175 _ (0,0) _ q underlying175 rfl hi ?_)
      refine(G4 ⟨us,⟨ur,un⟩,⟨uk,uc,uq,um,ux⟩⟩ W tW).mono ?_;rintro e W2 ⟨rfl,b2⟩;have e2:=eW.trans (b2.mono (by have:=eW.size;have:=HB.out;omega));have q2:=(b2.block _ ltG).trans q;have rB2:=(b2.block B (by omega)).trans rBW;have ltG2:G<W2.heap.size:=Nat.lt_of_lt_of_le ltG b2.size;have x0:W2.cell? ⟨G,0,none⟩=some (.int .i64 us):=cell_of_row _ _ 0 _ _ _ q2;have x1:W2.cell? ⟨G,1,none⟩=some (.int .i64 ur):=cell_of_row _ _ 1 _ _ _ q2;have x2:W2.cell? ⟨G,2,none⟩=some (.int .i64 un):=cell_of_row _ _ 2 _ _ _ q2;clear b2 q eW tW rBW ltG;by_cases hv:Ah ⟨us,⟨ur,un⟩,⟨uk,uc,uq,um,ux⟩⟩
      ·rw[decide_eq_true hv];have HMK1:Hid (∀ v∈l.take (k+1),Ah v):=Vz HU.out HMK.out hv;have hvb:Af ⟨ur,un⟩:=hv.2.1;by_cases hus:us=s
       ·have HT:Hid (Am ((ls.take j).flatten++l.take (k+1)) s=Am ((ls.take j).flatten++l.take k) s++[(⟨us,⟨ur,un⟩,⟨uk,uc,uq,um,ux⟩⟩:Vt)]):=by
         unfold Hid;rw[Dz l k _ HU.out,← List.append_assoc,Iw,if_pos hus]
        have HK1:Hid (D4 (Ch (Am ((ls.take j).flatten++l.take (k+1)) s) none) (if best.b.lt ⟨ur,un⟩then⟨us,⟨ur,un⟩,⟨uk,uc,uq,um,ux⟩⟩else best)):=by
         unfold Hid;rw[HT.out,OF];exact HKV.out.next (v:=⟨us,⟨ur,un⟩,⟨uk,uc,uq,um,ux⟩⟩) hvb
        obtain⟨bs,⟨br,bn⟩,⟨bk,bc,bq,bm,bx⟩⟩:=best;have y1:W2.cell? ⟨B,1,none⟩=some (.int .i64 br):=cell_of_row _ _ 1 _ _ _ rB2;have y2:W2.cell? ⟨B,2,none⟩=some (.int .i64 bn):=cell_of_row _ _ 2 _ _ _ rB2;clear hv hvb HT HKV HMK;subst hus;go_wp2_with fail
        refine(Di ⟨br,bn⟩ ⟨ur,un⟩ W2).mono ?_;rintro e W3 ⟨rfl,b3⟩;have e3:=e2.trans (b3.mono (by have:=e2.size;have:=HB.out;omega));have q3:=(b3.block _ ltG2).trans q2;have rB3:=(b3.block B (by omega)).trans rB2;clear b3 x0 x1 x2 y1 y2 q2 rB2;by_cases hlt:Bal.lt ⟨br,bn⟩ ⟨ur,un⟩
        ·rw[decide_eq_true hlt];have HK2:Hid (D4 (Ch (Am ((ls.take j).flatten++l.take (k+1)) us) none) ⟨us,⟨ur,un⟩,⟨uk,uc,uq,um,ux⟩⟩):=by
          have g:=HK1.out;rw[if_pos hlt]at g
          exact g
         clear hlt HK1;go_wp2_with ((with_reducible (refine As ?_));first|(refine wpList_load_row rfl 175 (.tmp 11) rfl G rfl 175 _ (0,0) _ q3 underlying175 rfl hi ?_)|(refine wpList_store_row rfl 175 (.tmp 7) (.tmp 43) rfl B (#[.int .i64 us,.int .i64 ur,.int .i64 un,.int .i64 uk,.int .i64 uc,.int .i64 uq,.int .i64 um,.int .i64 ux]) rfl rfl 175 _ rB3 hi rfl hone ?_))
         have rB4:=setRow_heap W3 B _ (#[.int .i64 us,.int .i64 ur,.int .i64 un,.int .i64 uk,.int .i64 uc,.int .i64 uq,.int .i64 um,.int .i64 ux]) 175 _ rB3;have e4:=Aj e3 (Nat.le_refl _) (#[.int .i64 us,.int .i64 ur,.int .i64 un,.int .i64 uk,.int .i64 uc,.int .i64 uq,.int .i64 um,.int .i64 ux]);go_roundw
         case rel=>exact⟨k+1,⟨us,⟨ur,un⟩,⟨uk,uc,uq,um,ux⟩⟩,by omega,by go_num,rB4,HK2.out,HMK1.out,e4⟩
         case measure=>simp[intOf];omega
        ·rw[decide_eq_false hlt];have HK2:Hid (D4 (Ch (Am ((ls.take j).flatten++l.take (k+1)) us) none) ⟨bs,⟨br,bn⟩,⟨bk,bc,bq,bm,bx⟩⟩):=by
          have g:=HK1.out;rw[if_neg hlt]at g
          exact g
         clear hlt HK1;go_wp2
         go_roundw
         case rel=>exact⟨k+1,⟨bs,⟨br,bn⟩,⟨bk,bc,bq,bm,bx⟩⟩,by omega,by go_num,rB3,HK2.out,HMK1.out,e3⟩
         case measure=>simp[intOf];omega
       ·have HT:Hid (Am ((ls.take j).flatten++l.take (k+1)) s=Am ((ls.take j).flatten++l.take k) s):=by
         unfold Hid;rw[Dz l k _ HU.out,← List.append_assoc,Iw,if_neg hus,List.append_nil]
        clear hv hvb;go_wp2
        go_roundw
        case rel=>exact⟨k+1,best,by omega,by go_num,rB2,by rw[HT.out];exact HKV.out,HMK1.out,e2⟩
        case measure=>simp[intOf];omega
      ·rw[decide_eq_false hv];have HF:Hid (GE ls s=⟨0,0,0,0,0⟩∧FE ls s=false∧Cl ls s=5):=PS HS.out (fun g=>hv (g l (List.mem_iff_getElem?.2 ⟨j,HJ.out⟩) _ (List.mem_iff_getElem?.2 ⟨k,HU.out⟩)));clear hv;have rR:=(e2.block w.heap.size (by have:=HB.out;omega)).trans rr;go_wp2_with ((with_reducible (refine As ?_));refine wpList_store_row rfl 25 (.tmp 4) (.tmp 31) rfl w.heap.size #[.int .i64 0,.int .i64 0,.int .i64 0,.int .i64 0,.int .i64 0] rfl rfl 25 _ rR cm5 rfl hz5 ?_)
       have q9:=setRow_heap W2 w.heap.size _ (#[.int .i64 0,.int .i64 0,.int .i64 0,.int .i64 0,.int .i64 0]) 25 _ rR;have d9:=Aj (bb.trans (e2.mono (by have:=HB.out;omega))) (Nat.le_refl _) (#[.int .i64 0,.int .i64 0,.int .i64 0,.int .i64 0,.int .i64 0]);refine bodyPost_ret (Ix rfl _ _ w.heap.size 25 _ (0,0) _ rfl q9 underlying25 rfl cm5) rfl ?_;rw[HF.out.1,HF.out.2.1,HF.out.2.2];exact⟨rfl,d9⟩
     ·have HK1:Hid (D4 (Ch (Am (ls.take (j+1)).flatten s) none) best):=by
       have g:=HKV.out;rw[show l.take k=l from List.take_of_length_le (by have:=HM.out;omega)]at g
       unfold Hid;rw[SI ls j l HJ.out];exact g
      have HM1:Hid (∀ l∈ls.take (j+1),∀ v∈l,Ah v):=by
       have g:=HMK.out;rw[show l.take k=l from List.take_of_length_le (by have:=HM.out;omega)]at g
       exact Vy HJ.out HMJ.out g
      clear HKV HMK HMJ;go_wp2
      go_roundw
      case rel=>exact⟨j+1,best,by omega,by go_num,rB,HK1.out,HM1.out,hbel⟩
      case measure=>simp[intOf];omega
   ·have HF:Hid (GE ls s=best.w∧FE ls s=!decide (best.b.r=0∧best.b.n=0)∧Cl ls s=0):=by
     have g:=HKV.out;have g2:=HMJ.out;rw[List.take_of_length_le (by have:=HN.out;omega)]at g g2
     exact g.pick HS.out g2
    obtain⟨bs,⟨br,bn⟩,⟨bk,bc,bq,bm,bx⟩⟩:=best;clear HKV HMJ;have rR:=(hbel.block w.heap.size (by have:=HB.out;omega)).trans rr;have dr:=bb.trans (hbel.mono (by have:=HB.out;omega));have hone5:(#[.int .i64 bk,.int .i64 bc,.int .i64 bq,.int .i64 bm,.int .i64 bx]:Array Value).all (·.oneCell')=true:=by simp[Value.oneCell']
    go_wp2_with fail
    apply WU (fun W2=>W2.heap[w.heap.size]?=some (.cells #[.int .i64 bk,.int .i64 bc,.int .i64 bq,.int .i64 bm,.int .i64 bx] 25 (0,0))∧Below w.heap.size w W2)
    ·intro K2 HK2;have S0:Hid (∀ w':World,w'.heap[B]?=some (.cells (vtA ⟨bs,⟨br,bn⟩,⟨bk,bc,bq,bm,bx⟩⟩) 175 (0,0))→w'.rangeAt B 1 [.int .i64 br,.int .i64 bn]∧w'.rangeAt B 3 [.int .i64 bk,.int .i64 bc,.int .i64 bq,.int .i64 bm,.int .i64 bx]):=fun w' h'=>Bv.mid (v:=⟨bs,⟨br,bn⟩,⟨bk,bc,bq,bm,bx⟩⟩) ⟨(Array.getElem?_eq_some_iff.1 h').1,h'⟩;refine wp_region_held (S:=fun w'=>w'.heap[B]?=some (.cells (vtA ⟨bs,⟨br,bn⟩,⟨bk,bc,bq,bm,bx⟩⟩) 175 (0,0))) (by kernel_rfl) ?_;have hS0:(fun w':World=>w'.heap[B]?=some (.cells (vtA ⟨bs,⟨br,bn⟩,⟨bk,bc,bq,bm,bx⟩⟩) 175 (0,0))) wr.drew:=rB;have rRd:wr.drew.heap[w.heap.size]?=some (.cells #[.int .i64 0,.int .i64 0,.int .i64 0,.int .i64 0,.int .i64 0] 25 (0,0)):=rR;have rBd:wr.drew.heap[B]?=some (.cells (vtA ⟨bs,⟨br,bn⟩,⟨bk,bc,bq,bm,bx⟩⟩) 175 (0,0)):=rB;refine Ac (i:=0) 46 (v:=.pointer (some ⟨B,3,none⟩)) rfl rfl (by kernel_rfl) (by kernel_rfl) (by kernel_rfl) (fun _ _ _ h=>h) (Or.inl ⟨by rfl,fun _ _=>by kernel_rfl⟩) hS0 ?_;simp only[Act.put,List.setIfInBounds_toArray,List.set_cons_zero,List.set_cons_succ];refine Ac (i:=1) 47 (v:=.agg #[.int .i64 bk,.int .i64 bc,.int .i64 bq,.int .i64 bm,.int .i64 bx]) rfl rfl (by kernel_rfl) (by kernel_rfl) (by kernel_rfl) (fun _ _ _ h=>h) (yieldsIf_load_mid (by rfl) 25 (.tmp 46) rfl B 3 rfl [.int .i64 bk,.int .i64 bc,.int .i64 bq,.int .i64 bm,.int .i64 bx] _ (fun w' hw'=>(S0.out w' hw').2) underlying25 rfl cm5) hS0 ?_;simp only[Act.put,List.setIfInBounds_toArray,List.set_cons_zero,List.set_cons_succ];refine Ac (i:=2) 48 (v:=.pointer (some ⟨B,1,none⟩)) rfl rfl (by kernel_rfl) (by kernel_rfl) (by kernel_rfl) (fun _ _ _ h=>h) (Or.inl ⟨by rfl,fun _ _=>by kernel_rfl⟩) hS0 ?_;simp only[Act.put,List.setIfInBounds_toArray,List.set_cons_zero,List.set_cons_succ];refine Ac (i:=3) 49 (v:=.agg #[.int .i64 br,.int .i64 bn]) rfl rfl (by kernel_rfl) (by kernel_rfl) (by kernel_rfl) (fun _ _ _ h=>h) (yieldsIf_load_mid (by rfl) 112 (.tmp 48) rfl B 1 rfl [.int .i64 br,.int .i64 bn] _ (fun w' hw'=>(S0.out w' hw').1) underlying112 rfl FM) hS0 ?_;simp only[Act.put,List.setIfInBounds_toArray,List.set_cons_zero,List.set_cons_succ];refine Ac (i:=4) 50 (v:=.agg #[.int .i64 0,.int .i64 0]) rfl rfl (by kernel_rfl) (by kernel_rfl) (by kernel_rfl) (fun _ _ _ h=>h) (Or.inl ⟨by rfl,fun _ _=>by kernel_rfl⟩) hS0 ?_;simp only[Act.put,List.setIfInBounds_toArray,List.set_cons_zero,List.set_cons_succ];refine Ac (i:=5) 51 (v:=.bool (!decide (br=0∧bn=0))) rfl rfl (by kernel_rfl) (by kernel_rfl) (by kernel_rfl) (fun _ _ _ h=>h) (VH (by rfl) (.tmp 49) (.tmp 50) rfl br bn 0 0 rfl rfl) hS0 ?_;simp only[Act.put,List.setIfInBounds_toArray,List.set_cons_zero,List.set_cons_succ];refine AM (i:=6) (by kernel_rfl) (Er (i:=6) rfl (by kernel_rfl) rfl 25 (.tmp 4) (.tmp 47) rfl w.heap.size #[.int .i64 bk,.int .i64 bc,.int .i64 bq,.int .i64 bm,.int .i64 bx] (by kernel_rfl) (by kernel_rfl) 25 _ rRd cm5 rfl hone5 ⟨(setRow_other _ _ _ _ (by omega)).trans rBd,?_⟩);refine Ac (i:=7) 5 (v:=.bool (!decide (br=0∧bn=0))) rfl rfl (by kernel_rfl) (by kernel_rfl) (by kernel_rfl) (fun _ _ _ h=>h) (Or.inl ⟨by rfl,fun _ _=>by kernel_rfl⟩) ((setRow_other _ _ _ _ (by omega)).trans rBd) ?_;simp only[Act.put,List.setIfInBounds_toArray,List.set_cons_zero,List.set_cons_succ];refine Ac (i:=8) 6 (v:=.int .i64 0) rfl rfl (by kernel_rfl) (by kernel_rfl) (by kernel_rfl) (fun _ _ _ h=>h) (Or.inl ⟨by rfl,fun _ _=>by kernel_rfl⟩) ((setRow_other _ _ _ _ (by omega)).trans rBd) ?_;simp only[Act.put,List.setIfInBounds_toArray,List.set_cons_zero,List.set_cons_succ];exact wpAnyH_done (by kernel_rfl) (HK2.out _ ⟨setRow_heap _ _ _ _ _ _ rRd,Aj dr.drew (Nat.le_refl _) _⟩) _
    intro W2 hW2;obtain⟨q9,d9⟩:=hW2;clear rR rB hbel;generalize hbz:(!decide (br=0∧bn=0))=bz at HF;go_wp2
    refine bodyPost_ret (Ix rfl _ _ w.heap.size 25 _ (0,0) _ rfl q9 underlying25 rfl cm5) rfl ?_;rw[HF.out.1,HF.out.2.1,HF.out.2.2];exact⟨rfl,d9⟩
 ·rw[decide_eq_false h1];have HF:Hid (GE ls s=⟨0,0,0,0,0⟩∧FE ls s=false∧Cl ls s=2):=UL h1;clear h1;go_wp2_with ((with_reducible (refine As ?_));refine wpList_store_row rfl 25 (.tmp 4) (.tmp 15) rfl w.heap.size #[.int .i64 0,.int .i64 0,.int .i64 0,.int .i64 0,.int .i64 0] rfl rfl 25 _ rr cm5 rfl hz5 ?_)
  have q9:=setRow_heap w1 w.heap.size _ (#[.int .i64 0,.int .i64 0,.int .i64 0,.int .i64 0,.int .i64 0]) 25 _ rr;have d9:=Aj bb (Nat.le_refl _) (#[.int .i64 0,.int .i64 0,.int .i64 0,.int .i64 0,.int .i64 0]);refine bodyPost_ret (Ix rfl _ _ w.heap.size 25 _ (0,0) _ rfl q9 underlying25 rfl cm5) rfl ?_;rw[HF.out.1,HF.out.2.1,HF.out.2.2];exact⟨rfl,d9⟩
def gz:Gh:=⟨fun _=>.z,fun _=>0⟩
theorem Bn{b:Nat}:gz.t b∉([.n 60 0]:List Tg):=by simp[gz]
def Nx(x:NX)(k:Nat):List Value:=(List.range k).map fun j=>S3.v (x.hv j)
theorem RP(x:NX)(k:Nat):Nx x (k+1)=Nx x k++[S3.v (x.hv k)]:=by unfold Nx;rw[List.range_succ,List.map_append];rfl
theorem WT{g:Gh}{w:World}{τ:Tg}{e:TypeId}{y:S3}{x:NX}{r:Rnd}(h:OwnS g w τ false e 1 y (Nx x 5))(hs:∀ j,j<5→Sv w (x.hv j).v (r.heard j).vs):Svv w y.v (r.accs.map (·.vs)):=by
 have hl:=h.len;have hn:y.n=5:=by simp[Nx]at hl;omega
 obtain⟨b,hb,hbs,_⟩:=h.cell (j:=0) (u:=S3.v (x.hv 0)) rfl;refine⟨⟨y.a,y.c,by unfold S3.v;rw[hn];rfl,.inr ⟨b,0,hb,hbs,fun j l hj=>?_⟩⟩,by show 5≤5864062014634;decide⟩;have hj5:j<5:=by have:=(List.getElem?_eq_some_iff.1 hj).1;exact this
 have hlj:(Nx x 5)[j]?=some (S3.v (x.hv j)):=by rcases five hj5 with rfl|rfl|rfl|rfl|rfl<;>rfl
 obtain⟨b',hb',_,hc⟩:=h.cell hlj;rw[hb]at hb'
 simp only[Option.some.injEq,Addr.mk.injEq,and_true]at hb';subst hb';refine⟨S3.v (x.hv j),by rw[Nat.zero_add];exact hc,?_⟩;have h2:=hs j hj5;rcases five hj5 with rfl|rfl|rfl|rfl|rfl<;>(simp[Rnd.accs]at hj;subst hj;exact h2)
theorem R7{l:List Cmd}{f:Cmd→Bool}{j:Nat}{c:Cmd}(h:l[j]?=some c):(l.drop j).find? f=if f c then some c else(l.drop (j+1)).find? f:=by
 rw[CM h,List.find?_cons];split<;>simp_all
theorem IH{g:Gh}{w:World}{i nb ob:Nat}{p:Nod}{ls:List Let}{ts:List Tol}(h:NS i nb ob g w p ls ts){w0:World}(hB:Base w0 g w)(hT:Tabs w0)(s:Nat)(hq:p.rnd.queue.length<100000000)(hba:p.agreed.length<100000000) :
  Calls prog 168 #[pt nb 0,iv (s:Int)] w fun e w'=>e=.returned (.tuple #[.agg (cmC ((p.nextC s).getD Rn)),.bool (p.nextC s).isSome])∧Below w.heap.size w w':=by
 obtain⟨x,lt,tl,hN,hO,hg⟩:=h;have hQ:=hN.queue.rd;have hA:=hN.agreed.rd;have hqn:=hQ.len;have hH:∀ j,j<5→Sv w (x.hv j).v (p.rnd.heard j).vs:=fun j hj=>(hN.heard j hj).s;have hB1:Base w0 gz w:=⟨hB.b,fun _ _=>rfl⟩;refine gIn (fn:=f168) [.n 60 0] gz func168 (by kernel_rfl) (by kernel_rfl) (fun _ _=>⟨rfl,rfl⟩) ?_;refine Bj ⟨nb,.cells (Ao i ob p x) 134,.z,false⟩ (fun _=>⟨hN.row,rfl,fun h=>(by cases h),fun h=>absurd rfl h⟩) (by kernel_rfl) ?_;refine qR [] 21 [1,0,0] fun s1 g1 w1 c1=>?_;refine BE 63 [(0,pt nb 0),(1,iv (s:Int)),(4,pt (s1 0) 0),(6,sn),(19,.agg #[iv ((p.rnd.heard 0).p.r),iv ((p.rnd.heard 0).p.n),S3.v (x.hv 0),iv ((p.rnd.heard 1).p.r),iv ((p.rnd.heard 1).p.n),S3.v (x.hv 1),iv ((p.rnd.heard 2).p.r),iv ((p.rnd.heard 2).p.n),S3.v (x.hv 2),iv ((p.rnd.heard 3).p.r),iv ((p.rnd.heard 3).p.n),S3.v (x.hv 3),iv ((p.rnd.heard 4).p.r),iv ((p.rnd.heard 4).p.n),S3.v (x.hv 4)]),(20,iv 0)] [true,true] [⟨nb,.cells (Ao i ob p x) 134,.z,false⟩,⟨(s1 0),.cells #[iv 0,iv 0,iv 0,iv 0,iv 0] 25,.l,false⟩] (fun k g' w' e L=>∃ (k0:Nat) (y:S3),k=5-k0∧k0≤5∧e=[(0,pt nb 0),(1,iv (s:Int)),(4,pt (s1 0) 0),(6,S3.v y),(19,.agg #[iv (p.rnd.heard 0).p.r,iv (p.rnd.heard 0).p.n,S3.v (x.hv 0),iv (p.rnd.heard 1).p.r,iv (p.rnd.heard 1).p.n,S3.v (x.hv 1),iv (p.rnd.heard 2).p.r,iv (p.rnd.heard 2).p.n,S3.v (x.hv 2),iv (p.rnd.heard 3).p.r,iv (p.rnd.heard 3).p.n,S3.v (x.hv 3),iv (p.rnd.heard 4).p.r,iv (p.rnd.heard 4).p.n,S3.v (x.hv 4)]),(20,iv (k0:Int))]∧L=[⟨nb,.cells (Ao i ob p x) 134,.z,false⟩,⟨(s1 0),.cells #[iv 0,iv 0,iv 0,iv 0,iv 0] 25,.l,false⟩]∧OwnS g' w' (.n 60 0) false 113 1 y (Nx x k0)∧Cg w.heap.size [.n 60 0] gz w g' w') (by kernel_rfl) (by kernel_rfl) (by kernel_rfl) (by kernel_rfl) 5 (fun K=>?_) ?_
 ·exact⟨0,s30,rfl,by omega,rfl,rfl,OwnS.nil _ _ _ _ _ _,(c1.nil [.n 60 0])⟩
 ·rintro k gr wr _ zr _ ⟨k0,y,rfl,hk0,rfl,rfl,hy,hC⟩ J hJ;refine qR [] 5 [] fun s2 g2 w2 c2=>?_;by_cases h1:k0<5
  ·refine qI ((decide ((k0:Int)<5))) true (decide_eq_true (by omega)) ?_;refine qR [] 5 [] fun s3 g3 w3 c3=>?_;refine Wm 0 (.agg #[iv (p.rnd.heard k0).p.r,iv (p.rnd.heard k0).p.n,S3.v (x.hv k0)]) (fun K=>(by rcases five h1 with rfl|rfl|rfl|rfl|rfl<;>kernel_rfl)) (by kernel_rfl) ?_;refine qR [] 8 [0,0,2,0,2,0,0] fun s4 g4 w4 c4=>?_;have hyn:y.n=k0:=by have:=hy.len;simp[Nx]at this;omega
   refine F4 4 (x:=y) 260 260 113 1 24 (.slice none 0 0) ⟨(s4 1),0,none⟩ 1 1 [S3.v (x.hv k0)] (((hy.ch c2 (by simp) (by simp)).ch c3 (by simp) (by simp)).ch c4 (by simp) (by simp)) (by kernel_rfl) (by kernel_rfl) (by kernel_rfl) underlying260 (by kernel_rfl) (by kernel_rfl) (by decide) (by decide) rfl (by simp[Value.oneCell']) (fun K=>CB K 3 (s4 1) [S3.v (x.hv k0)] 113 .z true (by kernel_rfl)) (by unfold maxLen;omega) (by omega) ?_;intro y5 g5 w5 a5 n5 cc5 G5;have c5:=cc5 w.heap.size [.n 60 0] (List.mem_singleton.2 rfl);refine qR [] 4 [] fun s6 g6 w6 c6=>?_;refine qV 0 (iv ((k0:Int)+1)) (B7 (x:=(.tmp 20)) (y:=(.const (iv 1))) (k0:Int) 1 underlying3 (by omega)) ?_;refine qR [] 2 [] fun s7 g7 w7 c7=>?_;exact qB [true,true,false,false] fun z K0 K=>hJ (5-(k0+1)) _ _ _ z _ (by omega) ⟨k0+1,y5,rfl,by omega,rfl,rfl,(by rw[RP];exact((a5.ch c6 (by simp) (by simp)).ch c7 (by simp) (by simp))),((((((hC.trans (c2.nil [.n 60 0])).trans (c3.nil [.n 60 0])).trans (c4.nil [.n 60 0])).trans c5).trans (c6.nil [.n 60 0])).trans (c7.nil [.n 60 0]))⟩ K
  ·refine qI ((decide ((k0:Int)<5))) false (decide_eq_false (by omega)) ?_;obtain rfl:k0=5:=by omega
   refine qR [] 5 [] fun s8 g8 w8 c8=>?_;have hD:=((hC.trans (c2.nil [.n 60 0])).trans (c8.nil [.n 60 0]));have hS:=WT (r:=p.rnd) ((hy.ch c2 (by simp) (by simp)).ch c8 (by simp) (by simp)) (fun j hj=>(hH j hj).below (hD.below (fun _ _=>Bn)));refine qC 2 (UJ _ _ (s:Int) w8 hS ((hB1.ch hD (by simp)).tn hT)) ?_;rintro e' w9 ⟨rfl,b9⟩;refine⟨_,rfl,b9,?_⟩;have c9:=Cg.ofBelow (B:=w.heap.size) (T:=[]) (g:=g8) b9;refine qR [] 15 [0,0,2,0] fun s10 g10 w10 c10=>?_;by_cases h2:(Cl (p.rnd.accs.map (·.vs)) (s:Int))≠0
   ·refine qI (((Cl (p.rnd.accs.map (·.vs)) (s:Int)) != 0)) true (by simpa using h2) ?_;refine qR [] 6 [1,0] fun s11 g11 w11 c11=>?_;rw[show p.nextC s=none from if_pos h2];exact qE2 4 5 25 1 (s1 0) (cmC Rn) (.bool false) fun K=>⟨rfl,Cg.below (((((hC.trans (c2.nil [.n 60 0])).trans (c8.nil [.n 60 0])).trans (c9.nil [.n 60 0])).trans (c10.nil [.n 60 0])).trans (c11.nil [.n 60 0])) (fun _ _=>Bn)⟩
   ·refine qI (((Cl (p.rnd.accs.map (·.vs)) (s:Int)) != 0)) false (by simpa using h2) ?_;refine qR [] 6 [] fun s12 g12 w12 c12=>?_;by_cases h3:(FE (p.rnd.accs.map (·.vs)) (s:Int))=true
    ·refine qI ((FE (p.rnd.accs.map (·.vs)) (s:Int))) true h3 ?_;refine qR [] 6 [2,1,0] fun s13 g13 w13 c13=>?_;rw[show p.nextC s=some (GE (p.rnd.accs.map (·.vs)) (s:Int))from(if_neg h2).trans (if_pos h3)];exact qE2 4 5 25 1 (s1 0) (cmC (GE (p.rnd.accs.map (·.vs)) (s:Int))) (.bool true) fun K=>⟨rfl,Cg.below ((((((hC.trans (c2.nil [.n 60 0])).trans (c8.nil [.n 60 0])).trans (c9.nil [.n 60 0])).trans (c10.nil [.n 60 0])).trans (c12.nil [.n 60 0])).trans (c13.nil [.n 60 0])) (fun _ _=>Bn)⟩
    ·refine qI ((FE (p.rnd.accs.map (·.vs)) (s:Int))) false (by simpa using h3) ?_;refine qR [] 14 [0] fun s14 g14 w14 c14=>?_;have hX:p.nextC s=p.rnd.queue.find? (fun c=>decide (c∉p.agreed)):=(if_neg h2).trans (if_neg h3);refine BE 63 [(0,pt nb 0),(4,pt (s1 0) 0),(46,S3.v x.queue),(47,iv (x.queue.n:Int)),(48,iv 0)] [true,true,false] [⟨nb,.cells (Ao i ob p x) 134,.z,false⟩,⟨(s1 0),.cells #[iv 0,iv 0,iv 0,iv 0,iv 0] 25,.l,false⟩] (fun k g' w' e L=>∃ j:Nat,k=p.rnd.queue.length-j∧j≤p.rnd.queue.length∧e=[(0,pt nb 0),(4,pt (s1 0) 0),(46,S3.v x.queue),(47,iv (x.queue.n:Int)),(48,iv (j:Int))]∧L=[⟨nb,.cells (Ao i ob p x) 134,.z,false⟩,⟨(s1 0),.cells #[iv 0,iv 0,iv 0,iv 0,iv 0] 25,.l,false⟩]∧(p.rnd.queue.drop j).find? (fun c=>decide (c∉p.agreed))=p.nextC s∧Cg w.heap.size [.n 60 0] gz w g' w') (by kernel_rfl) (by kernel_rfl) (by kernel_rfl) (by kernel_rfl) p.rnd.queue.length (fun K=>?_) ?_
     ·exact⟨0,rfl,by omega,rfl,rfl,by rw[hX];rfl,((((((hC.trans (c2.nil [.n 60 0])).trans (c8.nil [.n 60 0])).trans (c9.nil [.n 60 0])).trans (c10.nil [.n 60 0])).trans (c12.nil [.n 60 0])).trans (c14.nil [.n 60 0]))⟩
     ·rintro k gr wr _ zr _ ⟨j,rfl,hj,rfl,rfl,hI,hC2⟩ J hJ;refine qR [] 5 [] fun s15 g15 w15 c15=>?_;by_cases h4:j<p.rnd.queue.length
      ·refine qI ((decide ((j:Int)<(x.queue.n:Int)))) true (decide_eq_true (by omega)) ?_;obtain⟨c,hcj⟩:∃ c,p.rnd.queue[j]?=some c:=⟨_,List.getElem?_eq_getElem h4⟩;obtain⟨bx,ox,hxa⟩:=hQ.addr h4;rw[R7 hcj]at hI
       refine qR [] 5 [] fun s16 g16 w16 c16=>?_;refine qV 0 (pt bx (ox+5*j)) (Og hxa j (by omega)) ?_;have hQr:=hQ.below (((hC2.trans (c15.nil [.n 60 0])).trans (c16.nil [.n 60 0])).below (fun _ _=>Bn));refine qV 1 (.agg #[iv c.k,iv c.c,iv c.s,iv c.n,iv c.v]) (UR c fun q_ u hu=>hQr.cellAt hxa hcj hu) ?_;refine qR [] 11 [0,0,2,0,8,0,2,4,6,8,0,10,2] fun s18 g18 w18 c18=>?_;refine qC 6 (Eg (l:=p.agreed) (hA.below ((((hC2.trans (c15.nil [.n 60 0])).trans (c16.nil [.n 60 0])).trans (c18.nil [.n 60 0])).below (fun _ _=>Bn))) hba c) ?_;rintro e' w19 ⟨rfl,b19⟩;refine⟨_,rfl,b19,?_⟩;have c19:=Cg.ofBelow (B:=w.heap.size) (T:=[]) (g:=g18) b19;refine qR [] 2 [14] fun s20 g20 w20 c20=>?_;by_cases h5:c∈p.agreed
       ·refine qI ((!(decide (c∈p.agreed)))) false (by simpa using h5) ?_;refine qR [] 3 [] fun s21 g21 w21 c21=>?_;refine qV 0 (iv ((j:Int)+1)) (B7 (x:=(.tmp 48)) (y:=(.const (iv 1))) (j:Int) 1 underlying3 (by omega)) ?_;refine qR [] 2 [] fun s22 g22 w22 c22=>?_;exact qB [true,true,false] fun z K0 K=>hJ (p.rnd.queue.length-(j+1)) _ _ _ z _ (by omega) ⟨j+1,rfl,by omega,rfl,rfl,(by rw[← hI,if_neg (by simpa using h5)]),(((((((hC2.trans (c15.nil [.n 60 0])).trans (c16.nil [.n 60 0])).trans (c18.nil [.n 60 0])).trans (c19.nil [.n 60 0])).trans (c20.nil [.n 60 0])).trans (c21.nil [.n 60 0])).trans (c22.nil [.n 60 0]))⟩ K
       ·refine qI ((!(decide (c∈p.agreed)))) true (by simpa using h5) ?_;refine qR [] 6 [2,1,0] fun s23 g23 w23 c23=>?_;rw[if_pos (by simpa using h5)]at hI
        rw[← hI];exact qE2 4 5 25 1 (s1 0) (cmC c) (.bool true) fun K=>⟨rfl,Cg.below ((((((hC2.trans (c15.nil [.n 60 0])).trans (c16.nil [.n 60 0])).trans (c18.nil [.n 60 0])).trans (c19.nil [.n 60 0])).trans (c20.nil [.n 60 0])).trans (c23.nil [.n 60 0])) (fun _ _=>Bn)⟩
      ·refine qI ((decide ((j:Int)<(x.queue.n:Int)))) false (decide_eq_false (by omega)) ?_;refine qR [] 7 [1,0] fun s24 g24 w24 c24=>?_;obtain rfl:j=p.rnd.queue.length:=by omega
       rw[List.drop_length]at hI
       rw[← hI];exact qE2 4 5 25 1 (s1 0) (cmC Rn) (.bool false) fun K=>⟨rfl,Cg.below ((hC2.trans (c15.nil [.n 60 0])).trans (c24.nil [.n 60 0])) (fun _ _=>Bn)⟩
end Go.Proofs.YtakgfdbjgeopdaaGreatDoor
