/- Part 15 of the walk: what the functions of the program do, one by one. -/
import Derived.Test.YtakgfdbjgeopdaaGreatDoorZ14
set_option maxRecDepth 100000
set_option maxHeartbeats 4000000
open Go.Proofs.Tryz
set_option linter.unusedVariables false
namespace Go.Proofs.YtakgfdbjgeopdaaGreatDoor
open Go.RowKit
theorem QH(a b a' b':Int):∀ w,(binOp .neq 112 (.agg #[.int .i64 a,.int .i64 b]) (.agg #[.int .i64 a',.int .i64 b'])).run prog w=.ok (.bool (!decide (a=a'∧b=b'))) w:=by
 intro w;rw[run_neq_struct,run_equalIn_agg w 9999 _ _ _ (by kernel_rfl) (by kernel_rfl)];unfold Program.fieldsOf;rw[underlying112];have h3:=underlying3;simp[Op.eqFields,go_sem,h3]
 repeat' split
 all_goals simp_all
def DM(l:List Vt)(n:Int):Prop:=0≤n∧n≤40∧∀ s:Int,0≤s→(n≤s↔∀ u∈l,u.slot<s)
theorem DM.nil:DM [] 0:=⟨by omega,by omega,fun s hs=>⟨fun _ u hu=>(List.not_mem_nil hu).elim,fun _=>hs⟩⟩
theorem DM.snoc{l:List Vt}{n:Int}(h:DM l n){v:Vt}(h0:0≤v.slot)(h1:v.slot≤39)(hv:n≤v.slot):DM (l++[v]) (v.slot+1):=by
 refine⟨by omega,by omega,fun s hs=>⟨fun g u hu=>?_,fun g=>?_⟩⟩
 ·rcases List.mem_append.1 hu with hu|hu
  ·exact(h.2.2 s hs).1 (by omega) u hu
  ·obtain rfl:u=v:=by simpa using hu
   omega
 ·have:=g v (by simp);omega
theorem Hh(p:Bal)(x:Value)(l:List Vt)(w:World)(h:Sv w x l)(ht:NTab w) :
  Calls prog 206 #[.agg (acA p x)] w fun e w'=>e=.returned (.int .i64 (F0 ⟨p,l⟩))∧Below w.heap.size w w':=by
 obtain⟨pr,pn⟩:=p;have hlen:=h.len;obtain⟨ax,cp,rfl⟩:=h.shape;obtain⟨M,hM⟩:∃ M,l.length=M:=⟨_,rfl⟩;have HM:Hid (l.length=M):=hM;rw[hM]at h hlen ⊢
 clear hM;have bb:Below w.heap.size w (w.alloc (.cells #[.int .i64 pr,.int .i64 pn,.slice ax M cp] 115)):=(Below.refl _ _).alloc (Nat.le_refl _) _;have rr:=heap_alloc_new w (.cells #[.int .i64 pr,.int .i64 pn,.slice ax M cp] 115);simp only[acA];generalize hW:w.alloc (.cells #[.int .i64 pr,.int .i64 pn,.slice ax M cp] 115)=W0 at bb rr;have ltA0:w.heap.size<W0.heap.size:=(Array.getElem?_eq_some_iff.1 rr).1;have a0:W0.cell? ⟨w.heap.size,0,none⟩=some (.int .i64 pr):=cell_of_row _ _ 0 _ _ _ rr;have a1:W0.cell? ⟨w.heap.size,1,none⟩=some (.int .i64 pn):=cell_of_row _ _ 1 _ _ _ rr;have a2:W0.cell? ⟨w.heap.size,2,none⟩=some (.slice ax M cp):=cell_of_row _ _ 2 _ _ _ rr;have hq:=QH pr pn 0 0;clear rr;go_enter func206,ntmps206
 by_cases hz:pr=0∧pn=0
 ·have HP:Hid (Bq ⟨pr,pn⟩):=.inr hz;rw[decide_eq_true hz]at hq
  obtain⟨rfl,rfl⟩:=hz;go_wp2_with fail
  clear hW hq;have ltA1:=ltA0;have d1:=bb;have h1:=h.below bb;have t1:=ht.below bb;clear ltA0 bb
  go_loopw [3,19] (fun nv iv wr=>∃ (j:Nat) (n:Int),j≤M∧iv=.int .i64 (j:Int)∧nv=.int .i64 n∧OkV ⟨0,0⟩ (l.take j)∧DM (l.take j) n∧Below W0.heap.size W0 wr) (fun _ iv _=>((M:Int)-intOf iv).toNat)
  case atStart=>exact⟨0,0,by omega,rfl,rfl,⟨fun v hv=>(List.not_mem_nil hv).elim,trivial⟩,DM.nil,Below.refl _ _⟩
  case round =>
   obtain⟨j,n,hj,rfl,rfl,hok,hnx,hbel⟩:=hrel;have HK:Hid (OkV ⟨0,0⟩ (l.take j)):=hok;have HN:Hid (DM (l.take j) n):=hnx;have hn0:=hnx.1;have hn1:=hnx.2.1;clear hok hnx;have a0r:=(hbel.cell (p:=⟨w.heap.size,0,none⟩) ltA1).trans a0;have a1r:=(hbel.cell (p:=⟨w.heap.size,1,none⟩) ltA1).trans a1;have a2r:=(hbel.cell (p:=⟨w.heap.size,2,none⟩) ltA1).trans a2;have hr1:=h1.below hbel;have tr:=t1.below hbel;have dr:=d1.trans (hbel.mono d1.size);have ltAr:w.heap.size<wr.heap.size:=Nat.lt_of_lt_of_le ltA1 hbel.size;by_cases hjM:j<M
   ·have hji:(j:Int)<(M:Int):=by omega
    obtain⟨v,hv⟩:∃ v,l[j]?=some v:=⟨_,List.getElem?_eq_getElem (by have:=HM.out;omega)⟩;obtain⟨b,off,hax,ltb,hrg⟩:=hr1.spot j v hv;subst hax;have hix:=Dd b off M cp j hjM;have hsz:=H7 v;have HT:Hid (l.take (j+1)=l.take j++[v]):=Dz l j v hv;obtain⟨vs,⟨vr,vn⟩,⟨vk,vc,vq,vm,vx⟩⟩:=v;have HBad:Hid (AE ⟨⟨0,0⟩,l⟩→Ah ⟨vs,⟨vr,vn⟩,⟨vk,vc,vq,vm,vx⟩⟩∧¬ Bal.lt ⟨0,0⟩ ⟨vr,vn⟩∧∀ u∈l.take j,u.slot<vs):=fun g=>by
     have g2:OkV ⟨0,0⟩ (l.take (j+1)++l.drop (j+1)):=by rw[List.take_append_drop];exact g.2
     have g3:=g2.left;rw[HT.out]at g3
     exact(HK.out.snoc _).1 g3
    clear hv;simp only[vtC]at hrg hsz;have bN:Below wr.heap.size wr (wr.alloc (.cells #[.int .i64 0,.int .i64 0,.int .i64 0,.int .i64 0,.int .i64 0,.int .i64 0,.int .i64 0,.int .i64 0] 175)):=(Below.refl _ _).alloc (Nat.le_refl _) _;have rN:=heap_alloc_new wr (.cells #[.int .i64 0,.int .i64 0,.int .i64 0,.int .i64 0,.int .i64 0,.int .i64 0,.int .i64 0,.int .i64 0] 175);have hsz2:(prog.info? 175).map (·.size)=some (#[.int .i64 vs,.int .i64 vr,.int .i64 vn,.int .i64 vk,.int .i64 vc,.int .i64 vq,.int .i64 vm,.int .i64 vx]:Array Value).size:=hsz;have hone:(#[.int .i64 vs,.int .i64 vr,.int .i64 vn,.int .i64 vk,.int .i64 vc,.int .i64 vq,.int .i64 vm,.int .i64 vx]:Array Value).all (·.oneCell')=true:=by simp[Value.oneCell']
    generalize hWN:wr.alloc (.cells #[.int .i64 0,.int .i64 0,.int .i64 0,.int .i64 0,.int .i64 0,.int .i64 0,.int .i64 0,.int .i64 0] 175)=WN at bN rN
    go_upto_region 7 with((with_reducible (refine As ?_));first|(refine wpList_load_mid rfl 175 (.tmp 21) rfl b (off+8*j) rfl [.int .i64 vs,.int .i64 vr,.int .i64 vn,.int .i64 vk,.int .i64 vc,.int .i64 vq,.int .i64 vm,.int .i64 vx] _ hrg underlying175 rfl hsz ?_)|(refine wpList_store_row rfl 175 (.tmp 5) (.tmp 22) rfl wr.heap.size (#[.int .i64 vs,.int .i64 vr,.int .i64 vn,.int .i64 vk,.int .i64 vc,.int .i64 vq,.int .i64 vm,.int .i64 vx]) rfl rfl 175 _ rN hsz2 rfl hone ?_))
    clear hWN;have q:=setRow_heap WN wr.heap.size _ (#[.int .i64 vs,.int .i64 vr,.int .i64 vn,.int .i64 vk,.int .i64 vc,.int .i64 vq,.int .i64 vm,.int .i64 vx]) 175 _ rN;replace bN:=Aj bN (Nat.le_refl _) (#[.int .i64 vs,.int .i64 vr,.int .i64 vn,.int .i64 vk,.int .i64 vc,.int .i64 vq,.int .i64 vm,.int .i64 vx]);generalize WN.setRow wr.heap.size (#[.int .i64 vs,.int .i64 vr,.int .i64 vn,.int .i64 vk,.int .i64 vc,.int .i64 vq,.int .i64 vm,.int .i64 vx])=W at q bN ⊢;have dW:=dr.trans (bN.mono dr.size);have eW:=hbel.trans (bN.mono hbel.size);have ltG:wr.heap.size<W.heap.size:=(Array.getElem?_eq_some_iff.1 q).1;have ltA:w.heap.size<W.heap.size:=by omega
    have rA0:=(bN.cell (p:=⟨w.heap.size,0,none⟩) ltAr).trans a0r;have rA1:=(bN.cell (p:=⟨w.heap.size,1,none⟩) ltAr).trans a1r;have tW:=tr.below bN;clear rN a0r a1r a2r hrg hix hsz2 bN hr1 tr;generalize wr.heap.size=G at q ltG ⊢;go_wp2_with ((with_reducible (refine As ?_));refine wpList_load_row rfl 175 _ rfl G rfl 175 _ (0,0) _ q underlying175 rfl hsz ?_)
    refine(G4 ⟨vs,⟨vr,vn⟩,⟨vk,vc,vq,vm,vx⟩⟩ W tW).mono ?_;rintro e W2 ⟨rfl,b2⟩;have d2:=dW.trans (b2.mono dW.size);have e2:=eW.trans (b2.mono eW.size);have q2:=(b2.block _ ltG).trans q;have x0:W2.cell? ⟨G,0,none⟩=some (.int .i64 vs):=cell_of_row _ _ 0 _ _ _ q2;have x1:W2.cell? ⟨G,1,none⟩=some (.int .i64 vr):=cell_of_row _ _ 1 _ _ _ q2;have x2:W2.cell? ⟨G,2,none⟩=some (.int .i64 vn):=cell_of_row _ _ 2 _ _ _ q2;replace rA0:=(b2.cell (p:=⟨w.heap.size,0,none⟩) ltA).trans rA0;replace rA1:=(b2.cell (p:=⟨w.heap.size,1,none⟩) ltA).trans rA1;have ltG2:G<W2.heap.size:=Nat.lt_of_lt_of_le ltG b2.size;clear b2 q eW dW tW ltG;by_cases hv:Ah ⟨vs,⟨vr,vn⟩,⟨vk,vc,vq,vm,vx⟩⟩
    ·rw[decide_eq_true hv];by_cases hs:vs<n
     ·have HE:Hid (5=F0 ⟨⟨0,0⟩,l⟩):=(if_neg (fun g=>by
       have g1:=(HBad.out g).2.2;have g2:=(HN.out.2.2 vs hv.1.1).2 g1;omega)).symm
      clear hv;go_wp2
      go_ret;exact⟨AC HE.out,d2⟩
     ·have hs':n≤vs:=by omega
      go_wp2_with fail
      refine(Di ⟨0,0⟩ ⟨vr,vn⟩ W2).mono ?_;rintro e W3 ⟨rfl,b3⟩;have d3:=d2.trans (b3.mono d2.size);have e3:=e2.trans (b3.mono e2.size);have x0:=(b3.cell (p:=⟨G,0,none⟩) ltG2).trans x0;by_cases hb:Bal.lt ⟨0,0⟩ ⟨vr,vn⟩
      ·rw[decide_eq_true hb];have HE:Hid (5=F0 ⟨⟨0,0⟩,l⟩):=(if_neg (fun g=>(HBad.out g).2.1 hb)).symm;clear hv hb;go_wp2
       go_ret;exact⟨AC HE.out,d3⟩
      ·rw[decide_eq_false hb];have hv1:0≤vs:=hv.1.1;have hv2:vs≤39:=hv.1.2;have HK2:Hid (OkV ⟨0,0⟩ (l.take (j+1))):=by unfold Hid;rw[HT.out];exact(HK.out.snoc _).2 ⟨hv,hb,(HN.out.2.2 vs hv1).1 hs'⟩
       have HN2:Hid (DM (l.take (j+1)) (vs+1)):=by unfold Hid;rw[HT.out];exact HN.out.snoc (v:=⟨vs,⟨vr,vn⟩,⟨vk,vc,vq,vm,vx⟩⟩) hv1 hv2 hs'
       clear hv hb HBad HK HN HT;go_wp2
       go_roundw
       case rel=>exact⟨j+1,vs+1,by omega,by go_num,by go_num,HK2.out,HN2.out,e3⟩
       case measure=>simp[intOf];omega
    ·rw[decide_eq_false hv];have HE:Hid (5=F0 ⟨⟨0,0⟩,l⟩):=(if_neg (fun g=>hv (HBad.out g).1)).symm;clear hv;go_wp2
     go_ret;exact⟨AC HE.out,d2⟩
   ·obtain rfl:j=M:=by omega
    have HE:Hid (0=F0 ⟨⟨0,0⟩,l⟩):=by
     have g:=HK.out;rw[List.take_of_length_le (by have:=HM.out;omega)]at g
     exact(if_pos ⟨HP.out,g.1,g.2⟩).symm
    go_wp2
    go_ret;exact⟨AC HE.out,dr⟩
 ·rw[decide_eq_false hz]at hq
  go_wp2_with fail
  clear hW hq;refine(J8 ⟨pr,pn⟩ _).mono ?_;rintro e w1 ⟨rfl,b1⟩;have d1:=bb.trans (b1.mono bb.size);replace a0:=(b1.cell (p:=⟨w.heap.size,0,none⟩) ltA0).trans a0;replace a1:=(b1.cell (p:=⟨w.heap.size,1,none⟩) ltA0).trans a1;replace a2:=(b1.cell (p:=⟨w.heap.size,2,none⟩) ltA0).trans a2;have ltA1:w.heap.size<w1.heap.size:=Nat.lt_of_lt_of_le ltA0 b1.size;have h1:=h.below d1;have t1:=ht.below d1;clear b1 bb ltA0;by_cases hp:Af ⟨pr,pn⟩
  ·have HP:Hid (Bq ⟨pr,pn⟩):=.inl hp;rw[decide_eq_true hp];clear hp hz;go_wp2_with fail
   go_loopw [3,19] (fun nv iv wr=>∃ (j:Nat) (n:Int),j≤M∧iv=.int .i64 (j:Int)∧nv=.int .i64 n∧OkV ⟨pr,pn⟩ (l.take j)∧DM (l.take j) n∧Below w1.heap.size w1 wr) (fun _ iv _=>((M:Int)-intOf iv).toNat)
   case atStart=>exact⟨0,0,by omega,rfl,rfl,⟨fun v hv=>(List.not_mem_nil hv).elim,trivial⟩,DM.nil,Below.refl _ _⟩
   case round =>
    obtain⟨j,n,hj,rfl,rfl,hok,hnx,hbel⟩:=hrel;have HK:Hid (OkV ⟨pr,pn⟩ (l.take j)):=hok;have HN:Hid (DM (l.take j) n):=hnx;have hn0:=hnx.1;have hn1:=hnx.2.1;clear hok hnx;have a0r:=(hbel.cell (p:=⟨w.heap.size,0,none⟩) ltA1).trans a0;have a1r:=(hbel.cell (p:=⟨w.heap.size,1,none⟩) ltA1).trans a1;have a2r:=(hbel.cell (p:=⟨w.heap.size,2,none⟩) ltA1).trans a2;have hr1:=h1.below hbel;have tr:=t1.below hbel;have dr:=d1.trans (hbel.mono d1.size);have ltAr:w.heap.size<wr.heap.size:=Nat.lt_of_lt_of_le ltA1 hbel.size;by_cases hjM:j<M
    ·have hji:(j:Int)<(M:Int):=by omega
     obtain⟨v,hv⟩:∃ v,l[j]?=some v:=⟨_,List.getElem?_eq_getElem (by have:=HM.out;omega)⟩;obtain⟨b,off,hax,ltb,hrg⟩:=hr1.spot j v hv;subst hax;have hix:=Dd b off M cp j hjM;have hsz:=H7 v;have HT:Hid (l.take (j+1)=l.take j++[v]):=Dz l j v hv;obtain⟨vs,⟨vr,vn⟩,⟨vk,vc,vq,vm,vx⟩⟩:=v;have HBad:Hid (AE ⟨⟨pr,pn⟩,l⟩→Ah ⟨vs,⟨vr,vn⟩,⟨vk,vc,vq,vm,vx⟩⟩∧¬ Bal.lt ⟨pr,pn⟩ ⟨vr,vn⟩∧∀ u∈l.take j,u.slot<vs):=fun g=>by
      have g2:OkV ⟨pr,pn⟩ (l.take (j+1)++l.drop (j+1)):=by rw[List.take_append_drop];exact g.2
      have g3:=g2.left;rw[HT.out]at g3
      exact(HK.out.snoc _).1 g3
     clear hv;simp only[vtC]at hrg hsz;have bN:Below wr.heap.size wr (wr.alloc (.cells #[.int .i64 0,.int .i64 0,.int .i64 0,.int .i64 0,.int .i64 0,.int .i64 0,.int .i64 0,.int .i64 0] 175)):=(Below.refl _ _).alloc (Nat.le_refl _) _;have rN:=heap_alloc_new wr (.cells #[.int .i64 0,.int .i64 0,.int .i64 0,.int .i64 0,.int .i64 0,.int .i64 0,.int .i64 0,.int .i64 0] 175);have hsz2:(prog.info? 175).map (·.size)=some (#[.int .i64 vs,.int .i64 vr,.int .i64 vn,.int .i64 vk,.int .i64 vc,.int .i64 vq,.int .i64 vm,.int .i64 vx]:Array Value).size:=hsz;have hone:(#[.int .i64 vs,.int .i64 vr,.int .i64 vn,.int .i64 vk,.int .i64 vc,.int .i64 vq,.int .i64 vm,.int .i64 vx]:Array Value).all (·.oneCell')=true:=by simp[Value.oneCell']
     generalize hWN:wr.alloc (.cells #[.int .i64 0,.int .i64 0,.int .i64 0,.int .i64 0,.int .i64 0,.int .i64 0,.int .i64 0,.int .i64 0] 175)=WN at bN rN
     go_upto_region 7 with((with_reducible (refine As ?_));first|(refine wpList_load_mid rfl 175 (.tmp 21) rfl b (off+8*j) rfl [.int .i64 vs,.int .i64 vr,.int .i64 vn,.int .i64 vk,.int .i64 vc,.int .i64 vq,.int .i64 vm,.int .i64 vx] _ hrg underlying175 rfl hsz ?_)|(refine wpList_store_row rfl 175 (.tmp 5) (.tmp 22) rfl wr.heap.size (#[.int .i64 vs,.int .i64 vr,.int .i64 vn,.int .i64 vk,.int .i64 vc,.int .i64 vq,.int .i64 vm,.int .i64 vx]) rfl rfl 175 _ rN hsz2 rfl hone ?_))
     clear hWN;have q:=setRow_heap WN wr.heap.size _ (#[.int .i64 vs,.int .i64 vr,.int .i64 vn,.int .i64 vk,.int .i64 vc,.int .i64 vq,.int .i64 vm,.int .i64 vx]) 175 _ rN;replace bN:=Aj bN (Nat.le_refl _) (#[.int .i64 vs,.int .i64 vr,.int .i64 vn,.int .i64 vk,.int .i64 vc,.int .i64 vq,.int .i64 vm,.int .i64 vx]);generalize WN.setRow wr.heap.size (#[.int .i64 vs,.int .i64 vr,.int .i64 vn,.int .i64 vk,.int .i64 vc,.int .i64 vq,.int .i64 vm,.int .i64 vx])=W at q bN ⊢;have dW:=dr.trans (bN.mono dr.size);have eW:=hbel.trans (bN.mono hbel.size);have ltG:wr.heap.size<W.heap.size:=(Array.getElem?_eq_some_iff.1 q).1;have ltA:w.heap.size<W.heap.size:=by omega
     have rA0:=(bN.cell (p:=⟨w.heap.size,0,none⟩) ltAr).trans a0r;have rA1:=(bN.cell (p:=⟨w.heap.size,1,none⟩) ltAr).trans a1r;have tW:=tr.below bN;clear rN a0r a1r a2r hrg hix hsz2 bN hr1 tr;generalize wr.heap.size=G at q ltG ⊢;go_wp2_with ((with_reducible (refine As ?_));refine wpList_load_row rfl 175 _ rfl G rfl 175 _ (0,0) _ q underlying175 rfl hsz ?_)
     refine(G4 ⟨vs,⟨vr,vn⟩,⟨vk,vc,vq,vm,vx⟩⟩ W tW).mono ?_;rintro e W2 ⟨rfl,b2⟩;have d2:=dW.trans (b2.mono dW.size);have e2:=eW.trans (b2.mono eW.size);have q2:=(b2.block _ ltG).trans q;have x0:W2.cell? ⟨G,0,none⟩=some (.int .i64 vs):=cell_of_row _ _ 0 _ _ _ q2;have x1:W2.cell? ⟨G,1,none⟩=some (.int .i64 vr):=cell_of_row _ _ 1 _ _ _ q2;have x2:W2.cell? ⟨G,2,none⟩=some (.int .i64 vn):=cell_of_row _ _ 2 _ _ _ q2;replace rA0:=(b2.cell (p:=⟨w.heap.size,0,none⟩) ltA).trans rA0;replace rA1:=(b2.cell (p:=⟨w.heap.size,1,none⟩) ltA).trans rA1;have ltG2:G<W2.heap.size:=Nat.lt_of_lt_of_le ltG b2.size;clear b2 q eW dW tW ltG;by_cases hv:Ah ⟨vs,⟨vr,vn⟩,⟨vk,vc,vq,vm,vx⟩⟩
     ·rw[decide_eq_true hv];by_cases hs:vs<n
      ·have HE:Hid (5=F0 ⟨⟨pr,pn⟩,l⟩):=(if_neg (fun g=>by
        have g1:=(HBad.out g).2.2;have g2:=(HN.out.2.2 vs hv.1.1).2 g1;omega)).symm
       clear hv;go_wp2
       go_ret;exact⟨AC HE.out,d2⟩
      ·have hs':n≤vs:=by omega
       go_wp2_with fail
       refine(Di ⟨pr,pn⟩ ⟨vr,vn⟩ W2).mono ?_;rintro e W3 ⟨rfl,b3⟩;have d3:=d2.trans (b3.mono d2.size);have e3:=e2.trans (b3.mono e2.size);have x0:=(b3.cell (p:=⟨G,0,none⟩) ltG2).trans x0;by_cases hb:Bal.lt ⟨pr,pn⟩ ⟨vr,vn⟩
       ·rw[decide_eq_true hb];have HE:Hid (5=F0 ⟨⟨pr,pn⟩,l⟩):=(if_neg (fun g=>(HBad.out g).2.1 hb)).symm;clear hv hb;go_wp2
        go_ret;exact⟨AC HE.out,d3⟩
       ·rw[decide_eq_false hb];have hv1:0≤vs:=hv.1.1;have hv2:vs≤39:=hv.1.2;have HK2:Hid (OkV ⟨pr,pn⟩ (l.take (j+1))):=by unfold Hid;rw[HT.out];exact(HK.out.snoc _).2 ⟨hv,hb,(HN.out.2.2 vs hv1).1 hs'⟩
        have HN2:Hid (DM (l.take (j+1)) (vs+1)):=by unfold Hid;rw[HT.out];exact HN.out.snoc (v:=⟨vs,⟨vr,vn⟩,⟨vk,vc,vq,vm,vx⟩⟩) hv1 hv2 hs'
        clear hv hb HBad HK HN HT;go_wp2
        go_roundw
        case rel=>exact⟨j+1,vs+1,by omega,by go_num,by go_num,HK2.out,HN2.out,e3⟩
        case measure=>simp[intOf];omega
     ·rw[decide_eq_false hv];have HE:Hid (5=F0 ⟨⟨pr,pn⟩,l⟩):=(if_neg (fun g=>hv (HBad.out g).1)).symm;clear hv;go_wp2
      go_ret;exact⟨AC HE.out,d2⟩
    ·obtain rfl:j=M:=by omega
     have HE:Hid (0=F0 ⟨⟨pr,pn⟩,l⟩):=by
      have g:=HK.out;rw[List.take_of_length_le (by have:=HM.out;omega)]at g
      exact(if_pos ⟨HP.out,g.1,g.2⟩).symm
     go_wp2
     go_ret;exact⟨AC HE.out,dr⟩
  ·rw[decide_eq_false hp];have HE:Hid (5=F0 ⟨⟨pr,pn⟩,l⟩):=(if_neg (fun g=>g.1.elim hp hz)).symm;clear hp hz;go_wp2
   go_ret;exact⟨AC HE.out,d1⟩
end Go.Proofs.YtakgfdbjgeopdaaGreatDoor
namespace Go.Proofs.YtakgfdbjgeopdaaGreatDoor
structure Plc(l:List Vt)(s:Int)(p:Nat):Prop where
 le:p≤l.length
 lo:∀ (i:Nat) (v:Vt),i<p→l[i]?=some v→v.slot<s
 hi:∀ (i:Nat) (v:Vt),p≤i→l[i]?=some v→s≤v.slot
theorem Lh(a b:List Vt)(v:Vt)(h:∀ u∈a,u.slot<v.slot):Bo (a++b) v=a++Bo b v:=by
 induction a with
 | nil=>rfl
 | cons x a ih =>
  show Bo (x::(a++b)) v=x::(a++Bo b v);rw[Bo,if_pos (h x List.mem_cons_self),ih (fun u hu=>h u (List.mem_cons_of_mem _ hu))]
theorem Plc.front{l:List Vt}{s:Int}{p:Nat}(h:Plc l s p):∀ u∈l.take p,u.slot<s:=by
 intro u hu;obtain⟨i,hi⟩:=List.mem_iff_getElem?.1 hu;rw[List.getElem?_take]at hi
 split at hi
 ·rename_i hip;exact h.lo i u hip hi
 ·cases hi
theorem Plc.has{l:List Vt}{v u:Vt}{p:Nat}(h:Plc l v.slot p)(hu:l[p]?=some u)(he:u.slot=v.slot):Bo l v=l.take p++(v::l.drop (p+1)):=by
 obtain⟨hp,e⟩:=List.getElem?_eq_some_iff.1 hu;have hd:l.drop p=u::l.drop (p+1):=by rw[← e];exact List.drop_eq_getElem_cons hp
 have h1:=Lh (l.take p) (l.drop p) v h.front;rw[List.take_append_drop]at h1
 rw[h1,hd,Bo,if_neg (by omega),if_pos he]
theorem Plc.no{l:List Vt}{v:Vt}{p:Nat}(h:Plc l v.slot p)(hn:∀ u,l[p]?=some u→u.slot≠v.slot):Bo l v=l.take p++(v::l.drop p):=by
 have h1:=Lh (l.take p) (l.drop p) v h.front;rw[List.take_append_drop]at h1
 rw[h1];rcases Nat.lt_or_ge p l.length with hp|hp
 ·have hd:l.drop p=l[p]::l.drop (p+1):=List.drop_eq_getElem_cons hp;have h2:=h.hi p l[p] (Nat.le_refl _) (List.getElem?_eq_getElem hp);have h3:=hn l[p] (List.getElem?_eq_getElem hp);rw[hd,Bo,if_neg (by omega),if_neg h3]
 ·rw[List.drop_eq_nil_of_le hp,Bo]
theorem Plc.ofSlot_has{l:List Vt}{s:Int}{p:Nat}{u:Vt}(hr:B4 l)(hu:l[p]?=some u)(he:u.slot=s):Am l s=[u]:=by
 have h1:=Hs hr s;have h2:u∈Am l s:=CF.2 ⟨List.mem_iff_getElem?.2 ⟨p,hu⟩,he⟩
 match hl:Am l s with
 | []=>rw[hl]at h2;cases h2
 | [x]=>rw[hl]at h2;rw[List.mem_singleton.1 h2]
 | x::y::r=>rw[hl]at h1;simp at h1
theorem Plc.ofSlot_no{l:List Vt}{s:Int}{p:Nat}(hr:B4 l)(h:Plc l s p)(hn:∀ u,l[p]?=some u→u.slot≠s):Am l s=[]:=by
 rw[List.eq_nil_iff_forall_not_mem];intro u hu;obtain⟨hu,he⟩:=CF.1 hu;obtain⟨i,hi⟩:=List.mem_iff_getElem?.1 hu;rcases Nat.lt_trichotomy i p with hip|rfl|hip
 ·have:=h.lo i u hip hi;omega
 ·exact hn u hi he
 ·have hip':i<l.length:=(List.getElem?_eq_some_iff.1 hi).1;have hp:p<l.length:=by omega
  have h2:=h.hi p l[p] (Nat.le_refl _) (List.getElem?_eq_getElem hp);have h3:=rise_lt hr hip (List.getElem?_eq_getElem hp) hi;omega
where
 rise_lt:∀ {l:List Vt} (hr:B4 l) {i j:Nat} (hij:i<j) {u v:Vt} (hu:l[i]?=some u) (hv:l[j]?=some v),u.slot<v.slot
  | x::xs,hr,0,j+1,_,u,v,hu,hv=>by
   simp at hu hv;subst hu;exact hr.1 v (List.mem_iff_getElem?.2 ⟨j,hv⟩)
  | x::xs,hr,i+1,j+1,hij,u,v,hu,hv=>rise_lt (l:=xs) hr.2 (i:=i) (j:=j) (by omega) (by simpa using hu) (by simpa using hv)
  | [],_,i,j,_,u,v,hu,hv=>by simp at hu
theorem B4.get{l:List Vt}(hr:B4 l){i j:Nat}(hij:i<j){u v:Vt}(hu:l[i]?=some u)(hv:l[j]?=some v):u.slot<v.slot:=Plc.ofSlot_no.rise_lt hr hij hu hv
theorem Plc.half{l:List Vt}(hr:B4 l){s:Int}{i j h:Nat}{u:Vt}(hu:l[h]?=some u)(hlo:∀ (k:Nat) (v:Vt),k<i→l[k]?=some v→v.slot<s)(hhi:∀ (k:Nat) (v:Vt),j≤k→l[k]?=some v→s≤v.slot) :
  (u.slot<s→∀ (k:Nat) (v:Vt),k<h+1→l[k]?=some v→v.slot<s)∧(s≤u.slot→∀ (k:Nat) (v:Vt),h≤k→l[k]?=some v→s≤v.slot):=by
 constructor
 ·intro g k v hk hv;rcases Nat.lt_or_ge k h with hkh|hkh
  ·have:=hr.get hkh hv hu;omega
  ·obtain rfl:k=h:=by omega
   rw[hu]at hv;cases hv;exact g
 ·intro g k v hk hv;rcases Nat.lt_or_ge h k with hkh|hkh
  ·have:=hr.get hkh hu hv;omega
  ·obtain rfl:k=h:=by omega
   rw[hu]at hv;cases hv;exact g
def NB(o:Option Vt)(v:Vt):Option Vt:=match o with
 | none=>some v
 | some u=>if u.b.lt v.b then some v else some u
theorem OF(l:List Vt)(v:Vt)(o:Option Vt):Ch (l++[v]) o=NB (Ch l o) v:=by
 induction l generalizing o with
 | nil =>
  cases o with
  | none=>rfl
  | some u =>
   show Ch [v] (some u)=NB (some u) v;rw[Ch,NB];split<;>rfl
 | cons x l ih =>
  cases o with
  | none=>exact ih _
  | some u =>
   show Ch (x::(l++[v])) (some u)=NB (Ch (x::l) (some u)) v;rw[Ch,Ch];split
   ·exact ih _
   ·exact ih _
def vt0:Vt:=⟨0,⟨0,0⟩,⟨0,0,0,0,0⟩⟩
def D4(o:Option Vt)(x:Vt):Prop:=(o=none∧x=vt0)∨(o=some x∧Af x.b)
theorem D4.next{o:Option Vt}{x v:Vt}(h:D4 o x)(hv:Af v.b):D4 (NB o v) (if x.b.lt v.b then v else x):=by
 rcases h with⟨rfl,rfl⟩|⟨rfl,hx⟩
 ·rw[if_pos (by unfold Af at hv;unfold Bal.lt;simp[vt0];omega)];exact .inr ⟨rfl,hv⟩
 ·show D4 (if x.b.lt v.b then some v else some x) _;split
  ·exact .inr ⟨rfl,hv⟩
  ·exact .inr ⟨rfl,hx⟩
theorem D4.pick{ls:List (List Vt)}{s:Int}{x:Vt}(hs:0≤s∧s≤39)(hb:∀ l∈ls,∀ v∈l,Ah v)(h:D4 (NU ls s) x):(if Cl ls s=0 then((NU ls s).map (·.w)).getD ⟨0,0,0,0,0⟩else⟨0,0,0,0,0⟩)=x.w∧(if Cl ls s=0 then(NU ls s).isSome else false)=!decide (x.b.r=0∧x.b.n=0)∧Cl ls s=0:=by
 have e:Cl ls s=0:=by unfold Cl;rw[if_neg (fun g=>g hs),if_pos hb]
 rw[if_pos e,if_pos e];rcases h with⟨h1,rfl⟩|⟨h1,h2⟩
 ·rw[h1];exact⟨rfl,rfl,e⟩
 ·rw[h1];refine⟨rfl,?_,e⟩;rw[decide_eq_false (by unfold Af at h2;omega)];rfl
theorem U8(l:List Vt){u v:Vt}(h:u≠v):Cv l u+Cv l v≤l.length:=by
 induction l with
 | nil=>simp[Cv]
 | cons x l ih =>
  unfold Cv at ih ⊢;rw[List.countP_cons,List.countP_cons,List.length_cons];by_cases hx:x=u
  ·subst hx;rw[if_pos (by simp),if_neg (by simp[h])];omega
  ·by_cases hy:x=v
   ·subst hy;rw[if_neg (by simp[hx]),if_pos (by simp)];omega
   ·rw[if_neg (by simp[hx]),if_neg (by simp[hy])];omega
theorem U7{l:List Vt}{v:Vt}(h:0<Cv l v):v∈l:=by
 unfold Cv at h;obtain⟨u,hu,e⟩:=List.countP_pos_iff.1 h;rw[← of_decide_eq_true e];exact hu
theorem WL(a b:List Vt)(v:Vt):Cv a v≤Cv (a++b) v:=by
 unfold Cv;rw[List.countP_append];omega
theorem ON{l:List Vt}{m:Nat}{v:Vt}(hl:l.length≤m)(h:m<2*Cv l v):Hi l m=some v:=by
 cases hf:Hi l m with
 | none =>
  have:=List.find?_eq_none.1 hf v (U7 (by omega));simp at this;omega
 | some u =>
  have hu:=List.find?_some hf;simp at hu;by_cases e:u=v
  ·rw[e]
  ·have:=U8 l e;omega
theorem Tr{l:List Vt}{m:Nat}(h:∀ v,2*Cv l v≤m):Hi l m=none:=by
 unfold Hi;rw[List.find?_eq_none];intro v _;have:=h v;simp;omega
end Go.Proofs.YtakgfdbjgeopdaaGreatDoor
namespace Go.Proofs.YtakgfdbjgeopdaaGreatDoor
open Go.RowKit
theorem Sv.first{w:World}{a:Option Addr}{n cap:Nat}{l:List Vt}(h:Sv w (.slice a n cap) l)(i:Nat)(v:Vt)(hi:l[i]?=some v):∃ b off,a=some ⟨b,off,none⟩∧b<w.heap.size∧w.cell? ⟨b,off+8*i,none⟩=some (.int .i64 v.slot):=by
 obtain⟨b,off,ha,hb,hr⟩:=h.spot i v hi;exact⟨b,off,ha,hb,hr 0 _ rfl⟩
theorem PU(g1 g2:Nat)(a:Option Addr)(n cap:Nat)(l:List Vt)(s:Int)(i:Nat)(v:Vt)(w:World)(hl:l.length=n)(hv:l[i]?=some v)(h:Sv w (.slice a n cap) l)
  (c1:w.cell? ⟨g1,0,none⟩=some (.slice a n cap))(c2:w.cell? ⟨g2,0,none⟩=some (.int .i64 s)) :
  Calls prog 251 #[.int .i64 (i:Int),.pointer (some ⟨g1,0,none⟩),.pointer (some ⟨g2,0,none⟩)] w fun e w'=>e=.returned (.bool (decide (s≤v.slot)))∧Below w.heap.size w w':=by
 obtain⟨b,off,rfl,hb,c3⟩:=h.first i v hv;have hin:i<n:=by have:=(List.getElem?_eq_some_iff.1 hv).1;omega
 have hix:=Dd b off n cap i hin;have bb:=Below.refl w.heap.size w;go_enter func251,ntmps251
 go_wp2_with fail
 go_quiet (fail)
 have e1:Below w.heap.size w (w.drewN nq):=Ag bb nq;go_wp2
 go_ret;exact⟨Ab (by simp),e1⟩
theorem Qc(g1 g2:Nat)(a:Option Addr)(n cap:Nat)(l:List Vt)(s:Int)(w:World)(hl:l.length=n)(hr:B4 l)(h:Sv w (.slice a n cap) l)(l1:g1<w.heap.size)(l2:g2<w.heap.size)
  (c1:w.cell? ⟨g1,0,none⟩=some (.slice a n cap))(c2:w.cell? ⟨g2,0,none⟩=some (.int .i64 s)) :
  Calls prog 250 #[.int .i64 (n:Int),.func (.func 251) #[] #[.pointer (some ⟨g1,0,none⟩),.pointer (some ⟨g2,0,none⟩)]] w fun e w'=>∃ p:Nat,e=.returned (.int .i64 (p:Int))∧Plc l s p∧Below w.heap.size w w':=by
 have hlen:=h.len;rw[hl]at hlen
 have HL:Hid (l.length=n):=hl;clear hl;go_enter func250,ntmps250
 go_wp2_with fail
 go_loopw [5,6] (fun iv jv wr=>∃ i j:Nat,i≤j∧j≤n∧iv=.int .i64 (i:Int)∧jv=.int .i64 (j:Int)∧(∀ (k:Nat) (v:Vt),k<i→l[k]?=some v→v.slot<s)∧(∀ (k:Nat) (v:Vt),j≤k→l[k]?=some v→s≤v.slot)∧Below w.heap.size w wr) (fun iv jv _=>(intOf jv-intOf iv).toNat)
 case atStart=>exact⟨0,n,by omega,by omega,rfl,rfl,fun k v hk=>by omega,fun k v hk hv=>by have:=(List.getElem?_eq_some_iff.1 hv).1;have:=HL.out;omega,Below.refl _ _⟩
 case round =>
  obtain⟨i,j,hij,hjn,rfl,rfl,hlo,hhi,hbel⟩:=hrel;have HLo:Hid (∀ (k:Nat) (v:Vt),k<i→l[k]?=some v→v.slot<s):=hlo;have HHi:Hid (∀ (k:Nat) (v:Vt),j≤k→l[k]?=some v→s≤v.slot):=hhi;clear hlo hhi;by_cases hlt:i<j
  ·have hlt':(i:Int)<(j:Int):=by omega
   go_wp2_with fail
   obtain⟨m,hm⟩:∃ m:Nat,((i:Int)+(j:Int))/2=(m:Int):=⟨(i+j)/2,by omega⟩;rw[hm];have m1:i≤m:=by omega
   have m2:m<j:=by omega
   clear hm;obtain⟨v,hv⟩:∃ v,l[m]?=some v:=⟨_,List.getElem?_eq_getElem (by have:=HL.out;omega)⟩;refine(PU g1 g2 a n cap l s m v wr HL.out hv (h.below hbel) ((hbel.cell (p:=⟨g1,0,none⟩) l1).trans c1) ((hbel.cell (p:=⟨g2,0,none⟩) l2).trans c2)).mono ?_;rintro e w2 ⟨rfl,b2⟩;have e2:=hbel.trans (b2.mono hbel.size);obtain⟨P1,P2⟩:=Plc.half hr hv HLo.out HHi.out;by_cases hs:s≤v.slot
   ·rw[decide_eq_true hs];have HH:Hid (∀ (k:Nat) (v:Vt),m≤k→l[k]?=some v→s≤v.slot):=P2 hs;clear P1 P2 hv hs;go_wp2
    go_roundw
    case rel=>exact⟨i,m,by omega,by omega,rfl,rfl,HLo.out,HH.out,e2⟩
    case measure=>simp[intOf];omega
   ·rw[decide_eq_false hs];have HH:Hid (∀ (k:Nat) (v:Vt),k<m+1→l[k]?=some v→v.slot<s):=P1 (by omega);clear P1 P2 hv hs;go_wp2
    go_roundw
    case rel=>exact⟨m+1,j,by omega,by omega,by go_num,rfl,HH.out,HHi.out,e2⟩
    case measure=>simp[intOf];omega
  ·obtain rfl:i=j:=by omega
   go_wp2
   go_ret;exact⟨i,rfl,⟨by have:=HL.out;omega,HLo.out,HHi.out⟩,hbel⟩
theorem Iy(x:Value)(l:List Vt)(s:Int)(w:World)(hr:B4 l)(h:Sv w x l) :
  Calls prog 237 #[x,.int .i64 s] w fun e w'=>∃ p:Nat,e=.returned (.int .i64 (p:Int))∧Plc l s p∧Below w.heap.size w w':=by
 obtain⟨a,cp,rfl⟩:=h.shape;obtain⟨n,hn⟩:∃ n,l.length=n:=⟨_,rfl⟩;rw[hn]at h ⊢
 have HL:Hid (l.length=n):=hn;clear hn;have r1:=heap_alloc2_old w (.cells #[.slice a n cp] 113) (.cells #[.int .i64 s] 3);have r2:=heap_alloc2_new w (.cells #[.slice a n cp] 113) (.cells #[.int .i64 s] 3);have bb:Below w.heap.size w ((w.alloc (.cells #[.slice a n cp] 113)).alloc (.cells #[.int .i64 s] 3)):=((Below.refl _ _).alloc (Nat.le_refl _) _).alloc (by simp) _;generalize hW:(w.alloc (.cells #[.slice a n cp] 113)).alloc (.cells #[.int .i64 s] 3)=W at r1 r2 bb;have z:W.heap.size=w.heap.size+2:=by rw[← hW];simp
 have c1:W.cell? ⟨w.heap.size,0,none⟩=some (.slice a n cp):=cell_of_row _ _ 0 _ _ _ r1;have c2:W.cell? ⟨w.heap.size+1,0,none⟩=some (.int .i64 s):=cell_of_row _ _ 0 _ _ _ r2;have hW2:=h.below bb;go_enter func237,ntmps237
 go_wp2_with fail
 clear hW;refine(Qc w.heap.size (w.heap.size+1) a n cp l s W HL.out hr hW2 (by omega) (by omega) c1 c2).mono ?_;rintro e w2 ⟨p,rfl,hp,b2⟩;have d2:=bb.trans (b2.mono bb.size);have HP:Hid (Plc l s p):=hp;clear hp;go_wp2
 go_ret;exact⟨p,rfl,HP.out,d2⟩
def Jy(l:List Vt)(p:Nat)(s:Int):Bool:=match l[p]? with|some v=>decide (v.slot=s)|none=>false
theorem Ho{l:List Vt}{p:Nat}{s:Int}{v:Vt}(h:l[p]?=some v):Jy l p s=decide (v.slot=s):=by unfold Jy;rw[h]
theorem Lb{l:List Vt}{p:Nat}{s:Int}(h:l[p]?=none):Jy l p s=false:=by unfold Jy;rw[h]
theorem Lc{l:List Vt}{p:Nat}{s:Int}(h:Jy l p s=true):∃ v,l[p]?=some v∧v.slot=s:=by
 cases hu:l[p]? with
 | none=>rw[Lb hu]at h;cases h
 | some v=>rw[Ho hu]at h;exact⟨v,rfl,of_decide_eq_true h⟩
theorem Jz{l:List Vt}{p:Nat}{s:Int}(h:Jy l p s=false):∀ v,l[p]?=some v→v.slot≠s:=by
 intro v hv;rw[Ho hv]at h
 exact of_decide_eq_false h
theorem Ir(x:Value)(l:List Vt)(p:Nat)(s:Int)(w:World)(h:Sv w x l) :
  Calls prog 238 #[x,.int .i64 (p:Int),.int .i64 s] w fun e w'=>e=.returned (.bool (Jy l p s))∧w'=w:=by
 obtain⟨a,cp,rfl⟩:=h.shape;obtain⟨n,hn⟩:∃ n,l.length=n:=⟨_,rfl⟩;rw[hn]at h ⊢
 by_cases hp:p<n
 ·obtain⟨v,hv⟩:∃ v,l[p]?=some v:=⟨_,List.getElem?_eq_getElem (by omega)⟩;obtain⟨b,off,rfl,hb,c3⟩:=h.first p v hv;have hix:=Dd b off n cp p hp;have hpi:(p:Int)<(n:Int):=by omega
  rw[Ho hv];clear hn hv h;go_enter func238,ntmps238
  go_wp2
  go_ret;exact⟨Ab (by first|rfl|simp),rfl⟩
 ·have hv:l[p]?=none:=List.getElem?_eq_none (by omega);have hpi:¬ (p:Int)<(n:Int):=by omega
  rw[Lb hv];clear hn hv h;go_enter func238,ntmps238
  go_wp2
  go_ret;exact⟨rfl,rfl⟩
end Go.Proofs.YtakgfdbjgeopdaaGreatDoor
