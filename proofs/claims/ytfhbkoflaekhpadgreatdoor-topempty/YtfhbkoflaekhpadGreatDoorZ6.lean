/- Part 6 of the walk. -/
import Derived.Test.YtfhbkoflaekhpadGreatDoorZ5
set_option maxRecDepth 100000
set_option maxHeartbeats 4000000
open Go.Proofs.Tryz
set_option linter.unusedVariables false
namespace Go.Proofs.YtfhbkoflaekhpadGreatDoor
section
open Go.RowKit
theorem NTab.value1{w:World}(h:NTab w):w.cell? ⟨2,1*3+2,none⟩=some (.int .i64 1073741824):=h.cell 5 (by omega)
theorem NTab.value{w:World}(h:NTab w)(k:Nat)(h0:1≤k)(h1:k≤3):w.cell? ⟨2,k*3+2,none⟩=some (.int .i64 (if k=1 then 1073741824 else 0)):=by
 rcases(by omega:k=1∨k=2∨k=3)with rfl|rfl|rfl
 ·exact h.cell 5 (by omega)
 ·exact h.cell 8 (by omega)
 ·exact h.cell 11 (by omega)
theorem DB(k c s n v:Int)(w:World)(ht:NTab w) :
  Calls prog 75 #[.agg (cmA k c s n v)] w fun e w'=>e=.returned (.int .i64 (AZ k c s n v))∧Bw w w':=by
 have bb:Bw w (w.alloc (.cells (cmA k c s n v) 41)):=(Below.refl _ _).alloc (Nat.le_refl _) _;have bc:=Bc.made w k c s n v;have hT:=ht.below bb;have hi:=FX k c s n v;generalize hW:w.alloc (.cells (cmA k c s n v) 41)=W at bb bc hT;have hW':w.alloc (.cells #[.int .i64 k,.int .i64 c,.int .i64 s,.int .i64 n,.int .i64 v] 41)=W:=hW;obtain⟨c0,c1,c2,c3,c4⟩:=Et bc.row;clear ht;go_enter func75,ntmps75
 go_wp2_with fail
 clear hW hW';refine(QL k _).mono ?_;rintro e w1 ⟨rfl,rfl⟩;by_cases h1:0≤k∧k≤3
 ·rw[decide_eq_true h1];by_cases h2:k=0
  ·subst h2;go_wp2_with (refine wpList_load_row rfl 41 _ rfl w.heap.size rfl 41 _ (0,0) _ bc.row underlying41 rfl hi ?_)
   refine(WY c s n v _).mono ?_;rintro e w2 ⟨rfl,b2⟩;have d2:Bw w w2:=bb.trans (b2.mono bb.size);go_wp2
   go_ret;exact⟨rfl,d2⟩
  ·obtain⟨m,rfl⟩:=Int.eq_ofNat_of_zero_le h1.1;have hk:1≤(m:Int)∧(m:Int)≤3:=by omega
   go_wp2_with (refine wpList_load_row rfl 41 _ rfl w.heap.size rfl 41 _ (0,0) _ bc.row underlying41 rfl hi ?_)
   refine(Nt (m:Int) c s n v _ hk hT).mono ?_;rintro e w2 ⟨rfl,b2⟩;have d2:Bw w w2:=bb.trans (b2.mono bb.size);have bc2:=bc.below b2;have hT2:=hT.below b2;clear c0 c1 c2 c3 c4 bc hT b2 bb;by_cases h3:InC c s n v
   ·rw[decide_eq_true h3];obtain⟨c0,c1,c2,c3,c4⟩:=Et bc2.row;have hV:=hT2.value m (by omega) (by omega);have k0:(0:Int)≤(m:Int):=by omega
    have k1:(m:Int)<4:=by omega
    have k2:m<4:=by omega
    clear bc2 hT2 h1 h2;by_cases h4:v≤(if m=1 then 1073741824 else 0)
    ·have HE:Hid (0=AZ (m:Int) c s n v):=by
      refine(Sf hk h3 ?_).symm;unfold InC at h3;split at h4<;>omega
     clear h3 hk;generalize (if m=1 then(1073741824:Int)else 0)=V at hV h4;go_wp2_with fail
     go_quiet (fail)
     have e1:Bw w (w2.drewN nq):=An d2 nq;generalize w2.drewN nq=w3 at e1 ⊢;go_wp2
     go_ret;exact⟨AC HE.out,e1⟩
    ·have HE:Hid (3=AZ (m:Int) c s n v):=by
      unfold InC at h3;refine(Tw ⟨?_,by omega⟩ (by unfold InC;omega) ?_).symm
      ·split at h4<;>omega
      ·split at h4<;>omega
     clear h3 hk;generalize (if m=1 then(1073741824:Int)else 0)=V at hV h4;go_wp2_with fail
     go_quiet (fail)
     have e1:Bw w (w2.drewN nq):=An d2 nq;generalize w2.drewN nq=w3 at e1 ⊢;go_wp2
     go_ret;exact⟨AC HE.out,e1⟩
   ·rw[decide_eq_false h3];have HE:Hid (2=AZ (m:Int) c s n v):=(Qs hk h3).symm;clear h3;go_wp2
    go_ret;exact⟨AC HE.out,d2⟩
 ·rw[decide_eq_false h1];have HE:Hid (4=AZ k c s n v):=(Tx h1).symm;go_wp2
  go_ret;exact⟨AC HE.out,bb⟩
theorem GF(s:Int)(w:World) :
  Calls prog 153 #[.int .i64 s] w fun e w'=>e=.returned (.bool (decide (0≤s∧s≤39)))∧w'=w:=by
 by_cases h0:0≤s
 ·by_cases h1:s<40
  ·rw[decide_eq_true ⟨h0,by omega⟩];go_enter func153,ntmps153
   go_wp2
   go_ret;exact⟨Ae (by simp),rfl⟩
  ·rw[decide_eq_false (by omega)];go_enter func153,ntmps153
   go_wp2
   go_ret;exact⟨Ae (by simp),rfl⟩
 ·rw[decide_eq_false (by omega)];go_enter func153,ntmps153
  go_wp2
  go_ret;exact⟨Ae (by simp),rfl⟩
theorem KG(b:Bal)(w:World) :
  Calls prog 131 #[.agg (baA b)] w fun e w'=>e=.returned (.bool (decide (Ad b)))∧Bw w w':=by
 obtain⟨r,n⟩:=b;have bb:Bw w (w.alloc (.cells (baA ⟨r,n⟩) 74)):=(Below.refl _ _).alloc (Nat.le_refl _) _;have rr:=heap_alloc_new w (.cells (baA ⟨r,n⟩) 74);generalize hW:w.alloc (.cells (baA ⟨r,n⟩) 74)=W at bb rr;have c0:W.cell? ⟨w.heap.size,0,none⟩=some (.int .i64 r):=(Dy rr).1;have c1:W.cell? ⟨w.heap.size,1,none⟩=some (.int .i64 n):=(Dy rr).2;clear rr;by_cases h1:1≤r
 ·by_cases h2:r≤65536
  ·by_cases h3:0≤n
   ·by_cases h4:n<5
    ·have HB:Hid (true=decide (Ad ⟨r,n⟩)):=(decide_eq_true (by simp only[Ad];omega)).symm;go_enter func131,ntmps131
     go_wp2
     go_ret;exact⟨Ae HB.out,bb⟩
    ·have HB:Hid (false=decide (Ad ⟨r,n⟩)):=(decide_eq_false (by simp only[Ad];omega)).symm;go_enter func131,ntmps131
     go_wp2
     go_ret;exact⟨Ae HB.out,bb⟩
   ·have HB:Hid (false=decide (Ad ⟨r,n⟩)):=(decide_eq_false (by simp only[Ad];omega)).symm;go_enter func131,ntmps131
    go_wp2
    go_ret;exact⟨Ae HB.out,bb⟩
  ·have HB:Hid (false=decide (Ad ⟨r,n⟩)):=(decide_eq_false (by simp only[Ad];omega)).symm;go_enter func131,ntmps131
   go_wp2
   go_ret;exact⟨Ae HB.out,bb⟩
 ·have HB:Hid (false=decide (Ad ⟨r,n⟩)):=(decide_eq_false (by simp only[Ad];omega)).symm;go_enter func131,ntmps131
  go_wp2
  go_ret;exact⟨Ae HB.out,bb⟩
theorem D6(a b:Bal)(w:World) :
  Calls prog 132 #[.agg (baA a),.agg (baA b)] w fun e w'=>e=.returned (.bool (decide (a.lt b)))∧Bw w w':=by
 obtain⟨r,n⟩:=a;obtain⟨q,m⟩:=b;have b1:Bw w (w.alloc (.cells (baA ⟨r,n⟩) 74)):=(Below.refl _ _).alloc (Nat.le_refl _) _;have r1:=heap_alloc_new w (.cells (baA ⟨r,n⟩) 74);have z1:(w.alloc (.cells (baA ⟨r,n⟩) 74)).heap.size=w.heap.size+1:=by simp
 have b2:Below (w.heap.size+1) (w.alloc (.cells (baA ⟨r,n⟩) 74)) ((w.alloc (.cells (baA ⟨r,n⟩) 74)).alloc (.cells (baA ⟨q,m⟩) 74)):=(Below.refl _ _).alloc (by omega) _;have r2:=heap_alloc_new (w.alloc (.cells (baA ⟨r,n⟩) 74)) (.cells (baA ⟨q,m⟩) 74);rw[z1]at r2
 replace r1:=(b2.block w.heap.size (by omega)).trans r1;have bb:=b1.trans (b2.mono (Nat.le_succ _));clear b1 b2 z1;generalize hW:(w.alloc (.cells (baA ⟨r,n⟩) 74)).alloc (.cells (baA ⟨q,m⟩) 74)=W at bb r1 r2;have c0:W.cell? ⟨w.heap.size,0,none⟩=some (.int .i64 r):=(Dy r1).1;have c1:W.cell? ⟨w.heap.size,1,none⟩=some (.int .i64 n):=(Dy r1).2;have e0:W.cell? ⟨w.heap.size+1,0,none⟩=some (.int .i64 q):=(Dy r2).1;have e1:W.cell? ⟨w.heap.size+1,1,none⟩=some (.int .i64 m):=(Dy r2).2;clear r1 r2;by_cases h2:r=q
 ·subst h2;have HB:Hid (decide (n<m)=decide (Bal.lt ⟨r,n⟩ ⟨r,m⟩)):=decide_eq_decide.2 (by unfold Bal.lt;simp);go_enter func132,ntmps132
  go_wp2
  go_ret;exact⟨Ae HB.out,bb⟩
 ·have HB:Hid (decide (r<q)=decide (Bal.lt ⟨r,n⟩ ⟨q,m⟩)):=decide_eq_decide.2 (by unfold Bal.lt;simp[h2]);go_enter func132,ntmps132
  go_wp2
  go_ret;exact⟨Ae HB.out,bb⟩
theorem Ht(v:Vt)(w:World)(ht:NTab w) :
  Calls prog 137 #[.agg (vtA v)] w fun e w'=>e=.returned (.bool (decide (Aj v)))∧Bw w w':=by
 obtain⟨s,⟨r,n⟩,⟨k,c,q,m,x⟩⟩:=v;have bb:Bw w (w.alloc (.cells (vtA ⟨s,⟨r,n⟩,⟨k,c,q,m,x⟩⟩) 139)):=(Below.refl _ _).alloc (Nat.le_refl _) _;have rr:=heap_alloc_new w (.cells (vtA ⟨s,⟨r,n⟩,⟨k,c,q,m,x⟩⟩) 139);have hT:=ht.below bb;clear ht;generalize hW:w.alloc (.cells (vtA ⟨s,⟨r,n⟩,⟨k,c,q,m,x⟩⟩) 139)=W at bb rr hT;have lt:=(Array.getElem?_eq_some_iff.1 rr).1;have HC:Hid (∀ w',Bw W w'→_):=fun w' hb=>IN ((hb.block _ lt).trans rr);obtain⟨c0,c1,c2,c3,c4,c5,c6,c7⟩:=IN rr;clear rr;go_enter func137,ntmps137
 go_wp2_with fail
 clear hW;refine(GF s _).mono ?_;rintro e w1 ⟨rfl,rfl⟩;by_cases h1:0≤s∧s≤39
 ·rw[decide_eq_true h1];go_wp2_with fail
  refine(KG ⟨r,n⟩ _).mono ?_;rintro e w2 ⟨rfl,b2⟩;have d2:=bb.trans (b2.mono bb.size);have hT2:=hT.below b2;obtain⟨c0,c1,c2,c3,c4,c5,c6,c7⟩:=HC.out w2 b2;by_cases h2:Ad ⟨r,n⟩
  ·rw[decide_eq_true h2];go_wp2_with fail
   refine(DB k c q m x _ hT2).mono ?_;rintro e w3 ⟨rfl,b3⟩;have d3:=d2.trans (b3.mono d2.size);by_cases h3:AZ k c q m x=0
   ·have HB:Hid (true=decide (Aj ⟨s,⟨r,n⟩,⟨k,c,q,m,x⟩⟩)):=(decide_eq_true ⟨h1,h2,h3⟩).symm;rw[h3];clear c0 c1 c2 c3 c4 c5 c6 c7 h3;go_wp2
    go_ret;exact⟨Ae HB.out,d3⟩
   ·have HB:Hid (false=decide (Aj ⟨s,⟨r,n⟩,⟨k,c,q,m,x⟩⟩)):=(decide_eq_false (fun g=>h3 g.2.2)).symm;generalize AZ k c q m x=E at h3 ⊢;go_wp2
    go_ret;exact⟨by rw[← HB.out];simp[h3],d3⟩
  ·rw[decide_eq_false h2];have HB:Hid (false=decide (Aj ⟨s,⟨r,n⟩,⟨k,c,q,m,x⟩⟩)):=(decide_eq_false (fun g=>h2 g.2.1)).symm;go_wp2
   go_ret;exact⟨Ae HB.out,d2⟩
 ·rw[decide_eq_false h1];have HB:Hid (false=decide (Aj ⟨s,⟨r,n⟩,⟨k,c,q,m,x⟩⟩)):=(decide_eq_false (fun g=>h1 g.1)).symm;go_wp2
  go_ret;exact⟨Ae HB.out,bb⟩
theorem S9(a b a' b':Int):∀ w,(binOp .neq 74 (.agg #[.int .i64 a,.int .i64 b]) (.agg #[.int .i64 a',.int .i64 b'])).run prog w=.ok (.bool (!decide (a=a'∧b=b'))) w:=by
 intro w;rw[run_neq_struct,run_equalIn_agg w 9999 _ _ _ (by kernel_rfl) (by kernel_rfl)];unfold Program.fieldsOf;rw[underlying74];have h3:=underlying3;simp[Op.eqFields,go_sem,h3]
 repeat' split
 all_goals simp_all
def Ep(l:List Vt)(n:Int):Prop:=0≤n∧n≤40∧∀ s:Int,0≤s→(n≤s↔∀ u∈l,u.slot<s)
theorem Ep.nil:Ep [] 0:=⟨by omega,by omega,fun s hs=>⟨fun _ u hu=>(List.not_mem_nil hu).elim,fun _=>hs⟩⟩
theorem Ep.snoc{l:List Vt}{n:Int}(h:Ep l n){v:Vt}(h0:0≤v.slot)(h1:v.slot≤39)(hv:n≤v.slot):Ep (l++[v]) (v.slot+1):=by
 refine⟨by omega,by omega,fun s hs=>⟨fun g u hu=>?_,fun g=>?_⟩⟩
 ·rcases List.mem_append.1 hu with hu|hu
  ·exact(h.2.2 s hs).1 (by omega) u hu
  ·obtain rfl:u=v:=by simpa using hu
   omega
 ·have:=g v (by simp);omega
theorem Iw(p:Bal)(x:Value)(l:List Vt)(w:World)(h:Sv w x l)(ht:NTab w) :
  Calls prog 130 #[.agg (acA p x)] w fun e w'=>e=.returned (.int .i64 (Gj ⟨p,l⟩))∧Bw w w':=by
 obtain⟨pr,pn⟩:=p;have hlen:=h.len;obtain⟨ax,cp,rfl⟩:=h.shape;obtain⟨M,hM⟩:∃ M,l.length=M:=⟨_,rfl⟩;have HM:Hid (l.length=M):=hM;rw[hM]at h hlen ⊢
 clear hM;have bb:Bw w (w.alloc (.cells #[.int .i64 pr,.int .i64 pn,.slice ax M cp] 77)):=(Below.refl _ _).alloc (Nat.le_refl _) _;have rr:=heap_alloc_new w (.cells #[.int .i64 pr,.int .i64 pn,.slice ax M cp] 77);simp only[acA];generalize hW:w.alloc (.cells #[.int .i64 pr,.int .i64 pn,.slice ax M cp] 77)=W0 at bb rr;have ltA0:w.heap.size<W0.heap.size:=(Array.getElem?_eq_some_iff.1 rr).1;have a0:W0.cell? ⟨w.heap.size,0,none⟩=some (.int .i64 pr):=cell_of_row _ _ 0 _ _ _ rr;have a1:W0.cell? ⟨w.heap.size,1,none⟩=some (.int .i64 pn):=cell_of_row _ _ 1 _ _ _ rr;have a2:W0.cell? ⟨w.heap.size,2,none⟩=some (.slice ax M cp):=cell_of_row _ _ 2 _ _ _ rr;have hq:=S9 pr pn 0 0;clear rr;go_enter func130,ntmps130
 by_cases hz:pr=0∧pn=0
 ·have HP:Hid (AQ ⟨pr,pn⟩):=.inr hz;rw[decide_eq_true hz]at hq
  obtain⟨rfl,rfl⟩:=hz;go_wp2_with fail
  clear hW hq;have ltA1:=ltA0;have d1:=bb;have h1:=h.below bb;have t1:=ht.below bb;clear ltA0 bb
  go_loopw [3,19] (fun nv iv wr=>∃ (j:Nat) (n:Int),j≤M∧iv=.int .i64 (j:Int)∧nv=.int .i64 n∧OkV ⟨0,0⟩ (l.take j)∧Ep (l.take j) n∧Bw W0 wr) (fun _ iv _=>((M:Int)-intOf iv).toNat)
  case atStart=>exact⟨0,0,by omega,rfl,rfl,⟨fun v hv=>(List.not_mem_nil hv).elim,trivial⟩,Ep.nil,Below.refl _ _⟩
  case round =>
   obtain⟨j,n,hj,rfl,rfl,hok,hnx,hbel⟩:=hrel;have HK:Hid (OkV ⟨0,0⟩ (l.take j)):=hok;have HN:Hid (Ep (l.take j) n):=hnx;have hn0:=hnx.1;have hn1:=hnx.2.1;clear hok hnx;have a0r:=(hbel.cell (p:=⟨w.heap.size,0,none⟩) ltA1).trans a0;have a1r:=(hbel.cell (p:=⟨w.heap.size,1,none⟩) ltA1).trans a1;have a2r:=(hbel.cell (p:=⟨w.heap.size,2,none⟩) ltA1).trans a2;have hr1:=h1.below hbel;have tr:=t1.below hbel;have dr:=d1.trans (hbel.mono d1.size);have ltAr:w.heap.size<wr.heap.size:=Nat.lt_of_lt_of_le ltA1 hbel.size;by_cases hjM:j<M
   ·have hji:(j:Int)<(M:Int):=by omega
    obtain⟨v,hv⟩:∃ v,l[j]?=some v:=⟨_,List.getElem?_eq_getElem (by have:=HM.out;omega)⟩;obtain⟨b,off,hax,ltb,hrg⟩:=hr1.spot j v hv;subst hax;have hix:=D1 b off M cp j hjM;have hsz:=IG v;have HT:Hid (l.take (j+1)=l.take j++[v]):=DK l j v hv;obtain⟨vs,⟨vr,vn⟩,⟨vk,vc,vq,vm,vx⟩⟩:=v;have HBad:Hid (Ao ⟨⟨0,0⟩,l⟩→Aj ⟨vs,⟨vr,vn⟩,⟨vk,vc,vq,vm,vx⟩⟩∧¬ Bal.lt ⟨0,0⟩ ⟨vr,vn⟩∧∀ u∈l.take j,u.slot<vs):=fun g=>by
     have g2:OkV ⟨0,0⟩ (l.take (j+1)++l.drop (j+1)):=by rw[List.take_append_drop];exact g.2
     have g3:=g2.left;rw[HT.out]at g3
     exact(HK.out.snoc _).1 g3
    clear hv;simp only[vtC]at hrg hsz;have bN:Bw wr (wr.alloc (.cells zV8 139)):=(Below.refl _ _).alloc (Nat.le_refl _) _;have rN:=heap_alloc_new wr (.cells zV8 139);have hsz2:(prog.info? 139).map (·.size)=some (#[.int .i64 vs,.int .i64 vr,.int .i64 vn,.int .i64 vk,.int .i64 vc,.int .i64 vq,.int .i64 vm,.int .i64 vx]:Array Value).size:=hsz;have hone:(#[.int .i64 vs,.int .i64 vr,.int .i64 vn,.int .i64 vk,.int .i64 vc,.int .i64 vq,.int .i64 vm,.int .i64 vx]:Array Value).all (·.oneCell')=true:=by simp[Value.oneCell']
    generalize hWN:wr.alloc (.cells zV8 139)=WN at bN rN
    go_upto_region 7 with((with_reducible (refine As ?_));first|(refine wpList_load_mid rfl 139 (.tmp 21) rfl b (off+8*j) rfl [.int .i64 vs,.int .i64 vr,.int .i64 vn,.int .i64 vk,.int .i64 vc,.int .i64 vq,.int .i64 vm,.int .i64 vx] _ hrg underlying139 rfl hsz ?_)|(refine wpList_store_row rfl 139 (.tmp 5) (.tmp 22) rfl wr.heap.size (#[.int .i64 vs,.int .i64 vr,.int .i64 vn,.int .i64 vk,.int .i64 vc,.int .i64 vq,.int .i64 vm,.int .i64 vx]) rfl rfl 139 _ rN hsz2 rfl hone ?_))
    clear hWN;have q:=setRow_heap WN wr.heap.size _ (#[.int .i64 vs,.int .i64 vr,.int .i64 vn,.int .i64 vk,.int .i64 vc,.int .i64 vq,.int .i64 vm,.int .i64 vx]) 139 _ rN;replace bN:=Ai bN (Nat.le_refl _) (#[.int .i64 vs,.int .i64 vr,.int .i64 vn,.int .i64 vk,.int .i64 vc,.int .i64 vq,.int .i64 vm,.int .i64 vx]);generalize WN.setRow wr.heap.size (#[.int .i64 vs,.int .i64 vr,.int .i64 vn,.int .i64 vk,.int .i64 vc,.int .i64 vq,.int .i64 vm,.int .i64 vx])=W at q bN ⊢;have dW:=dr.trans (bN.mono dr.size);have eW:=hbel.trans (bN.mono hbel.size);have ltG:wr.heap.size<W.heap.size:=(Array.getElem?_eq_some_iff.1 q).1;have ltA:w.heap.size<W.heap.size:=by omega
    have rA0:=(bN.cell (p:=⟨w.heap.size,0,none⟩) ltAr).trans a0r;have rA1:=(bN.cell (p:=⟨w.heap.size,1,none⟩) ltAr).trans a1r;have tW:=tr.below bN;clear rN a0r a1r a2r hrg hix hsz2 bN hr1 tr;generalize wr.heap.size=G at q ltG ⊢;go_wp2_with ((with_reducible (refine As ?_));refine wpList_load_row rfl 139 _ rfl G rfl 139 _ (0,0) _ q underlying139 rfl hsz ?_)
    refine(Ht ⟨vs,⟨vr,vn⟩,⟨vk,vc,vq,vm,vx⟩⟩ W tW).mono ?_;rintro e W2 ⟨rfl,b2⟩;have d2:=dW.trans (b2.mono dW.size);have e2:=eW.trans (b2.mono eW.size);have q2:=(b2.block _ ltG).trans q;have x0:W2.cell? ⟨G,0,none⟩=some (.int .i64 vs):=cell_of_row _ _ 0 _ _ _ q2;have x1:W2.cell? ⟨G,1,none⟩=some (.int .i64 vr):=cell_of_row _ _ 1 _ _ _ q2;have x2:W2.cell? ⟨G,2,none⟩=some (.int .i64 vn):=cell_of_row _ _ 2 _ _ _ q2;replace rA0:=(b2.cell (p:=⟨w.heap.size,0,none⟩) ltA).trans rA0;replace rA1:=(b2.cell (p:=⟨w.heap.size,1,none⟩) ltA).trans rA1;have ltG2:G<W2.heap.size:=Nat.lt_of_lt_of_le ltG b2.size;clear b2 q eW dW tW ltG;by_cases hv:Aj ⟨vs,⟨vr,vn⟩,⟨vk,vc,vq,vm,vx⟩⟩
    ·rw[decide_eq_true hv];by_cases hs:vs<n
     ·have HE:Hid (5=Gj ⟨⟨0,0⟩,l⟩):=(if_neg (fun g=>by
       have g1:=(HBad.out g).2.2;have g2:=(HN.out.2.2 vs hv.1.1).2 g1;omega)).symm
      clear hv;go_wp2
      go_ret;exact⟨AC HE.out,d2⟩
     ·have hs':n≤vs:=by omega
      go_wp2_with fail
      refine(D6 ⟨0,0⟩ ⟨vr,vn⟩ W2).mono ?_;rintro e W3 ⟨rfl,b3⟩;have d3:=d2.trans (b3.mono d2.size);have e3:=e2.trans (b3.mono e2.size);have x0:=(b3.cell (p:=⟨G,0,none⟩) ltG2).trans x0;by_cases hb:Bal.lt ⟨0,0⟩ ⟨vr,vn⟩
      ·rw[decide_eq_true hb];have HE:Hid (5=Gj ⟨⟨0,0⟩,l⟩):=(if_neg (fun g=>(HBad.out g).2.1 hb)).symm;clear hv hb;go_wp2
       go_ret;exact⟨AC HE.out,d3⟩
      ·rw[decide_eq_false hb];have hv1:0≤vs:=hv.1.1;have hv2:vs≤39:=hv.1.2;have HK2:Hid (OkV ⟨0,0⟩ (l.take (j+1))):=by unfold Hid;rw[HT.out];exact(HK.out.snoc _).2 ⟨hv,hb,(HN.out.2.2 vs hv1).1 hs'⟩
       have HN2:Hid (Ep (l.take (j+1)) (vs+1)):=by unfold Hid;rw[HT.out];exact HN.out.snoc (v:=⟨vs,⟨vr,vn⟩,⟨vk,vc,vq,vm,vx⟩⟩) hv1 hv2 hs'
       clear hv hb HBad HK HN HT;go_wp2
       go_roundw
       case rel=>exact⟨j+1,vs+1,by omega,by go_num,by go_num,HK2.out,HN2.out,e3⟩
       case measure=>simp[intOf];omega
    ·rw[decide_eq_false hv];have HE:Hid (5=Gj ⟨⟨0,0⟩,l⟩):=(if_neg (fun g=>hv (HBad.out g).1)).symm;clear hv;go_wp2
     go_ret;exact⟨AC HE.out,d2⟩
   ·obtain rfl:j=M:=by omega
    have HE:Hid (0=Gj ⟨⟨0,0⟩,l⟩):=by
     have g:=HK.out;rw[List.take_of_length_le (by have:=HM.out;omega)]at g
     exact(if_pos ⟨HP.out,g.1,g.2⟩).symm
    go_wp2
    go_ret;exact⟨AC HE.out,dr⟩
 ·rw[decide_eq_false hz]at hq
  go_wp2_with fail
  clear hW hq;refine(KG ⟨pr,pn⟩ _).mono ?_;rintro e w1 ⟨rfl,b1⟩;have d1:=bb.trans (b1.mono bb.size);replace a0:=(b1.cell (p:=⟨w.heap.size,0,none⟩) ltA0).trans a0;replace a1:=(b1.cell (p:=⟨w.heap.size,1,none⟩) ltA0).trans a1;replace a2:=(b1.cell (p:=⟨w.heap.size,2,none⟩) ltA0).trans a2;have ltA1:w.heap.size<w1.heap.size:=Nat.lt_of_lt_of_le ltA0 b1.size;have h1:=h.below d1;have t1:=ht.below d1;clear b1 bb ltA0;by_cases hp:Ad ⟨pr,pn⟩
  ·have HP:Hid (AQ ⟨pr,pn⟩):=.inl hp;rw[decide_eq_true hp];clear hp hz;go_wp2_with fail
   go_loopw [3,19] (fun nv iv wr=>∃ (j:Nat) (n:Int),j≤M∧iv=.int .i64 (j:Int)∧nv=.int .i64 n∧OkV ⟨pr,pn⟩ (l.take j)∧Ep (l.take j) n∧Bw w1 wr) (fun _ iv _=>((M:Int)-intOf iv).toNat)
   case atStart=>exact⟨0,0,by omega,rfl,rfl,⟨fun v hv=>(List.not_mem_nil hv).elim,trivial⟩,Ep.nil,Below.refl _ _⟩
   case round =>
    obtain⟨j,n,hj,rfl,rfl,hok,hnx,hbel⟩:=hrel;have HK:Hid (OkV ⟨pr,pn⟩ (l.take j)):=hok;have HN:Hid (Ep (l.take j) n):=hnx;have hn0:=hnx.1;have hn1:=hnx.2.1;clear hok hnx;have a0r:=(hbel.cell (p:=⟨w.heap.size,0,none⟩) ltA1).trans a0;have a1r:=(hbel.cell (p:=⟨w.heap.size,1,none⟩) ltA1).trans a1;have a2r:=(hbel.cell (p:=⟨w.heap.size,2,none⟩) ltA1).trans a2;have hr1:=h1.below hbel;have tr:=t1.below hbel;have dr:=d1.trans (hbel.mono d1.size);have ltAr:w.heap.size<wr.heap.size:=Nat.lt_of_lt_of_le ltA1 hbel.size;by_cases hjM:j<M
    ·have hji:(j:Int)<(M:Int):=by omega
     obtain⟨v,hv⟩:∃ v,l[j]?=some v:=⟨_,List.getElem?_eq_getElem (by have:=HM.out;omega)⟩;obtain⟨b,off,hax,ltb,hrg⟩:=hr1.spot j v hv;subst hax;have hix:=D1 b off M cp j hjM;have hsz:=IG v;have HT:Hid (l.take (j+1)=l.take j++[v]):=DK l j v hv;obtain⟨vs,⟨vr,vn⟩,⟨vk,vc,vq,vm,vx⟩⟩:=v;have HBad:Hid (Ao ⟨⟨pr,pn⟩,l⟩→Aj ⟨vs,⟨vr,vn⟩,⟨vk,vc,vq,vm,vx⟩⟩∧¬ Bal.lt ⟨pr,pn⟩ ⟨vr,vn⟩∧∀ u∈l.take j,u.slot<vs):=fun g=>by
      have g2:OkV ⟨pr,pn⟩ (l.take (j+1)++l.drop (j+1)):=by rw[List.take_append_drop];exact g.2
      have g3:=g2.left;rw[HT.out]at g3
      exact(HK.out.snoc _).1 g3
     clear hv;simp only[vtC]at hrg hsz;have bN:Bw wr (wr.alloc (.cells zV8 139)):=(Below.refl _ _).alloc (Nat.le_refl _) _;have rN:=heap_alloc_new wr (.cells zV8 139);have hsz2:(prog.info? 139).map (·.size)=some (#[.int .i64 vs,.int .i64 vr,.int .i64 vn,.int .i64 vk,.int .i64 vc,.int .i64 vq,.int .i64 vm,.int .i64 vx]:Array Value).size:=hsz;have hone:(#[.int .i64 vs,.int .i64 vr,.int .i64 vn,.int .i64 vk,.int .i64 vc,.int .i64 vq,.int .i64 vm,.int .i64 vx]:Array Value).all (·.oneCell')=true:=by simp[Value.oneCell']
     generalize hWN:wr.alloc (.cells zV8 139)=WN at bN rN
     go_upto_region 7 with((with_reducible (refine As ?_));first|(refine wpList_load_mid rfl 139 (.tmp 21) rfl b (off+8*j) rfl [.int .i64 vs,.int .i64 vr,.int .i64 vn,.int .i64 vk,.int .i64 vc,.int .i64 vq,.int .i64 vm,.int .i64 vx] _ hrg underlying139 rfl hsz ?_)|(refine wpList_store_row rfl 139 (.tmp 5) (.tmp 22) rfl wr.heap.size (#[.int .i64 vs,.int .i64 vr,.int .i64 vn,.int .i64 vk,.int .i64 vc,.int .i64 vq,.int .i64 vm,.int .i64 vx]) rfl rfl 139 _ rN hsz2 rfl hone ?_))
     clear hWN;have q:=setRow_heap WN wr.heap.size _ (#[.int .i64 vs,.int .i64 vr,.int .i64 vn,.int .i64 vk,.int .i64 vc,.int .i64 vq,.int .i64 vm,.int .i64 vx]) 139 _ rN;replace bN:=Ai bN (Nat.le_refl _) (#[.int .i64 vs,.int .i64 vr,.int .i64 vn,.int .i64 vk,.int .i64 vc,.int .i64 vq,.int .i64 vm,.int .i64 vx]);generalize WN.setRow wr.heap.size (#[.int .i64 vs,.int .i64 vr,.int .i64 vn,.int .i64 vk,.int .i64 vc,.int .i64 vq,.int .i64 vm,.int .i64 vx])=W at q bN ⊢;have dW:=dr.trans (bN.mono dr.size);have eW:=hbel.trans (bN.mono hbel.size);have ltG:wr.heap.size<W.heap.size:=(Array.getElem?_eq_some_iff.1 q).1;have ltA:w.heap.size<W.heap.size:=by omega
     have rA0:=(bN.cell (p:=⟨w.heap.size,0,none⟩) ltAr).trans a0r;have rA1:=(bN.cell (p:=⟨w.heap.size,1,none⟩) ltAr).trans a1r;have tW:=tr.below bN;clear rN a0r a1r a2r hrg hix hsz2 bN hr1 tr;generalize wr.heap.size=G at q ltG ⊢;go_wp2_with ((with_reducible (refine As ?_));refine wpList_load_row rfl 139 _ rfl G rfl 139 _ (0,0) _ q underlying139 rfl hsz ?_)
     refine(Ht ⟨vs,⟨vr,vn⟩,⟨vk,vc,vq,vm,vx⟩⟩ W tW).mono ?_;rintro e W2 ⟨rfl,b2⟩;have d2:=dW.trans (b2.mono dW.size);have e2:=eW.trans (b2.mono eW.size);have q2:=(b2.block _ ltG).trans q;have x0:W2.cell? ⟨G,0,none⟩=some (.int .i64 vs):=cell_of_row _ _ 0 _ _ _ q2;have x1:W2.cell? ⟨G,1,none⟩=some (.int .i64 vr):=cell_of_row _ _ 1 _ _ _ q2;have x2:W2.cell? ⟨G,2,none⟩=some (.int .i64 vn):=cell_of_row _ _ 2 _ _ _ q2;replace rA0:=(b2.cell (p:=⟨w.heap.size,0,none⟩) ltA).trans rA0;replace rA1:=(b2.cell (p:=⟨w.heap.size,1,none⟩) ltA).trans rA1;have ltG2:G<W2.heap.size:=Nat.lt_of_lt_of_le ltG b2.size;clear b2 q eW dW tW ltG;by_cases hv:Aj ⟨vs,⟨vr,vn⟩,⟨vk,vc,vq,vm,vx⟩⟩
     ·rw[decide_eq_true hv];by_cases hs:vs<n
      ·have HE:Hid (5=Gj ⟨⟨pr,pn⟩,l⟩):=(if_neg (fun g=>by
        have g1:=(HBad.out g).2.2;have g2:=(HN.out.2.2 vs hv.1.1).2 g1;omega)).symm
       clear hv;go_wp2
       go_ret;exact⟨AC HE.out,d2⟩
      ·have hs':n≤vs:=by omega
       go_wp2_with fail
       refine(D6 ⟨pr,pn⟩ ⟨vr,vn⟩ W2).mono ?_;rintro e W3 ⟨rfl,b3⟩;have d3:=d2.trans (b3.mono d2.size);have e3:=e2.trans (b3.mono e2.size);have x0:=(b3.cell (p:=⟨G,0,none⟩) ltG2).trans x0;by_cases hb:Bal.lt ⟨pr,pn⟩ ⟨vr,vn⟩
       ·rw[decide_eq_true hb];have HE:Hid (5=Gj ⟨⟨pr,pn⟩,l⟩):=(if_neg (fun g=>(HBad.out g).2.1 hb)).symm;clear hv hb;go_wp2
        go_ret;exact⟨AC HE.out,d3⟩
       ·rw[decide_eq_false hb];have hv1:0≤vs:=hv.1.1;have hv2:vs≤39:=hv.1.2;have HK2:Hid (OkV ⟨pr,pn⟩ (l.take (j+1))):=by unfold Hid;rw[HT.out];exact(HK.out.snoc _).2 ⟨hv,hb,(HN.out.2.2 vs hv1).1 hs'⟩
        have HN2:Hid (Ep (l.take (j+1)) (vs+1)):=by unfold Hid;rw[HT.out];exact HN.out.snoc (v:=⟨vs,⟨vr,vn⟩,⟨vk,vc,vq,vm,vx⟩⟩) hv1 hv2 hs'
        clear hv hb HBad HK HN HT;go_wp2
        go_roundw
        case rel=>exact⟨j+1,vs+1,by omega,by go_num,by go_num,HK2.out,HN2.out,e3⟩
        case measure=>simp[intOf];omega
     ·rw[decide_eq_false hv];have HE:Hid (5=Gj ⟨⟨pr,pn⟩,l⟩):=(if_neg (fun g=>hv (HBad.out g).1)).symm;clear hv;go_wp2
      go_ret;exact⟨AC HE.out,d2⟩
    ·obtain rfl:j=M:=by omega
     have HE:Hid (0=Gj ⟨⟨pr,pn⟩,l⟩):=by
      have g:=HK.out;rw[List.take_of_length_le (by have:=HM.out;omega)]at g
      exact(if_pos ⟨HP.out,g.1,g.2⟩).symm
     go_wp2
     go_ret;exact⟨AC HE.out,dr⟩
  ·rw[decide_eq_false hp];have HE:Hid (5=Gj ⟨⟨pr,pn⟩,l⟩):=(if_neg (fun g=>g.1.elim hp hz)).symm;clear hp hz;go_wp2
   go_ret;exact⟨AC HE.out,d1⟩
end
section
structure Plc(l:List Vt)(s:Int)(p:Nat):Prop where
 le:p≤l.length
 lo:∀ (i:Nat) (v:Vt),i<p→l[i]?=some v→v.slot<s
 hi:∀ (i:Nat) (v:Vt),p≤i→l[i]?=some v→s≤v.slot
theorem M0(a b:List Vt)(v:Vt)(h:∀ u∈a,u.slot<v.slot):Bf (a++b) v=a++Bf b v:=by
 induction a with
 | nil=>rfl
 | cons x a ih =>
  show Bf (x::(a++b)) v=x::(a++Bf b v);rw[Bf,if_pos (h x List.mem_cons_self),ih (fun u hu=>h u (List.mem_cons_of_mem _ hu))]
theorem Plc.front{l:List Vt}{s:Int}{p:Nat}(h:Plc l s p):∀ u∈l.take p,u.slot<s:=by
 intro u hu;obtain⟨i,hi⟩:=List.mem_iff_getElem?.1 hu;rw[List.getElem?_take]at hi
 split at hi
 ·rename_i hip;exact h.lo i u hip hi
 ·cases hi
theorem Plc.has{l:List Vt}{v u:Vt}{p:Nat}(h:Plc l v.slot p)(hu:l[p]?=some u)(he:u.slot=v.slot):Bf l v=l.take p++(v::l.drop (p+1)):=by
 obtain⟨hp,e⟩:=List.getElem?_eq_some_iff.1 hu;have hd:l.drop p=u::l.drop (p+1):=by rw[← e];exact List.drop_eq_getElem_cons hp
 have h1:=M0 (l.take p) (l.drop p) v h.front;rw[List.take_append_drop]at h1
 rw[h1,hd,Bf,if_neg (by omega),if_pos he]
theorem Plc.no{l:List Vt}{v:Vt}{p:Nat}(h:Plc l v.slot p)(hn:∀ u,l[p]?=some u→u.slot≠v.slot):Bf l v=l.take p++(v::l.drop p):=by
 have h1:=M0 (l.take p) (l.drop p) v h.front;rw[List.take_append_drop]at h1
 rw[h1];rcases Nat.lt_or_ge p l.length with hp|hp
 ·have hd:l.drop p=l[p]::l.drop (p+1):=List.drop_eq_getElem_cons hp;have h2:=h.hi p l[p] (Nat.le_refl _) (List.getElem?_eq_getElem hp);have h3:=hn l[p] (List.getElem?_eq_getElem hp);rw[hd,Bf,if_neg (by omega),if_neg h3]
 ·rw[List.drop_eq_nil_of_le hp,Bf]
theorem Plc.ofSlot_has{l:List Vt}{s:Int}{p:Nat}{u:Vt}(hr:BA l)(hu:l[p]?=some u)(he:u.slot=s):Am l s=[u]:=by
 have h1:=I7 hr s;have h2:u∈Am l s:=Cu.2 ⟨List.mem_iff_getElem?.2 ⟨p,hu⟩,he⟩
 match hl:Am l s with
 | []=>rw[hl]at h2;cases h2
 | [x]=>rw[hl]at h2;rw[List.mem_singleton.1 h2]
 | x::y::r=>rw[hl]at h1;simp at h1
theorem Plc.ofSlot_no{l:List Vt}{s:Int}{p:Nat}(hr:BA l)(h:Plc l s p)(hn:∀ u,l[p]?=some u→u.slot≠s):Am l s=[]:=by
 rw[List.eq_nil_iff_forall_not_mem];intro u hu;obtain⟨hu,he⟩:=Cu.1 hu;obtain⟨i,hi⟩:=List.mem_iff_getElem?.1 hu;rcases Nat.lt_trichotomy i p with hip|rfl|hip
 ·have:=h.lo i u hip hi;omega
 ·exact hn u hi he
 ·have hip':i<l.length:=(List.getElem?_eq_some_iff.1 hi).1;have hp:p<l.length:=by omega
  have h2:=h.hi p l[p] (Nat.le_refl _) (List.getElem?_eq_getElem hp);have h3:=rise_lt hr hip (List.getElem?_eq_getElem hp) hi;omega
where
 rise_lt:∀ {l:List Vt} (hr:BA l) {i j:Nat} (hij:i<j) {u v:Vt} (hu:l[i]?=some u) (hv:l[j]?=some v),u.slot<v.slot
  | x::xs,hr,0,j+1,_,u,v,hu,hv=>by
   simp at hu hv;subst hu;exact hr.1 v (List.mem_iff_getElem?.2 ⟨j,hv⟩)
  | x::xs,hr,i+1,j+1,hij,u,v,hu,hv=>rise_lt (l:=xs) hr.2 (i:=i) (j:=j) (by omega) (by simpa using hu) (by simpa using hv)
  | [],_,i,j,_,u,v,hu,hv=>by simp at hu
theorem BA.get{l:List Vt}(hr:BA l){i j:Nat}(hij:i<j){u v:Vt}(hu:l[i]?=some u)(hv:l[j]?=some v):u.slot<v.slot:=Plc.ofSlot_no.rise_lt hr hij hu hv
theorem Plc.half{l:List Vt}(hr:BA l){s:Int}{i j h:Nat}{u:Vt}(hu:l[h]?=some u)(hlo:∀ (k:Nat) (v:Vt),k<i→l[k]?=some v→v.slot<s)(hhi:∀ (k:Nat) (v:Vt),j≤k→l[k]?=some v→s≤v.slot) :
  (u.slot<s→∀ (k:Nat) (v:Vt),k<h+1→l[k]?=some v→v.slot<s)∧(s≤u.slot→∀ (k:Nat) (v:Vt),h≤k→l[k]?=some v→s≤v.slot):=by
 constructor
 ·intro g k v hk hv;rcases Nat.lt_or_ge k h with hkh|hkh
  ·have:=hr.get hkh hv hu;omega
  ·obtain rfl:k=h:=by omega
   rw[hu]at hv;cases hv;exact g
 ·intro g k v hk hv;rcases Nat.lt_or_ge h k with hkh|hkh
  ·have:=hr.get hkh hu hv;omega
  ·obtain rfl:k=h:=by omega
   rw[hu]at hv;cases hv;exact g
def Pb(o:Option Vt)(v:Vt):Option Vt:=match o with
 | none=>some v
 | some u=>if u.b.lt v.b then some v else some u
theorem Qf(l:List Vt)(v:Vt)(o:Option Vt):BQ (l++[v]) o=Pb (BQ l o) v:=by
 induction l generalizing o with
 | nil =>
  cases o with
  | none=>rfl
  | some u =>
   show BQ [v] (some u)=Pb (some u) v;rw[BQ,Pb];split<;>rfl
 | cons x l ih =>
  cases o with
  | none=>exact ih _
  | some u =>
   show BQ (x::(l++[v])) (some u)=Pb (BQ (x::l) (some u)) v;rw[BQ,BQ];split
   ·exact ih _
   ·exact ih _
def vt0:Vt:=⟨0,⟨0,0⟩,⟨0,0,0,0,0⟩⟩
def DQ(o:Option Vt)(x:Vt):Prop:=(o=none∧x=vt0)∨(o=some x∧Ad x.b)
theorem DQ.next{o:Option Vt}{x v:Vt}(h:DQ o x)(hv:Ad v.b):DQ (Pb o v) (if x.b.lt v.b then v else x):=by
 rcases h with⟨rfl,rfl⟩|⟨rfl,hx⟩
 ·rw[if_pos (by unfold Ad at hv;unfold Bal.lt;simp[vt0];omega)];exact .inr ⟨rfl,hv⟩
 ·show DQ (if x.b.lt v.b then some v else some x) _;split
  ·exact .inr ⟨rfl,hv⟩
  ·exact .inr ⟨rfl,hx⟩
theorem DQ.pick{ls:List (List Vt)}{s:Int}{x:Vt}(hs:0≤s∧s≤39)(hb:∀ l∈ls,∀ v∈l,Aj v)(h:DQ (KQ ls s) x):(if C1 ls s=0 then((KQ ls s).map (·.w)).getD ⟨0,0,0,0,0⟩else⟨0,0,0,0,0⟩)=x.w∧(if C1 ls s=0 then(KQ ls s).isSome else false)=!decide (x.b.r=0∧x.b.n=0)∧C1 ls s=0:=by
 have e:C1 ls s=0:=by unfold C1;rw[if_neg (fun g=>g hs),if_pos hb]
 rw[if_pos e,if_pos e];rcases h with⟨h1,rfl⟩|⟨h1,h2⟩
 ·rw[h1];exact⟨rfl,rfl,e⟩
 ·rw[h1];refine⟨rfl,?_,e⟩;rw[decide_eq_false (by unfold Ad at h2;omega)];rfl
theorem Xa(l:List Vt){u v:Vt}(h:u≠v):CJ l u+CJ l v≤l.length:=by
 induction l with
 | nil=>simp[CJ]
 | cons x l ih =>
  unfold CJ at ih ⊢;rw[List.countP_cons,List.countP_cons,List.length_cons];by_cases hx:x=u
  ·subst hx;rw[if_pos (by simp),if_neg (by simp[h])];omega
  ·by_cases hy:x=v
   ·subst hy;rw[if_neg (by simp[hx]),if_pos (by simp)];omega
   ·rw[if_neg (by simp[hx]),if_neg (by simp[hy])];omega
theorem WZ{l:List Vt}{v:Vt}(h:0<CJ l v):v∈l:=by
 unfold CJ at h;obtain⟨u,hu,e⟩:=List.countP_pos_iff.1 h;rw[← of_decide_eq_true e];exact hu
theorem ZF(a b:List Vt)(v:Vt):CJ a v≤CJ (a++b) v:=by
 unfold CJ;rw[List.countP_append];omega
theorem Qm{l:List Vt}{m:Nat}{v:Vt}(hl:l.length≤m)(h:m<2*CJ l v):Hg l m=some v:=by
 cases hf:Hg l m with
 | none =>
  have:=List.find?_eq_none.1 hf v (WZ (by omega));simp at this;omega
 | some u =>
  have hu:=List.find?_some hf;simp at hu;by_cases e:u=v
  ·rw[e]
  ·have:=Xa l e;omega
theorem Vz{l:List Vt}{m:Nat}(h:∀ v,2*CJ l v≤m):Hg l m=none:=by
 unfold Hg;rw[List.find?_eq_none];intro v _;have:=h v;simp;omega
end
section
open Go.RowKit
theorem Sv.first{w:World}{a:Option Addr}{n cap:Nat}{l:List Vt}(h:Sv w (.slice a n cap) l)(i:Nat)(v:Vt)(hi:l[i]?=some v):∃ b off,a=some ⟨b,off,none⟩∧b<w.heap.size∧w.cell? ⟨b,off+8*i,none⟩=some (.int .i64 v.slot):=by
 obtain⟨b,off,ha,hb,hr⟩:=h.spot i v hi;exact⟨b,off,ha,hb,hr 0 _ rfl⟩
theorem R1(g1 g2:Nat)(a:Option Addr)(n cap:Nat)(l:List Vt)(s:Int)(i:Nat)(v:Vt)(w:World)(hl:l.length=n)(hv:l[i]?=some v)(h:Sv w (.slice a n cap) l)
  (c1:w.cell? ⟨g1,0,none⟩=some (.slice a n cap))(c2:w.cell? ⟨g2,0,none⟩=some (.int .i64 s)) :
  Calls prog 183 #[.int .i64 (i:Int),.pointer (some ⟨g1,0,none⟩),.pointer (some ⟨g2,0,none⟩)] w fun e w'=>e=.returned (.bool (decide (s≤v.slot)))∧Bw w w':=by
 obtain⟨b,off,rfl,hb,c3⟩:=h.first i v hv;have hin:i<n:=by have:=(List.getElem?_eq_some_iff.1 hv).1;omega
 have hix:=D1 b off n cap i hin;have bb:=Below.refl w.heap.size w;go_enter func183,ntmps183
 go_wp2_with fail
 go_quiet (fail)
 have e1:Bw w (w.drewN nq):=An bb nq;go_wp2
 go_ret;exact⟨Ae (by simp),e1⟩
theorem RA(g1 g2:Nat)(a:Option Addr)(n cap:Nat)(l:List Vt)(s:Int)(w:World)(hl:l.length=n)(hr:BA l)(h:Sv w (.slice a n cap) l)(l1:g1<w.heap.size)(l2:g2<w.heap.size)
  (c1:w.cell? ⟨g1,0,none⟩=some (.slice a n cap))(c2:w.cell? ⟨g2,0,none⟩=some (.int .i64 s)) :
  Calls prog 182 #[.int .i64 (n:Int),.func (.func 183) #[] #[.pointer (some ⟨g1,0,none⟩),.pointer (some ⟨g2,0,none⟩)]] w fun e w'=>∃ p:Nat,e=.returned (.int .i64 (p:Int))∧Plc l s p∧Bw w w':=by
 have hlen:=h.len;rw[hl]at hlen
 have HL:Hid (l.length=n):=hl;clear hl;go_enter func182,ntmps182
 go_wp2_with fail
 go_loopw [5,6] (fun iv jv wr=>∃ i j:Nat,i≤j∧j≤n∧iv=.int .i64 (i:Int)∧jv=.int .i64 (j:Int)∧(∀ (k:Nat) (v:Vt),k<i→l[k]?=some v→v.slot<s)∧(∀ (k:Nat) (v:Vt),j≤k→l[k]?=some v→s≤v.slot)∧Bw w wr) (fun iv jv _=>(intOf jv-intOf iv).toNat)
 case atStart=>exact⟨0,n,by omega,by omega,rfl,rfl,fun k v hk=>by omega,fun k v hk hv=>by have:=(List.getElem?_eq_some_iff.1 hv).1;have:=HL.out;omega,Below.refl _ _⟩
 case round =>
  obtain⟨i,j,hij,hjn,rfl,rfl,hlo,hhi,hbel⟩:=hrel;have HLo:Hid (∀ (k:Nat) (v:Vt),k<i→l[k]?=some v→v.slot<s):=hlo;have HHi:Hid (∀ (k:Nat) (v:Vt),j≤k→l[k]?=some v→s≤v.slot):=hhi;clear hlo hhi;by_cases hlt:i<j
  ·have hlt':(i:Int)<(j:Int):=by omega
   go_wp2_with fail
   obtain⟨m,hm⟩:∃ m:Nat,((i:Int)+(j:Int))/2=(m:Int):=⟨(i+j)/2,by omega⟩;rw[hm];have m1:i≤m:=by omega
   have m2:m<j:=by omega
   clear hm;obtain⟨v,hv⟩:∃ v,l[m]?=some v:=⟨_,List.getElem?_eq_getElem (by have:=HL.out;omega)⟩;refine(R1 g1 g2 a n cap l s m v wr HL.out hv (h.below hbel) ((hbel.cell (p:=⟨g1,0,none⟩) l1).trans c1) ((hbel.cell (p:=⟨g2,0,none⟩) l2).trans c2)).mono ?_;rintro e w2 ⟨rfl,b2⟩;have e2:=hbel.trans (b2.mono hbel.size);obtain⟨P1,P2⟩:=Plc.half hr hv HLo.out HHi.out;by_cases hs:s≤v.slot
   ·rw[decide_eq_true hs];have HH:Hid (∀ (k:Nat) (v:Vt),m≤k→l[k]?=some v→s≤v.slot):=P2 hs;clear P1 P2 hv hs;go_wp2
    go_roundw
    case rel=>exact⟨i,m,by omega,by omega,rfl,rfl,HLo.out,HH.out,e2⟩
    case measure=>simp[intOf];omega
   ·rw[decide_eq_false hs];have HH:Hid (∀ (k:Nat) (v:Vt),k<m+1→l[k]?=some v→v.slot<s):=P1 (by omega);clear P1 P2 hv hs;go_wp2
    go_roundw
    case rel=>exact⟨m+1,j,by omega,by omega,by go_num,rfl,HH.out,HHi.out,e2⟩
    case measure=>simp[intOf];omega
  ·obtain rfl:i=j:=by omega
   go_wp2
   go_ret;exact⟨i,rfl,⟨by have:=HL.out;omega,HLo.out,HHi.out⟩,hbel⟩
theorem Jk(x:Value)(l:List Vt)(s:Int)(w:World)(hr:BA l)(h:Sv w x l) :
  Calls prog 164 #[x,.int .i64 s] w fun e w'=>∃ p:Nat,e=.returned (.int .i64 (p:Int))∧Plc l s p∧Bw w w':=by
 obtain⟨a,cp,rfl⟩:=h.shape;obtain⟨n,hn⟩:∃ n,l.length=n:=⟨_,rfl⟩;rw[hn]at h ⊢
 have HL:Hid (l.length=n):=hn;clear hn;have r1:=heap_alloc2_old w (.cells #[.slice a n cp] 75) (.cells #[.int .i64 s] 3);have r2:=heap_alloc2_new w (.cells #[.slice a n cp] 75) (.cells #[.int .i64 s] 3);have bb:Bw w ((w.alloc (.cells #[.slice a n cp] 75)).alloc (.cells #[.int .i64 s] 3)):=((Below.refl _ _).alloc (Nat.le_refl _) _).alloc (by simp) _;generalize hW:(w.alloc (.cells #[.slice a n cp] 75)).alloc (.cells #[.int .i64 s] 3)=W at r1 r2 bb;have z:W.heap.size=w.heap.size+2:=by rw[← hW];simp
 have c1:W.cell? ⟨w.heap.size,0,none⟩=some (.slice a n cp):=cell_of_row _ _ 0 _ _ _ r1;have c2:W.cell? ⟨w.heap.size+1,0,none⟩=some (.int .i64 s):=cell_of_row _ _ 0 _ _ _ r2;have hW2:=h.below bb;go_enter func164,ntmps164
 go_wp2_with fail
 clear hW;refine(RA w.heap.size (w.heap.size+1) a n cp l s W HL.out hr hW2 (by omega) (by omega) c1 c2).mono ?_;rintro e w2 ⟨p,rfl,hp,b2⟩;have d2:=bb.trans (b2.mono bb.size);have HP:Hid (Plc l s p):=hp;clear hp;go_wp2
 go_ret;exact⟨p,rfl,HP.out,d2⟩
def K7(l:List Vt)(p:Nat)(s:Int):Bool:=match l[p]? with|some v=>decide (v.slot=s)|none=>false
theorem I1{l:List Vt}{p:Nat}{s:Int}{v:Vt}(h:l[p]?=some v):K7 l p s=decide (v.slot=s):=by unfold K7;rw[h]
theorem Mw{l:List Vt}{p:Nat}{s:Int}(h:l[p]?=none):K7 l p s=false:=by unfold K7;rw[h]
theorem Mx{l:List Vt}{p:Nat}{s:Int}(h:K7 l p s=true):∃ v,l[p]?=some v∧v.slot=s:=by
 cases hu:l[p]? with
 | none=>rw[Mw hu]at h;cases h
 | some v=>rw[I1 hu]at h;exact⟨v,rfl,of_decide_eq_true h⟩
theorem K8{l:List Vt}{p:Nat}{s:Int}(h:K7 l p s=false):∀ v,l[p]?=some v→v.slot≠s:=by
 intro v hv;rw[I1 hv]at h
 exact of_decide_eq_false h
theorem IZ(x:Value)(l:List Vt)(p:Nat)(s:Int)(w:World)(h:Sv w x l) :
  Calls prog 165 #[x,.int .i64 (p:Int),.int .i64 s] w fun e w'=>e=.returned (.bool (K7 l p s))∧w'=w:=by
 obtain⟨a,cp,rfl⟩:=h.shape;obtain⟨n,hn⟩:∃ n,l.length=n:=⟨_,rfl⟩;rw[hn]at h ⊢
 by_cases hp:p<n
 ·obtain⟨v,hv⟩:∃ v,l[p]?=some v:=⟨_,List.getElem?_eq_getElem (by omega)⟩;obtain⟨b,off,rfl,hb,c3⟩:=h.first p v hv;have hix:=D1 b off n cp p hp;have hpi:(p:Int)<(n:Int):=by omega
  rw[I1 hv];clear hn hv h;go_enter func165,ntmps165
  go_wp2
  go_ret;exact⟨Ae (by first|rfl|simp),rfl⟩
 ·have hv:l[p]?=none:=List.getElem?_eq_none (by omega);have hpi:¬ (p:Int)<(n:Int):=by omega
  rw[Mw hv];clear hn hv h;go_enter func165,ntmps165
  go_wp2
  go_ret;exact⟨rfl,rfl⟩
end
end Go.Proofs.YtfhbkoflaekhpadGreatDoor
