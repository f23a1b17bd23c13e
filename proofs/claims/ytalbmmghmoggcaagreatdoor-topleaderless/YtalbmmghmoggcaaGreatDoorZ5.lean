/- Part 5 of the walk. -/
import Derived.Test.YtalbmmghmoggcaaGreatDoorZ4
set_option maxRecDepth 100000
set_option maxHeartbeats 4000000
open Go.Proofs.Tryz
set_option linter.unusedVariables false
namespace Go.Proofs.YtalbmmghmoggcaaGreatDoor
section
open Go.RowKit
theorem NTab.value1{w:World}(h:NTab w):w.cell? ⟨2,1*3+2,none⟩=some (.int .i64 1073741824):=h.cell 5 (by omega)
theorem NTab.value{w:World}(h:NTab w)(k:Nat)(h0:1<=k)(h1:k<=3):w.cell? ⟨2,k*3+2,none⟩=some (.int .i64 (if k=1 then 1073741824 else 0)):=by
 rcases(by omega:k=1\/k=2\/k=3)with rfl|rfl|rfl
 .exact h.cell 5 (by omega)
 .exact h.cell 8 (by omega)
 .exact h.cell 11 (by omega)
theorem Du(k c s n v:Int)(w:World)(ht:NTab w) :
  Calls prog 74 #[.agg (cmA k c s n v)] w fun e w'=>e=.returned (.int .i64 (AT k c s n v))/\Bw w w':=by
 have bb:Bw w (w.alloc (.cells (cmA k c s n v) 54)):=(Below.refl _ _).alloc (Nat.le_refl _) _;have bc:=Bc.made w k c s n v;have hT:=ht.below bb;have hi:=F8 k c s n v;generalize hW:w.alloc (.cells (cmA k c s n v) 54)=W at bb bc hT;have hW':w.alloc (.cells #[.int .i64 k,.int .i64 c,.int .i64 s,.int .i64 n,.int .i64 v] 54)=W:=hW;obtain⟨c0,c1,c2,c3,c4⟩:=Eb bc.row;clear ht;go_enter func74,ntmps74
 go_wp2_with fail
 clear hW hW';refine(Qc k _).mono ?_;rintro e w1 ⟨rfl,rfl⟩;by_cases h1:0<=k/\k<=3
 .rw[decide_eq_true h1];by_cases h2:k=0
  .subst h2;go_wp2_with (refine wpList_load_row rfl 54 _ rfl w.heap.size rfl 54 _ (0,0) _ bc.row underlying54 rfl hi ?_)
   refine(VS c s n v _).mono ?_;rintro e w2 ⟨rfl,b2⟩;have d2:Bw w w2:=bb.trans (b2.mono bb.size);go_wp2
   go_ret;exact⟨rfl,d2⟩
  .obtain⟨m,rfl⟩:=Int.eq_ofNat_of_zero_le h1.1;have hk:1<=(m:Int)/\(m:Int)<=3:=by omega
   go_wp2_with (refine wpList_load_row rfl 54 _ rfl w.heap.size rfl 54 _ (0,0) _ bc.row underlying54 rfl hi ?_)
   refine(MA (m:Int) c s n v _ hk hT).mono ?_;rintro e w2 ⟨rfl,b2⟩;have d2:Bw w w2:=bb.trans (b2.mono bb.size);have bc2:=bc.below b2;have hT2:=hT.below b2;clear c0 c1 c2 c3 c4 bc hT b2 bb;by_cases h3:InC c s n v
   .rw[decide_eq_true h3];obtain⟨c0,c1,c2,c3,c4⟩:=Eb bc2.row;have hV:=hT2.value m (by omega) (by omega);have k0:(0:Int)<=(m:Int):=by omega
    have k1:(m:Int)<4:=by omega
    have k2:m<4:=by omega
    clear bc2 hT2 h1 h2;by_cases h4:v<=(if m=1 then 1073741824 else 0)
    .have HE:Hid (0=AT (m:Int) c s n v):=by
      refine(Rt hk h3 ?_).symm;unfold InC at h3;split at h4<;>omega
     clear h3 hk;generalize (if m=1 then(1073741824:Int)else 0)=V at hV h4;go_wp2_with fail
     go_quiet (fail)
     have e1:Bw w (w2.drewN nq):=An d2 nq;generalize w2.drewN nq=w3 at e1 ⊢;go_wp2
     go_ret;exact⟨Az HE.out,e1⟩
    .have HE:Hid (3=AT (m:Int) c s n v):=by
      unfold InC at h3;refine(S7 ⟨?_,by omega⟩ (by unfold InC;omega) ?_).symm
      .split at h4<;>omega
      .split at h4<;>omega
     clear h3 hk;generalize (if m=1 then(1073741824:Int)else 0)=V at hV h4;go_wp2_with fail
     go_quiet (fail)
     have e1:Bw w (w2.drewN nq):=An d2 nq;generalize w2.drewN nq=w3 at e1 ⊢;go_wp2
     go_ret;exact⟨Az HE.out,e1⟩
   .rw[decide_eq_false h3];have HE:Hid (2=AT (m:Int) c s n v):=(PB hk h3).symm;clear h3;go_wp2
    go_ret;exact⟨Az HE.out,d2⟩
 .rw[decide_eq_false h1];have HE:Hid (4=AT k c s n v):=(S8 h1).symm;go_wp2
  go_ret;exact⟨Az HE.out,bb⟩
theorem Gg(s:Int)(w:World) :
  Calls prog 152 #[.int .i64 s] w fun e w'=>e=.returned (.bool (decide (0<=s/\s<=39)))/\w'=w:=by
 by_cases h0:0<=s
 .by_cases h1:s<40
  .rw[decide_eq_true ⟨h0,by omega⟩];go_enter func152,ntmps152
   go_wp2
   go_ret;exact⟨Ac (by simp),rfl⟩
  .rw[decide_eq_false (by omega)];go_enter func152,ntmps152
   go_wp2
   go_ret;exact⟨Ac (by simp),rfl⟩
 .rw[decide_eq_false (by omega)];go_enter func152,ntmps152
  go_wp2
  go_ret;exact⟨Ac (by simp),rfl⟩
theorem Kg(b:Bal)(w:World) :
  Calls prog 130 #[.agg (baA b)] w fun e w'=>e=.returned (.bool (decide (Ad b)))/\Bw w w':=by
 obtain⟨r,n⟩:=b;have bb:Bw w (w.alloc (.cells (baA ⟨r,n⟩) 74)):=(Below.refl _ _).alloc (Nat.le_refl _) _;have rr:=heap_alloc_new w (.cells (baA ⟨r,n⟩) 74);generalize hW:w.alloc (.cells (baA ⟨r,n⟩) 74)=W at bb rr;have c0:W.cell? ⟨w.heap.size,0,none⟩=some (.int .i64 r):=(Dh rr).1;have c1:W.cell? ⟨w.heap.size,1,none⟩=some (.int .i64 n):=(Dh rr).2;clear rr;by_cases h1:1<=r
 .by_cases h2:r<=65536
  .by_cases h3:0<=n
   .by_cases h4:n<5
    .have HB:Hid (true=decide (Ad ⟨r,n⟩)):=(decide_eq_true (by simp only[Ad];omega)).symm;go_enter func130,ntmps130
     go_wp2
     go_ret;exact⟨Ac HB.out,bb⟩
    .have HB:Hid (false=decide (Ad ⟨r,n⟩)):=(decide_eq_false (by simp only[Ad];omega)).symm;go_enter func130,ntmps130
     go_wp2
     go_ret;exact⟨Ac HB.out,bb⟩
   .have HB:Hid (false=decide (Ad ⟨r,n⟩)):=(decide_eq_false (by simp only[Ad];omega)).symm;go_enter func130,ntmps130
    go_wp2
    go_ret;exact⟨Ac HB.out,bb⟩
  .have HB:Hid (false=decide (Ad ⟨r,n⟩)):=(decide_eq_false (by simp only[Ad];omega)).symm;go_enter func130,ntmps130
   go_wp2
   go_ret;exact⟨Ac HB.out,bb⟩
 .have HB:Hid (false=decide (Ad ⟨r,n⟩)):=(decide_eq_false (by simp only[Ad];omega)).symm;go_enter func130,ntmps130
  go_wp2
  go_ret;exact⟨Ac HB.out,bb⟩
theorem Dq(a b:Bal)(w:World) :
  Calls prog 131 #[.agg (baA a),.agg (baA b)] w fun e w'=>e=.returned (.bool (decide (a.lt b)))/\Bw w w':=by
 obtain⟨r,n⟩:=a;obtain⟨q,m⟩:=b;have b1:Bw w (w.alloc (.cells (baA ⟨r,n⟩) 74)):=(Below.refl _ _).alloc (Nat.le_refl _) _;have r1:=heap_alloc_new w (.cells (baA ⟨r,n⟩) 74);have z1:(w.alloc (.cells (baA ⟨r,n⟩) 74)).heap.size=w.heap.size+1:=by simp
 have b2:Below (w.heap.size+1) (w.alloc (.cells (baA ⟨r,n⟩) 74)) ((w.alloc (.cells (baA ⟨r,n⟩) 74)).alloc (.cells (baA ⟨q,m⟩) 74)):=(Below.refl _ _).alloc (by omega) _;have r2:=heap_alloc_new (w.alloc (.cells (baA ⟨r,n⟩) 74)) (.cells (baA ⟨q,m⟩) 74);rw[z1]at r2
 replace r1:=(b2.block w.heap.size (by omega)).trans r1;have bb:=b1.trans (b2.mono (Nat.le_succ _));clear b1 b2 z1;generalize hW:(w.alloc (.cells (baA ⟨r,n⟩) 74)).alloc (.cells (baA ⟨q,m⟩) 74)=W at bb r1 r2;have c0:W.cell? ⟨w.heap.size,0,none⟩=some (.int .i64 r):=(Dh r1).1;have c1:W.cell? ⟨w.heap.size,1,none⟩=some (.int .i64 n):=(Dh r1).2;have e0:W.cell? ⟨w.heap.size+1,0,none⟩=some (.int .i64 q):=(Dh r2).1;have e1:W.cell? ⟨w.heap.size+1,1,none⟩=some (.int .i64 m):=(Dh r2).2;clear r1 r2;by_cases h2:r=q
 .subst h2;have HB:Hid (decide (n<m)=decide (Bal.lt ⟨r,n⟩ ⟨r,m⟩)):=decide_eq_decide.2 (by unfold Bal.lt;simp);go_enter func131,ntmps131
  go_wp2
  go_ret;exact⟨Ac HB.out,bb⟩
 .have HB:Hid (decide (r<q)=decide (Bal.lt ⟨r,n⟩ ⟨q,m⟩)):=decide_eq_decide.2 (by unfold Bal.lt;simp[h2]);go_enter func131,ntmps131
  go_wp2
  go_ret;exact⟨Ac HB.out,bb⟩
theorem GR(v:Vt)(w:World)(ht:NTab w) :
  Calls prog 136 #[.agg (vtA v)] w fun e w'=>e=.returned (.bool (decide (Am v)))/\Bw w w':=by
 obtain⟨s,⟨r,n⟩,⟨k,c,q,m,x⟩⟩:=v;have bb:Bw w (w.alloc (.cells (vtA ⟨s,⟨r,n⟩,⟨k,c,q,m,x⟩⟩) 139)):=(Below.refl _ _).alloc (Nat.le_refl _) _;have rr:=heap_alloc_new w (.cells (vtA ⟨s,⟨r,n⟩,⟨k,c,q,m,x⟩⟩) 139);have hT:=ht.below bb;clear ht;generalize hW:w.alloc (.cells (vtA ⟨s,⟨r,n⟩,⟨k,c,q,m,x⟩⟩) 139)=W at bb rr hT;have lt:=(Array.getElem?_eq_some_iff.1 rr).1;have HC:Hid (∀ w',Bw W w'->_):=fun w' hb=>Iz ((hb.block _ lt).trans rr);obtain⟨c0,c1,c2,c3,c4,c5,c6,c7⟩:=Iz rr;clear rr;go_enter func136,ntmps136
 go_wp2_with fail
 clear hW;refine(Gg s _).mono ?_;rintro e w1 ⟨rfl,rfl⟩;by_cases h1:0<=s/\s<=39
 .rw[decide_eq_true h1];go_wp2_with fail
  refine(Kg ⟨r,n⟩ _).mono ?_;rintro e w2 ⟨rfl,b2⟩;have d2:=bb.trans (b2.mono bb.size);have hT2:=hT.below b2;obtain⟨c0,c1,c2,c3,c4,c5,c6,c7⟩:=HC.out w2 b2;by_cases h2:Ad ⟨r,n⟩
  .rw[decide_eq_true h2];go_wp2_with fail
   refine(Du k c q m x _ hT2).mono ?_;rintro e w3 ⟨rfl,b3⟩;have d3:=d2.trans (b3.mono d2.size);by_cases h3:AT k c q m x=0
   .have HB:Hid (true=decide (Am ⟨s,⟨r,n⟩,⟨k,c,q,m,x⟩⟩)):=(decide_eq_true ⟨h1,h2,h3⟩).symm;rw[h3];clear c0 c1 c2 c3 c4 c5 c6 c7 h3;go_wp2
    go_ret;exact⟨Ac HB.out,d3⟩
   .have HB:Hid (false=decide (Am ⟨s,⟨r,n⟩,⟨k,c,q,m,x⟩⟩)):=(decide_eq_false (fun g=>h3 g.2.2)).symm;generalize AT k c q m x=E at h3 ⊢;go_wp2
    go_ret;exact⟨by rw[<- HB.out];simp[h3],d3⟩
  .rw[decide_eq_false h2];have HB:Hid (false=decide (Am ⟨s,⟨r,n⟩,⟨k,c,q,m,x⟩⟩)):=(decide_eq_false (fun g=>h2 g.2.1)).symm;go_wp2
   go_ret;exact⟨Ac HB.out,d2⟩
 .rw[decide_eq_false h1];have HB:Hid (false=decide (Am ⟨s,⟨r,n⟩,⟨k,c,q,m,x⟩⟩)):=(decide_eq_false (fun g=>h1 g.1)).symm;go_wp2
  go_ret;exact⟨Ac HB.out,bb⟩
theorem RF(a b a' b':Int):∀ w,(binOp .neq 74 (.agg #[.int .i64 a,.int .i64 b]) (.agg #[.int .i64 a',.int .i64 b'])).run prog w=.ok (.bool (!decide (a=a'/\b=b'))) w:=by
 intro w;rw[run_neq_struct,run_equalIn_agg w 9999 _ _ _ (by kernel_rfl) (by kernel_rfl)];unfold Program.fieldsOf;rw[underlying74];have h3:=underlying3;simp[Op.eqFields,go_sem,h3]
 repeat' split
 all_goals simp_all
def DX(l:List Vt)(n:Int):Prop:=0<=n/\n<=40/\∀ s:Int,0<=s->(n<=s↔∀ u∈l,u.slot<s)
theorem DX.nil:DX [] 0:=⟨by omega,by omega,fun s hs=>⟨fun _ u hu=>(List.not_mem_nil hu).elim,fun _=>hs⟩⟩
theorem DX.snoc{l:List Vt}{n:Int}(h:DX l n){v:Vt}(h0:0<=v.slot)(h1:v.slot<=39)(hv:n<=v.slot):DX (l++[v]) (v.slot+1):=by
 refine⟨by omega,by omega,fun s hs=>⟨fun g u hu=>?_,fun g=>?_⟩⟩
 .rcases List.mem_append.1 hu with hu|hu
  .exact(h.2.2 s hs).1 (by omega) u hu
  .obtain rfl:u=v:=by simpa using hu
   omega
 .have:=g v (by simp);omega
theorem H6(p:Bal)(x:Value)(l:List Vt)(w:World)(h:Sv w x l)(ht:NTab w) :
  Calls prog 129 #[.agg (acA p x)] w fun e w'=>e=.returned (.int .i64 (FG ⟨p,l⟩))/\Bw w w':=by
 obtain⟨pr,pn⟩:=p;have hlen:=h.len;obtain⟨ax,cp,rfl⟩:=h.shape;obtain⟨M,hM⟩:∃ M,l.length=M:=⟨_,rfl⟩;have HM:Hid (l.length=M):=hM;rw[hM]at h hlen ⊢
 clear hM;have bb:Bw w (w.alloc (.cells #[.int .i64 pr,.int .i64 pn,.slice ax M cp] 77)):=(Below.refl _ _).alloc (Nat.le_refl _) _;have rr:=heap_alloc_new w (.cells #[.int .i64 pr,.int .i64 pn,.slice ax M cp] 77);simp only[acA];generalize hW:w.alloc (.cells #[.int .i64 pr,.int .i64 pn,.slice ax M cp] 77)=W0 at bb rr;have ltA0:w.heap.size<W0.heap.size:=(Array.getElem?_eq_some_iff.1 rr).1;have a0:W0.cell? ⟨w.heap.size,0,none⟩=some (.int .i64 pr):=cell_of_row _ _ 0 _ _ _ rr;have a1:W0.cell? ⟨w.heap.size,1,none⟩=some (.int .i64 pn):=cell_of_row _ _ 1 _ _ _ rr;have a2:W0.cell? ⟨w.heap.size,2,none⟩=some (.slice ax M cp):=cell_of_row _ _ 2 _ _ _ rr;have hq:=RF pr pn 0 0;clear rr;go_enter func129,ntmps129
 by_cases hz:pr=0/\pn=0
 .have HP:Hid (Bm ⟨pr,pn⟩):=.inr hz;rw[decide_eq_true hz]at hq
  obtain⟨rfl,rfl⟩:=hz;go_wp2_with fail
  clear hW hq;have ltA1:=ltA0;have d1:=bb;have h1:=h.below bb;have t1:=ht.below bb;clear ltA0 bb
  go_loopw [3,19] (fun nv iv wr=>∃ (j:Nat) (n:Int),j<=M/\iv=.int .i64 (j:Int)/\nv=.int .i64 n/\OkV ⟨0,0⟩ (l.take j)/\DX (l.take j) n/\Bw W0 wr) (fun _ iv _=>((M:Int)-intOf iv).toNat)
  case atStart=>exact⟨0,0,by omega,rfl,rfl,⟨fun v hv=>(List.not_mem_nil hv).elim,trivial⟩,DX.nil,Below.refl _ _⟩
  case round =>
   obtain⟨j,n,hj,rfl,rfl,hok,hnx,hbel⟩:=hrel;have HK:Hid (OkV ⟨0,0⟩ (l.take j)):=hok;have HN:Hid (DX (l.take j) n):=hnx;have hn0:=hnx.1;have hn1:=hnx.2.1;clear hok hnx;have a0r:=(hbel.cell (p:=⟨w.heap.size,0,none⟩) ltA1).trans a0;have a1r:=(hbel.cell (p:=⟨w.heap.size,1,none⟩) ltA1).trans a1;have a2r:=(hbel.cell (p:=⟨w.heap.size,2,none⟩) ltA1).trans a2;have hr1:=h1.below hbel;have tr:=t1.below hbel;have dr:=d1.trans (hbel.mono d1.size);have ltAr:w.heap.size<wr.heap.size:=Nat.lt_of_lt_of_le ltA1 hbel.size;by_cases hjM:j<M
   .have hji:(j:Int)<(M:Int):=by omega
    obtain⟨v,hv⟩:∃ v,l[j]?=some v:=⟨_,List.getElem?_eq_getElem (by have:=HM.out;omega)⟩;obtain⟨b,off,hax,ltb,hrg⟩:=hr1.spot j v hv;subst hax;have hix:=Dk b off M cp j hjM;have hsz:=Iq v;have HT:Hid (l.take (j+1)=l.take j++[v]):=D3 l j v hv;obtain⟨vs,⟨vr,vn⟩,⟨vk,vc,vq,vm,vx⟩⟩:=v;have HBad:Hid (AC ⟨⟨0,0⟩,l⟩->Am ⟨vs,⟨vr,vn⟩,⟨vk,vc,vq,vm,vx⟩⟩/\¬ Bal.lt ⟨0,0⟩ ⟨vr,vn⟩/\∀ u∈l.take j,u.slot<vs):=fun g=>by
     have g2:OkV ⟨0,0⟩ (l.take (j+1)++l.drop (j+1)):=by rw[List.take_append_drop];exact g.2
     have g3:=g2.left;rw[HT.out]at g3
     exact(HK.out.snoc _).1 g3
    clear hv;simp only[vtC]at hrg hsz;have bN:Bw wr (wr.alloc (.cells zV8 139)):=(Below.refl _ _).alloc (Nat.le_refl _) _;have rN:=heap_alloc_new wr (.cells zV8 139);have hsz2:(prog.info? 139).map (·.size)=some (#[.int .i64 vs,.int .i64 vr,.int .i64 vn,.int .i64 vk,.int .i64 vc,.int .i64 vq,.int .i64 vm,.int .i64 vx]:Array Value).size:=hsz;have hone:(#[.int .i64 vs,.int .i64 vr,.int .i64 vn,.int .i64 vk,.int .i64 vc,.int .i64 vq,.int .i64 vm,.int .i64 vx]:Array Value).all (·.oneCell')=true:=by simp[Value.oneCell']
    generalize hWN:wr.alloc (.cells zV8 139)=WN at bN rN
    go_upto_region 7 with((with_reducible (refine Ar ?_));first|(refine wpList_load_mid rfl 139 (.tmp 21) rfl b (off+8*j) rfl [.int .i64 vs,.int .i64 vr,.int .i64 vn,.int .i64 vk,.int .i64 vc,.int .i64 vq,.int .i64 vm,.int .i64 vx] _ hrg underlying139 rfl hsz ?_)|(refine wpList_store_row rfl 139 (.tmp 5) (.tmp 22) rfl wr.heap.size (#[.int .i64 vs,.int .i64 vr,.int .i64 vn,.int .i64 vk,.int .i64 vc,.int .i64 vq,.int .i64 vm,.int .i64 vx]) rfl rfl 139 _ rN hsz2 rfl hone ?_))
    clear hWN;have q:=setRow_heap WN wr.heap.size _ (#[.int .i64 vs,.int .i64 vr,.int .i64 vn,.int .i64 vk,.int .i64 vc,.int .i64 vq,.int .i64 vm,.int .i64 vx]) 139 _ rN;replace bN:=Ai bN (Nat.le_refl _) (#[.int .i64 vs,.int .i64 vr,.int .i64 vn,.int .i64 vk,.int .i64 vc,.int .i64 vq,.int .i64 vm,.int .i64 vx]);generalize WN.setRow wr.heap.size (#[.int .i64 vs,.int .i64 vr,.int .i64 vn,.int .i64 vk,.int .i64 vc,.int .i64 vq,.int .i64 vm,.int .i64 vx])=W at q bN ⊢;have dW:=dr.trans (bN.mono dr.size);have eW:=hbel.trans (bN.mono hbel.size);have ltG:wr.heap.size<W.heap.size:=(Array.getElem?_eq_some_iff.1 q).1;have ltA:w.heap.size<W.heap.size:=by omega
    have rA0:=(bN.cell (p:=⟨w.heap.size,0,none⟩) ltAr).trans a0r;have rA1:=(bN.cell (p:=⟨w.heap.size,1,none⟩) ltAr).trans a1r;have tW:=tr.below bN;clear rN a0r a1r a2r hrg hix hsz2 bN hr1 tr;generalize wr.heap.size=G at q ltG ⊢;go_wp2_with ((with_reducible (refine Ar ?_));refine wpList_load_row rfl 139 _ rfl G rfl 139 _ (0,0) _ q underlying139 rfl hsz ?_)
    refine(GR ⟨vs,⟨vr,vn⟩,⟨vk,vc,vq,vm,vx⟩⟩ W tW).mono ?_;rintro e W2 ⟨rfl,b2⟩;have d2:=dW.trans (b2.mono dW.size);have e2:=eW.trans (b2.mono eW.size);have q2:=(b2.block _ ltG).trans q;have x0:W2.cell? ⟨G,0,none⟩=some (.int .i64 vs):=cell_of_row _ _ 0 _ _ _ q2;have x1:W2.cell? ⟨G,1,none⟩=some (.int .i64 vr):=cell_of_row _ _ 1 _ _ _ q2;have x2:W2.cell? ⟨G,2,none⟩=some (.int .i64 vn):=cell_of_row _ _ 2 _ _ _ q2;replace rA0:=(b2.cell (p:=⟨w.heap.size,0,none⟩) ltA).trans rA0;replace rA1:=(b2.cell (p:=⟨w.heap.size,1,none⟩) ltA).trans rA1;have ltG2:G<W2.heap.size:=Nat.lt_of_lt_of_le ltG b2.size;clear b2 q eW dW tW ltG;by_cases hv:Am ⟨vs,⟨vr,vn⟩,⟨vk,vc,vq,vm,vx⟩⟩
    .rw[decide_eq_true hv];by_cases hs:vs<n
     .have HE:Hid (5=FG ⟨⟨0,0⟩,l⟩):=(if_neg (fun g=>by
       have g1:=(HBad.out g).2.2;have g2:=(HN.out.2.2 vs hv.1.1).2 g1;omega)).symm
      clear hv;go_wp2
      go_ret;exact⟨Az HE.out,d2⟩
     .have hs':n<=vs:=by omega
      go_wp2_with fail
      refine(Dq ⟨0,0⟩ ⟨vr,vn⟩ W2).mono ?_;rintro e W3 ⟨rfl,b3⟩;have d3:=d2.trans (b3.mono d2.size);have e3:=e2.trans (b3.mono e2.size);have x0:=(b3.cell (p:=⟨G,0,none⟩) ltG2).trans x0;by_cases hb:Bal.lt ⟨0,0⟩ ⟨vr,vn⟩
      .rw[decide_eq_true hb];have HE:Hid (5=FG ⟨⟨0,0⟩,l⟩):=(if_neg (fun g=>(HBad.out g).2.1 hb)).symm;clear hv hb;go_wp2
       go_ret;exact⟨Az HE.out,d3⟩
      .rw[decide_eq_false hb];have hv1:0<=vs:=hv.1.1;have hv2:vs<=39:=hv.1.2;have HK2:Hid (OkV ⟨0,0⟩ (l.take (j+1))):=by unfold Hid;rw[HT.out];exact(HK.out.snoc _).2 ⟨hv,hb,(HN.out.2.2 vs hv1).1 hs'⟩
       have HN2:Hid (DX (l.take (j+1)) (vs+1)):=by unfold Hid;rw[HT.out];exact HN.out.snoc (v:=⟨vs,⟨vr,vn⟩,⟨vk,vc,vq,vm,vx⟩⟩) hv1 hv2 hs'
       clear hv hb HBad HK HN HT;go_wp2
       go_roundw
       case rel=>exact⟨j+1,vs+1,by omega,by go_num,by go_num,HK2.out,HN2.out,e3⟩
       case measure=>simp[intOf];omega
    .rw[decide_eq_false hv];have HE:Hid (5=FG ⟨⟨0,0⟩,l⟩):=(if_neg (fun g=>hv (HBad.out g).1)).symm;clear hv;go_wp2
     go_ret;exact⟨Az HE.out,d2⟩
   .obtain rfl:j=M:=by omega
    have HE:Hid (0=FG ⟨⟨0,0⟩,l⟩):=by
     have g:=HK.out;rw[List.take_of_length_le (by have:=HM.out;omega)]at g
     exact(if_pos ⟨HP.out,g.1,g.2⟩).symm
    go_wp2
    go_ret;exact⟨Az HE.out,dr⟩
 .rw[decide_eq_false hz]at hq
  go_wp2_with fail
  clear hW hq;refine(Kg ⟨pr,pn⟩ _).mono ?_;rintro e w1 ⟨rfl,b1⟩;have d1:=bb.trans (b1.mono bb.size);replace a0:=(b1.cell (p:=⟨w.heap.size,0,none⟩) ltA0).trans a0;replace a1:=(b1.cell (p:=⟨w.heap.size,1,none⟩) ltA0).trans a1;replace a2:=(b1.cell (p:=⟨w.heap.size,2,none⟩) ltA0).trans a2;have ltA1:w.heap.size<w1.heap.size:=Nat.lt_of_lt_of_le ltA0 b1.size;have h1:=h.below d1;have t1:=ht.below d1;clear b1 bb ltA0;by_cases hp:Ad ⟨pr,pn⟩
  .have HP:Hid (Bm ⟨pr,pn⟩):=.inl hp;rw[decide_eq_true hp];clear hp hz;go_wp2_with fail
   go_loopw [3,19] (fun nv iv wr=>∃ (j:Nat) (n:Int),j<=M/\iv=.int .i64 (j:Int)/\nv=.int .i64 n/\OkV ⟨pr,pn⟩ (l.take j)/\DX (l.take j) n/\Bw w1 wr) (fun _ iv _=>((M:Int)-intOf iv).toNat)
   case atStart=>exact⟨0,0,by omega,rfl,rfl,⟨fun v hv=>(List.not_mem_nil hv).elim,trivial⟩,DX.nil,Below.refl _ _⟩
   case round =>
    obtain⟨j,n,hj,rfl,rfl,hok,hnx,hbel⟩:=hrel;have HK:Hid (OkV ⟨pr,pn⟩ (l.take j)):=hok;have HN:Hid (DX (l.take j) n):=hnx;have hn0:=hnx.1;have hn1:=hnx.2.1;clear hok hnx;have a0r:=(hbel.cell (p:=⟨w.heap.size,0,none⟩) ltA1).trans a0;have a1r:=(hbel.cell (p:=⟨w.heap.size,1,none⟩) ltA1).trans a1;have a2r:=(hbel.cell (p:=⟨w.heap.size,2,none⟩) ltA1).trans a2;have hr1:=h1.below hbel;have tr:=t1.below hbel;have dr:=d1.trans (hbel.mono d1.size);have ltAr:w.heap.size<wr.heap.size:=Nat.lt_of_lt_of_le ltA1 hbel.size;by_cases hjM:j<M
    .have hji:(j:Int)<(M:Int):=by omega
     obtain⟨v,hv⟩:∃ v,l[j]?=some v:=⟨_,List.getElem?_eq_getElem (by have:=HM.out;omega)⟩;obtain⟨b,off,hax,ltb,hrg⟩:=hr1.spot j v hv;subst hax;have hix:=Dk b off M cp j hjM;have hsz:=Iq v;have HT:Hid (l.take (j+1)=l.take j++[v]):=D3 l j v hv;obtain⟨vs,⟨vr,vn⟩,⟨vk,vc,vq,vm,vx⟩⟩:=v;have HBad:Hid (AC ⟨⟨pr,pn⟩,l⟩->Am ⟨vs,⟨vr,vn⟩,⟨vk,vc,vq,vm,vx⟩⟩/\¬ Bal.lt ⟨pr,pn⟩ ⟨vr,vn⟩/\∀ u∈l.take j,u.slot<vs):=fun g=>by
      have g2:OkV ⟨pr,pn⟩ (l.take (j+1)++l.drop (j+1)):=by rw[List.take_append_drop];exact g.2
      have g3:=g2.left;rw[HT.out]at g3
      exact(HK.out.snoc _).1 g3
     clear hv;simp only[vtC]at hrg hsz;have bN:Bw wr (wr.alloc (.cells zV8 139)):=(Below.refl _ _).alloc (Nat.le_refl _) _;have rN:=heap_alloc_new wr (.cells zV8 139);have hsz2:(prog.info? 139).map (·.size)=some (#[.int .i64 vs,.int .i64 vr,.int .i64 vn,.int .i64 vk,.int .i64 vc,.int .i64 vq,.int .i64 vm,.int .i64 vx]:Array Value).size:=hsz;have hone:(#[.int .i64 vs,.int .i64 vr,.int .i64 vn,.int .i64 vk,.int .i64 vc,.int .i64 vq,.int .i64 vm,.int .i64 vx]:Array Value).all (·.oneCell')=true:=by simp[Value.oneCell']
     generalize hWN:wr.alloc (.cells zV8 139)=WN at bN rN
     go_upto_region 7 with((with_reducible (refine Ar ?_));first|(refine wpList_load_mid rfl 139 (.tmp 21) rfl b (off+8*j) rfl [.int .i64 vs,.int .i64 vr,.int .i64 vn,.int .i64 vk,.int .i64 vc,.int .i64 vq,.int .i64 vm,.int .i64 vx] _ hrg underlying139 rfl hsz ?_)|(refine wpList_store_row rfl 139 (.tmp 5) (.tmp 22) rfl wr.heap.size (#[.int .i64 vs,.int .i64 vr,.int .i64 vn,.int .i64 vk,.int .i64 vc,.int .i64 vq,.int .i64 vm,.int .i64 vx]) rfl rfl 139 _ rN hsz2 rfl hone ?_))
     clear hWN;have q:=setRow_heap WN wr.heap.size _ (#[.int .i64 vs,.int .i64 vr,.int .i64 vn,.int .i64 vk,.int .i64 vc,.int .i64 vq,.int .i64 vm,.int .i64 vx]) 139 _ rN;replace bN:=Ai bN (Nat.le_refl _) (#[.int .i64 vs,.int .i64 vr,.int .i64 vn,.int .i64 vk,.int .i64 vc,.int .i64 vq,.int .i64 vm,.int .i64 vx]);generalize WN.setRow wr.heap.size (#[.int .i64 vs,.int .i64 vr,.int .i64 vn,.int .i64 vk,.int .i64 vc,.int .i64 vq,.int .i64 vm,.int .i64 vx])=W at q bN ⊢;have dW:=dr.trans (bN.mono dr.size);have eW:=hbel.trans (bN.mono hbel.size);have ltG:wr.heap.size<W.heap.size:=(Array.getElem?_eq_some_iff.1 q).1;have ltA:w.heap.size<W.heap.size:=by omega
     have rA0:=(bN.cell (p:=⟨w.heap.size,0,none⟩) ltAr).trans a0r;have rA1:=(bN.cell (p:=⟨w.heap.size,1,none⟩) ltAr).trans a1r;have tW:=tr.below bN;clear rN a0r a1r a2r hrg hix hsz2 bN hr1 tr;generalize wr.heap.size=G at q ltG ⊢;go_wp2_with ((with_reducible (refine Ar ?_));refine wpList_load_row rfl 139 _ rfl G rfl 139 _ (0,0) _ q underlying139 rfl hsz ?_)
     refine(GR ⟨vs,⟨vr,vn⟩,⟨vk,vc,vq,vm,vx⟩⟩ W tW).mono ?_;rintro e W2 ⟨rfl,b2⟩;have d2:=dW.trans (b2.mono dW.size);have e2:=eW.trans (b2.mono eW.size);have q2:=(b2.block _ ltG).trans q;have x0:W2.cell? ⟨G,0,none⟩=some (.int .i64 vs):=cell_of_row _ _ 0 _ _ _ q2;have x1:W2.cell? ⟨G,1,none⟩=some (.int .i64 vr):=cell_of_row _ _ 1 _ _ _ q2;have x2:W2.cell? ⟨G,2,none⟩=some (.int .i64 vn):=cell_of_row _ _ 2 _ _ _ q2;replace rA0:=(b2.cell (p:=⟨w.heap.size,0,none⟩) ltA).trans rA0;replace rA1:=(b2.cell (p:=⟨w.heap.size,1,none⟩) ltA).trans rA1;have ltG2:G<W2.heap.size:=Nat.lt_of_lt_of_le ltG b2.size;clear b2 q eW dW tW ltG;by_cases hv:Am ⟨vs,⟨vr,vn⟩,⟨vk,vc,vq,vm,vx⟩⟩
     .rw[decide_eq_true hv];by_cases hs:vs<n
      .have HE:Hid (5=FG ⟨⟨pr,pn⟩,l⟩):=(if_neg (fun g=>by
        have g1:=(HBad.out g).2.2;have g2:=(HN.out.2.2 vs hv.1.1).2 g1;omega)).symm
       clear hv;go_wp2
       go_ret;exact⟨Az HE.out,d2⟩
      .have hs':n<=vs:=by omega
       go_wp2_with fail
       refine(Dq ⟨pr,pn⟩ ⟨vr,vn⟩ W2).mono ?_;rintro e W3 ⟨rfl,b3⟩;have d3:=d2.trans (b3.mono d2.size);have e3:=e2.trans (b3.mono e2.size);have x0:=(b3.cell (p:=⟨G,0,none⟩) ltG2).trans x0;by_cases hb:Bal.lt ⟨pr,pn⟩ ⟨vr,vn⟩
       .rw[decide_eq_true hb];have HE:Hid (5=FG ⟨⟨pr,pn⟩,l⟩):=(if_neg (fun g=>(HBad.out g).2.1 hb)).symm;clear hv hb;go_wp2
        go_ret;exact⟨Az HE.out,d3⟩
       .rw[decide_eq_false hb];have hv1:0<=vs:=hv.1.1;have hv2:vs<=39:=hv.1.2;have HK2:Hid (OkV ⟨pr,pn⟩ (l.take (j+1))):=by unfold Hid;rw[HT.out];exact(HK.out.snoc _).2 ⟨hv,hb,(HN.out.2.2 vs hv1).1 hs'⟩
        have HN2:Hid (DX (l.take (j+1)) (vs+1)):=by unfold Hid;rw[HT.out];exact HN.out.snoc (v:=⟨vs,⟨vr,vn⟩,⟨vk,vc,vq,vm,vx⟩⟩) hv1 hv2 hs'
        clear hv hb HBad HK HN HT;go_wp2
        go_roundw
        case rel=>exact⟨j+1,vs+1,by omega,by go_num,by go_num,HK2.out,HN2.out,e3⟩
        case measure=>simp[intOf];omega
     .rw[decide_eq_false hv];have HE:Hid (5=FG ⟨⟨pr,pn⟩,l⟩):=(if_neg (fun g=>hv (HBad.out g).1)).symm;clear hv;go_wp2
      go_ret;exact⟨Az HE.out,d2⟩
    .obtain rfl:j=M:=by omega
     have HE:Hid (0=FG ⟨⟨pr,pn⟩,l⟩):=by
      have g:=HK.out;rw[List.take_of_length_le (by have:=HM.out;omega)]at g
      exact(if_pos ⟨HP.out,g.1,g.2⟩).symm
     go_wp2
     go_ret;exact⟨Az HE.out,dr⟩
  .rw[decide_eq_false hp];have HE:Hid (5=FG ⟨⟨pr,pn⟩,l⟩):=(if_neg (fun g=>g.1.elim hp hz)).symm;clear hp hz;go_wp2
   go_ret;exact⟨Az HE.out,d1⟩
end
section
structure Plc(l:List Vt)(s:Int)(p:Nat):Prop where
 le:p<=l.length
 lo:∀ (i:Nat) (v:Vt),i<p->l[i]?=some v->v.slot<s
 hi:∀ (i:Nat) (v:Vt),p<=i->l[i]?=some v->s<=v.slot
theorem LJ(a b:List Vt)(v:Vt)(h:∀ u∈a,u.slot<v.slot):Bk (a++b) v=a++Bk b v:=by
 induction a with
 | nil=>rfl
 | cons x a ih =>
  show Bk (x::(a++b)) v=x::(a++Bk b v);rw[Bk,if_pos (h x List.mem_cons_self),ih (fun u hu=>h u (List.mem_cons_of_mem _ hu))]
theorem Plc.front{l:List Vt}{s:Int}{p:Nat}(h:Plc l s p):∀ u∈l.take p,u.slot<s:=by
 intro u hu;obtain⟨i,hi⟩:=List.mem_iff_getElem?.1 hu;rw[List.getElem?_take]at hi
 split at hi
 .rename_i hip;exact h.lo i u hip hi
 .cases hi
theorem Plc.has{l:List Vt}{v u:Vt}{p:Nat}(h:Plc l v.slot p)(hu:l[p]?=some u)(he:u.slot=v.slot):Bk l v=l.take p++(v::l.drop (p+1)):=by
 obtain⟨hp,e⟩:=List.getElem?_eq_some_iff.1 hu;have hd:l.drop p=u::l.drop (p+1):=by rw[<- e];exact List.drop_eq_getElem_cons hp
 have h1:=LJ (l.take p) (l.drop p) v h.front;rw[List.take_append_drop]at h1
 rw[h1,hd,Bk,if_neg (by omega),if_pos he]
theorem Plc.no{l:List Vt}{v:Vt}{p:Nat}(h:Plc l v.slot p)(hn:∀ u,l[p]?=some u->u.slot≠v.slot):Bk l v=l.take p++(v::l.drop p):=by
 have h1:=LJ (l.take p) (l.drop p) v h.front;rw[List.take_append_drop]at h1
 rw[h1];rcases Nat.lt_or_ge p l.length with hp|hp
 .have hd:l.drop p=l[p]::l.drop (p+1):=List.drop_eq_getElem_cons hp;have h2:=h.hi p l[p] (Nat.le_refl _) (List.getElem?_eq_getElem hp);have h3:=hn l[p] (List.getElem?_eq_getElem hp);rw[hd,Bk,if_neg (by omega),if_neg h3]
 .rw[List.drop_eq_nil_of_le hp,Bk]
theorem Plc.ofSlot_has{l:List Vt}{s:Int}{p:Nat}{u:Vt}(hr:B2 l)(hu:l[p]?=some u)(he:u.slot=s):Al l s=[u]:=by
 have h1:=Ii hr s;have h2:u∈Al l s:=CJ.2 ⟨List.mem_iff_getElem?.2 ⟨p,hu⟩,he⟩
 match hl:Al l s with
 | []=>rw[hl]at h2;cases h2
 | [x]=>rw[hl]at h2;rw[List.mem_singleton.1 h2]
 | x::y::r=>rw[hl]at h1;simp at h1
theorem Plc.ofSlot_no{l:List Vt}{s:Int}{p:Nat}(hr:B2 l)(h:Plc l s p)(hn:∀ u,l[p]?=some u->u.slot≠s):Al l s=[]:=by
 rw[List.eq_nil_iff_forall_not_mem];intro u hu;obtain⟨hu,he⟩:=CJ.1 hu;obtain⟨i,hi⟩:=List.mem_iff_getElem?.1 hu;rcases Nat.lt_trichotomy i p with hip|rfl|hip
 .have:=h.lo i u hip hi;omega
 .exact hn u hi he
 .have hip':i<l.length:=(List.getElem?_eq_some_iff.1 hi).1;have hp:p<l.length:=by omega
  have h2:=h.hi p l[p] (Nat.le_refl _) (List.getElem?_eq_getElem hp);have h3:=rise_lt hr hip (List.getElem?_eq_getElem hp) hi;omega
where
 rise_lt:∀ {l:List Vt} (hr:B2 l) {i j:Nat} (hij:i<j) {u v:Vt} (hu:l[i]?=some u) (hv:l[j]?=some v),u.slot<v.slot
  | x::xs,hr,0,j+1,_,u,v,hu,hv=>by
   simp at hu hv;subst hu;exact hr.1 v (List.mem_iff_getElem?.2 ⟨j,hv⟩)
  | x::xs,hr,i+1,j+1,hij,u,v,hu,hv=>rise_lt (l:=xs) hr.2 (i:=i) (j:=j) (by omega) (by simpa using hu) (by simpa using hv)
  | [],_,i,j,_,u,v,hu,hv=>by simp at hu
theorem B2.get{l:List Vt}(hr:B2 l){i j:Nat}(hij:i<j){u v:Vt}(hu:l[i]?=some u)(hv:l[j]?=some v):u.slot<v.slot:=Plc.ofSlot_no.rise_lt hr hij hu hv
theorem Plc.half{l:List Vt}(hr:B2 l){s:Int}{i j h:Nat}{u:Vt}(hu:l[h]?=some u)(hlo:∀ (k:Nat) (v:Vt),k<i->l[k]?=some v->v.slot<s)(hhi:∀ (k:Nat) (v:Vt),j<=k->l[k]?=some v->s<=v.slot) :
  (u.slot<s->∀ (k:Nat) (v:Vt),k<h+1->l[k]?=some v->v.slot<s)/\(s<=u.slot->∀ (k:Nat) (v:Vt),h<=k->l[k]?=some v->s<=v.slot):=by
 constructor
 .intro g k v hk hv;rcases Nat.lt_or_ge k h with hkh|hkh
  .have:=hr.get hkh hv hu;omega
  .obtain rfl:k=h:=by omega
   rw[hu]at hv;cases hv;exact g
 .intro g k v hk hv;rcases Nat.lt_or_ge h k with hkh|hkh
  .have:=hr.get hkh hu hv;omega
  .obtain rfl:k=h:=by omega
   rw[hu]at hv;cases hv;exact g
def Ou(o:Option Vt)(v:Vt):Option Vt:=match o with
 | none=>some v
 | some u=>if u.b.lt v.b then some v else some u
theorem Pw(l:List Vt)(v:Vt)(o:Option Vt):Cl (l++[v]) o=Ou (Cl l o) v:=by
 induction l generalizing o with
 | nil =>
  cases o with
  | none=>rfl
  | some u =>
   show Cl [v] (some u)=Ou (some u) v;rw[Cl,Ou];split<;>rfl
 | cons x l ih =>
  cases o with
  | none=>exact ih _
  | some u =>
   show Cl (x::(l++[v])) (some u)=Ou (Cl (x::l) (some u)) v;rw[Cl,Cl];split
   .exact ih _
   .exact ih _
def vt0:Vt:=⟨0,⟨0,0⟩,⟨0,0,0,0,0⟩⟩
def D8(o:Option Vt)(x:Vt):Prop:=(o=none/\x=vt0)\/(o=some x/\Ad x.b)
theorem D8.next{o:Option Vt}{x v:Vt}(h:D8 o x)(hv:Ad v.b):D8 (Ou o v) (if x.b.lt v.b then v else x):=by
 rcases h with⟨rfl,rfl⟩|⟨rfl,hx⟩
 .rw[if_pos (by unfold Ad at hv;unfold Bal.lt;simp[vt0];omega)];exact .inr ⟨rfl,hv⟩
 .show D8 (if x.b.lt v.b then some v else some x) _;split
  .exact .inr ⟨rfl,hv⟩
  .exact .inr ⟨rfl,hx⟩
theorem D8.pick{ls:List (List Vt)}{s:Int}{x:Vt}(hs:0<=s/\s<=39)(hb:∀ l∈ls,∀ v∈l,Am v)(h:D8 (O8 ls s) x):(if Cp ls s=0 then((O8 ls s).map (·.w)).getD ⟨0,0,0,0,0⟩else⟨0,0,0,0,0⟩)=x.w/\(if Cp ls s=0 then(O8 ls s).isSome else false)=!decide (x.b.r=0/\x.b.n=0)/\Cp ls s=0:=by
 have e:Cp ls s=0:=by unfold Cp;rw[if_neg (fun g=>g hs),if_pos hb]
 rw[if_pos e,if_pos e];rcases h with⟨h1,rfl⟩|⟨h1,h2⟩
 .rw[h1];exact⟨rfl,rfl,e⟩
 .rw[h1];refine⟨rfl,?_,e⟩;rw[decide_eq_false (by unfold Ad at h2;omega)];rfl
theorem VU(l:List Vt){u v:Vt}(h:u≠v):Cz l u+Cz l v<=l.length:=by
 induction l with
 | nil=>simp[Cz]
 | cons x l ih =>
  unfold Cz at ih ⊢;rw[List.countP_cons,List.countP_cons,List.length_cons];by_cases hx:x=u
  .subst hx;rw[if_pos (by simp),if_neg (by simp[h])];omega
  .by_cases hy:x=v
   .subst hy;rw[if_neg (by simp[hx]),if_pos (by simp)];omega
   .rw[if_neg (by simp[hx]),if_neg (by simp[hy])];omega
theorem VT{l:List Vt}{v:Vt}(h:0<Cz l v):v∈l:=by
 unfold Cz at h;obtain⟨u,hu,e⟩:=List.countP_pos_iff.1 h;rw[<- of_decide_eq_true e];exact hu
theorem Y3(a b:List Vt)(v:Vt):Cz a v<=Cz (a++b) v:=by
 unfold Cz;rw[List.countP_append];omega
theorem P5{l:List Vt}{m:Nat}{v:Vt}(hl:l.length<=m)(h:m<2*Cz l v):H7 l m=some v:=by
 cases hf:H7 l m with
 | none =>
  have:=List.find?_eq_none.1 hf v (VT (by omega));simp at this;omega
 | some u =>
  have hu:=List.find?_some hf;simp at hu;by_cases e:u=v
  .rw[e]
  .have:=VU l e;omega
theorem UA{l:List Vt}{m:Nat}(h:∀ v,2*Cz l v<=m):H7 l m=none:=by
 unfold H7;rw[List.find?_eq_none];intro v _;have:=h v;simp;omega
end
section
open Go.RowKit
theorem Sv.first{w:World}{a:Option Addr}{n cap:Nat}{l:List Vt}(h:Sv w (.slice a n cap) l)(i:Nat)(v:Vt)(hi:l[i]?=some v):∃ b off,a=some ⟨b,off,none⟩/\b<w.heap.size/\w.cell? ⟨b,off+8*i,none⟩=some (.int .i64 v.slot):=by
 obtain⟨b,off,ha,hb,hr⟩:=h.spot i v hi;exact⟨b,off,ha,hb,hr 0 _ rfl⟩
theorem QG(g1 g2:Nat)(a:Option Addr)(n cap:Nat)(l:List Vt)(s:Int)(i:Nat)(v:Vt)(w:World)(hl:l.length=n)(hv:l[i]?=some v)(h:Sv w (.slice a n cap) l)
  (c1:w.cell? ⟨g1,0,none⟩=some (.slice a n cap))(c2:w.cell? ⟨g2,0,none⟩=some (.int .i64 s)) :
  Calls prog 182 #[.int .i64 (i:Int),.pointer (some ⟨g1,0,none⟩),.pointer (some ⟨g2,0,none⟩)] w fun e w'=>e=.returned (.bool (decide (s<=v.slot)))/\Bw w w':=by
 obtain⟨b,off,rfl,hb,c3⟩:=h.first i v hv;have hin:i<n:=by have:=(List.getElem?_eq_some_iff.1 hv).1;omega
 have hix:=Dk b off n cap i hin;have bb:=Below.refl w.heap.size w;go_enter func182,ntmps182
 go_wp2_with fail
 go_quiet (fail)
 have e1:Bw w (w.drewN nq):=An bb nq;go_wp2
 go_ret;exact⟨Ac (by simp),e1⟩
theorem QQ(g1 g2:Nat)(a:Option Addr)(n cap:Nat)(l:List Vt)(s:Int)(w:World)(hl:l.length=n)(hr:B2 l)(h:Sv w (.slice a n cap) l)(l1:g1<w.heap.size)(l2:g2<w.heap.size)
  (c1:w.cell? ⟨g1,0,none⟩=some (.slice a n cap))(c2:w.cell? ⟨g2,0,none⟩=some (.int .i64 s)) :
  Calls prog 181 #[.int .i64 (n:Int),.func (.func 182) #[] #[.pointer (some ⟨g1,0,none⟩),.pointer (some ⟨g2,0,none⟩)]] w fun e w'=>∃ p:Nat,e=.returned (.int .i64 (p:Int))/\Plc l s p/\Bw w w':=by
 have hlen:=h.len;rw[hl]at hlen
 have HL:Hid (l.length=n):=hl;clear hl;go_enter func181,ntmps181
 go_wp2_with fail
 go_loopw [5,6] (fun iv jv wr=>∃ i j:Nat,i<=j/\j<=n/\iv=.int .i64 (i:Int)/\jv=.int .i64 (j:Int)/\(∀ (k:Nat) (v:Vt),k<i->l[k]?=some v->v.slot<s)/\(∀ (k:Nat) (v:Vt),j<=k->l[k]?=some v->s<=v.slot)/\Bw w wr) (fun iv jv _=>(intOf jv-intOf iv).toNat)
 case atStart=>exact⟨0,n,by omega,by omega,rfl,rfl,fun k v hk=>by omega,fun k v hk hv=>by have:=(List.getElem?_eq_some_iff.1 hv).1;have:=HL.out;omega,Below.refl _ _⟩
 case round =>
  obtain⟨i,j,hij,hjn,rfl,rfl,hlo,hhi,hbel⟩:=hrel;have HLo:Hid (∀ (k:Nat) (v:Vt),k<i->l[k]?=some v->v.slot<s):=hlo;have HHi:Hid (∀ (k:Nat) (v:Vt),j<=k->l[k]?=some v->s<=v.slot):=hhi;clear hlo hhi;by_cases hlt:i<j
  .have hlt':(i:Int)<(j:Int):=by omega
   go_wp2_with fail
   obtain⟨m,hm⟩:∃ m:Nat,((i:Int)+(j:Int))/2=(m:Int):=⟨(i+j)/2,by omega⟩;rw[hm];have m1:i<=m:=by omega
   have m2:m<j:=by omega
   clear hm;obtain⟨v,hv⟩:∃ v,l[m]?=some v:=⟨_,List.getElem?_eq_getElem (by have:=HL.out;omega)⟩;refine(QG g1 g2 a n cap l s m v wr HL.out hv (h.below hbel) ((hbel.cell (p:=⟨g1,0,none⟩) l1).trans c1) ((hbel.cell (p:=⟨g2,0,none⟩) l2).trans c2)).mono ?_;rintro e w2 ⟨rfl,b2⟩;have e2:=hbel.trans (b2.mono hbel.size);obtain⟨P1,P2⟩:=Plc.half hr hv HLo.out HHi.out;by_cases hs:s<=v.slot
   .rw[decide_eq_true hs];have HH:Hid (∀ (k:Nat) (v:Vt),m<=k->l[k]?=some v->s<=v.slot):=P2 hs;clear P1 P2 hv hs;go_wp2
    go_roundw
    case rel=>exact⟨i,m,by omega,by omega,rfl,rfl,HLo.out,HH.out,e2⟩
    case measure=>simp[intOf];omega
   .rw[decide_eq_false hs];have HH:Hid (∀ (k:Nat) (v:Vt),k<m+1->l[k]?=some v->v.slot<s):=P1 (by omega);clear P1 P2 hv hs;go_wp2
    go_roundw
    case rel=>exact⟨m+1,j,by omega,by omega,by go_num,rfl,HH.out,HHi.out,e2⟩
    case measure=>simp[intOf];omega
  .obtain rfl:i=j:=by omega
   go_wp2
   go_ret;exact⟨i,rfl,⟨by have:=HL.out;omega,HLo.out,HHi.out⟩,hbel⟩
theorem II(x:Value)(l:List Vt)(s:Int)(w:World)(hr:B2 l)(h:Sv w x l) :
  Calls prog 163 #[x,.int .i64 s] w fun e w'=>∃ p:Nat,e=.returned (.int .i64 (p:Int))/\Plc l s p/\Bw w w':=by
 obtain⟨a,cp,rfl⟩:=h.shape;obtain⟨n,hn⟩:∃ n,l.length=n:=⟨_,rfl⟩;rw[hn]at h ⊢
 have HL:Hid (l.length=n):=hn;clear hn;have r1:=heap_alloc2_old w (.cells #[.slice a n cp] 75) (.cells #[.int .i64 s] 3);have r2:=heap_alloc2_new w (.cells #[.slice a n cp] 75) (.cells #[.int .i64 s] 3);have bb:Bw w ((w.alloc (.cells #[.slice a n cp] 75)).alloc (.cells #[.int .i64 s] 3)):=((Below.refl _ _).alloc (Nat.le_refl _) _).alloc (by simp) _;generalize hW:(w.alloc (.cells #[.slice a n cp] 75)).alloc (.cells #[.int .i64 s] 3)=W at r1 r2 bb;have z:W.heap.size=w.heap.size+2:=by rw[<- hW];simp
 have c1:W.cell? ⟨w.heap.size,0,none⟩=some (.slice a n cp):=cell_of_row _ _ 0 _ _ _ r1;have c2:W.cell? ⟨w.heap.size+1,0,none⟩=some (.int .i64 s):=cell_of_row _ _ 0 _ _ _ r2;have hW2:=h.below bb;go_enter func163,ntmps163
 go_wp2_with fail
 clear hW;refine(QQ w.heap.size (w.heap.size+1) a n cp l s W HL.out hr hW2 (by omega) (by omega) c1 c2).mono ?_;rintro e w2 ⟨p,rfl,hp,b2⟩;have d2:=bb.trans (b2.mono bb.size);have HP:Hid (Plc l s p):=hp;clear hp;go_wp2
 go_ret;exact⟨p,rfl,HP.out,d2⟩
def JX(l:List Vt)(p:Nat)(s:Int):Bool:=match l[p]? with|some v=>decide (v.slot=s)|none=>false
theorem Id{l:List Vt}{p:Nat}{s:Int}{v:Vt}(h:l[p]?=some v):JX l p s=decide (v.slot=s):=by unfold JX;rw[h]
theorem LE{l:List Vt}{p:Nat}{s:Int}(h:l[p]?=none):JX l p s=false:=by unfold JX;rw[h]
theorem LF{l:List Vt}{p:Nat}{s:Int}(h:JX l p s=true):∃ v,l[p]?=some v/\v.slot=s:=by
 cases hu:l[p]? with
 | none=>rw[LE hu]at h;cases h
 | some v=>rw[Id hu]at h;exact⟨v,rfl,of_decide_eq_true h⟩
theorem JY{l:List Vt}{p:Nat}{s:Int}(h:JX l p s=false):∀ v,l[p]?=some v->v.slot≠s:=by
 intro v hv;rw[Id hv]at h
 exact of_decide_eq_false h
theorem I9(x:Value)(l:List Vt)(p:Nat)(s:Int)(w:World)(h:Sv w x l) :
  Calls prog 164 #[x,.int .i64 (p:Int),.int .i64 s] w fun e w'=>e=.returned (.bool (JX l p s))/\w'=w:=by
 obtain⟨a,cp,rfl⟩:=h.shape;obtain⟨n,hn⟩:∃ n,l.length=n:=⟨_,rfl⟩;rw[hn]at h ⊢
 by_cases hp:p<n
 .obtain⟨v,hv⟩:∃ v,l[p]?=some v:=⟨_,List.getElem?_eq_getElem (by omega)⟩;obtain⟨b,off,rfl,hb,c3⟩:=h.first p v hv;have hix:=Dk b off n cp p hp;have hpi:(p:Int)<(n:Int):=by omega
  rw[Id hv];clear hn hv h;go_enter func164,ntmps164
  go_wp2
  go_ret;exact⟨Ac (by first|rfl|simp),rfl⟩
 .have hv:l[p]?=none:=List.getElem?_eq_none (by omega);have hpi:¬ (p:Int)<(n:Int):=by omega
  rw[LE hv];clear hn hv h;go_enter func164,ntmps164
  go_wp2
  go_ret;exact⟨rfl,rfl⟩
theorem Sv.cells{w:World}{ad:Addr}{n cap:Nat}{m:List Vt}(h:Sv w (.slice (some ad) n cap) m):∀ j u,(vtL m)[j]?=some u->w.cell? (ad.add j)=some u:=by
 intro j u hj;obtain⟨⟨a,cp,e,hc,hn,h1⟩,_⟩:=h;simp only[Value.slice.injEq]at e;obtain⟨rfl,rfl,rfl⟩:=e;rcases h1 with rfl|⟨b,off,hab,_,hcell⟩
 .simp[vtL]at hj
 .obtain rfl:ad=⟨b,off,none⟩:=by simpa using hab
  obtain⟨v,h2,h3⟩:=Xq m j u hj;have hadd:(⟨b,off,none⟩:Addr).add j=⟨b,off+j,none⟩:=by unfold Addr.add;split<;>simp_all
  rw[hadd];have h4:=hcell (j/8) v h2 (j%8) u h3
  rwa [show off+8*(j/8)+j%8=off+j by omega]at h4
theorem OQ{P:Program}(w:World)(base dT sT ty e:Nat)(hu:P.underlying dT=some (.slice e))(hs:(P.info? e).map (·.size)=some 8)(g n:Nat)(xs:List Value)(hown:w.ownsRow base e 8 (.slice (some ⟨g,0,none⟩) n n) n xs)(u:Value)(m:List Vt)(hm:m.length=n)(hv:Sv w u m) :
  ∃ w',(Builtin.copy_ #[dT,sT] ty #[.slice (some ⟨g,0,none⟩) n n,u]).run P w=.ok (goInt n) w'/\w'.ownsRow base e 8 (.slice (some ⟨g,0,none⟩) n n) n (vtL m)/\Below g w w':=by
 obtain⟨i,hq,hi⟩:∃ i,P.info? e=some i/\i.size=8:=by
  cases hq:P.info? e with
  | none=>rw[hq]at hs;cases hs
  | some i=>rw[hq]at hs;exact⟨i,rfl,by simpa using hs⟩
 rcases hown.2 with⟨h0,_⟩|⟨g',cap,cur,hvv,hbg,hg,hnc,hcm,hcs,ht⟩
 .cases h0
 .simp only[Value.slice.injEq,Option.some.injEq,Addr.mk.injEq]at hvv;obtain⟨⟨rfl,_⟩,_,rfl⟩:=hvv;have hv2:=hv;obtain⟨⟨a,cp,rfl,hc,hn,h1⟩,_⟩:=hv;rw[hm]at hv2 ⊢
  cases a with
  | none =>
   have hc0:=hn rfl;subst hc0;have hm0:n=0:=by omega
   subst hm0;have hmn:m=[]:=List.eq_nil_of_length_eq_zero hm;subst hmn;refine⟨w,?_,⟨rfl,.inr ⟨g,0,cur,rfl,hbg,hg,hnc,hcm,hcs,by simp[vtL]⟩⟩,Below.refl _ _⟩;simp[Builtin.copy_,run_underlying hu,Builtin.lenOf,Builtin.firstCells,sizeOf,typeInfo,hq,storeCells]
  | some ad =>
   have hl:=run_firstCells_some (P:=P) w 8 n ad n cp (vtL m) (by rw[Ck,hm]) hv2.cells;have hst:=run_storeCells_at P g 0 e (vtL m) 0 cur w hg (by rw[Ck,hm];omega) (Sf m);have hfull:(cur.toList.take (0+0)++vtL m++cur.toList.drop (0+0+(vtL m).length))=vtL m:=by
    rw[Ck,hm,List.drop_eq_nil_of_le (by rw[Array.length_toList];omega)];simp
   rw[hfull]at hst
   refine⟨w.setRow g (vtL m).toArray,?_,⟨by rw[Ck,hm],.inr ⟨g,n,(vtL m).toArray,rfl,hbg,setRow_heap w g cur _ e _ hg,Nat.le_refl _,hcm,by simp[Ck,hm],?_⟩⟩,?_⟩
   .simp[Builtin.copy_,run_underlying hu,Builtin.lenOf,sizeOf,typeInfo,hq,hi,hl,hst]
   .rw[List.take_of_length_le (by simp[Ck,hm])]
   .exact⟨rfl,rfl,rfl,by simp,fun k hk=>setRow_other w g k _ (by omega)⟩
theorem KQ{P:Program}(w:World){ops:Array Oper}{rest:List Oper}{o:Oper}{a:Act}{Q:Exit->Act->World->Prop}(hgd:o.guard=none)(d s:Operand)(dT sT:TypeId)
  (ho:o.op=.call { callee:=.builtin .copy,args:=#[d,s],argTypes:=#[dT,sT] })
  (base e:Nat)(hu:P.underlying dT=some (.slice e))(hs:(P.info? e).map (·.size)=some 8)(g n:Nat)(xs:List Value)(hd:a.eval d=.slice (some ⟨g,0,none⟩) n n)(hown:w.ownsRow base e 8 (.slice (some ⟨g,0,none⟩) n n) n xs)(u:Value)(hu':a.eval s=u)(m:List Vt)(hm:m.length=n)(hv:Sv w u m)
  (h:∀ w',w'.ownsRow base e 8 (.slice (some ⟨g,0,none⟩) n n) n (vtL m)->Below g w w'->wpList P ops Q rest (a.put o.dst (goInt n)) w'):wpList P ops Q (o::rest) a w:=by
 refine wpList_plain hgd fun K hK=>?_;obtain⟨w',hrun,r1,r2⟩:=OQ (P:=P) w base dT sT o.type e hu hs g n xs hown u m hm hv;unfold Oper.wp execOp;simp only[ho,resolve,invoke,builtin,Sem.run_bind,Sem.run_pure,Result.andThen_ok,List.map_toArray,List.map_cons,List.map_nil,hd,hu',hrun];exact hK _ _ (h w' r1 r2)
theorem KS{P:Program}(w:World){ops:Array Oper}{rest:List Oper}{o:Oper}{a:Act}{Q:Exit->Act->World->Prop}
  (hg:o.guard=none)(l c:Operand)(t:TypeId)(hop:o.op=Op.makeSlice t l c)(base:Nat)(e:TypeId)(h1:P.underlying t=some (.slice e))(hinfo:(P.info? e).map (fun i=>(i.zero,i.size,i.bytes))=some (some zVt,8,64))
  (n:Nat)(hl:a.eval l=.int .i64 (n:Int))(hc:a.eval c=.int .i64 (n:Int))(hn:n<=2199023255488)(b4:base<=w.heap.size)
  (hK:∀ w',Hid (∃ xs,w'.ownsRow base e 8 (.slice (some ⟨w.heap.size,0,none⟩) n n) n xs)->w.grownBy w' none->wpList P ops Q rest (a.put o.dst (.slice (some ⟨w.heap.size,0,none⟩) n n)) w'):wpList P ops Q (o::rest) a w:=by
 obtain⟨i0,hi,hz0,hz1,hz2⟩:=info_parts hinfo;refine wpList_make_full w hg l c t hop base e i0 zVt 8 h1 hi hz0 hz1 _ _ _ _ n hl hc rfl rfl (by rw[hz2];omega) (by unfold maxLen;omega) b4 (fun w' o1 g1=>hK w' ⟨_,o1⟩ g1)
theorem Bh{w:World}{b b' e k8:Nat}{v:Value}{n:Nat}{xs:List Value}(h:w.ownsRow b e k8 v n xs)(hb:b'<=b):w.ownsRow b' e k8 v n xs:=by
 refine⟨h.1,?_⟩;rcases h.2 with h2|⟨g,cap,cur,hv,hbg,hr⟩
 .exact .inl h2
 .exact .inr ⟨g,cap,cur,hv,Nat.le_trans hb hbg,hr⟩
theorem vt8:(prog.info? 139).map (·.size)=some 8:=by kernel_rfl
theorem JK(x:Value)(l:List Vt)(w:World)(h:Sv w x l) :
  Calls prog 132 #[x] w fun e w'=>∃ x',e=.returned x'/\w'.ownsRow w.heap.size 139 8 x' l.length (vtL l)/\Bw w w':=by
 have hlen:=h.len;obtain⟨a,cp,rfl⟩:=h.shape;obtain⟨N,hN⟩:∃ N,l.length=N:=⟨_,rfl⟩;have HN:Hid (l.length=N):=hN;rw[hN]at h hlen ⊢
 clear hN;go_enter func132,ntmps132
 go_wp2_with ((with_reducible (refine Ar ?_));at_make;refine KS _ rfl _ _ 75 rfl w.heap.size 139 underlying75 DP N rfl rfl hlen (Nat.le_refl _) ?_)
 intro w1 o1 g1;have b1:Bw w w1:=(Below.refl _ _).grown g1 (Nat.le_refl _) (fun k hk=>by cases hk);have h1:=h.below b1;obtain⟨xs,o1⟩:=o1.out;have HO:Hid (w1.ownsRow w.heap.size 139 8 (.slice (some ⟨w.heap.size,0,none⟩) N N) N xs):=o1;clear o1;go_wp2_with ((with_reducible (refine Ar ?_));refine KQ _ rfl _ _ 75 75 rfl w.heap.size 139 underlying75 vt8 w.heap.size N _ rfl HO.out _ rfl l HN.out h1 ?_)
 intro w2 o2 b2;have HO2:Hid (w2.ownsRow w.heap.size 139 8 (.slice (some ⟨w.heap.size,0,none⟩) N N) N (vtL l)):=o2;have d2:=b1.trans b2;clear o2 HO;go_wp2
 go_ret;exact⟨_,rfl,HO2.out,d2⟩
theorem Sv.window{w:World}{a:Option Addr}{n cap:Nat}{l:List Vt}(h:Sv w (.slice a n cap) l)(lo hi:Nat)(hlo:lo<=hi)(hhi:hi<=l.length):Sv w (sliced a lo hi cap 8) ((l.take hi).drop lo):=by
 obtain⟨⟨a',cap',e,hc,hn,h1⟩,hla⟩:=h;simp only[Value.slice.injEq]at e;obtain⟨rfl,rfl,rfl⟩:=e;have hl:((l.take hi).drop lo).length=hi-lo:=by rw[List.length_drop,List.length_take];omega
 cases a with
 | none =>
  have c0:=hn rfl;subst c0;have h0:l.length=0:=by omega
  refine⟨⟨_,_,by rw[hl];rfl,by omega,fun _=>by omega,.inl (List.eq_nil_of_length_eq_zero (by omega))⟩,by omega⟩
 | some ad =>
  refine⟨⟨_,_,by rw[hl];rfl,by omega,(by intro h;split at h<;>simp at h),?_⟩,by omega⟩;rcases Nat.eq_or_lt_of_le hlo with he|hlt
  .exact .inl (List.eq_nil_of_length_eq_zero (by omega))
  .rcases h1 with rfl|⟨b,off,e2,hbs,hcell⟩
   .simp at hhi;omega
   .simp only[Option.some.injEq]at e2;subst e2;refine .inr ⟨b,off+lo*8,?_,hbs,fun i v hi2=>?_⟩
    .rw[if_neg (by omega)];simp[Addr.add]
    .rw[List.getElem?_drop,List.getElem?_take]at hi2
     split at hi2
     .have:=hcell (lo+i) v hi2
      rwa [show off+8*(lo+i)=off+lo*8+8*i by omega]at this
     .cases hi2
theorem Sv.upTo{w:World}{a:Option Addr}{n cap:Nat}{l:List Vt}(h:Sv w (.slice a n cap) l)(hi:Nat)(hhi:hi<=l.length) :
  ∃ a' c',(∀ W,(Instr.slice 75 (.slice a n cap) none (some (.int .i64 (hi:Int))) none).run prog W=.ok (.slice a' hi c') W)/\Sv w (.slice a' hi c') (l.take hi):=by
 have hw:=h.window 0 hi (by omega) hhi;obtain⟨⟨a',cap',e,hc,hn,h1⟩,hla⟩:=h;simp only[Value.slice.injEq]at e;obtain⟨rfl,rfl,rfl⟩:=e;refine⟨_,_,fun W=>?_,by simpa[sliced]using hw⟩;rw[run_slice_h (P:=prog) W 75 a _ cap underlying75 .i64 _ (by omega) (by omega)];rw[PI,QS];simp[Result.andThen,sliced]
theorem Sv.from{w:World}{a:Option Addr}{n cap:Nat}{l:List Vt}(h:Sv w (.slice a n cap) l)(lo:Nat)(hlo:lo<=l.length) :
  ∃ a' c',(∀ W,(Instr.slice 75 (.slice a n cap) (some (.int .i64 (lo:Int))) none none).run prog W=.ok (.slice a' (n-lo) c') W)/\Sv w (.slice a' (n-lo) c') (l.drop lo):=by
 have hw:=h.window lo l.length hlo (Nat.le_refl _);obtain⟨⟨a',cap',e,hc,hn,h1⟩,hla⟩:=h;simp only[Value.slice.injEq]at e;obtain⟨rfl,rfl,rfl⟩:=e;refine⟨_,_,fun W=>?_,by simpa[sliced]using hw⟩;rw[run_slice_l (P:=prog) W 75 a _ cap underlying75 .i64 _ (by omega) (by omega)];rw[PI,QS];simp[Result.andThen,sliced]
theorem En{P:Program}(w:World){ops:Array Oper}{rest:List Oper}{o:Oper}{a:Act}{Q:Exit->Act->World->Prop}
  (hg:o.guard=none)(l c:Operand)(t:TypeId)(hop:o.op=Op.makeSlice t l c)(base:Nat)(e:TypeId)(h1:P.underlying t=some (.slice e))(hinfo:(P.info? e).map (fun i=>(i.zero,i.size,i.bytes))=some (some zVt,8,64))
  (C:Int)(n:Nat)(hl:a.eval l=.int .i64 0)(hc:a.eval c=.int .i64 C)(hC:C=(n:Int))(hn:n<=2199023255500)(b4:base<=w.heap.size)
  (hK:∀ w',Hid (w'.ownsRow base e 8 (.slice (some ⟨w.heap.size,0,none⟩) 0 n) ([]:List Vt).length (vtL []))->w.grownBy w' none->wpList P ops Q rest (a.put o.dst (.slice (some ⟨w.heap.size,0,none⟩) 0 n)) w'):wpList P ops Q (o::rest) a w:=by
 obtain⟨i0,hi,hz0,hz1,hz2⟩:=info_parts hinfo;exact wpList_make_own w hg l c t hop base e i0 zVt 8 h1 hi hz0 hz1 _ _ C n hl hc hC (by rw[hz2];omega) (by unfold maxLen;omega) b4 (fun w' o1 g1=>hK w' o1 g1)
theorem Nk(x:Value)(l:List Vt)(v:Vt)(w:World)(hr:B2 l)(h:Sv w x l) :
  Calls prog 137 #[x,.agg (vtA v)] w fun e w'=>∃ x',e=.returned x'/\w'.ownsRow w.heap.size 139 8 x' (Bk l v).length (vtL (Bk l v))/\Bw w w':=by
 have hlen:=h.len;obtain⟨a,cp,rfl⟩:=h.shape;obtain⟨n,hn⟩:∃ n,l.length=n:=⟨_,rfl⟩;rw[hn]at h hlen ⊢
 have HL:Hid (l.length=n):=hn;clear hn;have bb:Bw w (w.alloc (.cells (vtA v) 139)):=(Below.refl _ _).alloc (Nat.le_refl _) _;have rr:=heap_alloc_new w (.cells (vtA v) 139);have hsz:=de v;have HU:Hid (∀ p,Plc l v.slot p->JX l p v.slot=true->Bk l v=l.take p++[v]++l.drop (p+1)/\p+1<=l.length):=fun p hp hh=>by
  obtain⟨u,hu,he⟩:=LF hh;exact⟨by rw[hp.has hu he];simp,by have:=(List.getElem?_eq_some_iff.1 hu).1;omega⟩
 have HN:Hid (∀ p,Plc l v.slot p->JX l p v.slot=false->Bk l v=l.take p++[v]++l.drop p/\p<=l.length):=fun p hp hh=>⟨by rw[hp.no (JY hh)];simp,hp.le⟩;obtain⟨vs,⟨vr,vn⟩,⟨vk,vc,vq,vm,vx⟩⟩:=v;simp only[vtA,vtC]at bb rr hsz ⊢;generalize hW:w.alloc (.cells [.int .i64 vs,.int .i64 vr,.int .i64 vn,.int .i64 vk,.int .i64 vc,.int .i64 vq,.int .i64 vm,.int .i64 vx].toArray 139)=W at bb rr;have ltG:w.heap.size<W.heap.size:=(Array.getElem?_eq_some_iff.1 rr).1;have c0:W.cell? ⟨w.heap.size,0,none⟩=some (.int .i64 vs):=cell_of_row _ _ 0 _ _ _ rr;go_enter func137,ntmps137
 go_wp2_with fail
 clear hW;refine(II _ l vs W hr (h.below bb)).mono ?_;rintro e w1 ⟨p,rfl,hp,b1⟩;have d1:=bb.trans (b1.mono bb.size);have ltG1:w.heap.size<w1.heap.size:=Nat.lt_of_lt_of_le ltG b1.size;replace rr:=(b1.block _ ltG).trans rr;have c0:w1.cell? ⟨w.heap.size,0,none⟩=some (.int .i64 vs):=cell_of_row _ _ 0 _ _ _ rr;have s1:=h.below d1;have hp0:p<=n:=by have:=hp.le;have:=HL.out;omega
 have HP:Hid (Plc l vs p):=hp;clear b1 bb hp;go_wp2_with fail
 refine(I9 _ l p vs w1 s1).mono ?_;rintro e w2 ⟨rfl,rfl⟩;obtain⟨a1,k1,u1,su⟩:=s1.upTo p HP.out.le;have hlp:(l.take p).length<=n:=by rw[List.length_take];omega
 have hz:=d1.size;generalize hh:JX l p vs=bh;cases bh
 .obtain⟨HI0,hk0⟩:=HN.out p HP.out hh;have HI:Hid (Bk l ⟨vs,⟨vr,vn⟩,⟨vk,vc,vq,vm,vx⟩⟩=l.take p++([⟨vs,⟨vr,vn⟩,⟨vk,vc,vq,vm,vx⟩⟩]:List Vt)++l.drop (p)):=HI0;obtain⟨a2,k2,u2,sd⟩:=s1.from (p) hk0;have hld:(l.take p).length+(l.drop (p)).length<=n:=by rw[List.length_take,List.length_drop];have:=HL.out;omega
  have SU:Hid (∀ w',Bw w2 w'->Sv w' (.slice a1 p k1) (l.take p)):=fun w' hb=>su.below hb;have SD:Hid (∀ w',Bw w2 w'->Sv w' (.slice a2 (n-(p)) k2) (l.drop (p))):=fun w' hb=>sd.below hb;clear HI0 HU HN hh su sd s1 h hr;generalize l.take p=LP at HI SU hlp hld;generalize l.drop (p)=LD at HI SD hld;have hkn:(p)<=n:=by have:=HL.out;omega
  go_wp2_with ((with_reducible (refine Ar ?_));at_make;refine En _ rfl _ _ 75 rfl w2.heap.size 139 underlying75 DP _ (n+1) rfl rfl (by first|rfl|omega) (by omega) (Nat.le_refl _) ?_)
  intro w3 o3 g3;have b3:Bw w2 w3:=(Below.refl _ _).grown g3 (Nat.le_refl _) (fun k hk=>by cases hk);have z3:=b3.size;clear g3;go_wp2_with ((with_reducible (refine Ar ?_));at_builtin;refine AX _ rfl _ _ 75 rfl w2.heap.size 139 zVt underlying75 DP rfl _ _ rfl rfl [] (LP) o3.out (SU.out w3 b3) (by simp;omega) (by omega) ?_)
  intro v4 w4 o4 g4;have b4:Bw w2 w4:=b3.grown g4 (by omega) (fun k hk=>(o3.out.lt k hk).1);have z4:=b4.size;have HO4:Hid (w4.ownsRow w2.heap.size 139 8 v4 (LP).length (vtL (LP))):=by unfold Hid;simpa using o4
  have lt4:=HO4.out.lt;have rr4:=(b4.block _ ltG1).trans rr;clear o4 g4 o3;go_wp2_with ((with_reducible (refine Ar ?_));first|(refine wpList_load_row rfl 139 _ rfl w.heap.size rfl 139 _ (0,0) _ rr4 underlying139 rfl hsz ?_)|(at_builtin;refine AX _ rfl _ _ 75 rfl w2.heap.size 139 zVt underlying75 DP rfl _ _ rfl rfl (LP) ([⟨vs,⟨vr,vn⟩,⟨vk,vc,vq,vm,vx⟩⟩]:List Vt) (HO4.out.alloc _) (Sv.one _ ⟨vs,⟨vr,vn⟩,⟨vk,vc,vq,vm,vx⟩⟩ _ rfl) (by simp;omega) (by simp;omega) ?_))
  intro v5 w5 o5 g5;have b5:Bw w2 w5:=(b4.alloc (by omega) _).grown g5 (by simp;omega) (fun k hk=>(lt4 k hk).1);have z5:=b5.size;have HO5:Hid (w5.ownsRow w2.heap.size 139 8 v5 (LP++([⟨vs,⟨vr,vn⟩,⟨vk,vc,vq,vm,vx⟩⟩]:List Vt)).length (vtL (LP++([⟨vs,⟨vr,vn⟩,⟨vk,vc,vq,vm,vx⟩⟩]:List Vt)))):=by unfold Hid;rw[List.length_append];exact o5
  have lt5:=HO5.out.lt;clear o5 g5 HO4 lt4 rr4;go_wp2_with ((with_reducible (refine Ar ?_));at_builtin;refine AX _ rfl _ _ 75 rfl w2.heap.size 139 zVt underlying75 DP rfl _ _ rfl rfl (LP++([⟨vs,⟨vr,vn⟩,⟨vk,vc,vq,vm,vx⟩⟩]:List Vt)) (LD) HO5.out (SD.out w5 b5) (by rw[List.length_append];simp;omega) (by omega) ?_)
  intro v6 w6 o6 g6;have b6:Bw w2 w6:=b5.grown g6 (by omega) (fun k hk=>(lt5 k hk).1);have HO6:Hid (w6.ownsRow w2.heap.size 139 8 v6 (LP++([⟨vs,⟨vr,vn⟩,⟨vk,vc,vq,vm,vx⟩⟩]:List Vt)++LD).length (vtL (LP++([⟨vs,⟨vr,vn⟩,⟨vk,vc,vq,vm,vx⟩⟩]:List Vt)++LD))):=by unfold Hid;simpa using o6
  have d6:=d1.trans (b6.mono d1.size);clear o6 g6 HO5 lt5;go_wp2
  go_ret;refine⟨v6,rfl,?_,d6⟩;rw[HI.out];exact Bh HO6.out d1.size
 .obtain⟨HI0,hk0⟩:=HU.out p HP.out hh;have HI:Hid (Bk l ⟨vs,⟨vr,vn⟩,⟨vk,vc,vq,vm,vx⟩⟩=l.take p++([⟨vs,⟨vr,vn⟩,⟨vk,vc,vq,vm,vx⟩⟩]:List Vt)++l.drop (p+1)):=HI0;obtain⟨a2,k2,u2,sd⟩:=s1.from (p+1) hk0;rw[show((p+1:Nat):Int)=(p:Int)+1 by omega]at u2
  have hld:(l.take p).length+(l.drop (p+1)).length<=n:=by rw[List.length_take,List.length_drop];have:=HL.out;omega
  have SU:Hid (∀ w',Bw w2 w'->Sv w' (.slice a1 p k1) (l.take p)):=fun w' hb=>su.below hb;have SD:Hid (∀ w',Bw w2 w'->Sv w' (.slice a2 (n-(p+1)) k2) (l.drop (p+1))):=fun w' hb=>sd.below hb;clear HI0 HU HN hh su sd s1 h hr;generalize l.take p=LP at HI SU hlp hld;generalize l.drop (p+1)=LD at HI SD hld;have hkn:(p+1)<=n:=by have:=HL.out;omega
  go_wp2_with ((with_reducible (refine Ar ?_));at_make;refine En _ rfl _ _ 75 rfl w2.heap.size 139 underlying75 DP _ (n+1) rfl rfl (by first|rfl|omega) (by omega) (Nat.le_refl _) ?_)
  intro w3 o3 g3;have b3:Bw w2 w3:=(Below.refl _ _).grown g3 (Nat.le_refl _) (fun k hk=>by cases hk);have z3:=b3.size;clear g3;go_wp2_with ((with_reducible (refine Ar ?_));at_builtin;refine AX _ rfl _ _ 75 rfl w2.heap.size 139 zVt underlying75 DP rfl _ _ rfl rfl [] (LP) o3.out (SU.out w3 b3) (by simp;omega) (by omega) ?_)
  intro v4 w4 o4 g4;have b4:Bw w2 w4:=b3.grown g4 (by omega) (fun k hk=>(o3.out.lt k hk).1);have z4:=b4.size;have HO4:Hid (w4.ownsRow w2.heap.size 139 8 v4 (LP).length (vtL (LP))):=by unfold Hid;simpa using o4
  have lt4:=HO4.out.lt;have rr4:=(b4.block _ ltG1).trans rr;clear o4 g4 o3;go_wp2_with ((with_reducible (refine Ar ?_));first|(refine wpList_load_row rfl 139 _ rfl w.heap.size rfl 139 _ (0,0) _ rr4 underlying139 rfl hsz ?_)|(at_builtin;refine AX _ rfl _ _ 75 rfl w2.heap.size 139 zVt underlying75 DP rfl _ _ rfl rfl (LP) ([⟨vs,⟨vr,vn⟩,⟨vk,vc,vq,vm,vx⟩⟩]:List Vt) (HO4.out.alloc _) (Sv.one _ ⟨vs,⟨vr,vn⟩,⟨vk,vc,vq,vm,vx⟩⟩ _ rfl) (by simp;omega) (by simp;omega) ?_))
  intro v5 w5 o5 g5;have b5:Bw w2 w5:=(b4.alloc (by omega) _).grown g5 (by simp;omega) (fun k hk=>(lt4 k hk).1);have z5:=b5.size;have HO5:Hid (w5.ownsRow w2.heap.size 139 8 v5 (LP++([⟨vs,⟨vr,vn⟩,⟨vk,vc,vq,vm,vx⟩⟩]:List Vt)).length (vtL (LP++([⟨vs,⟨vr,vn⟩,⟨vk,vc,vq,vm,vx⟩⟩]:List Vt)))):=by unfold Hid;rw[List.length_append];exact o5
  have lt5:=HO5.out.lt;clear o5 g5 HO4 lt4 rr4;go_wp2_with ((with_reducible (refine Ar ?_));at_builtin;refine AX _ rfl _ _ 75 rfl w2.heap.size 139 zVt underlying75 DP rfl _ _ rfl rfl (LP++([⟨vs,⟨vr,vn⟩,⟨vk,vc,vq,vm,vx⟩⟩]:List Vt)) (LD) HO5.out (SD.out w5 b5) (by rw[List.length_append];simp;omega) (by omega) ?_)
  intro v6 w6 o6 g6;have b6:Bw w2 w6:=b5.grown g6 (by omega) (fun k hk=>(lt5 k hk).1);have HO6:Hid (w6.ownsRow w2.heap.size 139 8 v6 (LP++([⟨vs,⟨vr,vn⟩,⟨vk,vc,vq,vm,vx⟩⟩]:List Vt)++LD).length (vtL (LP++([⟨vs,⟨vr,vn⟩,⟨vk,vc,vq,vm,vx⟩⟩]:List Vt)++LD))):=by unfold Hid;simpa using o6
  have d6:=d1.trans (b6.mono d1.size);clear o6 g6 HO5 lt5;go_wp2
  go_ret;refine⟨v6,rfl,?_,d6⟩;rw[HI.out];exact Bh HO6.out d1.size
theorem Qx{w:World}{g:Nat}{v:Vt}{t:TypeId}{fr:Nat × Nat}(h:w.heap[g]?=some (.cells (vtA v) t fr)):w.rangeAt g 0 (vtC v):=fun j u hj=>by
 rw[Nat.zero_add,cell_of_row _ _ j _ _ _ h];simpa[vtA]using hj
theorem Tp{P:Program}{id:Nat}{ops:Array Oper}{K:Act->World->Prop}{Q:Exit->Act->World->Prop}{a:Act}{w:World}(R:Option Addr->Nat->Nat->World->Prop){A:Option Addr->Nat->Nat->Act}
  (hreg:∀ K':Act->World->Prop,Hid (∀ g n c W2,R g n c W2->K' (A g n c) W2)->(Code.region id ops true).wp P (Exit.then K' Q) a w)(hrest:∀ g n c W2,R g n c W2->K (A g n c) W2):(Code.region id ops true).wp P (Exit.then K Q) a w:=hreg K hrest
theorem BI(p:Bal)(x:Value)(l:List Vt)(v:Vt)(w:World)(h:Sv w x l)(ht:NTab w) :
  Calls prog 100 #[.agg (acA p x),.agg (vtA v)] w fun e w'=>∃ y,e=.returned (.tuple #[.agg (acA (BY ⟨p,l⟩ v) y),.int .i64 (AW ⟨p,l⟩ v)])/\w'.ownsRow w.heap.size 139 8 y (Dc ⟨p,l⟩ v).length (vtL (Dc ⟨p,l⟩ v))/\(Dc ⟨p,l⟩ v).length<=40/\Bw w w':=by
 obtain⟨pr,pn⟩:=p;obtain⟨vs,⟨vr,vn⟩,⟨vk,vc,vq,vm,vx⟩⟩:=v;have hlen:=h.len;obtain⟨ax,cp,rfl⟩:=h.shape;obtain⟨M,hM⟩:∃ M,l.length=M:=⟨_,rfl⟩;have HM:Hid (l.length=M):=hM;rw[hM]at h hlen ⊢
 clear hM;simp only[acA,vtA,vtC];obtain⟨W0,hW0⟩:∃ W0,((w.alloc (.cells #[.int .i64 pr,.int .i64 pn,.slice ax M cp] 77)).alloc (.cells #[.int .i64 vs,.int .i64 vr,.int .i64 vn,.int .i64 vk,.int .i64 vc,.int .i64 vq,.int .i64 vm,.int .i64 vx] 139)).alloc (.cells #[.int .i64 0,.int .i64 0,.slice none 0 0] 77)=W0:=⟨_,rfl⟩;obtain⟨r0,r1,r2,bb⟩:=O7 w (.cells #[.int .i64 pr,.int .i64 pn,.slice ax M cp] 77) (.cells #[.int .i64 vs,.int .i64 vr,.int .i64 vn,.int .i64 vk,.int .i64 vc,.int .i64 vq,.int .i64 vm,.int .i64 vx] 139) (.cells #[.int .i64 0,.int .i64 0,.slice none 0 0] 77);have z0:W0.heap.size=w.heap.size+3:=by rw[<- hW0];simp
 rw[hW0]at r0 r1 r2 bb
 have hl0:=h.below bb;go_enter func100,ntmps100
 go_wp2_with ((with_reducible (refine Ar ?_));refine wpList_load_row rfl 77 _ rfl w.heap.size rfl 77 _ (0,0) _ r0 underlying77 rfl (BE ⟨pr,pn⟩ (.slice ax M cp)) ?_)
 clear hW0;refine(H6 ⟨pr,pn⟩ (.slice ax M cp) l W0 hl0 (ht.below bb)).mono ?_;rintro e w1 ⟨rfl,b1⟩;have d1:=bb.trans (b1.mono bb.size);have z1:=b1.size;have q0:=(b1.block w.heap.size (by omega)).trans r0;have q1:=(b1.block (w.heap.size+1) (by omega)).trans r1;have q2:=(b1.block (w.heap.size+2) (by omega)).trans r2;have hl1:=hl0.below b1;clear r0 r1 r2 b1 bb hl0;have hz3:(#[.int .i64 0,.int .i64 0,.slice none 0 0]:Array Value).all (·.oneCell')=true:=by simp[Value.oneCell']
 have HZero:Hid (∀ E,E≠0->AW ⟨⟨pr,pn⟩,l⟩ ⟨vs,⟨vr,vn⟩,⟨vk,vc,vq,vm,vx⟩⟩=E->BY ⟨⟨pr,pn⟩,l⟩ ⟨vs,⟨vr,vn⟩,⟨vk,vc,vq,vm,vx⟩⟩=⟨0,0⟩/\Dc ⟨⟨pr,pn⟩,l⟩ ⟨vs,⟨vr,vn⟩,⟨vk,vc,vq,vm,vx⟩⟩=[]):=fun E h1 h2=>⟨if_neg (by rw[h2];exact h1),if_neg (by rw[h2];exact h1)⟩;by_cases h1:AC ⟨⟨pr,pn⟩,l⟩
 .rw[show FG ⟨⟨pr,pn⟩,l⟩=0 from if_pos h1];have c0:w1.cell? ⟨w.heap.size+1,0,none⟩=some (.int .i64 vs):=cell_of_row _ _ 0 _ _ _ q1;have c1:w1.cell? ⟨w.heap.size+1,1,none⟩=some (.int .i64 vr):=cell_of_row _ _ 1 _ _ _ q1;have c2:w1.cell? ⟨w.heap.size+1,2,none⟩=some (.int .i64 vn):=cell_of_row _ _ 2 _ _ _ q1;have c3:w1.cell? ⟨w.heap.size+1,3,none⟩=some (.int .i64 vk):=cell_of_row _ _ 3 _ _ _ q1;have c4:w1.cell? ⟨w.heap.size+1,4,none⟩=some (.int .i64 vc):=cell_of_row _ _ 4 _ _ _ q1;have c5:w1.cell? ⟨w.heap.size+1,5,none⟩=some (.int .i64 vq):=cell_of_row _ _ 5 _ _ _ q1;have c6:w1.cell? ⟨w.heap.size+1,6,none⟩=some (.int .i64 vm):=cell_of_row _ _ 6 _ _ _ q1;have c7:w1.cell? ⟨w.heap.size+1,7,none⟩=some (.int .i64 vx):=cell_of_row _ _ 7 _ _ _ q1;go_wp2_with fail
  refine(GR ⟨vs,⟨vr,vn⟩,⟨vk,vc,vq,vm,vx⟩⟩ w1 (ht.below d1)).mono ?_;rintro e w2 ⟨rfl,b2⟩;have d2:=d1.trans (b2.mono d1.size);have z2:=b2.size;have hl2:=hl1.below b2;replace q0:=(b2.block w.heap.size (by omega)).trans q0;replace q1:=(b2.block (w.heap.size+1) (by omega)).trans q1;replace q2:=(b2.block (w.heap.size+2) (by omega)).trans q2;clear c0 c1 c2 c3 c4 c5 c6 c7;have c1:w2.cell? ⟨w.heap.size+1,1,none⟩=some (.int .i64 vr):=cell_of_row _ _ 1 _ _ _ q1;have c2:w2.cell? ⟨w.heap.size+1,2,none⟩=some (.int .i64 vn):=cell_of_row _ _ 2 _ _ _ q1;have a0:w2.cell? ⟨w.heap.size,0,none⟩=some (.int .i64 pr):=cell_of_row _ _ 0 _ _ _ q0;have a1:w2.cell? ⟨w.heap.size,1,none⟩=some (.int .i64 pn):=cell_of_row _ _ 1 _ _ _ q0;clear b2 d1 hl1;by_cases h2:Am ⟨vs,⟨vr,vn⟩,⟨vk,vc,vq,vm,vx⟩⟩
  .rw[decide_eq_true h2];go_wp2_with fail
   refine(Dq ⟨vr,vn⟩ ⟨pr,pn⟩ w2).mono ?_;rintro e W ⟨rfl,b3⟩;have d3:=d2.trans (b3.mono d2.size);have z3:=b3.size;have hl:=hl2.below b3;replace q0:=(b3.block w.heap.size (by omega)).trans q0;replace q1:=(b3.block (w.heap.size+1) (by omega)).trans q1;have rR:=(b3.block (w.heap.size+2) (by omega)).trans q2;clear b3 d2 hl2 q2 c1 c2 a0 a1;by_cases h3:Bal.lt ⟨vr,vn⟩ ⟨pr,pn⟩
   .rw[decide_eq_true h3];have HE:Hid (AW ⟨⟨pr,pn⟩,l⟩ ⟨vs,⟨vr,vn⟩,⟨vk,vc,vq,vm,vx⟩⟩=7):=by unfold Hid AW;rw[if_neg (fun g=>g h1),if_neg (fun g=>g h2),if_pos h3]
    go_wp2_with ((with_reducible (refine Ar ?_));refine wpList_store_row rfl 77 (.tmp 4) (.tmp 22) rfl (w.heap.size+2) #[.int .i64 0,.int .i64 0,.slice none 0 0] rfl rfl 77 _ rR (BE ⟨0,0⟩ (.slice none 0 0)) rfl hz3 ?_)
    have q9:=setRow_heap W (w.heap.size+2) _ (#[.int .i64 0,.int .i64 0,.slice none 0 0]) 77 _ rR;have d9:=Ai d3 (show w.heap.size<=w.heap.size+2 by omega) (#[.int .i64 0,.int .i64 0,.slice none 0 0]);have HZ:=HZero.out _ (by decide) HE.out;refine bodyPost_ret (Fj rfl _ _ (w.heap.size+2) 77 _ (0,0) _ rfl q9 underlying77 rfl (BE ⟨0,0⟩ (.slice none 0 0))) rfl ?_;rw[HE.out,HZ.1,HZ.2];exact⟨.slice none 0 0,rfl,World.ownsRow_nil _ _ _ _,by simp,d9⟩
   .rw[decide_eq_false h3];have HE:Hid (AW ⟨⟨pr,pn⟩,l⟩ ⟨vs,⟨vr,vn⟩,⟨vk,vc,vq,vm,vx⟩⟩=0):=by unfold Hid AW;rw[if_neg (fun g=>g h1),if_neg (fun g=>g h2),if_neg h3]
    have HP:Hid (BY ⟨⟨pr,pn⟩,l⟩ ⟨vs,⟨vr,vn⟩,⟨vk,vc,vq,vm,vx⟩⟩=⟨vr,vn⟩/\Dc ⟨⟨pr,pn⟩,l⟩ ⟨vs,⟨vr,vn⟩,⟨vk,vc,vq,vm,vx⟩⟩=Bk l ⟨vs,⟨vr,vn⟩,⟨vk,vc,vq,vm,vx⟩⟩):=⟨if_pos HE.out,if_pos HE.out⟩;have HI:Hid (∀ k:Nat,k=40->JW l ⟨vs,⟨vr,vn⟩,⟨vk,vc,vq,vm,vx⟩⟩ k=Bk l ⟨vs,⟨vr,vn⟩,⟨vk,vc,vq,vm,vx⟩⟩):=fun k hk=>Yd k h1.2.2 (fun u hu=>by have:=(h1.2.1 u hu).1.1;omega) (by have:=h2.1;simp only at this ⊢;omega);have HR:Hid (B2 l):=h1.2.2;clear h1 h2 h3 HZero;have a2:W.cell? ⟨w.heap.size,2,none⟩=some (.slice ax M cp):=cell_of_row _ _ 2 _ _ _ q0;have rB:W.rangeAt (w.heap.size+1) 1 [.int .i64 vr,.int .i64 vn]:=QN (o:=1) (cell_of_row _ _ 1 _ _ _ q1) (cell_of_row _ _ 2 _ _ _ q1);have rV:W.rangeAt (w.heap.size+1) 0 (vtC ⟨vs,⟨vr,vn⟩,⟨vk,vc,vq,vm,vx⟩⟩):=Qx q1;have hle:w.heap.size+2<=W.heap.size:=by omega
    have ltR:w.heap.size+2<W.heap.size:=by omega
    have HI40:Hid ((Bk l ⟨vs,⟨vr,vn⟩,⟨vk,vc,vq,vm,vx⟩⟩).length<=40):=by unfold Hid;rw[<- HI.out 40 rfl];exact Vn _ HR.out 40
    clear HI;go_wp2_with fail
    apply Tp (fun g n c W2=>W2.heap[w.heap.size+2]?=some (.cells #[.int .i64 vr,.int .i64 vn,.slice g n c] 77)/\W2.ownsRow W.heap.size 139 8 (.slice g n c) (Bk l ⟨vs,⟨vr,vn⟩,⟨vk,vc,vq,vm,vx⟩⟩).length (vtL (Bk l ⟨vs,⟨vr,vn⟩,⟨vk,vc,vq,vm,vx⟩⟩))/\Below (w.heap.size+2) W W2)
    .intro K2 HK2;have ed0:Bw W W.drew:=(Below.refl _ _).drew;have ed:Below (w.heap.size+2) W W.drew:=ed0.mono hle;refine wp_region_held (S:=fun w'=>Below (w.heap.size+2) W w') (by kernel_rfl) ?_;have hS0:(fun w'=>Below (w.heap.size+2) W w') W.drew:=ed;refine Af (i:=0) 23 (v:=.pointer (some ⟨w.heap.size+1,1,none⟩)) rfl rfl (by kernel_rfl) (by kernel_rfl) (by kernel_rfl) (fun _ _ _ h=>h) (Or.inl ⟨by rfl,fun _ _=>by kernel_rfl⟩) hS0 ?_;simp only[Act.put,List.setIfInBounds_toArray,List.set_cons_zero,List.set_cons_succ];refine Af (i:=1) 24 (v:=.agg #[.int .i64 vr,.int .i64 vn]) rfl rfl (by kernel_rfl) (by kernel_rfl) (by kernel_rfl) (fun _ _ _ h=>h) (yieldsIf_load_mid (by rfl) 74 (.tmp 23) rfl (w.heap.size+1) 1 rfl [.int .i64 vr,.int .i64 vn] _ (fun w' hw'=>Gn hw' (by omega) rB) underlying74 rfl J9) hS0 ?_;simp only[Act.put,List.setIfInBounds_toArray,List.set_cons_zero,List.set_cons_succ];refine Af (i:=2) 25 (v:=.pointer (some ⟨w.heap.size,2,none⟩)) rfl rfl (by kernel_rfl) (by kernel_rfl) (by kernel_rfl) (fun _ _ _ h=>h) (Or.inl ⟨by rfl,fun _ _=>by kernel_rfl⟩) hS0 ?_;simp only[Act.put,List.setIfInBounds_toArray,List.set_cons_zero,List.set_cons_succ];refine Af (i:=3) 26 (v:=.slice ax M cp) rfl rfl (by kernel_rfl) (by kernel_rfl) (by kernel_rfl) (fun _ _ _ h=>h) (FF (by rfl) 75 (.tmp 25) rfl _ underlying75 rfl ⟨w.heap.size,2,none⟩ rfl (.slice ax M cp) (fun w' hw'=>(hw'.cell (p:=⟨w.heap.size,2,none⟩) (show w.heap.size<w.heap.size+2 by omega)).trans a2)) hS0 ?_;simp only[Act.put,List.setIfInBounds_toArray,List.set_cons_zero,List.set_cons_succ];refine Af (i:=4) 27 (v:=.agg (vtA ⟨vs,⟨vr,vn⟩,⟨vk,vc,vq,vm,vx⟩⟩)) rfl rfl (by kernel_rfl) (by kernel_rfl) (by kernel_rfl) (fun _ _ _ h=>h) (ZB (by rfl) (.tmp 3) rfl (w.heap.size+1) 0 rfl ⟨vs,⟨vr,vn⟩,⟨vk,vc,vq,vm,vx⟩⟩ (fun w' hw'=>Gn hw' (by omega) rV)) hS0 ?_;simp only[Act.put,List.setIfInBounds_toArray,List.set_cons_zero,List.set_cons_succ];refine Bz (i:=5) (by kernel_rfl) (Gl (i:=5) (d:=28) (f:=137) (args:=#[.slice ax M cp,.agg (vtA ⟨vs,⟨vr,vn⟩,⟨vk,vc,vq,vm,vx⟩⟩)]) rfl (by kernel_rfl) rfl (by kernel_rfl) ((Nk _ l ⟨vs,⟨vr,vn⟩,⟨vk,vc,vq,vm,vx⟩⟩ _ HR.out (hl.below ed0)).mono ?_));rintro e' w5 ⟨x5,rfl,o5,b5⟩;have e5:Bw W w5:=ed0.trans (b5.mono ed0.size);have hI40:=HI40.out;have s5:=Sv.ofOwns o5 (by omega);obtain⟨a5,c5,h5⟩:=s5.shape;obtain⟨n5,hn5⟩:∃ n5,(Bk l ⟨vs,⟨vr,vn⟩,⟨vk,vc,vq,vm,vx⟩⟩).length=n5:=⟨_,rfl⟩;rw[hn5]at h5
     subst h5;refine⟨_,rfl,e5.mono hle,?_⟩;simp only[Act.put,List.setIfInBounds_toArray,List.set_cons_zero,List.set_cons_succ];refine Af (i:=6) 29 (v:=.agg #[.int .i64 vr,.int .i64 vn,(.slice a5 n5 c5)]) rfl rfl (by kernel_rfl) (by kernel_rfl) (by kernel_rfl) (fun _ _ _ h=>h) (Or.inl ⟨by rfl,fun _ _=>by kernel_rfl⟩) (e5.mono hle) ?_;simp only[Act.put,List.setIfInBounds_toArray,List.set_cons_zero,List.set_cons_succ];have hone:(#[.int .i64 vr,.int .i64 vn,(.slice a5 n5 c5)]:Array Value).all (·.oneCell')=true:=by simp[Value.oneCell']
     have rS:=(e5.block (w.heap.size+2) ltR).trans rR;have e7:Below (w.heap.size+2) W (w5.setRow (w.heap.size+2) #[.int .i64 vr,.int .i64 vn,(.slice a5 n5 c5)]):=Ai (e5.mono hle) (Nat.le_refl _) _;have q7:=setRow_heap w5 (w.heap.size+2) _ (#[.int .i64 vr,.int .i64 vn,(.slice a5 n5 c5)]) 77 _ rS;have t5:(w5.setRow (w.heap.size+2) #[.int .i64 vr,.int .i64 vn,(.slice a5 n5 c5)]).ownsRow W.heap.size 139 8 (.slice a5 n5 c5) (Bk l ⟨vs,⟨vr,vn⟩,⟨vk,vc,vq,vm,vx⟩⟩).length (vtL (Bk l ⟨vs,⟨vr,vn⟩,⟨vk,vc,vq,vm,vx⟩⟩)):=Bh (E5 o5 (fun k hk=>setRow_other _ _ _ _ (by have:=(o5.lt k hk).1;have:=ed0.size;omega))) ed0.size;refine Bz (i:=7) (by kernel_rfl) (GW (i:=7) rfl (by kernel_rfl) rfl 77 (.tmp 4) (.tmp 29) rfl (w.heap.size+2) #[.int .i64 vr,.int .i64 vn,(.slice a5 n5 c5)] (by kernel_rfl) (by kernel_rfl) 77 _ rS (BE ⟨vr,vn⟩ (.slice a5 n5 c5)) rfl hone ⟨e7,?_⟩);refine Af (i:=8) 5 (v:=.int .i64 0) rfl rfl (by kernel_rfl) (by kernel_rfl) (by kernel_rfl) (fun _ _ _ h=>h) (Or.inl ⟨by rfl,fun _ _=>by kernel_rfl⟩) e7 ?_;simp only[Act.put,List.setIfInBounds_toArray,List.set_cons_zero,List.set_cons_succ];exact wpAnyH_done (by kernel_rfl) (HK2.out a5 n5 c5 _ ⟨q7,t5,e7⟩) _
    intro g n c W2 hW2;obtain⟨q7,t5,e7⟩:=hW2;have d7:=d3.trans (e7.mono (by omega));clear rR q0 q1 a2 rB rV;go_wp2
    refine bodyPost_ret (Fj rfl _ _ (w.heap.size+2) 77 _ (0,0) _ rfl q7 underlying77 rfl (BE ⟨vr,vn⟩ (.slice g n c))) rfl ?_;rw[HE.out,HP.out.1,HP.out.2];exact⟨.slice g n c,rfl,Bh t5 d3.size,HI40.out,d7⟩
  .rw[decide_eq_false h2];have HE:Hid (AW ⟨⟨pr,pn⟩,l⟩ ⟨vs,⟨vr,vn⟩,⟨vk,vc,vq,vm,vx⟩⟩=2):=by unfold Hid AW;rw[if_neg (fun g=>g h1),if_pos h2]
   clear c1 c2 a0 a1;go_wp2_with ((with_reducible (refine Ar ?_));refine wpList_store_row rfl 77 (.tmp 4) (.tmp 16) rfl (w.heap.size+2) #[.int .i64 0,.int .i64 0,.slice none 0 0] rfl rfl 77 _ q2 (BE ⟨0,0⟩ (.slice none 0 0)) rfl hz3 ?_)
   have q9:=setRow_heap w2 (w.heap.size+2) _ (#[.int .i64 0,.int .i64 0,.slice none 0 0]) 77 _ q2;have d9:=Ai d2 (show w.heap.size<=w.heap.size+2 by omega) (#[.int .i64 0,.int .i64 0,.slice none 0 0]);have HZ:=HZero.out _ (by decide) HE.out;refine bodyPost_ret (Fj rfl _ _ (w.heap.size+2) 77 _ (0,0) _ rfl q9 underlying77 rfl (BE ⟨0,0⟩ (.slice none 0 0))) rfl ?_;rw[HE.out,HZ.1,HZ.2];exact⟨.slice none 0 0,rfl,World.ownsRow_nil _ _ _ _,by simp,d9⟩
 .rw[show FG ⟨⟨pr,pn⟩,l⟩=5 from if_neg h1];have HE:Hid (AW ⟨⟨pr,pn⟩,l⟩ ⟨vs,⟨vr,vn⟩,⟨vk,vc,vq,vm,vx⟩⟩=5):=by unfold Hid AW;rw[if_pos h1]
  go_wp2_with ((with_reducible (refine Ar ?_));refine wpList_store_row rfl 77 (.tmp 4) (.tmp 11) rfl (w.heap.size+2) #[.int .i64 0,.int .i64 0,.slice none 0 0] rfl rfl 77 _ q2 (BE ⟨0,0⟩ (.slice none 0 0)) rfl hz3 ?_)
  have q9:=setRow_heap w1 (w.heap.size+2) _ (#[.int .i64 0,.int .i64 0,.slice none 0 0]) 77 _ q2;have d9:=Ai d1 (show w.heap.size<=w.heap.size+2 by omega) (#[.int .i64 0,.int .i64 0,.slice none 0 0]);have HZ:=HZero.out _ (by decide) HE.out;refine bodyPost_ret (Fj rfl _ _ (w.heap.size+2) 77 _ (0,0) _ rfl q9 underlying77 rfl (BE ⟨0,0⟩ (.slice none 0 0))) rfl ?_;rw[HE.out,HZ.1,HZ.2];exact⟨.slice none 0 0,rfl,World.ownsRow_nil _ _ _ _,by simp,d9⟩
theorem Pt(p:Bal)(x:Value)(l:List Vt)(v:Vt)(w:World)(h:Sv w x l)(ht:NTab w) :
  Calls prog 100 #[.agg (acA p x),.agg (vtA v)] w fun e w'=>∃ y,e=.returned (.tuple #[.agg (acA (BY ⟨p,l⟩ v) y),.int .i64 (AW ⟨p,l⟩ v)])/\Sv w' y (Dc ⟨p,l⟩ v)/\Bw w w':=by
 refine(BI p x l v w h ht).mono ?_;rintro e w' ⟨y,he,hy,hl,hb⟩;exact⟨y,he,Sv.ofOwns hy (by omega),hb⟩
structure Base(w0:World)(g:Gh)(w:World):Prop where
 b:Bw w0 w
 z:∀ k,k<w0.heap.size->g.t k=.z
theorem Base.ch{w0:World}{B:Nat}{T:List Tg}{g g':Gh}{w w':World}(h:Base w0 g w)(c:Cg B T g w g' w')(hz:Tg.z∉T:=by simp):Base w0 g' w' :=
 have hs:∀ k,k<w0.heap.size->k<w.heap.size:=fun k hk=>Nat.lt_of_lt_of_le hk h.b.size
 ⟨⟨c.os.trans h.b.os,c.tape.trans h.b.tape,c.output.trans h.b.output,Nat.le_trans h.b.size c.size,fun k hk=>(c.zc hz (hs k hk) (h.z k hk)).trans (h.b.block k hk)⟩,fun k hk=>(c.tag (hs k hk) (by rw[h.z k hk];intro h;cases h)).trans (h.z k hk)⟩
structure Tabs(w:World):Prop where
 t:AA w
 n:NTab w
 q:Cf w
theorem Base.tt{w0:World}{g:Gh}{w:World}(h:Base w0 g w)(t:Tabs w0):AA w:=t.t.below h.b
theorem Base.tn{w0:World}{g:Gh}{w:World}(h:Base w0 g w)(t:Tabs w0):NTab w:=t.n.below h.b
theorem Base.tq{w0:World}{g:Gh}{w:World}(h:Base w0 g w)(t:Tabs w0):Cf w:=t.q.below t.q.pos h.b
theorem De{g:Gh}{w':World}{B:Nat}{y:Value}{l:List Vt}(h:w'.ownsRow B 139 8 y l.length (vtL l))(hg:∀ b,B<=b->g.t b=.z)(hl:l.length<=2199023255488):∃ y3:S3,y=y3.v/\y3.n=l.length/\FSv g w' y3 l:=by
 have hs:=Sv.ofOwns h hl;rcases h.2 with⟨rfl,h0⟩|⟨b,cap,cur,rfl,hb,_⟩
 .exact⟨s30,rfl,h0.symm,hs,fun hn=>absurd (List.eq_nil_of_length_eq_zero h0) hn⟩
 .exact⟨⟨some ⟨b,0,none⟩,l.length,cap⟩,rfl,rfl,hs,fun _ a ha=>by simp only[Option.some.injEq]at ha;subst ha;exact hg b hb⟩
theorem YB{g:Gh}{w':World}{B:Nat}{y:Value}{l:List Int}(h:w'.ownsRow B 5 1 y l.length (l.map (Value.int .u8)))(hg:∀ b,B<=b->g.t b=.z)(hl:l.length<=140737488351232)(hb:∀ x∈l,0<=x/\x<256):∃ y3:S3,y=y3.v/\y3.n=l.length/\FSl g w' y3 l:=by
 rcases h.2 with⟨rfl,h0⟩|⟨b,cap,cur,rfl,hbb,hh,hc,_,hcs,ht⟩
 .have hn:l=[]:=List.eq_nil_of_length_eq_zero h0;subst hn;exact⟨s30,rfl,rfl,⟨⟨none,0,rfl,Nat.le_refl _,fun _=>rfl,.inl rfl⟩,by simp,by simp⟩,fun hn=>absurd rfl hn⟩
 .refine⟨⟨some ⟨b,0,none⟩,l.length,cap⟩,rfl,rfl,⟨⟨_,_,rfl,hc,fun h=>(by cases h),.inr ⟨b,0,rfl,rl hh,fun i hi=>?_⟩⟩,hl,hb⟩,fun _ a ha=>by simp only[Option.some.injEq]at ha;subst ha;exact hg b hbb⟩;have h1:(l.map (Value.int .u8))[i]?=some (.int .u8 (l.getD i 0)):=by rw[List.getElem?_map,List.getElem?_eq_getElem hi,List.getD_eq_getElem?_getD,List.getElem?_eq_getElem hi];rfl
  rw[<- ht,List.getElem?_take]at h1
  split at h1
  .rw[cell_of_row _ _ _ _ _ _ hh,Nat.zero_add];simpa using h1
  .cases h1
theorem Uh{d:List Int}{s:Int}{may:Prop}[Decidable may] {b:List Int} (h:Cu d s may b=0):Bf d s/\d.length+(b.length+5)<=100000/\may:=by
 unfold Cu at h;by_cases hr:Gv d s (b.length+5)≠0
 .rw[if_pos hr]at h;exact absurd h hr
 .rw[if_neg hr]at h
  have hm:may:=Decidable.byContradiction fun hm=>by rw[if_neg hm]at h;cases h
  have hr':Gv d s (b.length+5)=0:=by simpa using hr
  unfold Gv at hr';by_cases ht:Bf d s
  .rw[if_neg (fun g=>g ht)]at hr'
   refine⟨ht,?_,hm⟩;rcases Nat.lt_or_ge 100000 (d.length+(b.length+5))with h2|h2
   .rw[if_pos h2]at hr';cases hr'
   .exact h2
  .rw[if_pos ht]at hr';cases hr'
theorem bU{a:Acc}{b:Bal}(h:BL a b=0):EP a b=b/\EO a b=a.vs:=⟨if_pos h,if_pos h⟩
theorem Rg{a:Acc}{v:Vt}(h:AW a v=0):BY a v=v.b/\Dc a v=Bk a.vs v:=⟨if_pos h,if_pos h⟩
end
section
open Go.ChangeShapes Go.WideShapes Go.ChangeAt Go.RowKit
theorem fK{W:World}(h:laidMetH prog Rows.topLeaderlessRow.laid W):Tabs W/\LWTab W/\LBTab W:=by
 have h':laidMet prog Rows.topLeaderlessRow.laid W:=h;obtain⟨ps,⟨g0,t0,cs0,fuel0,p0,q0,hg0,ht0,hvar0,hd0,⟨g1,t1,cs1,fuel1,p1,q1,hg1,ht1,hvar1,hd1,⟨g2,t2,cs2,fuel2,p2,q2,hg2,ht2,hvar2,hd2,h4,_⟩,_⟩,_⟩,_⟩:=h';have h5:=Zf h4;obtain rfl:=Option.some.inj (Vj.symm.trans hg0);obtain rfl:=Option.some.inj (PT.symm.trans ht0);obtain rfl:=Option.some.inj (dM.symm.trans hg1);obtain rfl:=Option.some.inj (Vk.symm.trans ht1);obtain rfl:=Option.some.inj (ZI.symm.trans hg2);obtain rfl:=Option.some.inj (SL.symm.trans ht2);exact⟨⟨W6 hvar1 hd1,Yy hvar2 hd2,Wo hvar0 hd0⟩,h5.1,h5.2⟩
def Hv(os:Os)(W:World):Prop :=
 W={ World.holding prog os ⟨#[],#[],[]⟩with heap:=(((((World.holding prog os ⟨#[],#[],[]⟩).heap.modify 4 (V9 Tw)).modify 3 (V9 (Qf.map (Value.int .u32)).toArray)).modify 2 (V9 (LT.map (Value.int .i64)).toArray)).modify 1 (V5 Nu)).modify 0 (V5 Pz) }
theorem XT(os:Os):∃ W,Hv os W:=⟨_,rfl⟩
end
end Go.Proofs.YtalbmmghmoggcaaGreatDoor
