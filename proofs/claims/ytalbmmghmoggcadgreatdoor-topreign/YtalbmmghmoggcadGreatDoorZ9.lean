/- Part 9 of the walk. -/
import Derived.Test.YtalbmmghmoggcadGreatDoorZ7
set_option maxRecDepth 100000
set_option maxHeartbeats 4000000
open Go.Proofs.Tryz
set_option linter.unusedVariables false
namespace Go.Proofs.YtalbmmghmoggcadGreatDoor
open Go.RowKit
theorem NTab.value1{w:World}(h:NTab w):w.cell? ⟨0,1*3+2,none⟩=some (.int .i64 1073741824):=h.cell 5 (by omega)
theorem NTab.value{w:World}(h:NTab w)(k:Nat)(h0:1<=k)(h1:k<=3):w.cell? ⟨0,k*3+2,none⟩=some (.int .i64 (if k=1 then 1073741824 else 0)):=by
 rcases(by omega:k=1\/k=2\/k=3)with rfl|rfl|rfl
 .exact h.cell 5 (by omega)
 .exact h.cell 8 (by omega)
 .exact h.cell 11 (by omega)
theorem DH(k c s n v:Int)(w:World)(ht:NTab w) :
  Calls prog 22 #[.agg (cmA k c s n v)] w λe w'=>e=.returned (.int .i64 (Bf k c s n v))/\Bw w w':=by
 have bb:Bw w (w.alloc (.cells (cmA k c s n v) 25)):=(Below.refl _ _).alloc (A' _) _;have bc:=Bc.made w k c s n v;have hT:=ht.below bb;have hi:=Gc k c s n v;generalize hW:w.alloc (.cells (cmA k c s n v) 25)=W at bb bc hT;have hW':w.alloc (.cells #[.int .i64 k,.int .i64 c,.int .i64 s,.int .i64 n,.int .i64 v] 25)=W:=hW;obtain⟨c0,c1,c2,c3,c4⟩:=E3 bc.row;clear ht;go_enter func22,ntmps22
 go_wp2_with fail
 clear hW hW';refine(Rx k _).mono ?_;rintro e w1 ⟨rfl,rfl⟩;by_cases h1:0<=k/\k<=3
 .rw[I' h1];by_cases h2:k=0
  .subst h2;go_wp2_with (refine wpList_load_row rfl 25 _ rfl w.heap.size rfl 25 _ (0,0) _ bc.row underlying25 rfl hi ?_)
   refine(X9 c s n v _).mono ?_;rintro e w2 ⟨rfl,b2⟩;have d2:Bw w w2:=bb.trans (b2.mono bb.size);go_wp2
   go_ret;exact⟨rfl,d2⟩
  .obtain⟨m,rfl⟩:=jj h1.1;have hk:1<=(m:Int)/\(m:Int)<=3:=by omega
   go_wp2_with (refine wpList_load_row rfl 25 _ rfl w.heap.size rfl 25 _ (0,0) _ bc.row underlying25 rfl hi ?_)
   refine(NZ (m:Int) c s n v _ hk hT).mono ?_;rintro e w2 ⟨rfl,b2⟩;have d2:Bw w w2:=bb.trans (b2.mono bb.size);have bc2:=bc.below b2;have hT2:=hT.below b2;clear c0 c1 c2 c3 c4 bc hT b2 bb;by_cases h3:InC c s n v
   .rw[I' h3];obtain⟨c0,c1,c2,c3,c4⟩:=E3 bc2.row;have hV:=hT2.value m (by omega) (by omega);have k0:(0:Int)<=(m:Int):=by omega
    have k1:(m:Int)<4:=by omega
    have k2:m<4:=by omega
    clear bc2 hT2 h1 h2;by_cases h4:v<=(if m=1 then 1073741824 else 0)
    .have HE:Hid (0=Bf (m:Int) c s n v):=by
      refine(SK hk h3 ?_).symm;unfold InC at h3;split at h4<;>omega
     clear h3 hk;generalize (if m=1 then(1073741824:Int)else 0)=V at hV h4;go_wp2_with fail
     go_quiet (fail)
     have e1:Bw w (w2.drewN nq):=Ao d2 nq;generalize w2.drewN nq=w3 at e1 ⊢;go_wp2
     go_ret;exact⟨AC HE.out,e1⟩
    .have HE:Hid (3=Bf (m:Int) c s n v):=by
      unfold InC at h3;refine(Ua ⟨?_,by omega⟩ (by unfold InC;omega) ?_).symm
      .split at h4<;>omega
      .split at h4<;>omega
     clear h3 hk;generalize (if m=1 then(1073741824:Int)else 0)=V at hV h4;go_wp2_with fail
     go_quiet (fail)
     have e1:Bw w (w2.drewN nq):=Ao d2 nq;generalize w2.drewN nq=w3 at e1 ⊢;go_wp2
     go_ret;exact⟨AC HE.out,e1⟩
   .rw[D' h3];have HE:Hid (2=Bf (m:Int) c s n v):=(QR hk h3).symm;clear h3;go_wp2
    go_ret;exact⟨AC HE.out,d2⟩
 .rw[D' h1];have HE:Hid (4=Bf k c s n v):=(Ub h1).symm;go_wp2
  go_ret;exact⟨AC HE.out,bb⟩
theorem GM(s:Int)(w:World) :
  Calls prog 176 #[.int .i64 s] w λe w'=>e=.returned (.bool (decide (0<=s/\s<=39)))/\w'=w:=by
 by_cases h0:0<=s
 .by_cases h1:s<40
  .rw[I' ⟨h0,by omega⟩];go_enter func176,ntmps176
   go_wp2
   go_ret;exact⟨Ae (by simp),rfl⟩
  .rw[D' (by omega)];go_enter func176,ntmps176
   go_wp2
   go_ret;exact⟨Ae (by simp),rfl⟩
 .rw[D' (by omega)];go_enter func176,ntmps176
  go_wp2
  go_ret;exact⟨Ae (by simp),rfl⟩
theorem La(b:Bal)(w:World) :
  Calls prog 156 #[.agg (baA b)] w λe w'=>e=.returned (.bool (decide (Ab b)))/\Bw w w':=by
 obtain⟨r,n⟩:=b;have bb:Bw w (w.alloc (.cells (baA ⟨r,n⟩) 102)):=(Below.refl _ _).alloc (A' _) _;have rr:=heap_alloc_new w (.cells (baA ⟨r,n⟩) 102);generalize hW:w.alloc (.cells (baA ⟨r,n⟩) 102)=W at bb rr;have c0:W.cell? ⟨w.heap.size,0,none⟩=some (.int .i64 r):=(D4 rr).1;have c1:W.cell? ⟨w.heap.size,1,none⟩=some (.int .i64 n):=(D4 rr).2;clear rr;by_cases h1:1<=r
 .by_cases h2:r<=65536
  .by_cases h3:0<=n
   .by_cases h4:n<5
    .have HB:Hid (true=decide (Ab ⟨r,n⟩)):=(I' (by simp only[Ab];omega)).symm;go_enter func156,ntmps156
     go_wp2
     go_ret;exact⟨Ae HB.out,bb⟩
    .have HB:Hid (false=decide (Ab ⟨r,n⟩)):=(D' (by simp only[Ab];omega)).symm;go_enter func156,ntmps156
     go_wp2
     go_ret;exact⟨Ae HB.out,bb⟩
   .have HB:Hid (false=decide (Ab ⟨r,n⟩)):=(D' (by simp only[Ab];omega)).symm;go_enter func156,ntmps156
    go_wp2
    go_ret;exact⟨Ae HB.out,bb⟩
  .have HB:Hid (false=decide (Ab ⟨r,n⟩)):=(D' (by simp only[Ab];omega)).symm;go_enter func156,ntmps156
   go_wp2
   go_ret;exact⟨Ae HB.out,bb⟩
 .have HB:Hid (false=decide (Ab ⟨r,n⟩)):=(D' (by simp only[Ab];omega)).symm;go_enter func156,ntmps156
  go_wp2
  go_ret;exact⟨Ae HB.out,bb⟩
theorem DD(a b:Bal)(w:World) :
  Calls prog 157 #[.agg (baA a),.agg (baA b)] w λe w'=>e=.returned (.bool (decide (a.lt b)))/\Bw w w':=by
 obtain⟨r,n⟩:=a;obtain⟨q,m⟩:=b;have b1:Bw w (w.alloc (.cells (baA ⟨r,n⟩) 102)):=(Below.refl _ _).alloc (A' _) _;have r1:=heap_alloc_new w (.cells (baA ⟨r,n⟩) 102);have z1:(w.alloc (.cells (baA ⟨r,n⟩) 102)).heap.size=w.heap.size+1:=by simp
 have b2:Below (w.heap.size+1) (w.alloc (.cells (baA ⟨r,n⟩) 102)) ((w.alloc (.cells (baA ⟨r,n⟩) 102)).alloc (.cells (baA ⟨q,m⟩) 102)):=(Below.refl _ _).alloc (by omega) _;have r2:=heap_alloc_new (w.alloc (.cells (baA ⟨r,n⟩) 102)) (.cells (baA ⟨q,m⟩) 102);rw[z1]at r2
 replace r1:=(b2.block w.heap.size (by omega)).trans r1;have bb:=b1.trans (b2.mono (jP _));clear b1 b2 z1;generalize hW:(w.alloc (.cells (baA ⟨r,n⟩) 102)).alloc (.cells (baA ⟨q,m⟩) 102)=W at bb r1 r2;have c0:W.cell? ⟨w.heap.size,0,none⟩=some (.int .i64 r):=(D4 r1).1;have c1:W.cell? ⟨w.heap.size,1,none⟩=some (.int .i64 n):=(D4 r1).2;have e0:W.cell? ⟨w.heap.size+1,0,none⟩=some (.int .i64 q):=(D4 r2).1;have e1:W.cell? ⟨w.heap.size+1,1,none⟩=some (.int .i64 m):=(D4 r2).2;clear r1 r2;by_cases h2:r=q
 .subst h2;have HB:Hid (decide (n<m)=decide (Bal.lt ⟨r,n⟩ ⟨r,m⟩)):=jZ.2 (by unfold Bal.lt;simp);go_enter func157,ntmps157
  go_wp2
  go_ret;exact⟨Ae HB.out,bb⟩
 .have HB:Hid (decide (r<q)=decide (Bal.lt ⟨r,n⟩ ⟨q,m⟩)):=jZ.2 (by unfold Bal.lt;simp[h2]);go_enter func157,ntmps157
  go_wp2
  go_ret;exact⟨Ae HB.out,bb⟩
theorem H6(v:Vt)(w:World)(ht:NTab w) :
  Calls prog 162 #[.agg (vtA v)] w λe w'=>e=.returned (.bool (decide (Ak v)))/\Bw w w':=by
 obtain⟨s,⟨r,n⟩,⟨k,c,q,m,x⟩⟩:=v;have bb:Bw w (w.alloc (.cells (vtA ⟨s,⟨r,n⟩,⟨k,c,q,m,x⟩⟩) 166)):=(Below.refl _ _).alloc (A' _) _;have rr:=heap_alloc_new w (.cells (vtA ⟨s,⟨r,n⟩,⟨k,c,q,m,x⟩⟩) 166);have hT:=ht.below bb;clear ht;generalize hW:w.alloc (.cells (vtA ⟨s,⟨r,n⟩,⟨k,c,q,m,x⟩⟩) 166)=W at bb rr hT;have lt:=(H'.1 rr).1;have HC:Hid (∀ w',Bw W w'->_):=λw' hb=>IY ((hb.block _ lt).trans rr);obtain⟨c0,c1,c2,c3,c4,c5,c6,c7⟩:=IY rr;clear rr;go_enter func162,ntmps162
 go_wp2_with fail
 clear hW;refine(GM s _).mono ?_;rintro e w1 ⟨rfl,rfl⟩;by_cases h1:0<=s/\s<=39
 .rw[I' h1];go_wp2_with fail
  refine(La ⟨r,n⟩ _).mono ?_;rintro e w2 ⟨rfl,b2⟩;have d2:=bb.trans (b2.mono bb.size);have hT2:=hT.below b2;obtain⟨c0,c1,c2,c3,c4,c5,c6,c7⟩:=HC.out w2 b2;by_cases h2:Ab ⟨r,n⟩
  .rw[I' h2];go_wp2_with fail
   refine(DH k c q m x _ hT2).mono ?_;rintro e w3 ⟨rfl,b3⟩;have d3:=d2.trans (b3.mono d2.size);by_cases h3:Bf k c q m x=0
   .have HB:Hid (true=decide (Ak ⟨s,⟨r,n⟩,⟨k,c,q,m,x⟩⟩)):=(I' ⟨h1,h2,h3⟩).symm;rw[h3];clear c0 c1 c2 c3 c4 c5 c6 c7 h3;go_wp2
    go_ret;exact⟨Ae HB.out,d3⟩
   .have HB:Hid (false=decide (Ak ⟨s,⟨r,n⟩,⟨k,c,q,m,x⟩⟩)):=(D' (λg=>h3 g.2.2)).symm;generalize Bf k c q m x=E at h3 ⊢;go_wp2
    go_ret;exact⟨by rw[<- HB.out];simp[h3],d3⟩
  .rw[D' h2];have HB:Hid (false=decide (Ak ⟨s,⟨r,n⟩,⟨k,c,q,m,x⟩⟩)):=(D' (λg=>h2 g.2.1)).symm;go_wp2
   go_ret;exact⟨Ae HB.out,d2⟩
 .rw[D' h1];have HB:Hid (false=decide (Ak ⟨s,⟨r,n⟩,⟨k,c,q,m,x⟩⟩)):=(D' (λg=>h1 g.1)).symm;go_wp2
  go_ret;exact⟨Ae HB.out,bb⟩
theorem Tk(a b a' b':Int):∀ w,(binOp .neq 102 (.agg #[.int .i64 a,.int .i64 b]) (.agg #[.int .i64 a',.int .i64 b'])).run prog w=.ok (.bool (!decide (a=a'/\b=b'))) w:=by
 intro w;rw[run_neq_struct,run_equalIn_agg w 9999 _ _ _ (by kernel_rfl) (by kernel_rfl)];unfold Program.fieldsOf;rw[underlying102];have h3:=underlying3;simp[Op.eqFields,go_sem,h3]
 repeat' split
 all_goals simp_all
def Ey(l:List Vt)(n:Int):Prop:=0<=n/\n<=40/\∀ s:Int,0<=s->(n<=s↔∀ u∈l,u.slot<s)
theorem Ey.nil:Ey [] 0:=⟨by omega,by omega,λs hs=>⟨λ_ u hu=>(M' hu).elim,λ_=>hs⟩⟩
theorem Ey.snoc{l:List Vt}{n:Int}(h:Ey l n){v:Vt}(h0:0<=v.slot)(h1:v.slot<=39)(hv:n<=v.slot):Ey (l++[v]) (v.slot+1):=by
 refine⟨by omega,by omega,λs hs=>⟨λg u hu=>?_,λg=>?_⟩⟩
 .rcases V'.1 hu with hu|hu
  .exact(h.2.2 s hs).1 (by omega) u hu
  .obtain rfl:u=v:=by simpa using hu
   omega
 .have:=g v (by simp);omega
theorem I5(p:Bal)(x:Value)(l:List Vt)(w:World)(h:Sv w x l)(ht:NTab w) :
  Calls prog 155 #[.agg (acA p x)] w λe w'=>e=.returned (.int .i64 (Gn ⟨p,l⟩))/\Bw w w':=by
 obtain⟨pr,pn⟩:=p;have hlen:=h.len;obtain⟨ax,cp,rfl⟩:=h.shape;obtain⟨M,hM⟩:∃ M,l.length=M:=⟨_,rfl⟩;have HM:Hid (l.length=M):=hM;rw[hM]at h hlen ⊢
 clear hM;have bb:Bw w (w.alloc (.cells #[.int .i64 pr,.int .i64 pn,.slice ax M cp] 105)):=(Below.refl _ _).alloc (A' _) _;have rr:=heap_alloc_new w (.cells #[.int .i64 pr,.int .i64 pn,.slice ax M cp] 105);simp only[acA];generalize hW:w.alloc (.cells #[.int .i64 pr,.int .i64 pn,.slice ax M cp] 105)=W0 at bb rr;have ltA0:w.heap.size<W0.heap.size:=(H'.1 rr).1;have a0:W0.cell? ⟨w.heap.size,0,none⟩=some (.int .i64 pr):=cell_of_row _ _ 0 _ _ _ rr;have a1:W0.cell? ⟨w.heap.size,1,none⟩=some (.int .i64 pn):=cell_of_row _ _ 1 _ _ _ rr;have a2:W0.cell? ⟨w.heap.size,2,none⟩=some (.slice ax M cp):=cell_of_row _ _ 2 _ _ _ rr;have hq:=Tk pr pn 0 0;clear rr;go_enter func155,ntmps155
 by_cases hz:pr=0/\pn=0
 .have HP:Hid (Aw ⟨pr,pn⟩):=.inr hz;rw[I' hz]at hq
  obtain⟨rfl,rfl⟩:=hz;go_wp2_with fail
  clear hW hq;have ltA1:=ltA0;have d1:=bb;have h1:=h.below bb;have t1:=ht.below bb;clear ltA0 bb
  go_loopw [3,19] (λnv iv wr=>∃ (j:Nat) (n:Int),j<=M/\iv=.int .i64 (j:Int)/\nv=.int .i64 n/\OkV ⟨0,0⟩ (l.take j)/\Ey (l.take j) n/\Bw W0 wr) (λ_ iv _=>((M:Int)-intOf iv).toNat)
  case atStart=>exact⟨0,0,by omega,rfl,rfl,⟨λv hv=>(M' hv).elim,trivial⟩,Ey.nil,Below.refl _ _⟩
  case round =>
   obtain⟨j,n,hj,rfl,rfl,hok,hnx,hbel⟩:=hrel;have HK:Hid (OkV ⟨0,0⟩ (l.take j)):=hok;have HN:Hid (Ey (l.take j) n):=hnx;have hn0:=hnx.1;have hn1:=hnx.2.1;clear hok hnx;have a0r:=(hbel.cell (p:=⟨w.heap.size,0,none⟩) ltA1).trans a0;have a1r:=(hbel.cell (p:=⟨w.heap.size,1,none⟩) ltA1).trans a1;have a2r:=(hbel.cell (p:=⟨w.heap.size,2,none⟩) ltA1).trans a2;have hr1:=h1.below hbel;have tr:=t1.below hbel;have dr:=d1.trans (hbel.mono d1.size);have ltAr:w.heap.size<wr.heap.size:=Z' ltA1 hbel.size;by_cases hjM:j<M
   .have hji:(j:Int)<(M:Int):=by omega
    obtain⟨v,hv⟩:∃ v,l[j]?=some v:=⟨_,E' (by have:=HM.out;omega)⟩;obtain⟨b,off,hax,ltb,hrg⟩:=hr1.spot j v hv;subst hax;have hix:=D7 b off M cp j hjM;have hsz:=IS v;have HT:Hid (l.take (j+1)=l.take j++[v]):=DQ l j v hv;obtain⟨vs,⟨vr,vn⟩,⟨vk,vc,vq,vm,vx⟩⟩:=v;have HBad:Hid (An ⟨⟨0,0⟩,l⟩->Ak ⟨vs,⟨vr,vn⟩,⟨vk,vc,vq,vm,vx⟩⟩/\¬ Bal.lt ⟨0,0⟩ ⟨vr,vn⟩/\∀ u∈l.take j,u.slot<vs):=λg=>by
     have g2:OkV ⟨0,0⟩ (l.take (j+1)++l.drop (j+1)):=by rw[jz];exact g.2
     have g3:=g2.left;rw[HT.out]at g3
     exact(HK.out.snoc _).1 g3
    clear hv;simp only[vtC]at hrg hsz;have bN:Bw wr (wr.alloc (.cells zV8 166)):=(Below.refl _ _).alloc (A' _) _;have rN:=heap_alloc_new wr (.cells zV8 166);have hsz2:(prog.info? 166).map (·.size)=some (#[.int .i64 vs,.int .i64 vr,.int .i64 vn,.int .i64 vk,.int .i64 vc,.int .i64 vq,.int .i64 vm,.int .i64 vx]:Array Value).size:=hsz;have hone:(#[.int .i64 vs,.int .i64 vr,.int .i64 vn,.int .i64 vk,.int .i64 vc,.int .i64 vq,.int .i64 vm,.int .i64 vx]:Array Value).all (·.oneCell')=true:=by simp[Value.oneCell']
    generalize hWN:wr.alloc (.cells zV8 166)=WN at bN rN
    go_upto_region 7 with((with_reducible (refine As ?_));first|(refine wpList_load_mid rfl 166 (.tmp 21) rfl b (off+8*j) rfl [.int .i64 vs,.int .i64 vr,.int .i64 vn,.int .i64 vk,.int .i64 vc,.int .i64 vq,.int .i64 vm,.int .i64 vx] _ hrg underlying166 rfl hsz ?_)|(refine wpList_store_row rfl 166 (.tmp 5) (.tmp 22) rfl wr.heap.size (#[.int .i64 vs,.int .i64 vr,.int .i64 vn,.int .i64 vk,.int .i64 vc,.int .i64 vq,.int .i64 vm,.int .i64 vx]) rfl rfl 166 _ rN hsz2 rfl hone ?_))
    clear hWN;have q:=setRow_heap WN wr.heap.size _ (#[.int .i64 vs,.int .i64 vr,.int .i64 vn,.int .i64 vk,.int .i64 vc,.int .i64 vq,.int .i64 vm,.int .i64 vx]) 166 _ rN;replace bN:=Aj bN (A' _) (#[.int .i64 vs,.int .i64 vr,.int .i64 vn,.int .i64 vk,.int .i64 vc,.int .i64 vq,.int .i64 vm,.int .i64 vx]);generalize WN.setRow wr.heap.size (#[.int .i64 vs,.int .i64 vr,.int .i64 vn,.int .i64 vk,.int .i64 vc,.int .i64 vq,.int .i64 vm,.int .i64 vx])=W at q bN ⊢;have dW:=dr.trans (bN.mono dr.size);have eW:=hbel.trans (bN.mono hbel.size);have ltG:wr.heap.size<W.heap.size:=(H'.1 q).1;have ltA:w.heap.size<W.heap.size:=by omega
    have rA0:=(bN.cell (p:=⟨w.heap.size,0,none⟩) ltAr).trans a0r;have rA1:=(bN.cell (p:=⟨w.heap.size,1,none⟩) ltAr).trans a1r;have tW:=tr.below bN;clear rN a0r a1r a2r hrg hix hsz2 bN hr1 tr;generalize wr.heap.size=G at q ltG ⊢;go_wp2_with ((with_reducible (refine As ?_));refine wpList_load_row rfl 166 _ rfl G rfl 166 _ (0,0) _ q underlying166 rfl hsz ?_)
    refine(H6 ⟨vs,⟨vr,vn⟩,⟨vk,vc,vq,vm,vx⟩⟩ W tW).mono ?_;rintro e W2 ⟨rfl,b2⟩;have d2:=dW.trans (b2.mono dW.size);have e2:=eW.trans (b2.mono eW.size);have q2:=(b2.block _ ltG).trans q;have x0:W2.cell? ⟨G,0,none⟩=some (.int .i64 vs):=cell_of_row _ _ 0 _ _ _ q2;have x1:W2.cell? ⟨G,1,none⟩=some (.int .i64 vr):=cell_of_row _ _ 1 _ _ _ q2;have x2:W2.cell? ⟨G,2,none⟩=some (.int .i64 vn):=cell_of_row _ _ 2 _ _ _ q2;replace rA0:=(b2.cell (p:=⟨w.heap.size,0,none⟩) ltA).trans rA0;replace rA1:=(b2.cell (p:=⟨w.heap.size,1,none⟩) ltA).trans rA1;have ltG2:G<W2.heap.size:=Z' ltG b2.size;clear b2 q eW dW tW ltG;by_cases hv:Ak ⟨vs,⟨vr,vn⟩,⟨vk,vc,vq,vm,vx⟩⟩
    .rw[I' hv];by_cases hs:vs<n
     .have HE:Hid (5=Gn ⟨⟨0,0⟩,l⟩):=(if_neg (λg=>by
       have g1:=(HBad.out g).2.2;have g2:=(HN.out.2.2 vs hv.1.1).2 g1;omega)).symm
      clear hv;go_wp2
      go_ret;exact⟨AC HE.out,d2⟩
     .have hs':n<=vs:=by omega
      go_wp2_with fail
      refine(DD ⟨0,0⟩ ⟨vr,vn⟩ W2).mono ?_;rintro e W3 ⟨rfl,b3⟩;have d3:=d2.trans (b3.mono d2.size);have e3:=e2.trans (b3.mono e2.size);have x0:=(b3.cell (p:=⟨G,0,none⟩) ltG2).trans x0;by_cases hb:Bal.lt ⟨0,0⟩ ⟨vr,vn⟩
      .rw[I' hb];have HE:Hid (5=Gn ⟨⟨0,0⟩,l⟩):=(if_neg (λg=>(HBad.out g).2.1 hb)).symm;clear hv hb;go_wp2
       go_ret;exact⟨AC HE.out,d3⟩
      .rw[D' hb];have hv1:0<=vs:=hv.1.1;have hv2:vs<=39:=hv.1.2;have HK2:Hid (OkV ⟨0,0⟩ (l.take (j+1))):=by unfold Hid;rw[HT.out];exact(HK.out.snoc _).2 ⟨hv,hb,(HN.out.2.2 vs hv1).1 hs'⟩
       have HN2:Hid (Ey (l.take (j+1)) (vs+1)):=by unfold Hid;rw[HT.out];exact HN.out.snoc (v:=⟨vs,⟨vr,vn⟩,⟨vk,vc,vq,vm,vx⟩⟩) hv1 hv2 hs'
       clear hv hb HBad HK HN HT;go_wp2
       go_roundw
       case rel=>exact⟨j+1,vs+1,by omega,by go_num,by go_num,HK2.out,HN2.out,e3⟩
       case measure=>simp[intOf];omega
    .rw[D' hv];have HE:Hid (5=Gn ⟨⟨0,0⟩,l⟩):=(if_neg (λg=>hv (HBad.out g).1)).symm;clear hv;go_wp2
     go_ret;exact⟨AC HE.out,d2⟩
   .obtain rfl:j=M:=by omega
    have HE:Hid (0=Gn ⟨⟨0,0⟩,l⟩):=by
     have g:=HK.out;rw[iU (by have:=HM.out;omega)]at g
     exact(if_pos ⟨HP.out,g.1,g.2⟩).symm
    go_wp2
    go_ret;exact⟨AC HE.out,dr⟩
 .rw[D' hz]at hq
  go_wp2_with fail
  clear hW hq;refine(La ⟨pr,pn⟩ _).mono ?_;rintro e w1 ⟨rfl,b1⟩;have d1:=bb.trans (b1.mono bb.size);replace a0:=(b1.cell (p:=⟨w.heap.size,0,none⟩) ltA0).trans a0;replace a1:=(b1.cell (p:=⟨w.heap.size,1,none⟩) ltA0).trans a1;replace a2:=(b1.cell (p:=⟨w.heap.size,2,none⟩) ltA0).trans a2;have ltA1:w.heap.size<w1.heap.size:=Z' ltA0 b1.size;have h1:=h.below d1;have t1:=ht.below d1;clear b1 bb ltA0;by_cases hp:Ab ⟨pr,pn⟩
  .have HP:Hid (Aw ⟨pr,pn⟩):=.inl hp;rw[I' hp];clear hp hz;go_wp2_with fail
   go_loopw [3,19] (λnv iv wr=>∃ (j:Nat) (n:Int),j<=M/\iv=.int .i64 (j:Int)/\nv=.int .i64 n/\OkV ⟨pr,pn⟩ (l.take j)/\Ey (l.take j) n/\Bw w1 wr) (λ_ iv _=>((M:Int)-intOf iv).toNat)
   case atStart=>exact⟨0,0,by omega,rfl,rfl,⟨λv hv=>(M' hv).elim,trivial⟩,Ey.nil,Below.refl _ _⟩
   case round =>
    obtain⟨j,n,hj,rfl,rfl,hok,hnx,hbel⟩:=hrel;have HK:Hid (OkV ⟨pr,pn⟩ (l.take j)):=hok;have HN:Hid (Ey (l.take j) n):=hnx;have hn0:=hnx.1;have hn1:=hnx.2.1;clear hok hnx;have a0r:=(hbel.cell (p:=⟨w.heap.size,0,none⟩) ltA1).trans a0;have a1r:=(hbel.cell (p:=⟨w.heap.size,1,none⟩) ltA1).trans a1;have a2r:=(hbel.cell (p:=⟨w.heap.size,2,none⟩) ltA1).trans a2;have hr1:=h1.below hbel;have tr:=t1.below hbel;have dr:=d1.trans (hbel.mono d1.size);have ltAr:w.heap.size<wr.heap.size:=Z' ltA1 hbel.size;by_cases hjM:j<M
    .have hji:(j:Int)<(M:Int):=by omega
     obtain⟨v,hv⟩:∃ v,l[j]?=some v:=⟨_,E' (by have:=HM.out;omega)⟩;obtain⟨b,off,hax,ltb,hrg⟩:=hr1.spot j v hv;subst hax;have hix:=D7 b off M cp j hjM;have hsz:=IS v;have HT:Hid (l.take (j+1)=l.take j++[v]):=DQ l j v hv;obtain⟨vs,⟨vr,vn⟩,⟨vk,vc,vq,vm,vx⟩⟩:=v;have HBad:Hid (An ⟨⟨pr,pn⟩,l⟩->Ak ⟨vs,⟨vr,vn⟩,⟨vk,vc,vq,vm,vx⟩⟩/\¬ Bal.lt ⟨pr,pn⟩ ⟨vr,vn⟩/\∀ u∈l.take j,u.slot<vs):=λg=>by
      have g2:OkV ⟨pr,pn⟩ (l.take (j+1)++l.drop (j+1)):=by rw[jz];exact g.2
      have g3:=g2.left;rw[HT.out]at g3
      exact(HK.out.snoc _).1 g3
     clear hv;simp only[vtC]at hrg hsz;have bN:Bw wr (wr.alloc (.cells zV8 166)):=(Below.refl _ _).alloc (A' _) _;have rN:=heap_alloc_new wr (.cells zV8 166);have hsz2:(prog.info? 166).map (·.size)=some (#[.int .i64 vs,.int .i64 vr,.int .i64 vn,.int .i64 vk,.int .i64 vc,.int .i64 vq,.int .i64 vm,.int .i64 vx]:Array Value).size:=hsz;have hone:(#[.int .i64 vs,.int .i64 vr,.int .i64 vn,.int .i64 vk,.int .i64 vc,.int .i64 vq,.int .i64 vm,.int .i64 vx]:Array Value).all (·.oneCell')=true:=by simp[Value.oneCell']
     generalize hWN:wr.alloc (.cells zV8 166)=WN at bN rN
     go_upto_region 7 with((with_reducible (refine As ?_));first|(refine wpList_load_mid rfl 166 (.tmp 21) rfl b (off+8*j) rfl [.int .i64 vs,.int .i64 vr,.int .i64 vn,.int .i64 vk,.int .i64 vc,.int .i64 vq,.int .i64 vm,.int .i64 vx] _ hrg underlying166 rfl hsz ?_)|(refine wpList_store_row rfl 166 (.tmp 5) (.tmp 22) rfl wr.heap.size (#[.int .i64 vs,.int .i64 vr,.int .i64 vn,.int .i64 vk,.int .i64 vc,.int .i64 vq,.int .i64 vm,.int .i64 vx]) rfl rfl 166 _ rN hsz2 rfl hone ?_))
     clear hWN;have q:=setRow_heap WN wr.heap.size _ (#[.int .i64 vs,.int .i64 vr,.int .i64 vn,.int .i64 vk,.int .i64 vc,.int .i64 vq,.int .i64 vm,.int .i64 vx]) 166 _ rN;replace bN:=Aj bN (A' _) (#[.int .i64 vs,.int .i64 vr,.int .i64 vn,.int .i64 vk,.int .i64 vc,.int .i64 vq,.int .i64 vm,.int .i64 vx]);generalize WN.setRow wr.heap.size (#[.int .i64 vs,.int .i64 vr,.int .i64 vn,.int .i64 vk,.int .i64 vc,.int .i64 vq,.int .i64 vm,.int .i64 vx])=W at q bN ⊢;have dW:=dr.trans (bN.mono dr.size);have eW:=hbel.trans (bN.mono hbel.size);have ltG:wr.heap.size<W.heap.size:=(H'.1 q).1;have ltA:w.heap.size<W.heap.size:=by omega
     have rA0:=(bN.cell (p:=⟨w.heap.size,0,none⟩) ltAr).trans a0r;have rA1:=(bN.cell (p:=⟨w.heap.size,1,none⟩) ltAr).trans a1r;have tW:=tr.below bN;clear rN a0r a1r a2r hrg hix hsz2 bN hr1 tr;generalize wr.heap.size=G at q ltG ⊢;go_wp2_with ((with_reducible (refine As ?_));refine wpList_load_row rfl 166 _ rfl G rfl 166 _ (0,0) _ q underlying166 rfl hsz ?_)
     refine(H6 ⟨vs,⟨vr,vn⟩,⟨vk,vc,vq,vm,vx⟩⟩ W tW).mono ?_;rintro e W2 ⟨rfl,b2⟩;have d2:=dW.trans (b2.mono dW.size);have e2:=eW.trans (b2.mono eW.size);have q2:=(b2.block _ ltG).trans q;have x0:W2.cell? ⟨G,0,none⟩=some (.int .i64 vs):=cell_of_row _ _ 0 _ _ _ q2;have x1:W2.cell? ⟨G,1,none⟩=some (.int .i64 vr):=cell_of_row _ _ 1 _ _ _ q2;have x2:W2.cell? ⟨G,2,none⟩=some (.int .i64 vn):=cell_of_row _ _ 2 _ _ _ q2;replace rA0:=(b2.cell (p:=⟨w.heap.size,0,none⟩) ltA).trans rA0;replace rA1:=(b2.cell (p:=⟨w.heap.size,1,none⟩) ltA).trans rA1;have ltG2:G<W2.heap.size:=Z' ltG b2.size;clear b2 q eW dW tW ltG;by_cases hv:Ak ⟨vs,⟨vr,vn⟩,⟨vk,vc,vq,vm,vx⟩⟩
     .rw[I' hv];by_cases hs:vs<n
      .have HE:Hid (5=Gn ⟨⟨pr,pn⟩,l⟩):=(if_neg (λg=>by
        have g1:=(HBad.out g).2.2;have g2:=(HN.out.2.2 vs hv.1.1).2 g1;omega)).symm
       clear hv;go_wp2
       go_ret;exact⟨AC HE.out,d2⟩
      .have hs':n<=vs:=by omega
       go_wp2_with fail
       refine(DD ⟨pr,pn⟩ ⟨vr,vn⟩ W2).mono ?_;rintro e W3 ⟨rfl,b3⟩;have d3:=d2.trans (b3.mono d2.size);have e3:=e2.trans (b3.mono e2.size);have x0:=(b3.cell (p:=⟨G,0,none⟩) ltG2).trans x0;by_cases hb:Bal.lt ⟨pr,pn⟩ ⟨vr,vn⟩
       .rw[I' hb];have HE:Hid (5=Gn ⟨⟨pr,pn⟩,l⟩):=(if_neg (λg=>(HBad.out g).2.1 hb)).symm;clear hv hb;go_wp2
        go_ret;exact⟨AC HE.out,d3⟩
       .rw[D' hb];have hv1:0<=vs:=hv.1.1;have hv2:vs<=39:=hv.1.2;have HK2:Hid (OkV ⟨pr,pn⟩ (l.take (j+1))):=by unfold Hid;rw[HT.out];exact(HK.out.snoc _).2 ⟨hv,hb,(HN.out.2.2 vs hv1).1 hs'⟩
        have HN2:Hid (Ey (l.take (j+1)) (vs+1)):=by unfold Hid;rw[HT.out];exact HN.out.snoc (v:=⟨vs,⟨vr,vn⟩,⟨vk,vc,vq,vm,vx⟩⟩) hv1 hv2 hs'
        clear hv hb HBad HK HN HT;go_wp2
        go_roundw
        case rel=>exact⟨j+1,vs+1,by omega,by go_num,by go_num,HK2.out,HN2.out,e3⟩
        case measure=>simp[intOf];omega
     .rw[D' hv];have HE:Hid (5=Gn ⟨⟨pr,pn⟩,l⟩):=(if_neg (λg=>hv (HBad.out g).1)).symm;clear hv;go_wp2
      go_ret;exact⟨AC HE.out,d2⟩
    .obtain rfl:j=M:=by omega
     have HE:Hid (0=Gn ⟨⟨pr,pn⟩,l⟩):=by
      have g:=HK.out;rw[iU (by have:=HM.out;omega)]at g
      exact(if_pos ⟨HP.out,g.1,g.2⟩).symm
     go_wp2
     go_ret;exact⟨AC HE.out,dr⟩
  .rw[D' hp];have HE:Hid (5=Gn ⟨⟨pr,pn⟩,l⟩):=(if_neg (λg=>g.1.elim hp hz)).symm;clear hp hz;go_wp2
   go_ret;exact⟨AC HE.out,d1⟩
end Go.Proofs.YtalbmmghmoggcadGreatDoor
