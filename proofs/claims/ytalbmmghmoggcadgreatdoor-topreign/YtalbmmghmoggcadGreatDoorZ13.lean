/- Part 13 of the walk. -/
import Derived.Deep.OwnRows
import Derived.Test.YtalbmmghmoggcadGreatDoorZ2
set_option maxRecDepth 100000
set_option maxHeartbeats 4000000
open Go.Proofs.Tryz
namespace Go.Proofs.YtalbmmghmoggcadGreatDoor
open Go.RowKit
section
def Gb(t:Nat)(x:Int):Int:=if t%4=3 then x%16 else if t%4=0/\0<t then x/4*4 else x
def Ds(l:List Int):List Int:=(List.range 16).map λt=>Gb t (l.getD t 0)
theorem Md(l:List Int):(Ds l).length=16:=by simp[Ds]
theorem QN(l:List Int)(t:Nat)(h:t<16):(Ds l).getD t 0=Gb t (l.getD t 0):=by
 simp[Ds,List.getD,List.getElem?_map,List.getElem?_range h]
theorem NN(t:Nat){x:Int}(h:0<=x/\x<256):0<=Gb t x/\Gb t x<256:=by
 unfold Gb;split
 .omega
 .split<;>omega
variable{j:Nat}{l m:List Int}{w:World}
theorem OV(h:∀ x∈l,0<=x/\x<256):∀ x∈Ds l,0<=x/\x<256:=by
 intro x hx;obtain⟨t,_,rfl⟩:=ju.1 hx;exact NN t (Al h t)
theorem Rf(h:l.length=m.length)(hg:∀ t,t<l.length->l.getD t 0=m.getD t 0):l=m:=by
 apply kU h;intro t h1 h2;have:=hg t h1
 rwa [AR h1,AR h2]at this
theorem fB(x:Int)(h0:0<=x)(h1:x<256):bits .and .u8 x 15=x%16:=by
 obtain⟨n,rfl⟩:=jj h0;rw[show(15:Int)=((15:Nat):Int)from rfl,u8_and_nat _ _ (by omega) (by omega),show(15:Nat)=2^4-1 from rfl,lO];omega
theorem QB:∀ n:Fin 256,n.val &&& 252=n.val/4*4:=by decide +kernel
theorem dg(x:Int)(h0:0<=x)(h1:x<256):bits .and .u8 x 252=x/4*4:=by
 obtain⟨n,rfl⟩:=jj h0;have e:n &&& 252=n/4*4:=QB ⟨n,by omega⟩;rw[show(252:Int)=((252:Nat):Int)from rfl,u8_and_nat _ _ (by omega) (by omega),e];omega
structure Upper(l m:List Int)(j:Nat):Prop where
 len:m.length=16
 at_:∀ t,m.getD t 0=if t%4=3/\t<3+4*j then l.getD t 0%16 else l.getD t 0
theorem Upper.zero(h:l.length=16):Upper l l 0:=by
 refine⟨h,λt=>?_⟩;rw[if_neg (by omega)]
theorem Upper.succ(h:Upper l m j)(hj:j<4):Upper l (m.set (3+4*j) (m.getD (3+4*j) 0%16)) (j+1):=by
 refine⟨by simpa using h.len,λt=>?_⟩;by_cases e:3+4*j=t
 .subst e;rw[AJ (by rw[h.len];omega),h.at_,if_neg (by omega),if_pos (by omega)]
 .rw[Ay e,h.at_];by_cases c:t%4=3/\t<3+4*j
  .rw[if_pos c,if_pos (by omega)]
  .rw[if_neg c,if_neg (by omega)]
structure Lower(l m:List Int)(j:Nat):Prop where
 len:m.length=16
 at_:∀ t,t<16->m.getD t 0=if t%4=3 then l.getD t 0%16 else if t%4=0/\0<t/\t<4+4*j then l.getD t 0/4*4 else l.getD t 0
theorem Upper.lower(h:Upper l m 4):Lower l m 0:=by
 refine⟨h.len,λt ht=>?_⟩;rw[h.at_];by_cases c:t%4=3
 .rw[if_pos (by omega),if_pos c]
 .rw[if_neg (by omega),if_neg c,if_neg (by omega)]
theorem Lower.succ(h:Lower l m j)(hj:j<3):Lower l (m.set (4+4*j) (m.getD (4+4*j) 0/4*4)) (j+1):=by
 refine⟨by simpa using h.len,λt ht=>?_⟩;by_cases e:4+4*j=t
 .subst e;rw[AJ (by rw[h.len];omega),h.at_ _ ht,if_neg (by omega),if_neg (by omega),if_neg (by omega),if_pos (by omega)]
 .rw[Ay e,h.at_ _ ht];by_cases c:t%4=3
  .rw[if_pos c,if_pos c]
  .rw[if_neg c,if_neg c];by_cases d:t%4=0/\0<t/\t<4+4*j
   .rw[if_pos d,if_pos (by omega)]
   .rw[if_neg d,if_neg (by omega)]
theorem Lower.clamp(h:Lower l m 3):m=Ds l:=by
 refine Rf (by rw[h.len,Md]) (λt ht=>?_);rw[h.len]at ht
 rw[h.at_ t ht,QN l t ht,Gb];by_cases c:t%4=3
 .rw[if_pos c,if_pos c]
 .rw[if_neg c,if_neg c];by_cases d:t%4=0/\0<t
  .rw[if_pos d,if_pos (by omega)]
  .rw[if_neg d,if_neg (by omega)]
theorem Upper.byte(h:Upper l m j)(hl:∀ x∈l,0<=x/\x<256)(t:Nat):0<=m.getD t 0/\m.getD t 0<256:=by
 have:=Al hl t;rw[h.at_];split<;>omega
theorem Lower.byte(h:Lower l m j)(hl:∀ x∈l,0<=x/\x<256)(t:Nat)(ht:t<16):0<=m.getD t 0/\m.getD t 0<256:=by
 have:=Al hl t;rw[h.at_ t ht];split
 .omega
 .split<;>omega
theorem Ri(v:Value)(l:List Int)(w:World)(h:Sl w v l)(hl:l.length=16) :
  Calls prog 143 #[v] w λe w'=>∃ r,e=.returned (.agg (Ai r))/\Lim 67108864 r/\val r%pp=leN (Ds l)%pp/\Bw w w':=by
 have hs:=h;obtain⟨⟨a,cap,rfl,hc,hn,h1⟩,hla,hba⟩:=h;have HBY:Hid (∀ x∈l,0<=x/\x<256):=hba;clear h1 hba hn hla;have HL:Hid (l.length=16):=hl;go_enter func143,ntmps143
 go_wp2_with (refine wpList_copy_splice rfl _ _ 28 28 rfl 5 underlying28 WY _ _ _ _ _ _ rfl rfl (w.heap.size+1) 0 ((List.replicate 16 (0:Int)).map (Value.int .u8)) 256 (heap_alloc2_new _ _ _) (l.map (Value.int .u8)) (by rw[jc];exact(jR (show l.length<=16 by omega)).symm) (λhp=>⟨rfl,(hs.below (((Below.refl _ _).alloc (A' _) _).alloc (by simp) _)).src (by simpa using hp)⟩) (by rw[jc,jc,j4];omega) (E6 _) (w.heap.size+1) _ (Below.refl _ _) (A' _) ?_)
 intro w2 H2 hb2;have hr2:w2.heap[w.heap.size+1]?=some (.cells (byA l) 256 (0,0)):=by
  have h3:w2.heap[w.heap.size+1]?=some (.cells (splice ((List.replicate 16 (0:Int)).map (Value.int .u8)) 0 (l.map (Value.int .u8))).toArray 256 (0,0)):=H2.out;rw[Il,hl]at h3
  simpa[byA]using h3
 have hB2:Bw w w2:=(((Below.refl _ _).alloc (A' _) _).alloc (by simp) _).trans (hb2.mono (by omega));have hq2:w2.heap[w.heap.size]?=some (.cells (Ai [0,0,0,0,0]) 223 (0,0)):=by
  rw[hb2.block _ (by omega)];exact heap_alloc2_old _ _ _
 clear H2 hb2 hs;go_wp2_with fail
 go_loopw [4] (λi wr=>∃ (j:Nat) (m:List Int),j<=4/\i=.int .i64 (3+4*(j:Int))/\Upper l m j/\wr.heap[w.heap.size]?=some (.cells (Ai [0,0,0,0,0]) 223 (0,0))/\wr.heap[w.heap.size+1]?=some (.cells (byA m) 256 (0,0))/\Bw w wr) (λi _=>20-(intOf i).toNat)
 case atStart=>exact⟨0,l,by omega,rfl,Upper.zero HL.out,hq2,hr2,hB2⟩
 case round =>
  clear hq2 hr2 hB2;obtain⟨j,m,hj,rfl,hu,hq,hr,hb⟩:=hrel;have hm:=hu.len;by_cases hj4:j<4
  .have hji:3+4*(j:Int)<16:=by omega
   have cl:=(cell_of_row _ _ (3+4*j) _ _ _ hr).trans (Hh m (3+4*j) (by omega));have fl:=frozen_of_row _ _ (3+4*j) _ _ hr;have hby:=hu.byte HBY.out (3+4*j);have HS:Hid (Upper l (m.set (3+4*j) (m.getD (3+4*j) 0%16)) (j+1)):=hu.succ hj4;have hand:=fB (m.getD (3+4*j) 0) hby.1 hby.2;generalize m.getD (3+4*j) 0=x at cl HS hby hand;clear hu;go_wp2
   go_roundw
   case rel =>
    refine⟨j+1,_,by omega,by go_num,HS.out,?_,FZ hr _ _,?_⟩
    .exact(heap_setCell_other _ _ _ _ (by simp)).trans hq
    .exact hb.setCell (p:=⟨w.heap.size+1,3+4*j,none⟩) (by simp) _
   case measure=>simp[intOf];omega
  .have HJ:Hid (j=4):=by unfold Hid;omega
   have hji:¬ 3+4*(j:Int)<16:=by omega
   have hlo:Lower l m 0:=by have:=HJ.out;subst this;exact hu.lower
   clear hu;go_wp2_with fail
   go_loopw [5] (λi wr=>∃ (j:Nat) (m:List Int),j<=3/\i=.int .i64 (4+4*(j:Int))/\Lower l m j/\wr.heap[w.heap.size]?=some (.cells (Ai [0,0,0,0,0]) 223 (0,0))/\wr.heap[w.heap.size+1]?=some (.cells (byA m) 256 (0,0))/\Bw w wr) (λi _=>20-(intOf i).toNat)
   case atStart=>exact⟨0,m,by omega,rfl,hlo,hq,hr,hb⟩
   case round =>
    clear hq hr hb hlo hm;obtain⟨k,m,hk,rfl,hu,hq,hr,hb⟩:=hrel;have hm:=hu.len;by_cases hk3:k<3
    .have hki:4+4*(k:Int)<16:=by omega
     have cl:=(cell_of_row _ _ (4+4*k) _ _ _ hr).trans (Hh m (4+4*k) (by omega));have fl:=frozen_of_row _ _ (4+4*k) _ _ hr;have hby:=hu.byte HBY.out (4+4*k) (by omega);have HS:Hid (Lower l (m.set (4+4*k) (m.getD (4+4*k) 0/4*4)) (k+1)):=hu.succ hk3;have hand:=dg (m.getD (4+4*k) 0) hby.1 hby.2;generalize m.getD (4+4*k) 0=x at cl HS hby hand;clear hu;go_wp2
     go_roundw
     case rel =>
      refine⟨k+1,_,by omega,by go_num,HS.out,?_,FZ hr _ _,?_⟩
      .exact(heap_setCell_other _ _ _ _ (by simp)).trans hq
      .exact hb.setCell (p:=⟨w.heap.size+1,4+4*k,none⟩) (by simp) _
     case measure=>simp[intOf];omega
    .have hki:¬ 4+4*(k:Int)<16:=by omega
     have HK:Hid (k=3):=by unfold Hid;omega
     have hmc:m=Ds l:=by have:=HK.out;subst this;exact hu.clamp
     have s3:Sl wr (.slice (some ⟨w.heap.size+1,0,none⟩) 16 16) m:=by
      refine Sl.rowOf hr hm (by omega) ?_;rw[hmc];exact OV HBY.out
     have HM:Hid (m=Ds l):=hmc;have HS3:Hid _:=s3;have hzz:w.heap.size<wr.heap.size:=(H'.1 hq).1;clear hu s3 hmc hr;go_wp2_with fail
     refine(Qb _ m _ HS3.out (by omega)).mono ?_;rintro e w4 ⟨r,rfl,lr,vr,hb4⟩;have hq4:=(hb4.block w.heap.size hzz).trans hq;have hB4:Bw w w4:=hb.trans (hb4.mono hb.size);have hsz2:=CH lr.1;go_wp2_with ((with_reducible (refine Ap ?_));(refine wpList_store_row rfl 223 _ _ rfl (w.heap.size) _ rfl rfl 223 _ hq4 hsz2 (by rw[Am,Am,lr.1];rfl) (Bq r) ?_))
     exact bodyPost_ret (v:=.agg (Ai r)) (results_cell_row rfl _ _ (w.heap.size) 223 _ (0,0) _ rfl (setRow_heap w4 (w.heap.size) _ _ 223 _ hq4) underlying223 rfl hsz2) rfl ⟨r,rfl,lr,by rw[vr,HM.out],AY hB4 (A' _) _⟩
def AG(v:Int)(i:Nat):Int:=v/256^i%256
theorem F1(v:Int)(i:Nat):0<=AG v i/\AG v i<256:=by unfold AG;omega
def leB(n:Nat)(v:Int):List Int:=(List.range n).map (AG v)
theorem Da(n:Nat)(v:Int):(leB n v).length=n:=by simp[leB]
theorem Hz(n:Nat)(v:Int):∀ x∈leB n v,0<=x/\x<256:=by
 intro x hx;obtain⟨j,_,rfl⟩:=ju.1 hx;exact F1 v j
def Fg(S:Nat->Int):Nat->Int
 | 0=>0
 | k+1=>Fg S k+S k*256^k
def Hi(S:Nat->Int)(k:Nat):Int:=Fg S k/256^k
theorem Ll(k:Nat):(0:Int)<256^k:=Int.pow_pos (by omega)
theorem MH(S:Nat->Int):Hi S 0=0:=by simp[Hi,Fg]
theorem MG(S:Nat->Int)(k:Nat):Hi S (k+1)=(Hi S k+S k)/256:=by
 have hp:=Ll k;unfold Hi;rw[Fg,lQ,<- lD (lM hp),Int.add_mul_ediv_right _ _ (Int.ne_of_gt hp)]
theorem QG(S:Nat->Int)(h:∀ j,0<=S j/\S j<1000)(k:Nat):0<=Hi S k/\Hi S k<256:=by
 induction k with
 | zero=>rw[MH];omega
 | succ k ih=>rw[MG];have:=h k;omega
theorem Vj(S:Nat->Int)(k d:Nat):∃ Z,Fg S (k+d)=Fg S k+256^k*Z:=by
 induction d with
 | zero=>exact⟨0,by simp⟩
 | succ d ih =>
  obtain⟨Z,hZ⟩:=ih;refine⟨Z+S (k+d)*256^d,?_⟩;rw[<- jI,Fg,hZ,kZ]
  grind
theorem Ky(v Z:Int)(n k:Nat)(h:k<n):AG (v+256^n*Z) k=AG v k:=by
 have hp:=Ll k;obtain⟨d,rfl⟩:∃ d,n=k+(1+d):=⟨n-k-1,by omega⟩;unfold AG;rw[kZ,kZ,show(256:Int)^k*(256^1*256^d)*Z=256^k*(256*(256^d*Z))by grind,Int.add_mul_ediv_left _ _ (Int.ne_of_gt hp)];omega
theorem TT(S:Nat->Int)(n k:Nat)(h:k<n):(Hi S k+S k)%256=AG (Fg S n) k:=by
 have hp:=Ll k;obtain⟨d,rfl⟩:∃ d,n=(k+1)+d:=⟨n-(k+1),by omega⟩;obtain⟨Z,hZ⟩:=Vj S (k+1) d;rw[hZ,Ky _ _ _ _ (by omega),AG,Fg,Int.add_mul_ediv_right _ _ (Int.ne_of_gt hp)];rfl
theorem Yy(S T:Nat->Int)(k:Nat):Fg (λj=>S j+T j) k=Fg S k+Fg T k:=by
 induction k with
 | zero=>rfl
 | succ k ih=>simp only[Fg,ih];grind
theorem Yz(l:List Int)(k:Nat):Fg (λj=>l.getD j 0) k=leP l k:=by
 induction k with
 | zero=>rfl
 | succ k ih=>simp only[Fg,leP,ih]
theorem Sr(v:Int)(n:Nat):∃ Z,v=Fg (AG v) n+256^n*Z/\Z=v/256^n:=by
 induction n with
 | zero=>exact⟨v,by simp[Fg],by simp⟩
 | succ n ih =>
  obtain⟨Z,h1,h2⟩:=ih;refine⟨Z/256,?_,?_⟩
  .rw[Fg,AG,<- h2,lQ];have:Z=Z%256+256*(Z/256):=by omega
   grind
  .rw[h2,lQ,lD (lM (Ll n))]
theorem VS(v:Int)(s:List Int)(k:Nat)(hk:k<16)(hs:s.length<=16) :
  (Hi (λj=>AG v j+s.getD j 0) k+(AG v k+s.getD k 0))%256=AG (v+leN s) k:=by
 rw[TT (λj=>AG v j+s.getD j 0) 16 k hk,Yy (AG v) (λj=>s.getD j 0),Yz,Xp 16 hs];obtain⟨Z,h1,_⟩:=Sr v 16;have e:v+leN s=Fg (AG v) 16+leN s+256^16*Z:=by omega
 rw[e,Ky _ _ _ _ hk]
def Io(v:Int)(k:Nat):List Int:=(List.range 16).map λj=>if j<k then AG v j else 0
theorem Qt(v:Int)(k:Nat):(Io v k).length=16:=by simp[Io]
theorem Vq(v:Int):Io v 0=List.replicate 16 0:=rfl
theorem Y7(v:Int):Io v 16=leB 16 v:=by
 unfold Io leB;refine lW λj hj=>?_;rw[if_pos (kQ.1 hj)]
theorem Vp(v:Int)(k:Nat)(_hk:k<16):(Io v k).set k (AG v k)=Io v (k+1):=by
 apply kU (by simp[Io]);intro j h1 h2;rw[j9];simp only[Io,List.getElem_map,List.getElem_range];by_cases e:k=j
 .subst e;rw[if_pos rfl,if_pos (by omega)]
 .rw[if_neg e];by_cases c:j<k
  .rw[if_pos c,if_pos (by omega)]
  .rw[if_neg c,if_neg (by omega)]
theorem RM(a b:Int)(k:Nat)(m:Int)(hm:m=2^k)(ha:0<=a)(ha2:a<m)(hb:0<=b)(hs:a+b*m<18446744073709551616):bits .or .u64 a (b*m)=a+b*m:=by
 obtain⟨x,rfl⟩:=jj ha;obtain⟨y,rfl⟩:=jj hb;have e:(y:Int)*m=((2^k*y:Nat):Int):=by rw[hm,mu,kH,Int.mul_comm];rfl
 rw[e]at hs ⊢
 have hx:x<2^k:=by
  have:((x:Nat):Int)<((2^k:Nat):Int):=by rw[kH];rw[hm]at ha2;exact ha2
  omega
 have h1:=kM hx y;rw[u64_or_nat _ _ (by omega) (by omega),Nat.or_comm,<- h1];omega
theorem eD{a b:Int}(h:a=b):Ending.returned (.int .u8 a)=.returned (.int .u8 b):=by rw[h]
theorem QF(n:List Int)(i:Nat)(w:World)(hn:Lim 67108864 n)(hi:i<16) :
  Calls prog 170 #[.agg (Ai n),.int .i64 i] w λe w'=>e=.returned (.int .u8 (AG (val n) i))/\Bw w w':=by
 obtain⟨a,b,c,d,e,rfl,⟨a1,a2⟩,⟨b1,b2⟩,⟨c1,c2⟩,⟨d1,d2⟩,⟨e1,e2⟩⟩:=hn.split;have hs:(w.alloc (.cells (Ai [a,b,c,d,e]) 223 (0,0))).heap[w.heap.size]?=some (.cells (Ai [a,b,c,d,e]) 223 (0,0)):=heap_alloc_new _ _;have k0:=(cell_of_row _ _ 0 _ _ _ hs).trans (Aq _ 0 (by simp));have k1:=(cell_of_row _ _ 1 _ _ _ hs).trans (Aq _ 1 (by simp));have k2:=(cell_of_row _ _ 2 _ _ _ hs).trans (Aq _ 2 (by simp));have k3:=(cell_of_row _ _ 3 _ _ _ hs).trans (Aq _ 3 (by simp));have k4:=(cell_of_row _ _ 4 _ _ _ hs).trans (Aq _ 4 (by simp));simp only[je,jq]at k0 k1 k2 k3 k4;have HV:Hid (val [a,b,c,d,e]=a+67108864*b+4503599627370496*c+302231454903657293676544*d+20282409603651670423947251286016*e):=CU a b c d e;generalize Ai [a,b,c,d,e]=arr at k0 k1 k2 k3 k4 ⊢;generalize val [a,b,c,d,e]=V at HV ⊢;clear hn hs;obtain rfl|rfl|rfl|rfl|rfl|rfl|rfl|rfl|rfl|rfl|rfl|rfl|rfl|rfl|rfl|rfl:i=0\/i=1\/i=2\/i=3\/i=4\/i=5\/i=6\/i=7\/i=8\/i=9\/i=10\/i=11\/i=12\/i=13\/i=14\/i=15:=by omega
 all_goals
  go_enter func170,ntmps170
  go_wp2
  go_ret;refine⟨eD ?_,(Below.refl _ _).alloc (A' _) _⟩;have hV:=HV.out;clear HV k0 k1 k2 k3 k4;unfold AG
  first
   | rw[RM _ _ 2 4 rfl (by omega) (by omega) (by omega) (by omega)]
   | rw[RM _ _ 4 16 rfl (by omega) (by omega) (by omega) (by omega)]
   | rw[RM _ _ 6 64 rfl (by omega) (by omega) (by omega) (by omega)]
   | skip
  subst hV;simp only[Int.reducePow];omega
theorem Mt{P:Program}{id:Nat}{ops:Array Oper}{K:Act->World->Prop}{Q:Exit->Act->World->Prop}{a:Act}(R:World->Prop){A:Act}(hreg:∀ K':Act->World->Prop,Hid (∀ W2,R W2->K' A W2)->(Code.region id ops true).wp P (Exit.then K' Q) a w)(hrest:∀ W2,R W2->K A W2):(Code.region id ops true).wp P (Exit.then K Q) a w:=hreg K hrest
theorem O7(nl:List Int)(v:Value)(s:List Int)(w:World)(h:Sl w v s)(hl:s.length=16)(hn:Lim 67108864 nl) :
  Calls prog 141 #[.agg (Ai nl),v] w λe w'=>∃ v',e=.returned v'/\Sl w' v' (leB 16 (val nl+leN s))/\Bw w w':=by
 obtain⟨⟨a,cap,rfl,hc,hn0,h1⟩,hla,hba⟩:=h;rcases h1 with rfl|⟨B,off,rfl,hB,hcell⟩
 .simp at hl
 have HC:Hid (∀ i,i<16->w.cell? ⟨B,off+i,none⟩=some (.int .u8 (s.getD i 0))):=λi hi=>hcell i (by omega);have HBY:Hid (∀ x∈s,0<=x/\x<256):=hba;have HS16:Hid (s.length=16):=hl;rw[hl]at hc ⊢
 clear hcell hba hn0 hla;obtain⟨n0,n1,n2,n3,n4,rfl,_⟩:=hn.split;obtain⟨V,hV⟩:∃ V,val [n0,n1,n2,n3,n4]=V:=⟨_,rfl⟩;have HV:Hid (val [n0,n1,n2,n3,n4]=V):=hV;rw[hV];clear hV;obtain⟨i0,hi0,hz0,hz1,hz2⟩:=info_parts At;go_enter func141,ntmps141
 go_wp2_with (at_make;refine wpList_make_row _ rfl _ _ 28 rfl 5 i0 (.int .u8 0) underlying28 hi0 hz0 hz1 rfl _ _ 16 rfl rfl (by rw[hz2];omega) (by omega) ?_)
 clear hi0 hz0 hz1 hz2
 go_loopw [6,11] (λcv i wr=>∃ (k:Nat),k<=16/\i=.int .i64 k/\cv=.int .i64 (Hi (λj=>AG V j+s.getD j 0) k)/\wr.heap[w.heap.size]?=some (.cells (Ai [n0,n1,n2,n3,n4]) 223 (0,0))/\wr.heap[w.heap.size+1]?=some (.cells (byA (Io (V+leN s) k)) 5 (0,0))/\Bw w wr) (λ_ i _=>16-(intOf i).toNat)
 case atStart =>
  refine⟨0,by omega,rfl,by rw[MH],?_,?_,?_⟩
  .exact heap_alloc2_old _ _ _
  .have e:madeCells #[Value.int .u8 0] 16=byA (Io (V+leN s) 0):=by rw[Vq];kernel_rfl
   rw[e];exact heap_alloc2_new _ _ _
  .exact((Below.refl _ _).alloc (A' _) _).alloc (by simp) _
 case round =>
  obtain⟨k,hk,rfl,rfl,hr,ht,hb⟩:=hrel;by_cases hk16:k<16
  .have hki:(k:Int)<16:=by omega
   have kn0:=(cell_of_row _ _ 0 _ _ _ hr).trans (Aq _ 0 (by simp));have kn1:=(cell_of_row _ _ 1 _ _ _ hr).trans (Aq _ 1 (by simp));have kn2:=(cell_of_row _ _ 2 _ _ _ hr).trans (Aq _ 2 (by simp));have kn3:=(cell_of_row _ _ 3 _ _ _ hr).trans (Aq _ 3 (by simp));have kn4:=(cell_of_row _ _ 4 _ _ _ hr).trans (Aq _ 4 (by simp));simp only[je,jq]at kn0 kn1 kn2 kn3 kn4;have hzr:w.heap.size+1<wr.heap.size:=(H'.1 ht).1;have hBr:B<wr.heap.size:=by omega
   have ch:=(hb.cell (p:=⟨B,off+k,none⟩) hB).trans (HC.out k hk16);have hby:∀ j,0<=AG V j+s.getD j 0/\AG V j+s.getD j 0<1000:=λj=>by
    have b1:=F1 V j;have b2:=Al HBY.out j;omega
   have hcr:=QG (λj=>AG V j+s.getD j 0) hby k;have HCS:Hid (Hi (λj=>AG V j+s.getD j 0) (k+1)=(Hi (λj=>AG V j+s.getD j 0) k+(AG V k+s.getD k 0))/256):=MG _ k;have HCB:Hid ((Hi (λj=>AG V j+s.getD j 0) k+(AG V k+s.getD k 0))%256=AG (V+leN s) k):=VS V s k hk16 (by rw[HS16.out];omega);have b1:=F1 V k;have b2:=Al HBY.out k;have hat:=QF [n0,n1,n2,n3,n4] k;rw[HV.out]at hat
   have HAT:Hid (∀ W,Calls prog 170 #[.agg (Ai [n0,n1,n2,n3,n4]),.int .i64 k] W λe w'=>e=.returned (.int .u8 (AG V k))/\Bw W w'):=λW=>hat W hn hk16;have HT:Hid _:=ht;have HR:Hid _:=hr;have HB:Hid _:=hb;clear hat hby ht hr hb;have htl:=Qt (V+leN s) k;have HTS:Hid ((Io (V+leN s) k).set k (AG (V+leN s) k)=Io (V+leN s) (k+1)):=Vp _ k hk16;generalize Hi (λj=>AG V j+s.getD j 0) k=cy at HCS HCB hcr;generalize AG V k=x at HCS HCB b1 HAT;generalize s.getD k 0=y at HCS HCB b2 ch;obtain⟨x1,x2⟩:=b1;obtain⟨y1,y2⟩:=b2;obtain⟨z1,z2⟩:=hcr;go_wp2_with fail
   apply Mt (λW=>Bw wr W)
   .intro K2 HK2
    go_region_with (go_at_call 170;refine(HAT.out _).mono ?_;rintro e w2 ⟨rfl,hb2⟩;have ch2:=(hb2.cell (p:=⟨B,off+k,none⟩) hBr).trans ch)
    all_goals exact HK2.out _ ((Below.refl _ _).drew.trans hb2)
   intro W hW;have ht:=(hW.block _ hzr).trans HT.out;have hr:=(hW.block _ (by omega)).trans HR.out;have ct:=(cell_of_row _ _ k _ _ _ ht).trans (Hh _ k (by omega));have ft:=frozen_of_row _ _ k _ _ ht;have hB2:Bw w W:=HB.out.trans (hW.mono HB.out.size);clear kn0 kn1 kn2 kn3 kn4 ch;generalize (Io (V+leN s) k).getD k 0=c0 at ct;go_wp2
   go_roundw
   case rel =>
    refine⟨k+1,by omega,by go_num,?_,?_,?_,?_⟩
    .rw[HCS.out]
    .exact(heap_setCell_other _ _ _ _ (by simp)).trans hr
    .have h1:=FZ ht k (AG (V+leN s) k);rw[HTS.out,<- HCB.out]at h1
     exact h1
    .exact hB2.setCell (p:=⟨w.heap.size+1,k,none⟩) (by simp) _
   case measure=>simp[intOf];omega
  .have hki:¬ (k:Int)<16:=by omega
   have HK:Hid (k=16):=by unfold Hid;omega
   go_wp2
   go_ret;have hK:=HK.out;subst hK;rw[Y7]at ht
   exact⟨_,rfl,Sl.rowOf ht (Da _ _) (by rw[Da];omega) (Hz _ _),hb⟩
def Vn(key data:List Int):List Int:=leB 16 (cX (leN (Ds (key.take 16))) data+leN (key.drop 16))
theorem Qr(key data:List Int):(Vn key data).length=16:=Da _ _
theorem Vo(key data:List Int):∀ x∈Vn key data,0<=x/\x<256:=Hz _ _
theorem Sl.aShape{v:Value}(h:Sl w v l):∃ a c,v=.slice a l.length c:=by
 obtain⟨⟨a,cap,e,_⟩,_⟩:=h;exact⟨a,cap,e⟩
theorem eZ(vk vd:Value)(key data:List Int)(w:World)(hk:Sl w vk key)(hd:Sl w vd data)(lk:key.length=32)(ld:data.length<=4000) :
  Calls prog 107 #[vk,vd] w λe w'=>∃ v',e=.returned (.tuple #[v',.int .i64 0])/\Sl w' v' (Vn key data)/\Bw w w':=by
 obtain⟨ak,ck,rfl⟩:=hk.aShape;obtain⟨ad,cd,rfl⟩:=hd.aShape;rw[lk]at hk ⊢
 obtain⟨a1,c1,hc1',s1⟩:=hk.upTo 16 (by omega);obtain⟨a2,c2,hc2',s2⟩:=hk.from 16 (by omega);have hc1:∀ W,(Instr.slice 28 (.slice ak 32 ck) none (some (.int .i64 16)) none).run prog W=.ok (.slice a1 16 c1) W:=hc1';have hc2:∀ W,(Instr.slice 28 (.slice ak 32 ck) (some (.int .i64 16)) none none).run prog W=.ok (.slice a2 16 c2) W:=hc2';clear hc1' hc2';have lt:(key.take 16).length=16:=by rw[iO];omega
 have lr:(key.drop 16).length=16:=by rw[iQ];omega
 have ldi:¬ (4000:Int)<(data.length:Int):=by omega
 have HT:Hid (Vn key data=leB 16 (cX (leN (Ds (key.take 16))) data+leN (key.drop 16))):=rfl;generalize key.take 16=K1 at s1 lt HT;generalize key.drop 16=K2 at s2 lr HT;clear hk lk;have hdl:Hid (data.length<=4000):=ld;go_enter func107,ntmps107
 go_wp2_with fail
 go_region_with (first
  | (go_at_call 143;refine(Ri _ K1 _ (s1.below ((Below.refl _ _).drew)) lt).mono ?_;rintro e w2 ⟨r1,rfl,l1,v1,hb2⟩)
  | (go_at_call 142;refine(NY r1 (leN (Ds K1)) _ data _ (hd.below ((Below.refl _ _).drew.trans hb2)) hdl.out l1 v1).mono ?_;rintro e w3 ⟨n1,rfl,l3,v3,hb3⟩)
  | (go_at_call 141;refine(O7 n1 _ K2 _ (s2.below (((Below.refl _ _).drew.trans hb2).trans (hb3.mono hb2.size))) lr l3).mono ?_;rintro e w4 ⟨v4,rfl,s4,hb4⟩))
 all_goals
  go_wp2
  go_ret2
  refine⟨v4,rfl,?_,?_⟩
  .rw[HT.out,<- v3];exact s4
  .have b3:Bw w w3:=((Below.refl _ _).drew.trans hb2).trans (hb3.mono hb2.size);exact b3.trans (hb4.mono b3.size)
def gap(n:Nat):Nat:=(16-n%16)%16
def DS(l:List Int):List Int:=l++List.replicate (gap l.length) 0
theorem Ea(l:List Int):(DS l).length=l.length+gap l.length:=by rw[DS,G',j4]
theorem GL(n:Nat):gap n<16:=by unfold gap;omega
theorem SW(n:Nat):(n+gap n)%16=0:=by unfold gap;omega
theorem Un(n j:Nat)(h:j<gap n):¬ (n+j)%16=0:=by unfold gap at h;omega
theorem ZM(n m:Nat)(h:n%16=0):gap (n+m)=gap m:=by unfold gap;omega
theorem Nj(h:∀ x∈l,0<=x/\x<256):∀ x∈DS l,0<=x/\x<256:=by
 intro x hx;rcases V'.1 hx with h1|h1
 .exact h x h1
 .rw[(lh.1 h1).2];omega
theorem XL(a s:List Int):DS (DS a++s)=DS a++DS s:=by
 have h:(DS a).length%16=0:=by rw[Ea];exact SW _
 rw[DS,G',ZM _ _ h,iR];rfl
theorem Xo(k:Nat)(v:Int):leB (k+1) v=leB k v++[AG v k]:=by
 simp[leB,List.range_succ]
def FC(a s:List Int):List Int:=DS a++DS s++leB 8 (a.length:Int)++leB 8 (s.length:Int)
theorem Hy(a s:List Int):(FC a s).length=a.length+gap a.length+(s.length+gap s.length)+8+8:=by
 simp only[FC,G',Ea,Da]
theorem R3{a s:List Int}(ha:∀ x∈a,0<=x/\x<256)(hs:∀ x∈s,0<=x/\x<256):∀ x∈FC a s,0<=x/\x<256:=by
 intro x hx;rcases V'.1 hx with hx|hx
 .rcases V'.1 hx with hx|hx
  .rcases V'.1 hx with hx|hx
   .exact Nj ha x hx
   .exact Nj hs x hx
  .exact Hz _ _ x hx
 .exact Hz _ _ x hx
def DO(key nonce a s:List Int):List Int:=Vn ((Cq (BH key (BitVec.ofNat 32 0) nonce)).take 32) (FC a s)
theorem Im(key nonce a s:List Int):(DO key nonce a s).length=16:=Qr _ _
theorem L5(key nonce a s:List Int):∀ x∈DO key nonce a s,0<=x/\x<256:=Vo _ _
def Ec(key nonce p:List Int):List Int:=PB (BH key (BitVec.ofNat 32 1) nonce) p
theorem Ff(key nonce p:List Int):(Ec key nonce p).length=p.length:=PC _ _
def J3(key nonce a p:List Int):List Int:=Ec key nonce p++DO key nonce a (Ec key nonce p)
theorem Ii(key nonce a p:List Int):(J3 key nonce a p).length=p.length+16:=by
 rw[J3,G',Ff,Im]
theorem J5(v:Value)(l:List Int)(B:Nat)(w:World)(ho:w.ownsRow B 5 1 v l.length (l.map (Value.int .u8)))(hB:B<=w.heap.size)(hl:l.length<=100000) :
  Calls prog 144 #[v] w λe w'=>∃ v',e=.returned v'/\w'.ownsRow B 5 1 v' (DS l).length ((DS l).map (Value.int .u8))/\Below B w w':=by
 have HF:Hid (DS l=l++List.replicate (gap l.length) 0):=rfl;have hg:=GL l.length;have HS:Hid (∀ j,j<gap l.length->¬ (l.length+j)%16=0):=λj hj=>Un _ _ hj;have HE:Hid ((l.length+gap l.length)%16=0):=SW _;obtain⟨a0,c0,rfl⟩:=DZ ho;generalize gap l.length=G at HF hg HS HE;go_enter func144,ntmps144
 go_wp2_with fail
 go_loopw [0] (λv wr=>∃ (j:Nat) (a:Option Addr) (cap:Nat),j<=G/\v=.slice a (l.length+j) cap/\wr.ownsRow B 5 1 v (l++List.replicate j 0).length ((l++List.replicate j 0).map (Value.int .u8))/\Below B w wr) (λv _=>l.length+G-Xt v)
 case atStart=>exact⟨0,a0,c0,by omega,rfl,by simpa using ho,Below.refl _ _⟩
 case round =>
  clear ho;obtain⟨j,a,cap,hj,rfl,hown,hb⟩:=hrel;have hlt:=hown.lt;by_cases hjn:j<G
  .have h1:=HS.out j hjn;have h2:¬ ((l.length:Int)+j)%16=0:=by omega
   go_wp2_with (at_builtin;refine Aa _ rfl _ _ 28 rfl B 5 underlying28 At _ _ rfl rfl (l++List.replicate j 0) [0] (hown.alloc _) (Sl.one _ _ _ rfl (by omega)) (by simp;omega) (by have:=hb.size;simp;omega) ?_)
   intro v2 w2 ho2 hg2;have ho2':w2.ownsRow B 5 1 v2 (l++List.replicate (j+1) 0).length ((l++List.replicate (j+1) 0).map (Value.int .u8)):=by rw[<- Lw];simpa using ho2
   have hb2:Below B w w2:=(hb.alloc (iP hB hb.size) _).grown hg2 (by have:=hb.size;simp;omega) (λk hk=>(hlt k hk).1);obtain⟨a2,c2,hv2⟩:=DZ ho2';rw[G',j4]at hv2
   subst hv2;clear ho2 hg2 hown hlt hb h1 h2;go_wp2
   go_roundw
   case rel=>exact⟨j+1,a2,c2,by omega,rfl,ho2',hb2⟩
   case measure=>simp[Xt];omega
  .have HJ:Hid (G=j):=by unfold Hid;omega
   have h0:=HE.out;have h1:((l.length:Int)+j)%16=0:=by have:=HJ.out;omega
   have h2:(((l.length:Int)+j)%16 != 0)=false:=by simp;omega
   clear h0;go_wp2
   go_ret;refine⟨_,rfl,?_,hb⟩;rw[HF.out,HJ.out];exact hown
theorem FV(v:Value)(l:List Int)(n:Nat)(B:Nat)(w:World)(ho:w.ownsRow B 5 1 v l.length (l.map (Value.int .u8)))(hB:B<=w.heap.size)(hl:l.length<=100000)(hn:n<=100000) :
  Calls prog 145 #[v,.int .i64 n] w λe w'=>∃ v',e=.returned v'/\w'.ownsRow B 5 1 v' (l++leB 8 (n:Int)).length ((l++leB 8 (n:Int)).map (Value.int .u8))/\Below B w w':=by
 go_enter func145,ntmps145
 go_wp2_with fail
 go_loopw [0,1,5] (λv s i wr=>∃ k:Nat,k<=8/\i=.int .i64 k/\s=.int .i64 ((n:Int)/256^k)/\wr.ownsRow B 5 1 v (l++leB k (n:Int)).length ((l++leB k (n:Int)).map (Value.int .u8))/\Below B w wr) (λ_ _ i _=>8-(intOf i).toNat)
 case atStart=>exact⟨0,by omega,rfl,by simp,by simpa[leB]using ho,Below.refl _ _⟩
 case round =>
  clear ho;obtain⟨k,hk,rfl,rfl,hown,hb⟩:=hrel;have hlt:=hown.lt;by_cases hk8:k<8
  .have hki:(k:Int)<8:=by omega
   obtain⟨x,hx⟩:∃ x:Int,(n:Int)/256^k=x:=⟨_,rfl⟩;have hp:(0:Int)<256^k:=Ll k;have hx0:0<=x:=by rw[<- hx];exact Int.ediv_nonneg (by omega) (by omega)
   have hx1:x<=100000:=by rw[<- hx];have:=Int.ediv_le_self (256^k) (show(0:Int)<=n by omega);omega
   have HX:Hid ((n:Int)/256^(k+1)=x/256):=by unfold Hid;rw[lQ,<- lD (lM hp),hx]
   have HBY:Hid (x%256=AG n k):=by unfold Hid AG;rw[hx]
   have hlk:=Da k (n:Int);have HS:Hid (leB (k+1) (n:Int)=leB k n++[AG n k]):=Xo k _;rw[hx];clear hx hp;generalize leB k (n:Int)=pre at hown HS hlk;generalize AG (n:Int) k=y at HBY HS;go_wp2_with (at_builtin;refine Aa _ rfl _ _ 28 rfl B 5 underlying28 At _ _ rfl rfl (l++pre) [y] (hown.alloc _) (Sl.one2 _ _ _ _ rfl ?_ ?_) (by simp;omega) (by have:=hb.size;simp;omega) ?_)
   .have:=HBY.out;omega
   .have:=HBY.out;omega
   intro v2 w2 ho2 hg2;have ho2':w2.ownsRow B 5 1 v2 (l++(pre++[y])).length ((l++(pre++[y])).map (Value.int .u8)):=by rw[<- iR];simpa[hlk]using ho2
   have hb2:Below B w w2:=(hb.alloc (iP hB hb.size) _).grown hg2 (by have:=hb.size;simp;omega) (λk hk=>(hlt k hk).1);clear ho2 hg2 hown hlt hb;go_wp2
   go_roundw
   case rel=>exact⟨k+1,by omega,by go_num,by rw[HX.out],by rw[HS.out];exact ho2',hb2⟩
   case measure=>simp[intOf];omega
  .obtain rfl:k=8:=by omega
   go_wp2
   go_ret;exact⟨_,rfl,hown,hb⟩
theorem Xl(va vs:Value)(a s:List Int)(w:World)(ha:Sl w va a)(hs:Sl w vs s)(la:a.length<=10000)(ls:s.length<=10000) :
  Calls prog 108 #[va,vs] w λe w'=>∃ v',e=.returned v'/\Sl w' v' (FC a s)/\Bw w w':=by
 have HL:Hid (FC a s=DS (DS a++s)++leB 8 (a.length:Int)++leB 8 (s.length:Int)):=by unfold Hid;rw[XL];rfl
 have HY:Hid (∀ x∈FC a s,0<=x/\x<256):=R3 ha.byte hs.byte;have HN:Hid ((FC a s).length<=30000):=by unfold Hid;rw[Hy];have:=GL a.length;have:=GL s.length;omega
 have hpa:(DS a).length<=11000:=by rw[Ea];have:=GL a.length;omega
 have hpp:(DS (DS a++s)).length<=30000:=by rw[Ea,G'];have:=GL ((DS a).length+s.length);omega
 obtain⟨aa,ca,rfl⟩:=ha.shape;obtain⟨as0,cs,rfl⟩:=hs.shape;generalize hn:a.length=n at la HL ha ⊢;generalize hm:s.length=m at ls HL hs ⊢;have HNA:Hid (a.length=n):=hn;have HMS:Hid (s.length=m):=hm;clear hn hm;go_enter func108,ntmps108
 go_wp2_with (at_builtin;refine Aa _ rfl _ _ 28 rfl w.heap.size 5 underlying28 At _ _ rfl rfl [] a (World.ownsRow_nil _ _ _ _) ha (by have:=HNA.out;simp;omega) (A' _) ?_)
 intro v1 w1 ho1 hg1;have b1:Bw w w1:=(Below.refl _ _).grown hg1 (A' _) (by simp[Value.ownBlock]);replace ho1:w1.ownsRow w.heap.size 5 1 v1 a.length (a.map (Value.int .u8)):=by simpa using ho1
 clear hg1;go_wp2_with fail
 refine(J5 v1 a w.heap.size w1 ho1 b1.size (by have:=HNA.out;omega)).mono ?_;rintro e w2 ⟨v2,rfl,ho2,b2⟩;replace b2:=b1.trans b2;clear ho1 b1;have hs2:=hs.below b2;have hlt:=ho2.lt;generalize DS a=A at HL hpa hpp ho2;go_wp2_with (at_builtin;refine Aa _ rfl _ _ 28 rfl w.heap.size 5 underlying28 At _ _ rfl rfl A s ho2 hs2 (by have:=HMS.out;omega) b2.size ?_)
 intro v3 w3 ho3 hg3;have b3:Bw w w3:=b2.grown hg3 b2.size (λk hk=>(hlt k hk).1);clear hg3 hlt ho2 b2 hs2;replace ho3:w3.ownsRow w.heap.size 5 1 v3 (A++s).length ((A++s).map (Value.int .u8)):=by simpa using ho3
 have hAs:(A++s).length<=21000:=by rw[G'];have:=HMS.out;omega
 generalize A++s=AS at HL hpp ho3 hAs;go_wp2_with fail
 refine(J5 v3 AS w.heap.size w3 ho3 b3.size (by omega)).mono ?_;rintro e w4 ⟨v4,rfl,ho4,b4⟩;replace b4:=b3.trans b4;clear ho3 b3;generalize DS AS=X at HL hpp ho4;go_wp2_with fail
 refine(FV v4 X n w.heap.size w4 ho4 b4.size (by omega) (by omega)).mono ?_;rintro e w5 ⟨v5,rfl,ho5,b5⟩;replace b5:=b4.trans b5;have hX5:(X++leB 8 (n:Int)).length<=30008:=by rw[G',Da];omega
 clear ho4 b4;generalize X++leB 8 (n:Int)=X5 at HL hX5 ho5;go_wp2_with fail
 refine(FV v5 X5 m w.heap.size w5 ho5 b5.size (by omega) (by omega)).mono ?_;rintro e w6 ⟨v6,rfl,ho6,b6⟩;replace b6:=b5.trans b6;rw[<- HL.out]at ho6
 go_wp2
 go_ret;exact⟨_,rfl,Sl.ofOwns ho6 (by have:=HN.out;omega) HY.out,b6⟩
def Gp(key nonce a:List Int):Bool:=decide (key.length=32)&&decide (nonce.length=12)&&decide (a.length<=256)
theorem Gf(vk vn va:Value)(key nonce a:List Int)(w:World)(hk:Sl w vk key)(hn:Sl w vn nonce)(ha:Sl w va a) :
  Calls prog 65 #[vk,vn,va] w λe w'=>e=.returned (.bool (Gp key nonce a))/\w'=w:=by
 have h1:=hk.len;have h2:=hn.len;have h3:=ha.len;obtain⟨ak,ck,rfl⟩:=hk.shape;obtain⟨an,cn,rfl⟩:=hn.shape;obtain⟨aa,ca,rfl⟩:=ha.shape;unfold Gp;generalize key.length=n1 at h1 hk ⊢;generalize nonce.length=n2 at h2 hn ⊢;generalize a.length=n3 at h3 ha ⊢;clear hk hn ha;by_cases c1:(n1:Int)=32
 .by_cases c2:(n2:Int)=12
  .by_cases c3:(n3:Int)<=256
   .go_enter func65,ntmps65
    go_wp2
    go_ret;refine⟨Ae ?_,rfl⟩;simp;omega
   .go_enter func65,ntmps65
    go_wp2
    go_ret;refine⟨Ae ?_,rfl⟩;simp;omega
  .go_enter func65,ntmps65
   go_wp2
   go_ret;refine⟨Ae ?_,rfl⟩;simp;omega
 .go_enter func65,ntmps65
  go_wp2
  go_ret;refine⟨Ae ?_,rfl⟩;simp;omega
end
end Go.Proofs.YtalbmmghmoggcadGreatDoor
