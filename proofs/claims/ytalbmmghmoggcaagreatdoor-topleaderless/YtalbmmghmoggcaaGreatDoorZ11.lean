/- Part 11 of the walk. -/
import Derived.Deep.OwnRows
import Derived.Laws.OwnMore
import Derived.Maps.AppendAt
import Derived.Test.YtalbmmghmoggcaaGreatDoorZ10
set_option maxRecDepth 100000
set_option maxHeartbeats 4000000
open Go.Proofs.Tryz
set_option linter.unusedVariables false
namespace Go.Proofs.YtalbmmghmoggcaaGreatDoor
section
open Go.RowKit
def F6(t:Nat)(x:Int):Int:=if t%4=3 then x%16 else if t%4=0/\0<t then x/4*4 else x
def CY(l:List Int):List Int:=(List.range 16).map fun t=>F6 t (l.getD t 0)
theorem KW(l:List Int):(CY l).length=16:=by simp[CY]
theorem P7(l:List Int)(t:Nat)(h:t<16):(CY l).getD t 0=F6 t (l.getD t 0):=by
 simp[CY,List.getD,List.getElem?_map,List.getElem?_range h]
theorem Mv(t:Nat){x:Int}(h:0<=x/\x<256):0<=F6 t x/\F6 t x<256:=by
 unfold F6;split
 .omega
 .split<;>omega
theorem NB{l:List Int}(h:∀ x∈l,0<=x/\x<256):∀ x∈CY l,0<=x/\x<256:=by
 intro x hx;obtain⟨t,_,rfl⟩:=List.mem_map.1 hx;exact Mv t (Aj h t)
theorem PN{l m:List Int}(h:l.length=m.length)(hg:∀ t,t<l.length->l.getD t 0=m.getD t 0):l=m:=by
 apply List.ext_getElem h;intro t h1 h2;have:=hg t h1
 rwa [AK h1,AK h2]at this
theorem du(x:Int)(h0:0<=x)(h1:x<256):bits .and .u8 x 15=x%16:=by
 obtain⟨n,rfl⟩:=Int.eq_ofNat_of_zero_le h0;rw[show(15:Int)=((15:Nat):Int)from rfl,u8_and_nat _ _ (by omega) (by omega),show(15:Nat)=2^4-1 from rfl,Nat.and_two_pow_sub_one_eq_mod];omega
theorem Pv:∀ n:Fin 256,n.val &&& 252=n.val/4*4:=by decide +kernel
theorem aw(x:Int)(h0:0<=x)(h1:x<256):bits .and .u8 x 252=x/4*4:=by
 obtain⟨n,rfl⟩:=Int.eq_ofNat_of_zero_le h0;have e:n &&& 252=n/4*4:=Pv ⟨n,by omega⟩;rw[show(252:Int)=((252:Nat):Int)from rfl,u8_and_nat _ _ (by omega) (by omega),e];omega
structure Upper(l m:List Int)(j:Nat):Prop where
 len:m.length=16
 at_:∀ t,m.getD t 0=if t%4=3/\t<3+4*j then l.getD t 0%16 else l.getD t 0
theorem Upper.zero{l:List Int}(h:l.length=16):Upper l l 0:=by
 refine⟨h,fun t=>?_⟩;rw[if_neg (by omega)]
theorem Upper.succ{l m:List Int}{j:Nat}(h:Upper l m j)(hj:j<4):Upper l (m.set (3+4*j) (m.getD (3+4*j) 0%16)) (j+1):=by
 refine⟨by simpa using h.len,fun t=>?_⟩;by_cases e:3+4*j=t
 .subst e;rw[AE (by rw[h.len];omega),h.at_,if_neg (by omega),if_pos (by omega)]
 .rw[Av e,h.at_];by_cases c:t%4=3/\t<3+4*j
  .rw[if_pos c,if_pos (by omega)]
  .rw[if_neg c,if_neg (by omega)]
structure Lower(l m:List Int)(j:Nat):Prop where
 len:m.length=16
 at_:∀ t,t<16->m.getD t 0=if t%4=3 then l.getD t 0%16 else if t%4=0/\0<t/\t<4+4*j then l.getD t 0/4*4 else l.getD t 0
theorem Upper.lower{l m:List Int}(h:Upper l m 4):Lower l m 0:=by
 refine⟨h.len,fun t ht=>?_⟩;rw[h.at_];by_cases c:t%4=3
 .rw[if_pos (by omega),if_pos c]
 .rw[if_neg (by omega),if_neg c,if_neg (by omega)]
theorem Lower.succ{l m:List Int}{j:Nat}(h:Lower l m j)(hj:j<3):Lower l (m.set (4+4*j) (m.getD (4+4*j) 0/4*4)) (j+1):=by
 refine⟨by simpa using h.len,fun t ht=>?_⟩;by_cases e:4+4*j=t
 .subst e;rw[AE (by rw[h.len];omega),h.at_ _ ht,if_neg (by omega),if_neg (by omega),if_neg (by omega),if_pos (by omega)]
 .rw[Av e,h.at_ _ ht];by_cases c:t%4=3
  .rw[if_pos c,if_pos c]
  .rw[if_neg c,if_neg c];by_cases d:t%4=0/\0<t/\t<4+4*j
   .rw[if_pos d,if_pos (by omega)]
   .rw[if_neg d,if_neg (by omega)]
theorem Lower.clamp{l m:List Int}(h:Lower l m 3):m=CY l:=by
 refine PN (by rw[h.len,KW]) (fun t ht=>?_);rw[h.len]at ht
 rw[h.at_ t ht,P7 l t ht,F6];by_cases c:t%4=3
 .rw[if_pos c,if_pos c]
 .rw[if_neg c,if_neg c];by_cases d:t%4=0/\0<t
  .rw[if_pos d,if_pos (by omega)]
  .rw[if_neg d,if_neg (by omega)]
theorem Upper.byte{l m:List Int}{j:Nat}(h:Upper l m j)(hl:∀ x∈l,0<=x/\x<256)(t:Nat):0<=m.getD t 0/\m.getD t 0<256:=by
 have:=Aj hl t;rw[h.at_];split<;>omega
theorem Lower.byte{l m:List Int}{j:Nat}(h:Lower l m j)(hl:∀ x∈l,0<=x/\x<256)(t:Nat)(ht:t<16):0<=m.getD t 0/\m.getD t 0<256:=by
 have:=Aj hl t;rw[h.at_ t ht];split
 .omega
 .split<;>omega
theorem PQ(v:Value)(l:List Int)(w:World)(h:Sl w v l)(hl:l.length=16) :
  Calls prog 190 #[v] w fun e w'=>∃ r,e=.returned (.agg (Ah r))/\Lim 67108864 r/\val r%pp=leN (CY l)%pp/\Bw w w':=by
 have hs:=h;obtain⟨⟨a,cap,rfl,hc,hn,h1⟩,hla,hba⟩:=h;have HBY:Hid (∀ x∈l,0<=x/\x<256):=hba;clear h1 hba hn hla;have HL:Hid (l.length=16):=hl;go_enter func190,ntmps190
 go_wp2_with (refine wpList_copy_splice rfl _ _ 25 25 rfl 5 underlying25 Vz _ _ _ _ _ _ rfl rfl (w.heap.size+1) 0 ((List.replicate 16 (0:Int)).map (Value.int .u8)) 283 (heap_alloc2_new _ _ _) (l.map (Value.int .u8)) (by rw[List.length_map];exact(Nat.min_eq_left (show l.length<=16 by omega)).symm) (fun hp=>⟨rfl,(hs.below (((Below.refl _ _).alloc (Nat.le_refl _) _).alloc (by simp) _)).src (by simpa using hp)⟩) (by rw[List.length_map,List.length_map,List.length_replicate];omega) (Ee _) (w.heap.size+1) _ (Below.refl _ _) (Nat.le_refl _) ?_)
 intro w2 H2 hb2;have hr2:w2.heap[w.heap.size+1]?=some (.cells (byA l) 283 (0,0)):=by
  have h3:w2.heap[w.heap.size+1]?=some (.cells (splice ((List.replicate 16 (0:Int)).map (Value.int .u8)) 0 (l.map (Value.int .u8))).toArray 283 (0,0)):=H2.out;rw[Hg,hl]at h3
  simpa[byA]using h3
 have hB2:Bw w w2:=(((Below.refl _ _).alloc (Nat.le_refl _) _).alloc (by simp) _).trans (hb2.mono (by omega));have hq2:w2.heap[w.heap.size]?=some (.cells (Ah [0,0,0,0,0]) 271 (0,0)):=by
  rw[hb2.block _ (by omega)];exact heap_alloc2_old _ _ _
 clear H2 hb2 hs;go_wp2_with fail
 go_loopw [4] (fun i wr=>∃ (j:Nat) (m:List Int),j<=4/\i=.int .i64 (3+4*(j:Int))/\Upper l m j/\wr.heap[w.heap.size]?=some (.cells (Ah [0,0,0,0,0]) 271 (0,0))/\wr.heap[w.heap.size+1]?=some (.cells (byA m) 283 (0,0))/\Bw w wr) (fun i _=>20-(intOf i).toNat)
 case atStart=>exact⟨0,l,by omega,rfl,Upper.zero HL.out,hq2,hr2,hB2⟩
 case round =>
  clear hq2 hr2 hB2;obtain⟨j,m,hj,rfl,hu,hq,hr,hb⟩:=hrel;have hm:=hu.len;by_cases hj4:j<4
  .have hji:3+4*(j:Int)<16:=by omega
   have cl:=(cell_of_row _ _ (3+4*j) _ _ _ hr).trans (GB m (3+4*j) (by omega));have fl:=frozen_of_row _ _ (3+4*j) _ _ hr;have hby:=hu.byte HBY.out (3+4*j);have HS:Hid (Upper l (m.set (3+4*j) (m.getD (3+4*j) 0%16)) (j+1)):=hu.succ hj4;have hand:=du (m.getD (3+4*j) 0) hby.1 hby.2;generalize m.getD (3+4*j) 0=x at cl HS hby hand;clear hu;go_wp2
   go_roundw
   case rel =>
    refine⟨j+1,_,by omega,by go_num,HS.out,?_,F4 hr _ _,?_⟩
    .exact(heap_setCell_other _ _ _ _ (by simp)).trans hq
    .exact hb.setCell (p:=⟨w.heap.size+1,3+4*j,none⟩) (by simp) _
   case measure=>simp[intOf];omega
  .have HJ:Hid (j=4):=by unfold Hid;omega
   have hji:¬ 3+4*(j:Int)<16:=by omega
   have hlo:Lower l m 0:=by have:=HJ.out;subst this;exact hu.lower
   clear hu;go_wp2_with fail
   go_loopw [5] (fun i wr=>∃ (j:Nat) (m:List Int),j<=3/\i=.int .i64 (4+4*(j:Int))/\Lower l m j/\wr.heap[w.heap.size]?=some (.cells (Ah [0,0,0,0,0]) 271 (0,0))/\wr.heap[w.heap.size+1]?=some (.cells (byA m) 283 (0,0))/\Bw w wr) (fun i _=>20-(intOf i).toNat)
   case atStart=>exact⟨0,m,by omega,rfl,hlo,hq,hr,hb⟩
   case round =>
    clear hq hr hb hlo hm;obtain⟨k,m,hk,rfl,hu,hq,hr,hb⟩:=hrel;have hm:=hu.len;by_cases hk3:k<3
    .have hki:4+4*(k:Int)<16:=by omega
     have cl:=(cell_of_row _ _ (4+4*k) _ _ _ hr).trans (GB m (4+4*k) (by omega));have fl:=frozen_of_row _ _ (4+4*k) _ _ hr;have hby:=hu.byte HBY.out (4+4*k) (by omega);have HS:Hid (Lower l (m.set (4+4*k) (m.getD (4+4*k) 0/4*4)) (k+1)):=hu.succ hk3;have hand:=aw (m.getD (4+4*k) 0) hby.1 hby.2;generalize m.getD (4+4*k) 0=x at cl HS hby hand;clear hu;go_wp2
     go_roundw
     case rel =>
      refine⟨k+1,_,by omega,by go_num,HS.out,?_,F4 hr _ _,?_⟩
      .exact(heap_setCell_other _ _ _ _ (by simp)).trans hq
      .exact hb.setCell (p:=⟨w.heap.size+1,4+4*k,none⟩) (by simp) _
     case measure=>simp[intOf];omega
    .have hki:¬ 4+4*(k:Int)<16:=by omega
     have HK:Hid (k=3):=by unfold Hid;omega
     have hmc:m=CY l:=by have:=HK.out;subst this;exact hu.clamp
     have s3:Sl wr (.slice (some ⟨w.heap.size+1,0,none⟩) 16 16) m:=by
      refine Sl.rowOf hr hm (by omega) ?_;rw[hmc];exact NB HBY.out
     have HM:Hid (m=CY l):=hmc;have HS3:Hid _:=s3;have hzz:w.heap.size<wr.heap.size:=(Array.getElem?_eq_some_iff.1 hq).1;clear hu s3 hmc hr;go_wp2_with fail
     refine(OK _ m _ HS3.out (by omega)).mono ?_;rintro e w4 ⟨r,rfl,lr,vr,hb4⟩;have hq4:=(hb4.block w.heap.size hzz).trans hq;have hB4:Bw w w4:=hb.trans (hb4.mono hb.size);have hsz2:=Cm lr.1;go_wp2_with ((with_reducible (refine Ao ?_));(refine wpList_store_row rfl 271 _ _ rfl (w.heap.size) _ rfl rfl 271 _ hq4 hsz2 (by rw[Ak,Ak,lr.1];rfl) (Bg r) ?_))
     exact bodyPost_ret (v:=.agg (Ah r)) (results_cell_row rfl _ _ (w.heap.size) 271 _ (0,0) _ rfl (setRow_heap w4 (w.heap.size) _ _ 271 _ hq4) underlying271 rfl hsz2) rfl ⟨r,rfl,lr,by rw[vr,HM.out],AP hB4 (Nat.le_refl _) _⟩
def AD(v:Int)(i:Nat):Int:=v/256^i%256
theorem EU(v:Int)(i:Nat):0<=AD v i/\AD v i<256:=by unfold AD;omega
def leB(n:Nat)(v:Int):List Int:=(List.range n).map (AD v)
theorem CF(n:Nat)(v:Int):(leB n v).length=n:=by simp[leB]
theorem GQ(n:Nat)(v:Int):∀ x∈leB n v,0<=x/\x<256:=by
 intro x hx;obtain⟨j,_,rfl⟩:=List.mem_map.1 hx;exact EU v j
def ED(S:Nat->Int):Nat->Int
 | 0=>0
 | k+1=>ED S k+S k*256^k
def GC(S:Nat->Int)(k:Nat):Int:=ED S k/256^k
theorem Ku(k:Nat):(0:Int)<256^k:=Int.pow_pos (by omega)
theorem L2(S:Nat->Int):GC S 0=0:=by simp[GC,ED]
theorem Lz(S:Nat->Int)(k:Nat):GC S (k+1)=(GC S k+S k)/256:=by
 have hp:=Ku k;unfold GC;rw[ED,Int.pow_succ,<- Int.ediv_ediv_of_nonneg (Int.le_of_lt hp),Int.add_mul_ediv_right _ _ (Int.ne_of_gt hp)]
theorem Py(S:Nat->Int)(h:∀ j,0<=S j/\S j<1000)(k:Nat):0<=GC S k/\GC S k<256:=by
 induction k with
 | zero=>rw[L2];omega
 | succ k ih=>rw[Lz];have:=h k;omega
theorem TD(S:Nat->Int)(k d:Nat):∃ Z,ED S (k+d)=ED S k+256^k*Z:=by
 induction d with
 | zero=>exact⟨0,by simp⟩
 | succ d ih =>
  obtain⟨Z,hZ⟩:=ih;refine⟨Z+S (k+d)*256^d,?_⟩;rw[<- Nat.add_assoc,ED,hZ,Int.pow_add]
  grind
theorem JB(v Z:Int)(n k:Nat)(h:k<n):AD (v+256^n*Z) k=AD v k:=by
 have hp:=Ku k;obtain⟨d,rfl⟩:∃ d,n=k+(1+d):=⟨n-k-1,by omega⟩;unfold AD;rw[Int.pow_add,Int.pow_add,show(256:Int)^k*(256^1*256^d)*Z=256^k*(256*(256^d*Z))by grind,Int.add_mul_ediv_left _ _ (Int.ne_of_gt hp)];omega
theorem Sy(S:Nat->Int)(n k:Nat)(h:k<n):(GC S k+S k)%256=AD (ED S n) k:=by
 have hp:=Ku k;obtain⟨d,rfl⟩:∃ d,n=(k+1)+d:=⟨n-(k+1),by omega⟩;obtain⟨Z,hZ⟩:=TD S (k+1) d;rw[hZ,JB _ _ _ _ (by omega),AD,ED,Int.add_mul_ediv_right _ _ (Int.ne_of_gt hp)];rfl
theorem WR(S T:Nat->Int)(k:Nat):ED (fun j=>S j+T j) k=ED S k+ED T k:=by
 induction k with
 | zero=>rfl
 | succ k ih=>simp only[ED,ih];grind
theorem WS(l:List Int)(k:Nat):ED (fun j=>l.getD j 0) k=leP l k:=by
 induction k with
 | zero=>rfl
 | succ k ih=>simp only[ED,leP,ih]
theorem QV(v:Int)(n:Nat):∃ Z,v=ED (AD v) n+256^n*Z/\Z=v/256^n:=by
 induction n with
 | zero=>exact⟨v,by simp[ED],by simp⟩
 | succ n ih =>
  obtain⟨Z,h1,h2⟩:=ih;refine⟨Z/256,?_,?_⟩
  .rw[ED,AD,<- h2,Int.pow_succ];have:Z=Z%256+256*(Z/256):=by omega
   grind
  .rw[h2,Int.pow_succ,Int.ediv_ediv_of_nonneg (Int.le_of_lt (Ku n))]
theorem U5(v:Int)(s:List Int)(k:Nat)(hk:k<16)(hs:s.length<=16) :
  (GC (fun j=>AD v j+s.getD j 0) k+(AD v k+s.getD k 0))%256=AD (v+leN s) k:=by
 rw[Sy (fun j=>AD v j+s.getD j 0) 16 k hk,WR (AD v) (fun j=>s.getD j 0),WS,VC 16 hs];obtain⟨Z,h1,_⟩:=QV v 16;have e:v+leN s=ED (AD v) 16+leN s+256^16*Z:=by omega
 rw[e,JB _ _ _ _ hk]
def Hk(v:Int)(k:Nat):List Int:=(List.range 16).map fun j=>if j<k then AD v j else 0
theorem Pd(v:Int)(k:Nat):(Hk v k).length=16:=by simp[Hk]
theorem TP(v:Int):Hk v 0=List.replicate 16 0:=rfl
theorem Xa(v:Int):Hk v 16=leB 16 v:=by
 unfold Hk leB;refine List.map_congr_left fun j hj=>?_;rw[if_pos (List.mem_range.1 hj)]
theorem TL(v:Int)(k:Nat)(_hk:k<16):(Hk v k).set k (AD v k)=Hk v (k+1):=by
 apply List.ext_getElem (by simp[Hk]);intro j h1 h2;rw[List.getElem_set];simp only[Hk,List.getElem_map,List.getElem_range];by_cases e:k=j
 .subst e;rw[if_pos rfl,if_pos (by omega)]
 .rw[if_neg e];by_cases c:j<k
  .rw[if_pos c,if_pos (by omega)]
  .rw[if_neg c,if_neg (by omega)]
theorem Q4(a b:Int)(k:Nat)(m:Int)(hm:m=2^k)(ha:0<=a)(ha2:a<m)(hb:0<=b)(hs:a+b*m<18446744073709551616):bits .or .u64 a (b*m)=a+b*m:=by
 obtain⟨x,rfl⟩:=Int.eq_ofNat_of_zero_le ha;obtain⟨y,rfl⟩:=Int.eq_ofNat_of_zero_le hb;have e:(y:Int)*m=((2^k*y:Nat):Int):=by rw[hm,Int.natCast_mul,Int.natCast_pow,Int.mul_comm];rfl
 rw[e]at hs ⊢
 have hx:x<2^k:=by
  have:((x:Nat):Int)<((2^k:Nat):Int):=by rw[Int.natCast_pow];rw[hm]at ha2;exact ha2
  omega
 have h1:=Nat.two_pow_add_eq_or_of_lt hx y;rw[u64_or_nat _ _ (by omega) (by omega),Nat.or_comm,<- h1];omega
theorem cA{a b:Int}(h:a=b):Ending.returned (.int .u8 a)=.returned (.int .u8 b):=by rw[h]
theorem Px(n:List Int)(i:Nat)(w:World)(hn:Lim 67108864 n)(hi:i<16) :
  Calls prog 200 #[.agg (Ah n),.int .i64 i] w fun e w'=>e=.returned (.int .u8 (AD (val n) i))/\Bw w w':=by
 obtain⟨a,b,c,d,e,rfl,⟨a1,a2⟩,⟨b1,b2⟩,⟨c1,c2⟩,⟨d1,d2⟩,⟨e1,e2⟩⟩:=hn.split;have hs:(w.alloc (.cells (Ah [a,b,c,d,e]) 271 (0,0))).heap[w.heap.size]?=some (.cells (Ah [a,b,c,d,e]) 271 (0,0)):=heap_alloc_new _ _;have k0:=(cell_of_row _ _ 0 _ _ _ hs).trans (Ap _ 0 (by simp));have k1:=(cell_of_row _ _ 1 _ _ _ hs).trans (Ap _ 1 (by simp));have k2:=(cell_of_row _ _ 2 _ _ _ hs).trans (Ap _ 2 (by simp));have k3:=(cell_of_row _ _ 3 _ _ _ hs).trans (Ap _ 3 (by simp));have k4:=(cell_of_row _ _ 4 _ _ _ hs).trans (Ap _ 4 (by simp));simp only[List.getD_cons_zero,List.getD_cons_succ]at k0 k1 k2 k3 k4;have HV:Hid (val [a,b,c,d,e]=a+67108864*b+4503599627370496*c+302231454903657293676544*d+20282409603651670423947251286016*e):=CB a b c d e;generalize Ah [a,b,c,d,e]=arr at k0 k1 k2 k3 k4 ⊢;generalize val [a,b,c,d,e]=V at HV ⊢;clear hn hs;obtain rfl|rfl|rfl|rfl|rfl|rfl|rfl|rfl|rfl|rfl|rfl|rfl|rfl|rfl|rfl|rfl:i=0\/i=1\/i=2\/i=3\/i=4\/i=5\/i=6\/i=7\/i=8\/i=9\/i=10\/i=11\/i=12\/i=13\/i=14\/i=15:=by omega
 all_goals
  go_enter func200,ntmps200
  go_wp2
  go_ret;refine⟨cA ?_,(Below.refl _ _).alloc (Nat.le_refl _) _⟩;have hV:=HV.out;clear HV k0 k1 k2 k3 k4;unfold AD
  first
   | rw[Q4 _ _ 2 4 rfl (by omega) (by omega) (by omega) (by omega)]
   | rw[Q4 _ _ 4 16 rfl (by omega) (by omega) (by omega) (by omega)]
   | rw[Q4 _ _ 6 64 rfl (by omega) (by omega) (by omega) (by omega)]
   | skip
  subst hV;simp only[Int.reducePow];omega
theorem Ln{P:Program}{id:Nat}{ops:Array Oper}{K:Act->World->Prop}{Q:Exit->Act->World->Prop}{a:Act}{w:World}(R:World->Prop){A:Act}
  (hreg:∀ K':Act->World->Prop,Hid (∀ W2,R W2->K' A W2)->(Code.region id ops true).wp P (Exit.then K' Q) a w)(hrest:∀ W2,R W2->K A W2):(Code.region id ops true).wp P (Exit.then K Q) a w:=hreg K hrest
theorem Nf(nl:List Int)(v:Value)(s:List Int)(w:World)(h:Sl w v s)(hl:s.length=16)(hn:Lim 67108864 nl) :
  Calls prog 188 #[.agg (Ah nl),v] w fun e w'=>∃ v',e=.returned v'/\Sl w' v' (leB 16 (val nl+leN s))/\Bw w w':=by
 obtain⟨⟨a,cap,rfl,hc,hn0,h1⟩,hla,hba⟩:=h;rcases h1 with rfl|⟨B,off,rfl,hB,hcell⟩
 .simp at hl
 have HC:Hid (∀ i,i<16->w.cell? ⟨B,off+i,none⟩=some (.int .u8 (s.getD i 0))):=fun i hi=>hcell i (by omega);have HBY:Hid (∀ x∈s,0<=x/\x<256):=hba;have HS16:Hid (s.length=16):=hl;rw[hl]at hc ⊢
 clear hcell hba hn0 hla;obtain⟨n0,n1,n2,n3,n4,rfl,_⟩:=hn.split;obtain⟨V,hV⟩:∃ V,val [n0,n1,n2,n3,n4]=V:=⟨_,rfl⟩;have HV:Hid (val [n0,n1,n2,n3,n4]=V):=hV;rw[hV];clear hV;obtain⟨i0,hi0,hz0,hz1,hz2⟩:=info_parts As;go_enter func188,ntmps188
 go_wp2_with (at_make;refine wpList_make_row _ rfl _ _ 25 rfl 5 i0 (.int .u8 0) underlying25 hi0 hz0 hz1 rfl _ _ 16 rfl rfl (by rw[hz2];omega) (by omega) ?_)
 clear hi0 hz0 hz1 hz2
 go_loopw [6,11] (fun cv i wr=>∃ (k:Nat),k<=16/\i=.int .i64 k/\cv=.int .i64 (GC (fun j=>AD V j+s.getD j 0) k)/\wr.heap[w.heap.size]?=some (.cells (Ah [n0,n1,n2,n3,n4]) 271 (0,0))/\wr.heap[w.heap.size+1]?=some (.cells (byA (Hk (V+leN s) k)) 5 (0,0))/\Bw w wr) (fun _ i _=>16-(intOf i).toNat)
 case atStart =>
  refine⟨0,by omega,rfl,by rw[L2],?_,?_,?_⟩
  .exact heap_alloc2_old _ _ _
  .have e:madeCells #[Value.int .u8 0] 16=byA (Hk (V+leN s) 0):=by rw[TP];kernel_rfl
   rw[e];exact heap_alloc2_new _ _ _
  .exact((Below.refl _ _).alloc (Nat.le_refl _) _).alloc (by simp) _
 case round =>
  obtain⟨k,hk,rfl,rfl,hr,ht,hb⟩:=hrel;by_cases hk16:k<16
  .have hki:(k:Int)<16:=by omega
   have kn0:=(cell_of_row _ _ 0 _ _ _ hr).trans (Ap _ 0 (by simp));have kn1:=(cell_of_row _ _ 1 _ _ _ hr).trans (Ap _ 1 (by simp));have kn2:=(cell_of_row _ _ 2 _ _ _ hr).trans (Ap _ 2 (by simp));have kn3:=(cell_of_row _ _ 3 _ _ _ hr).trans (Ap _ 3 (by simp));have kn4:=(cell_of_row _ _ 4 _ _ _ hr).trans (Ap _ 4 (by simp));simp only[List.getD_cons_zero,List.getD_cons_succ]at kn0 kn1 kn2 kn3 kn4;have hzr:w.heap.size+1<wr.heap.size:=(Array.getElem?_eq_some_iff.1 ht).1;have hBr:B<wr.heap.size:=by omega
   have ch:=(hb.cell (p:=⟨B,off+k,none⟩) hB).trans (HC.out k hk16);have hby:∀ j,0<=AD V j+s.getD j 0/\AD V j+s.getD j 0<1000:=fun j=>by
    have b1:=EU V j;have b2:=Aj HBY.out j;omega
   have hcr:=Py (fun j=>AD V j+s.getD j 0) hby k;have HCS:Hid (GC (fun j=>AD V j+s.getD j 0) (k+1)=(GC (fun j=>AD V j+s.getD j 0) k+(AD V k+s.getD k 0))/256):=Lz _ k;have HCB:Hid ((GC (fun j=>AD V j+s.getD j 0) k+(AD V k+s.getD k 0))%256=AD (V+leN s) k):=U5 V s k hk16 (by rw[HS16.out];omega);have b1:=EU V k;have b2:=Aj HBY.out k;have hat:=Px [n0,n1,n2,n3,n4] k;rw[HV.out]at hat
   have HAT:Hid (∀ W,Calls prog 200 #[.agg (Ah [n0,n1,n2,n3,n4]),.int .i64 k] W fun e w'=>e=.returned (.int .u8 (AD V k))/\Bw W w'):=fun W=>hat W hn hk16;have HT:Hid _:=ht;have HR:Hid _:=hr;have HB:Hid _:=hb;clear hat hby ht hr hb;have htl:=Pd (V+leN s) k;have HTS:Hid ((Hk (V+leN s) k).set k (AD (V+leN s) k)=Hk (V+leN s) (k+1)):=TL _ k hk16;generalize GC (fun j=>AD V j+s.getD j 0) k=cy at HCS HCB hcr;generalize AD V k=x at HCS HCB b1 HAT;generalize s.getD k 0=y at HCS HCB b2 ch;obtain⟨x1,x2⟩:=b1;obtain⟨y1,y2⟩:=b2;obtain⟨z1,z2⟩:=hcr;go_wp2_with fail
   apply Ln (fun W=>Bw wr W)
   .intro K2 HK2
    go_region_with (go_at_call 200;refine(HAT.out _).mono ?_;rintro e w2 ⟨rfl,hb2⟩;have ch2:=(hb2.cell (p:=⟨B,off+k,none⟩) hBr).trans ch)
    all_goals exact HK2.out _ ((Below.refl _ _).drew.trans hb2)
   intro W hW;have ht:=(hW.block _ hzr).trans HT.out;have hr:=(hW.block _ (by omega)).trans HR.out;have ct:=(cell_of_row _ _ k _ _ _ ht).trans (GB _ k (by omega));have ft:=frozen_of_row _ _ k _ _ ht;have hB2:Bw w W:=HB.out.trans (hW.mono HB.out.size);clear kn0 kn1 kn2 kn3 kn4 ch;generalize (Hk (V+leN s) k).getD k 0=c0 at ct;go_wp2
   go_roundw
   case rel =>
    refine⟨k+1,by omega,by go_num,?_,?_,?_,?_⟩
    .rw[HCS.out]
    .exact(heap_setCell_other _ _ _ _ (by simp)).trans hr
    .have h1:=F4 ht k (AD (V+leN s) k);rw[HTS.out,<- HCB.out]at h1
     exact h1
    .exact hB2.setCell (p:=⟨w.heap.size+1,k,none⟩) (by simp) _
   case measure=>simp[intOf];omega
  .have hki:¬ (k:Int)<16:=by omega
   have HK:Hid (k=16):=by unfold Hid;omega
   go_wp2
   go_ret;have hK:=HK.out;subst hK;rw[Xa]at ht
   exact⟨_,rfl,Sl.rowOf ht (CF _ _) (by rw[CF];omega) (GQ _ _),hb⟩
def TJ(key data:List Int):List Int:=leB 16 (ZY (leN (CY (key.take 16))) data+leN (key.drop 16))
theorem Pb(key data:List Int):(TJ key data).length=16:=CF _ _
theorem TK(key data:List Int):∀ x∈TJ key data,0<=x/\x<256:=GQ _ _
theorem Sl.aShape{w:World}{v:Value}{l:List Int}(h:Sl w v l):∃ a c,v=.slice a l.length c:=by
 obtain⟨⟨a,cap,e,_⟩,_⟩:=h;exact⟨a,cap,e⟩
theorem cV(vk vd:Value)(key data:List Int)(w:World)(hk:Sl w vk key)(hd:Sl w vd data)(lk:key.length=32)(ld:data.length<=4000) :
  Calls prog 177 #[vk,vd] w fun e w'=>∃ v',e=.returned (.tuple #[v',.int .i64 0])/\Sl w' v' (TJ key data)/\Bw w w':=by
 obtain⟨ak,ck,rfl⟩:=hk.aShape;obtain⟨ad,cd,rfl⟩:=hd.aShape;rw[lk]at hk ⊢
 obtain⟨a1,c1,hc1',s1⟩:=hk.upTo 16 (by omega);obtain⟨a2,c2,hc2',s2⟩:=hk.from 16 (by omega);have hc1:∀ W,(Instr.slice 25 (.slice ak 32 ck) none (some (.int .i64 16)) none).run prog W=.ok (.slice a1 16 c1) W:=hc1';have hc2:∀ W,(Instr.slice 25 (.slice ak 32 ck) (some (.int .i64 16)) none none).run prog W=.ok (.slice a2 16 c2) W:=hc2';clear hc1' hc2';have lt:(key.take 16).length=16:=by rw[List.length_take];omega
 have lr:(key.drop 16).length=16:=by rw[List.length_drop];omega
 have ldi:¬ (4000:Int)<(data.length:Int):=by omega
 have HT:Hid (TJ key data=leB 16 (ZY (leN (CY (key.take 16))) data+leN (key.drop 16))):=rfl;generalize key.take 16=K1 at s1 lt HT;generalize key.drop 16=K2 at s2 lr HT;clear hk lk;have hdl:Hid (data.length<=4000):=ld;go_enter func177,ntmps177
 go_wp2_with fail
 go_region_with (first
  | (go_at_call 190;refine(PQ _ K1 _ (s1.below ((Below.refl _ _).drew)) lt).mono ?_;rintro e w2 ⟨r1,rfl,l1,v1,hb2⟩)
  | (go_at_call 189;refine(M2 r1 (leN (CY K1)) _ data _ (hd.below ((Below.refl _ _).drew.trans hb2)) hdl.out l1 v1).mono ?_;rintro e w3 ⟨n1,rfl,l3,v3,hb3⟩)
  | (go_at_call 188;refine(Nf n1 _ K2 _ (s2.below (((Below.refl _ _).drew.trans hb2).trans (hb3.mono hb2.size))) lr l3).mono ?_;rintro e w4 ⟨v4,rfl,s4,hb4⟩))
 all_goals
  go_wp2
  go_ret2
  refine⟨v4,rfl,?_,?_⟩
  .rw[HT.out,<- v3];exact s4
  .have b3:Bw w w3:=((Below.refl _ _).drew.trans hb2).trans (hb3.mono hb2.size);exact b3.trans (hb4.mono b3.size)
def gap(n:Nat):Nat:=(16-n%16)%16
def D5(l:List Int):List Int:=l++List.replicate (gap l.length) 0
theorem DD(l:List Int):(D5 l).length=l.length+gap l.length:=by rw[D5,List.length_append,List.length_replicate]
theorem Gf(n:Nat):gap n<16:=by unfold gap;omega
theorem R4(n:Nat):(n+gap n)%16=0:=by unfold gap;omega
theorem SM(n j:Nat)(h:j<gap n):¬ (n+j)%16=0:=by unfold gap at h;omega
theorem Yc(n m:Nat)(h:n%16=0):gap (n+m)=gap m:=by unfold gap;omega
theorem LV{l:List Int}(h:∀ x∈l,0<=x/\x<256):∀ x∈D5 l,0<=x/\x<256:=by
 intro x hx;rcases List.mem_append.1 hx with h1|h1
 .exact h x h1
 .rw[(List.mem_replicate.1 h1).2];omega
theorem Wd(a s:List Int):D5 (D5 a++s)=D5 a++D5 s:=by
 have h:(D5 a).length%16=0:=by rw[DD];exact R4 _
 rw[D5,List.length_append,Yc _ _ h,List.append_assoc];rfl
theorem VB(k:Nat)(v:Int):leB (k+1) v=leB k v++[AD v k]:=by
 simp[leB,List.range_succ]
def Fe(a s:List Int):List Int:=D5 a++D5 s++leB 8 (a.length:Int)++leB 8 (s.length:Int)
theorem GP(a s:List Int):(Fe a s).length=a.length+gap a.length+(s.length+gap s.length)+8+8:=by
 simp only[Fe,List.length_append,DD,CF]
theorem Qh{a s:List Int}(ha:∀ x∈a,0<=x/\x<256)(hs:∀ x∈s,0<=x/\x<256):∀ x∈Fe a s,0<=x/\x<256:=by
 intro x hx;rcases List.mem_append.1 hx with hx|hx
 .rcases List.mem_append.1 hx with hx|hx
  .rcases List.mem_append.1 hx with hx|hx
   .exact LV ha x hx
   .exact LV hs x hx
  .exact GQ _ _ x hx
 .exact GQ _ _ x hx
def D1(key nonce a s:List Int):List Int:=TJ ((BT (Bq key (BitVec.ofNat 32 0) nonce)).take 32) (Fe a s)
theorem Hh(key nonce a s:List Int):(D1 key nonce a s).length=16:=Pb _ _
theorem KA(key nonce a s:List Int):∀ x∈D1 key nonce a s,0<=x/\x<256:=TK _ _
def DF(key nonce p:List Int):List Int:=Oo (Bq key (BitVec.ofNat 32 1) nonce) p
theorem EC(key nonce p:List Int):(DF key nonce p).length=p.length:=Oq _ _
def IN(key nonce a p:List Int):List Int:=DF key nonce p++D1 key nonce a (DF key nonce p)
theorem He(key nonce a p:List Int):(IN key nonce a p).length=p.length+16:=by
 rw[IN,List.length_append,EC,Hh]
theorem IP(v:Value)(l:List Int)(B:Nat)(w:World)(ho:w.ownsRow B 5 1 v l.length (l.map (Value.int .u8)))(hB:B<=w.heap.size)(hl:l.length<=100000) :
  Calls prog 191 #[v] w fun e w'=>∃ v',e=.returned v'/\w'.ownsRow B 5 1 v' (D5 l).length ((D5 l).map (Value.int .u8))/\Below B w w':=by
 have HF:Hid (D5 l=l++List.replicate (gap l.length) 0):=rfl;have hg:=Gf l.length;have HS:Hid (∀ j,j<gap l.length->¬ (l.length+j)%16=0):=fun j hj=>SM _ _ hj;have HE:Hid ((l.length+gap l.length)%16=0):=R4 _;obtain⟨a0,c0,rfl⟩:=DC ho;generalize gap l.length=G at HF hg HS HE;go_enter func191,ntmps191
 go_wp2_with fail
 go_loopw [0] (fun v wr=>∃ (j:Nat) (a:Option Addr) (cap:Nat),j<=G/\v=.slice a (l.length+j) cap/\wr.ownsRow B 5 1 v (l++List.replicate j 0).length ((l++List.replicate j 0).map (Value.int .u8))/\Below B w wr) (fun v _=>l.length+G-VF v)
 case atStart=>exact⟨0,a0,c0,by omega,rfl,by simpa using ho,Below.refl _ _⟩
 case round =>
  clear ho;obtain⟨j,a,cap,hj,rfl,hown,hb⟩:=hrel;have hlt:=hown.lt;by_cases hjn:j<G
  .have h1:=HS.out j hjn;have h2:¬ ((l.length:Int)+j)%16=0:=by omega
   go_wp2_with (at_builtin;refine Aa _ rfl _ _ 25 rfl B 5 underlying25 As _ _ rfl rfl (l++List.replicate j 0) [0] (hown.alloc _) (Sl.one _ _ _ rfl (by omega)) (by simp;omega) (by have:=hb.size;simp;omega) ?_)
   intro v2 w2 ho2 hg2;have ho2':w2.ownsRow B 5 1 v2 (l++List.replicate (j+1) 0).length ((l++List.replicate (j+1) 0).map (Value.int .u8)):=by rw[<- K6];simpa using ho2
   have hb2:Below B w w2:=(hb.alloc (Nat.le_trans hB hb.size) _).grown hg2 (by have:=hb.size;simp;omega) (fun k hk=>(hlt k hk).1);obtain⟨a2,c2,hv2⟩:=DC ho2';rw[List.length_append,List.length_replicate]at hv2
   subst hv2;clear ho2 hg2 hown hlt hb h1 h2;go_wp2
   go_roundw
   case rel=>exact⟨j+1,a2,c2,by omega,rfl,ho2',hb2⟩
   case measure=>simp[VF];omega
  .have HJ:Hid (G=j):=by unfold Hid;omega
   have h0:=HE.out;have h1:((l.length:Int)+j)%16=0:=by have:=HJ.out;omega
   have h2:(((l.length:Int)+j)%16 != 0)=false:=by simp;omega
   clear h0;go_wp2
   go_ret;refine⟨_,rfl,?_,hb⟩;rw[HF.out,HJ.out];exact hown
theorem Fy(v:Value)(l:List Int)(n:Nat)(B:Nat)(w:World)(ho:w.ownsRow B 5 1 v l.length (l.map (Value.int .u8)))(hB:B<=w.heap.size)(hl:l.length<=100000)(hn:n<=100000) :
  Calls prog 192 #[v,.int .i64 n] w fun e w'=>∃ v',e=.returned v'/\w'.ownsRow B 5 1 v' (l++leB 8 (n:Int)).length ((l++leB 8 (n:Int)).map (Value.int .u8))/\Below B w w':=by
 go_enter func192,ntmps192
 go_wp2_with fail
 go_loopw [0,1,5] (fun v s i wr=>∃ k:Nat,k<=8/\i=.int .i64 k/\s=.int .i64 ((n:Int)/256^k)/\wr.ownsRow B 5 1 v (l++leB k (n:Int)).length ((l++leB k (n:Int)).map (Value.int .u8))/\Below B w wr) (fun _ _ i _=>8-(intOf i).toNat)
 case atStart=>exact⟨0,by omega,rfl,by simp,by simpa[leB]using ho,Below.refl _ _⟩
 case round =>
  clear ho;obtain⟨k,hk,rfl,rfl,hown,hb⟩:=hrel;have hlt:=hown.lt;by_cases hk8:k<8
  .have hki:(k:Int)<8:=by omega
   obtain⟨x,hx⟩:∃ x:Int,(n:Int)/256^k=x:=⟨_,rfl⟩;have hp:(0:Int)<256^k:=Ku k;have hx0:0<=x:=by rw[<- hx];exact Int.ediv_nonneg (by omega) (by omega)
   have hx1:x<=100000:=by rw[<- hx];have:=Int.ediv_le_self (256^k) (show(0:Int)<=n by omega);omega
   have HX:Hid ((n:Int)/256^(k+1)=x/256):=by unfold Hid;rw[Int.pow_succ,<- Int.ediv_ediv_of_nonneg (Int.le_of_lt hp),hx]
   have HBY:Hid (x%256=AD n k):=by unfold Hid AD;rw[hx]
   have hlk:=CF k (n:Int);have HS:Hid (leB (k+1) (n:Int)=leB k n++[AD n k]):=VB k _;rw[hx];clear hx hp;generalize leB k (n:Int)=pre at hown HS hlk;generalize AD (n:Int) k=y at HBY HS;go_wp2_with (at_builtin;refine Aa _ rfl _ _ 25 rfl B 5 underlying25 As _ _ rfl rfl (l++pre) [y] (hown.alloc _) (Sl.one2 _ _ _ _ rfl ?_ ?_) (by simp;omega) (by have:=hb.size;simp;omega) ?_)
   .have:=HBY.out;omega
   .have:=HBY.out;omega
   intro v2 w2 ho2 hg2;have ho2':w2.ownsRow B 5 1 v2 (l++(pre++[y])).length ((l++(pre++[y])).map (Value.int .u8)):=by rw[<- List.append_assoc];simpa[hlk]using ho2
   have hb2:Below B w w2:=(hb.alloc (Nat.le_trans hB hb.size) _).grown hg2 (by have:=hb.size;simp;omega) (fun k hk=>(hlt k hk).1);clear ho2 hg2 hown hlt hb;go_wp2
   go_roundw
   case rel=>exact⟨k+1,by omega,by go_num,by rw[HX.out],by rw[HS.out];exact ho2',hb2⟩
   case measure=>simp[intOf];omega
  .obtain rfl:k=8:=by omega
   go_wp2
   go_ret;exact⟨_,rfl,hown,hb⟩
theorem V8(va vs:Value)(a s:List Int)(w:World)(ha:Sl w va a)(hs:Sl w vs s)(la:a.length<=10000)(ls:s.length<=10000) :
  Calls prog 178 #[va,vs] w fun e w'=>∃ v',e=.returned v'/\Sl w' v' (Fe a s)/\Bw w w':=by
 have HL:Hid (Fe a s=D5 (D5 a++s)++leB 8 (a.length:Int)++leB 8 (s.length:Int)):=by unfold Hid;rw[Wd];rfl
 have HY:Hid (∀ x∈Fe a s,0<=x/\x<256):=Qh ha.byte hs.byte;have HN:Hid ((Fe a s).length<=30000):=by unfold Hid;rw[GP];have:=Gf a.length;have:=Gf s.length;omega
 have hpa:(D5 a).length<=11000:=by rw[DD];have:=Gf a.length;omega
 have hpp:(D5 (D5 a++s)).length<=30000:=by rw[DD,List.length_append];have:=Gf ((D5 a).length+s.length);omega
 obtain⟨aa,ca,rfl⟩:=ha.shape;obtain⟨as0,cs,rfl⟩:=hs.shape;generalize hn:a.length=n at la HL ha ⊢;generalize hm:s.length=m at ls HL hs ⊢;have HNA:Hid (a.length=n):=hn;have HMS:Hid (s.length=m):=hm;clear hn hm;go_enter func178,ntmps178
 go_wp2_with (at_builtin;refine Aa _ rfl _ _ 25 rfl w.heap.size 5 underlying25 As _ _ rfl rfl [] a (World.ownsRow_nil _ _ _ _) ha (by have:=HNA.out;simp;omega) (Nat.le_refl _) ?_)
 intro v1 w1 ho1 hg1;have b1:Bw w w1:=(Below.refl _ _).grown hg1 (Nat.le_refl _) (by simp[Value.ownBlock]);replace ho1:w1.ownsRow w.heap.size 5 1 v1 a.length (a.map (Value.int .u8)):=by simpa using ho1
 clear hg1;go_wp2_with fail
 refine(IP v1 a w.heap.size w1 ho1 b1.size (by have:=HNA.out;omega)).mono ?_;rintro e w2 ⟨v2,rfl,ho2,b2⟩;replace b2:=b1.trans b2;clear ho1 b1;have hs2:=hs.below b2;have hlt:=ho2.lt;generalize D5 a=A at HL hpa hpp ho2;go_wp2_with (at_builtin;refine Aa _ rfl _ _ 25 rfl w.heap.size 5 underlying25 As _ _ rfl rfl A s ho2 hs2 (by have:=HMS.out;omega) b2.size ?_)
 intro v3 w3 ho3 hg3;have b3:Bw w w3:=b2.grown hg3 b2.size (fun k hk=>(hlt k hk).1);clear hg3 hlt ho2 b2 hs2;replace ho3:w3.ownsRow w.heap.size 5 1 v3 (A++s).length ((A++s).map (Value.int .u8)):=by simpa using ho3
 have hAs:(A++s).length<=21000:=by rw[List.length_append];have:=HMS.out;omega
 generalize A++s=AS at HL hpp ho3 hAs;go_wp2_with fail
 refine(IP v3 AS w.heap.size w3 ho3 b3.size (by omega)).mono ?_;rintro e w4 ⟨v4,rfl,ho4,b4⟩;replace b4:=b3.trans b4;clear ho3 b3;generalize D5 AS=X at HL hpp ho4;go_wp2_with fail
 refine(Fy v4 X n w.heap.size w4 ho4 b4.size (by omega) (by omega)).mono ?_;rintro e w5 ⟨v5,rfl,ho5,b5⟩;replace b5:=b4.trans b5;have hX5:(X++leB 8 (n:Int)).length<=30008:=by rw[List.length_append,CF];omega
 clear ho4 b4;generalize X++leB 8 (n:Int)=X5 at HL hX5 ho5;go_wp2_with fail
 refine(Fy v5 X5 m w.heap.size w5 ho5 b5.size (by omega) (by omega)).mono ?_;rintro e w6 ⟨v6,rfl,ho6,b6⟩;replace b6:=b5.trans b6;rw[<- HL.out]at ho6
 go_wp2
 go_ret;exact⟨_,rfl,Sl.ofOwns ho6 (by have:=HN.out;omega) HY.out,b6⟩
def FH(key nonce a:List Int):Bool:=decide (key.length=32)&&decide (nonce.length=12)&&decide (a.length<=256)
theorem FB(vk vn va:Value)(key nonce a:List Int)(w:World)(hk:Sl w vk key)(hn:Sl w vn nonce)(ha:Sl w va a) :
  Calls prog 149 #[vk,vn,va] w fun e w'=>e=.returned (.bool (FH key nonce a))/\w'=w:=by
 have h1:=hk.len;have h2:=hn.len;have h3:=ha.len;obtain⟨ak,ck,rfl⟩:=hk.shape;obtain⟨an,cn,rfl⟩:=hn.shape;obtain⟨aa,ca,rfl⟩:=ha.shape;unfold FH;generalize key.length=n1 at h1 hk ⊢;generalize nonce.length=n2 at h2 hn ⊢;generalize a.length=n3 at h3 ha ⊢;clear hk hn ha;by_cases c1:(n1:Int)=32
 .by_cases c2:(n2:Int)=12
  .by_cases c3:(n3:Int)<=256
   .go_enter func149,ntmps149
    go_wp2
    go_ret;refine⟨Ac ?_,rfl⟩;simp;omega
   .go_enter func149,ntmps149
    go_wp2
    go_ret;refine⟨Ac ?_,rfl⟩;simp;omega
  .go_enter func149,ntmps149
   go_wp2
   go_ret;refine⟨Ac ?_,rfl⟩;simp;omega
 .go_enter func149,ntmps149
  go_wp2
  go_ret;refine⟨Ac ?_,rfl⟩;simp;omega
theorem Uy(vk vn:Value)(key nonce:List Int)(x:Int)(c:Nat)(hx:x=(c:Int))(w:World)(hk:Sl w vk key)(hn:Sl w vn nonce)(lk:key.length=32)(ln:nonce.length=12)(hc:c<=1073741824)(ht:Cf w) :
  Calls prog 176 #[vk,.int .i64 x,vn] w fun e w'=>∃ v',e=.returned (.tuple #[v',.int .i64 0])/\Got w w' v' (BT (Bq key (BitVec.ofNat 32 c) nonce)):=by
 subst hx;exact Uz vk vn key nonce c w hk hn lk ln hc ht
theorem MY(vk vn va vs:Value)(key nonce a s:List Int)(w:World)(hk:Sl w vk key)(hn:Sl w vn nonce)(ha:Sl w va a)(hs:Sl w vs s)(lk:key.length=32)(ln:nonce.length=12)(la:a.length<=256)(ls:s.length<=2000)(ht:Cf w) :
  Calls prog 151 #[vk,vn,va,vs] w fun e w'=>∃ v',e=.returned (.tuple #[v',.int .i64 0])/\Sl w' v' (D1 key nonce a s)/\Bw w w':=by
 have HT:Hid (D1 key nonce a s=TJ ((BT (Bq key (BitVec.ofNat 32 0) nonce)).take 32) (Fe a s)):=rfl;have hll:(Fe a s).length<=4000:=by rw[GP];have:=Gf a.length;have:=Gf s.length;omega
 go_enter func151,ntmps151
 go_wp2_with fail
 refine(Uy vk vn key nonce 0 0 rfl w hk hn lk ln (by omega) ht).mono ?_;rintro e w1 ⟨vb,rfl,g1⟩;have sb:=g1.sl;have b1:=g1.bel;clear g1;have hbl:=DL (Bq key (BitVec.ofNat 32 0) nonce);generalize BT (Bq key (BitVec.ofNat 32 0) nonce)=bs at HT sb hbl;obtain⟨ab,cb,rfl⟩:=sb.shape;rw[hbl]at sb ⊢
 obtain⟨a1,c1,hc1',s1⟩:=sb.upTo 32 (by omega);have hc1:∀ W,(Instr.slice 25 (.slice ab 64 cb) none (some (.int .i64 32)) none).run prog W=.ok (.slice a1 32 c1) W:=hc1';have lt:(bs.take 32).length=32:=by rw[List.length_take];omega
 generalize bs.take 32=K at HT s1 lt;have ha1:=ha.below b1;have hs1:=hs.below b1;clear hc1' sb hbl;have la2:a.length<=10000:=by omega
 have ls2:s.length<=10000:=by omega
 have HLA:Hid (a.length<=10000):=la2;have HLS:Hid (s.length<=10000):=ls2;have HLL:Hid ((Fe a s).length<=4000):=hll;clear la ls la2 ls2 hll hk hn ha hs lk ln;go_wp2_with fail
 go_region_with (first
  | (go_at_call 178;refine(V8 _ _ a s _ (ha1.below ((Below.refl _ _).drew)) (hs1.below ((Below.refl _ _).drew)) HLA.out HLS.out).mono ?_;rintro e w2 ⟨v2,rfl,s2,hb2⟩)
  | (go_at_call 177;refine(cV _ _ K _ _ (s1.below ((Below.refl _ _).drew.trans hb2)) s2 lt HLL.out).mono ?_;rintro e w3 ⟨v3,rfl,s3,hb3⟩))
 all_goals
  go_wp2
  go_ret2
  refine⟨v3,rfl,?_,?_⟩
  .rw[HT.out];exact s3
  .have b2:Bw w w2:=b1.trans (((Below.refl _ _).drew.trans hb2).mono b1.size);exact b2.trans (hb3.mono b2.size)
theorem On(vk vn vd:Value)(key nonce d:List Int)(w:World)(hk:Sl w vk key)(hn:Sl w vn nonce)(hd:Sl w vd d)(lk:key.length=32)(ln:nonce.length=12)(ld:d.length<=2000)(ht:Cf w) :
  Calls prog 150 #[vk,.int .i64 1,vn,vd] w fun e w'=>∃ v',e=.returned (.tuple #[v',.int .i64 0])/\w'.ownsRow w.heap.size 5 1 v' (DF key nonce d).length ((DF key nonce d).map (Value.int .u8))/\Bw w w' :=
 Yv vk vn vd key nonce d 1 w hk hn hd lk ln (by omega) ld ht
theorem E6{w w':World}{base e:Nat}{v:Value}{n:Nat}{xs:List Value}(h:w.ownsRow base e 1 v n xs)(hb:Bw w w'):w'.ownsRow base e 1 v n xs :=
 Eg h fun k hk=>hb.block k (h.lt k hk).2
theorem Ic{key nonce a:List Int}(h:FH key nonce a=true):key.length=32/\nonce.length=12/\a.length<=256:=by
 unfold FH at h;simp at h;omega
theorem YY(vk vn va vp:Value)(key nonce a p:List Int)(w:World)(hk:Sl w vk key)(hn:Sl w vn nonce)(ha:Sl w va a)(hp:Sl w vp p)(hf:FH key nonce a=true)(lp:p.length<=2000)(ht:Cf w) :
  Calls prog 118 #[vk,vn,va,vp] w fun e w'=>∃ v',e=.returned (.tuple #[v',.int .i64 0])/\Sl w' v' (IN key nonce a p)/\Bw w w':=by
 obtain⟨lk,ln,la⟩:=Ic hf;have hpos:=ht.pos;have HS:Hid (IN key nonce a p=DF key nonce p++D1 key nonce a (DF key nonce p)):=rfl;have hxl:=EC key nonce p;have hxb:∀ x∈DF key nonce p,0<=x/\x<256:=Ih _ hp.byte;have hpl:¬ (2000:Int)<(p.length:Int):=by omega
 obtain⟨ap,cp,rfl⟩:=hp.shape;go_enter func118,ntmps118
 go_wp2_with fail
 refine(FB vk vn va key nonce a w hk hn ha).mono ?_;rintro e w0 ⟨rfl,rfl⟩;rw[hf];go_wp2_with fail
 refine(On vk vn _ key nonce p w0 hk hn hp lk ln lp ht).mono ?_;rintro e w1 ⟨vx,rfl,o1,b1⟩;generalize DF key nonce p=X at HS hxl hxb o1;have s1:Sl w1 vx X:=Sl.ofOwns o1 (by omega) hxb;go_wp2_with fail
 refine(MY vk vn va vx key nonce a X w1 (hk.below b1) (hn.below b1) (ha.below b1) s1 lk ln la (by omega) (ht.below hpos b1)).mono ?_;rintro e w2 ⟨vt,rfl,s2,b2⟩;have o2:=E6 o1 b2;have hlt:=o2.lt;have hB2:Bw w0 w2:=b1.trans (b2.mono b1.size);have htl:=Hh key nonce a X;have htb:=KA key nonce a X;generalize D1 key nonce a X=T at HS s2 htl htb;have hX2:X.length<=2000:=by omega
 clear hxl o1 s1 b1 b2 hk hn ha hp;go_wp2_with (at_builtin;refine Aa _ rfl _ _ 25 rfl w0.heap.size 5 underlying25 As _ _ rfl rfl X T o2 s2 (by omega) hB2.size ?_)
 intro v3 w3 ho3 hg3;replace ho3:w3.ownsRow w0.heap.size 5 1 v3 (X++T).length ((X++T).map (Value.int .u8)):=by simpa[htl]using ho3
 have b3:Bw w0 w3:=hB2.grown hg3 hB2.size (fun k hk=>(hlt k hk).1);go_wp2
 go_ret2
 refine⟨v3,rfl,?_,b3⟩;rw[HS.out];refine Sl.ofOwns ho3 (by rw[List.length_append];omega) ?_;intro x hx;rcases List.mem_append.1 hx with h|h
 .exact hxb x h
 .exact htb x h
def Dv(key nonce a d:List Int):Int :=
 if FH key nonce a=true/\d.length<=2016 then(if d.length<16 then 13 else if D1 key nonce a (d.take (d.length-16))=d.drop (d.length-16)then 0 else 6)else 1
def O4(key nonce a d:List Int):List Int:=if Dv key nonce a d=0 then DF key nonce (d.take (d.length-16))else[]
theorem Y6(vk vn va vd:Value)(key nonce a d:List Int)(w:World)(hk:Sl w vk key)(hn:Sl w vn nonce)(ha:Sl w va a)(hd:Sl w vd d)(hno:FH key nonce a=false\/2016<d.length) :
  Calls prog 196 #[vk,vn,va,vd] w fun e w'=>e=.returned (.tuple #[.slice none 0 0,.int .i64 1])/\w'=w:=by
 have h1:=hd.len;obtain⟨ap,cp,rfl⟩:=hd.shape;by_cases hf:FH key nonce a=true
 .have hpl:(2016:Int)<(d.length:Int):=by
   rcases hno with h|h
   .rw[hf]at h;cases h
   .omega
  go_enter func196,ntmps196
  go_wp2_with fail
  refine(FB vk vn va key nonce a w hk hn ha).mono ?_;rintro e w0 ⟨rfl,rfl⟩;rw[hf];go_wp2
  go_ret2
  exact⟨rfl,rfl⟩
 .rw[Bool.not_eq_true]at hf
  go_enter func196,ntmps196
  go_wp2_with fail
  refine(FB vk vn va key nonce a w hk hn ha).mono ?_;rintro e w0 ⟨rfl,rfl⟩;rw[hf];go_wp2
  go_ret2
  exact⟨rfl,rfl⟩
theorem Q3(vk vn va vd:Value)(key nonce a d:List Int)(w:World)(hk:Sl w vk key)(hn:Sl w vn nonce)(ha:Sl w va a)(hd:Sl w vd d)(hf:FH key nonce a=true)(hs:d.length<16) :
  Calls prog 196 #[vk,vn,va,vd] w fun e w'=>e=.returned (.tuple #[.slice none 0 0,.int .i64 13])/\w'=w:=by
 obtain⟨ap,cp,rfl⟩:=hd.shape;have hpl:(d.length:Int)<16:=by omega
 go_enter func196,ntmps196
 go_wp2_with fail
 refine(FB vk vn va key nonce a w hk hn ha).mono ?_;rintro e w0 ⟨rfl,rfl⟩;rw[hf];go_wp2
 go_ret2
 exact⟨rfl,rfl⟩
theorem VZ(vk vn va vd:Value)(key nonce a d:List Int)(w:World)(hk:Sl w vk key)(hn:Sl w vn nonce)(ha:Sl w va a)(hd:Sl w vd d)(hf:FH key nonce a=true)(m:Nat)(hm:d.length=m+16)(hl:m<=2000)(ht:Cf w)(hq:D1 key nonce a (d.take m)≠d.drop m) :
  Calls prog 196 #[vk,vn,va,vd] w fun e w'=>e=.returned (.tuple #[.slice none 0 0,.int .i64 6])/\Bw w w':=by
 obtain⟨lk,ln,la⟩:=Ic hf;have hpos:=ht.pos;have hyd:=hd.byte;obtain⟨ad,cd,rfl⟩:=hd.shape;rw[hm]at hd ⊢
 obtain⟨a1,c1,hc1,s1⟩:=hd.upTo m (by omega);obtain⟨a2,c2,hc2,s2⟩:=hd.from m (by omega);rw[Nat.add_sub_cancel_left]at hc2 s2
 have l1:(d.take m).length=m:=by rw[List.length_take];omega
 have y1:∀ x∈d.take m,0<=x/\x<256:=fun x hx=>hyd x (List.mem_of_mem_take hx);have HQ:Hid (D1 key nonce a (d.take m)≠d.drop m):=hq;clear hq;generalize d.take m=D at s1 l1 y1 HQ ⊢;generalize d.drop m=L at s2 HQ;have HL1:Hid (D.length=m):=l1;clear hd hm hyd l1;go_enter func196,ntmps196
 go_wp2_with fail
 refine(FB vk vn va key nonce a w hk hn ha).mono ?_;rintro e w0 ⟨rfl,rfl⟩;rw[hf];go_wp2_with fail
 go_quiet (fail)
 have e1:Bw w0 (w0.drewN nq):=An (Below.refl _ _) nq;generalize w0.drewN nq=w1 at e1 ⊢;replace hk:=hk.below e1;replace hn:=hn.below e1;replace ha:=ha.below e1;replace s1:=s1.below e1;replace s2:=s2.below e1;replace ht:=ht.below hpos e1;clear hc1 hc2;go_wp2_with fail
 refine(MY vk vn va _ key nonce a D w1 hk hn ha s1 lk ln la (by have:=HL1.out;omega) ht).mono ?_;rintro e w2 ⟨vt,rfl,st,b2⟩;go_wp2_with fail
 refine(Hd vt _ (D1 key nonce a D) L w2 st (s2.below b2)).mono ?_;rintro e w3 ⟨rfl,n3,rfl⟩;have e2:Bw w2 (w2.drewN n3):=An (Below.refl _ _) n3;have e3:Bw w0 (w2.drewN n3):=e1.trans ((b2.trans (e2.mono b2.size)).mono e1.size);rw[decide_eq_false HQ.out];go_wp2
 go_ret2
 exact⟨rfl,e3⟩
theorem Y7(vk vn va vd:Value)(key nonce a d:List Int)(w:World)(hk:Sl w vk key)(hn:Sl w vn nonce)(ha:Sl w va a)(hd:Sl w vd d)(hf:FH key nonce a=true)(m:Nat)(hm:d.length=m+16)(hl:m<=2000)(ht:Cf w)(hq:D1 key nonce a (d.take m)=d.drop m) :
  Calls prog 196 #[vk,vn,va,vd] w fun e w'=>∃ v',e=.returned (.tuple #[v',.int .i64 0])/\Sl w' v' (DF key nonce (d.take m))/\Bw w w':=by
 obtain⟨lk,ln,la⟩:=Ic hf;have hpos:=ht.pos;have hyd:=hd.byte;obtain⟨ad,cd,rfl⟩:=hd.shape;rw[hm]at hd ⊢
 obtain⟨a1,c1,hc1,s1⟩:=hd.upTo m (by omega);obtain⟨a2,c2,hc2,s2⟩:=hd.from m (by omega);rw[Nat.add_sub_cancel_left]at hc2 s2
 have l1:(d.take m).length=m:=by rw[List.length_take];omega
 have y1:∀ x∈d.take m,0<=x/\x<256:=fun x hx=>hyd x (List.mem_of_mem_take hx);have HQ:Hid (D1 key nonce a (d.take m)=d.drop m):=hq;clear hq;generalize d.take m=D at s1 l1 y1 HQ ⊢;generalize d.drop m=L at s2 HQ;have HL1:Hid (D.length=m):=l1;clear hd hm hyd l1;go_enter func196,ntmps196
 go_wp2_with fail
 refine(FB vk vn va key nonce a w hk hn ha).mono ?_;rintro e w0 ⟨rfl,rfl⟩;rw[hf];go_wp2_with fail
 go_quiet (fail)
 have e1:Bw w0 (w0.drewN nq):=An (Below.refl _ _) nq;generalize w0.drewN nq=w1 at e1 ⊢;replace hk:=hk.below e1;replace hn:=hn.below e1;replace ha:=ha.below e1;replace s1:=s1.below e1;replace s2:=s2.below e1;replace ht:=ht.below hpos e1;clear hc1 hc2;go_wp2_with fail
 refine(MY vk vn va _ key nonce a D w1 hk hn ha s1 lk ln la (by have:=HL1.out;omega) ht).mono ?_;rintro e w2 ⟨vt,rfl,st,b2⟩;go_wp2_with fail
 refine(Hd vt _ (D1 key nonce a D) L w2 st (s2.below b2)).mono ?_;rintro e w3 ⟨rfl,n3,rfl⟩;have e2:Bw w2 (w2.drewN n3):=An (Below.refl _ _) n3;have e3:Bw w0 (w2.drewN n3):=e1.trans ((b2.trans (e2.mono b2.size)).mono e1.size);rw[decide_eq_true HQ.out];have hB:Bw w1 (w2.drewN n3):=b2.trans (e2.mono b2.size);replace hk:=hk.below hB;replace hn:=hn.below hB;replace s1:=s1.below hB;replace ht:=ht.below (Nat.lt_of_lt_of_le hpos e1.size) hB;have hxl:=EC key nonce D;have hxb:∀ x∈DF key nonce D,0<=x/\x<256:=Ih _ y1;clear s2 st ha e2 b2;generalize w2.drewN n3=w3 at hk hn s1 ht e3 hB ⊢;go_wp2_with fail
 refine(On vk vn _ key nonce D w3 hk hn s1 lk ln (by have:=HL1.out;omega) ht).mono ?_;rintro e w4 ⟨vx,rfl,o4,b4⟩;have s4:Sl w4 vx (DF key nonce D):=Sl.ofOwns o4 (by have:=HL1.out;omega) hxb;have e4:Bw w0 w4:=e3.trans (b4.mono e3.size);clear o4 hxb;go_wp2
 go_ret2
 exact⟨vx,rfl,s4,e4⟩
theorem VY(vk vn va vd:Value)(key nonce a d:List Int)(w:World)(hk:Sl w vk key)(hn:Sl w vn nonce)(ha:Sl w va a)(hd:Sl w vd d)(ht:Cf w) :
  Calls prog 196 #[vk,vn,va,vd] w fun e w'=>∃ v',e=.returned (.tuple #[v',.int .i64 (Dv key nonce a d)])/\Sl w' v' (O4 key nonce a d)/\Bw w w':=by
 unfold O4;by_cases h:FH key nonce a=true/\d.length<=2016
 .by_cases h16:d.length<16
  .have hE:Dv key nonce a d=13:=by unfold Dv;rw[if_pos h,if_pos h16]
   rw[hE,if_neg (by omega)];refine(Q3 vk vn va vd key nonce a d w hk hn ha hd h.1 h16).mono ?_;rintro e w1 ⟨rfl,rfl⟩;exact⟨_,rfl,Sl.nil _ _,Below.refl _ _⟩
  .by_cases hq:D1 key nonce a (d.take (d.length-16))=d.drop (d.length-16)
   .have hE:Dv key nonce a d=0:=by unfold Dv;rw[if_pos h,if_neg h16,if_pos hq]
    rw[hE,if_pos rfl];exact Y7 vk vn va vd key nonce a d w hk hn ha hd h.1 (d.length-16) (by omega) (by omega) ht hq
   .have hE:Dv key nonce a d=6:=by unfold Dv;rw[if_pos h,if_neg h16,if_neg hq]
    rw[hE,if_neg (by omega)];refine(VZ vk vn va vd key nonce a d w hk hn ha hd h.1 (d.length-16) (by omega) (by omega) ht hq).mono ?_;rintro e w1 ⟨rfl,b⟩;exact⟨_,rfl,Sl.nil _ _,b⟩
 .have hE:Dv key nonce a d=1:=by unfold Dv;rw[if_neg h]
  rw[hE,if_neg (by omega)];refine(Y6 vk vn va vd key nonce a d w hk hn ha hd ?_).mono ?_
  .by_cases hf:FH key nonce a=true
   .exact .inr (by have:¬ d.length<=2016:=fun hp=>h ⟨hf,hp⟩;omega)
   .exact .inl (by simpa using hf)
  .rintro e w1 ⟨rfl,rfl⟩;exact⟨_,rfl,Sl.nil _ _,Below.refl _ _⟩
theorem QT(key nonce:List Int){p:List Int}(hp:∀ x∈p,0<=x/\x<256):∀ x∈DF key nonce p,0<=x/\x<256:=Ih _ hp
theorem QP(key nonce a:List Int){p:List Int}(hp:∀ x∈p,0<=x/\x<256):∀ x∈IN key nonce a p,0<=x/\x<256:=by
 intro x hx;rcases List.mem_append.1 hx with h|h
 .exact QT key nonce hp x h
 .exact KA _ _ _ _ x h
theorem XV{key nonce a:List Int}(lk:key.length=32)(ln:nonce.length=12)(la:a.length<=256):FH key nonce a=true:=by
 unfold FH;simp;omega
end
section
def Ji(key:List Int)(n:Int)(p:List Int):List Int:=Ag n++IN key (Ba (Ag n)) (Ag n) p
theorem Fl(key:List Int)(n:Int)(p:List Int):(Ji key n p).length=p.length+20:=by
 rw[Ji,List.length_append,BP,He];omega
theorem Ty(key:List Int)(n:Int){p:List Int}(hp:∀ x∈p,0<=x/\x<256):∀ x∈Ji key n p,0<=x/\x<256:=by
 intro x hx;rcases List.mem_append.1 hx with h|h
 .exact AL n x h
 .exact QP _ _ _ hp x h
def Dz(key:List Int)(s t:Int)(l:List Bool)(p:List Int):Int:=if ¬ OkC key s t l then 5 else if 2000<p.length then 1 else if s=1073741824 then 8 else 0
def BR(key:List Int)(s t:Int)(l:List Bool)(r:List Int):Int :=
 if ¬ OkC key s t l then 5 else if 2020<r.length then 1 else if r.length<20 then 13 else if 1073741824<=E4 (r.take 4)then 2 else if Gk t l (E4 (r.take 4))=true then 7
 else Dv key (Ba (r.take 4)) (r.take 4) (r.drop 4)
def IS(key:List Int)(r:List Int):List Int:=O4 key (Ba (r.take 4)) (r.take 4) (r.drop 4)
end
section
open Go.RowKit
structure Bt(w:World)(g:Nat)(c r u:Int):Prop where
 lt:g<w.heap.size
 row:w.heap[g]?=some (.cells (tkA c r u) 58)
theorem Bt.made(w:World)(c r u:Int):Bt (w.alloc (.cells (tkA c r u) 58)) w.heap.size c r u:=⟨by simp,heap_alloc_new _ _⟩
theorem Bt.below{w w':World}{g:Nat}{c r u:Int}(h:Bt w g c r u)(hb:Bw w w'):Bt w' g c r u :=
 ⟨Nat.lt_of_lt_of_le h.lt hb.size,(hb.block g h.lt).trans h.row⟩
theorem Hp(c r u:Int):(prog.info? 58).map (·.size)=some (tkA c r u).size:=by show _=some 3;kernel_rfl
theorem Ix{w:World}{g:Nat}{c r u:Int}{ty:TypeId}{fr:Nat × Nat}(h:w.heap[g]?=some (.cells (tkA c r u) ty fr)) :
  w.cell? ⟨g,0,none⟩=some (.int .i64 c)/\w.cell? ⟨g,1,none⟩=some (.int .i64 r)/\w.cell? ⟨g,2,none⟩=some (.int .i64 u) :=
 ⟨cell_of_row _ _ 0 _ _ _ h,cell_of_row _ _ 1 _ _ _ h,cell_of_row _ _ 2 _ _ _ h⟩
theorem Ig(c r u:Int)(w:World) :
  Calls prog 70 #[.agg (tkA c r u)] w fun e w'=>e=.returned (.bool (decide (CE c r u)))/\Bw w w':=by
 have bb:Bw w (w.alloc (.cells (tkA c r u) 58)):=(Below.refl _ _).alloc (Nat.le_refl _) _;have bt:=Bt.made w c r u;generalize hW:w.alloc (.cells (tkA c r u) 58)=W at bb bt;obtain⟨c0,c1,c2⟩:=Ix bt.row;clear bt;go_enter func70,ntmps70
 go_wp2_with fail
 clear hW;refine(El c 7 _).mono ?_;rintro e w1 ⟨rfl,rfl⟩;by_cases h1:0<=c/\c<=7
 .rw[decide_eq_true h1];go_wp2_with fail
  refine(El r 7 _).mono ?_;rintro e w1 ⟨rfl,rfl⟩;by_cases h2:0<=r/\r<=7
  .rw[decide_eq_true h2];go_wp2_with fail
   refine(El u 1048576 _).mono ?_;rintro e w1 ⟨rfl,rfl⟩;by_cases h3:0<=u/\u<=1048576
   .rw[decide_eq_true h3];have HB:Hid (true=decide (CE c r u)):=(decide_eq_true ⟨h1,h2,h3⟩).symm;go_wp2
    go_ret;exact⟨Ac HB.out,bb⟩
   .rw[decide_eq_false h3];have HB:Hid (false=decide (CE c r u)):=(decide_eq_false (fun g=>h3 g.2.2)).symm;go_wp2
    go_ret;exact⟨Ac HB.out,bb⟩
  .rw[decide_eq_false h2];have HB:Hid (false=decide (CE c r u)):=(decide_eq_false (fun g=>h2 g.2.1)).symm;go_wp2
   go_ret;exact⟨Ac HB.out,bb⟩
 .rw[decide_eq_false h1];have HB:Hid (false=decide (CE c r u)):=(decide_eq_false (fun g=>h1 g.1)).symm;go_wp2
  go_ret;exact⟨Ac HB.out,bb⟩
def Jq(key:List Int)(c r u:Int):List Int:=Jp c r u++(D4 key (Jp c r u)).take 16
theorem Ls(key b:List Int):((D4 key b).take 16).length=16:=by rw[List.length_take,CU];rfl
theorem DJ(key:List Int)(c r u:Int):(Jq key c r u).length=22:=by unfold Jq;rw[List.length_append,Ls,DI]
theorem Pe(key b:List Int):∀ x∈(D4 key b).take 16,0<=x/\x<256:=fun x hx=>LO key b x (List.mem_of_mem_take hx)
theorem Ua(key:List Int){c r u:Int}(h:CE c r u):∀ x∈Jq key c r u,0<=x/\x<256:=by
 intro x hx;rcases List.mem_append.1 hx with hx|hx
 .exact Mi h x hx
 .exact Pe _ _ x hx
def Lf(key:List Int)(c r u:Int):Int:=if key.length≠32 then 1 else Lt c r u
def Oa(key:List Int)(c r u:Int):List Int:=if Lf key c r u=0 then Jq key c r u else[]
theorem SO{key:List Int}{c r u:Int}(h:¬ key.length=32):Lf key c r u=1:=if_pos h
theorem NZ{key:List Int}{c r u:Int}(h:key.length=32):Lf key c r u=Lt c r u:=if_neg (fun g=>g h)
theorem Ye{key:List Int}{c r u:Int}(h:Lf key c r u=0):Oa key c r u=Jq key c r u:=if_pos h
theorem R5{key:List Int}{c r u:Int}(h:¬ Lf key c r u=0):Oa key c r u=[]:=if_neg h
theorem PY(c r u:Int)(w:World)(h:CE c r u) :
  Calls prog 71 #[.agg (tkA c r u)] w fun e w'=>∃ v',e=.returned v'/\w'.ownsRow w.heap.size 5 1 v' (Jp c r u).length ((Jp c r u).map (Value.int .u8))/\Bw w w':=by
 have bb:Bw w (w.alloc (.cells (tkA c r u) 58)):=(Below.refl _ _).alloc (Nat.le_refl _) _;have bt:=Bt.made w c r u;generalize hW:w.alloc (.cells (tkA c r u) 58)=W at bb bt;obtain⟨c0,c1,c2⟩:=Ix bt.row;have lt:=bt.lt;clear bt;obtain⟨⟨hc0,hc1⟩,⟨hr0,hr1⟩,hu0,hu1⟩:=h;have m1:c%256=c:=by omega
 have m2:r%256=r:=by omega
 have HT:Hid (Jp c r u=[c,r]++Ag u):=rfl;have b1:Bw W (W.alloc (.cells #[.int .u8 c,.int .u8 r] 5)):=(Below.refl _ _).alloc (Nat.le_refl _) _;have o1:(W.alloc (.cells #[.int .u8 c,.int .u8 r] 5)).ownsRow W.heap.size 5 1 (.slice (some ⟨W.heap.size,0,none⟩) 2 2) ([c,r]:List Int).length (([c,r]:List Int).map (Value.int .u8)) :=
  ⟨rfl,.inr ⟨W.heap.size,2,#[.int .u8 c,.int .u8 r],rfl,Nat.le_refl _,heap_alloc_new _ _,by simp,by simp[maxLen],rfl,rfl⟩⟩
 have O1:Hid ((W.alloc (.cells #[.int .u8 c,.int .u8 r] 5)).ownsRow W.heap.size 5 1 (.slice (some ⟨W.heap.size,0,none⟩) 2 2) ([c,r]:List Int).length (([c,r]:List Int).map (Value.int .u8))):=o1;clear o1;generalize hW1:W.alloc (.cells #[.int .u8 c,.int .u8 r] 5)=W1 at b1 O1;have d2:W1.cell? ⟨w.heap.size,2,none⟩=some (.int .i64 u):=(b1.cell (p:=⟨w.heap.size,2,none⟩) lt).trans c2;have d1:=bb.trans (b1.mono bb.size);have hz:=b1.size;go_enter func71,ntmps71
 go_wp2_with fail
 clear hW hW1;refine(FW _ [c,r] u W.heap.size W1 O1.out hz (by simp) hu0 (by omega)).mono ?_;rintro e w2 ⟨v2,rfl,o2,b2⟩;have hwW:=bb.size;go_wp2
 go_ret;exact⟨_,rfl,AM o2 hwW,d1.trans (b2.mono hwW)⟩
theorem Pc(vk vb:Value)(key b:List Int)(w:World)(hk:Sl w vk key)(hb:Sl w vb b)(lk:key.length<=256)(lb:b.length<=2000)(ht:AA w) :
  Calls prog 72 #[vk,vb] w fun e w'=>∃ v',e=.returned (.tuple #[v',.int .i64 0])/\Sl w' v' ((D4 key b).take 16)/\Bw w w':=by
 go_enter func72,ntmps72
 go_wp2_with fail
 refine(ZX vk vb key b w hk hb lk lb ht).mono ?_;rintro e w1 ⟨v1,rfl,f1⟩;obtain⟨s1,b1,g,cp,rfl,_,_⟩:=f1;obtain⟨a2,c2,r2',s2⟩:=s1.upTo 16 (by rw[CU];omega);rw[CU]at r2' ⊢
 have r2:∀ W,(Instr.slice 25 (.slice (some ⟨g,0,none⟩) 32 cp) none (some (.int .i64 16)) none).run prog W=.ok (.slice a2 16 c2) W:=r2';clear r2' s1;go_wp2
 go_ret2
 exact⟨_,rfl,s2,b1⟩
theorem SP(vk:Value)(key:List Int)(c r u:Int)(w:World)(hk:Sl w vk key)(ht:AA w) :
  Calls prog 34 #[vk,.agg (tkA c r u)] w fun e w'=>∃ v',e=.returned (.tuple #[v',.int .i64 (Lf key c r u)])/\w'.ownsRow w.heap.size 5 1 v' (Oa key c r u).length ((Oa key c r u).map (Value.int .u8))/\Bw w w':=by
 have bb:Bw w (w.alloc (.cells (tkA c r u) 58)):=(Below.refl _ _).alloc (Nat.le_refl _) _;have bt:=Bt.made w c r u;have hi:=Hp c r u;have hlen:=hk.len;obtain⟨ak,ck,rfl⟩:=hk.shape;generalize hW:w.alloc (.cells (tkA c r u) 58)=W at bb bt;by_cases h1:key.length=32
 .have HE:=NZ (key:=key) (c:=c) (r:=r) (u:=u) h1;have HK:Hid (key.length=32):=h1;rw[h1]at hk ⊢
  clear h1 hlen;go_enter func34,ntmps34
  go_wp2_with (refine wpList_load_row rfl 58 _ rfl w.heap.size rfl 58 _ (0,0) _ bt.row underlying58 rfl hi ?_)
  clear hW;refine(Ig c r u W).mono ?_;rintro e w1 ⟨rfl,b1⟩;have d1:=bb.trans (b1.mono bb.size);replace bt:=bt.below b1;clear b1 bb;by_cases h2:CE c r u
  .have HZ:Hid (Lf key c r u=0):=HE.trans (Jz h2);have HL:Hid (Oa key c r u=Jq key c r u):=Ye HZ.out;rw[decide_eq_true h2];clear HE;go_wp2_with (refine wpList_load_row rfl 58 _ rfl w.heap.size rfl 58 _ (0,0) _ bt.row underlying58 rfl hi ?_)
   refine(PY c r u w1 h2).mono ?_;rintro e w2 ⟨v2,rfl,o2,b2⟩;have d2:=d1.trans (b2.mono d1.size);have s2:=Sl.ofOwns o2 (by rw[DI];omega) (Mi h2);have z2:=b2.size;go_wp2_with fail
   refine(Pc _ v2 key (Jp c r u) w2 (hk.below d2) s2 (by rw[HK.out];omega) (by rw[DI];omega) (ht.below d2)).mono ?_;rintro e w3 ⟨v3,rfl,s3,b3⟩;have o3:=IG o2 b3;have d3':Bw w1 w3:=b2.trans (b3.mono z2);have z3:w1.heap.size<=w3.heap.size:=Nat.le_trans z2 b3.size;have hlt:=o3.lt;have hy:=s3.len;have HT:Hid (Jq key c r u=Jp c r u++(D4 key (Jp c r u)).take 16):=rfl;have hx:=DI c r u;clear o2 b3 d2 s2;generalize (D4 key (Jp c r u)).take 16=Y at s3 HT hy;generalize Jp c r u=X at o3 HT hx;go_wp2_with (at_builtin;refine Aa _ rfl _ _ 25 rfl w1.heap.size 5 underlying25 As _ _ rfl rfl X Y o3 s3 (by omega) z3 ?_)
   intro v4 w4 o4 g4;have d4:Bw w1 w4:=d3'.grown g4 z3 (fun k hk=>(hlt k hk).1);have HO:Hid (w4.ownsRow w1.heap.size 5 1 v4 (Jq key c r u).length ((Jq key c r u).map (Value.int .u8))):=by unfold Hid;rw[HT.out];simpa[hx]using o4
   clear o4 g4;go_wp2
   go_ret2
   rw[HL.out,HZ.out];exact⟨_,rfl,AM HO.out d1.size,d1.trans (d4.mono d1.size)⟩
  .have HZ:Hid (Lf key c r u=2):=HE.trans (RX h2);have HL:Hid (Oa key c r u=[]):=R5 (by rw[HZ.out];omega);rw[decide_eq_false h2];go_wp2
   go_ret2
   rw[HL.out,HZ.out];exact⟨_,rfl,World.ownsRow_nil _ _ _ _,d1⟩
 .have h1':¬ (key.length:Int)=32:=by omega
  have HZ:Hid (Lf key c r u=1):=SO h1;have HL:Hid (Oa key c r u=[]):=R5 (by rw[HZ.out];omega);go_enter func34,ntmps34
  go_wp2
  go_ret2
  rw[HL.out,HZ.out];exact⟨_,rfl,World.ownsRow_nil _ _ _ _,bb⟩
end
end Go.Proofs.YtalbmmghmoggcaaGreatDoor
