/- Part 15 of the walk. -/
import Derived.Deep.OwnRows
import Derived.Laws.OwnMore
import Derived.Maps.AppendAt
import Derived.Test.YtfhbkoflaekhpadGreatDoorZ14
set_option maxRecDepth 100000
set_option maxHeartbeats 4000000
open Go.Proofs.Tryz
namespace Go.Proofs.YtfhbkoflaekhpadGreatDoor
section
open Go.RowKit
def AE(v:Int)(i:Nat):Int:=v/256^i%256
theorem Fu(v:Int)(i:Nat):0≤AE v i∧AE v i<256:=by unfold AE;omega
def leB(n:Nat)(v:Int):List Int:=(List.range n).map (AE v)
theorem CU(n:Nat)(v:Int):(leB n v).length=n:=by simp[leB]
theorem Hs(n:Nat)(v:Int):∀ x∈leB n v,0≤x∧x<256:=by
 intro x hx;obtain⟨j,_,rfl⟩:=List.mem_map.1 hx;exact Fu v j
def EY(S:Nat→Int):Nat→Int
 | 0=>0
 | k+1=>EY S k+S k*256^k
def He(S:Nat→Int)(k:Nat):Int:=EY S k/256^k
theorem KR(k:Nat):(0:Int)<256^k:=Int.pow_pos (by omega)
theorem Mm(S:Nat→Int):He S 0=0:=by simp[He,EY]
theorem Ml(S:Nat→Int)(k:Nat):He S (k+1)=(He S k+S k)/256:=by
 have hp:=KR k;unfold He;rw[EY,Int.pow_succ,← Int.ediv_ediv_of_nonneg (Int.le_of_lt hp),Int.add_mul_ediv_right _ _ (Int.ne_of_gt hp)]
theorem Qh(S:Nat→Int)(h:∀ j,0≤S j∧S j<1000)(k:Nat):0≤He S k∧He S k<256:=by
 induction k with
 | zero=>rw[Mm];omega
 | succ k ih=>rw[Ml];have:=h k;omega
theorem UA(S:Nat→Int)(k d:Nat):∃ Z,EY S (k+d)=EY S k+256^k*Z:=by
 induction d with
 | zero=>exact⟨0,by simp⟩
 | succ d ih =>
  obtain⟨Z,hZ⟩:=ih;refine⟨Z+S (k+d)*256^d,?_⟩;rw[← Nat.add_assoc,EY,hZ,Int.pow_add]
  grind
theorem Ke(v Z:Int)(n k:Nat)(h:k<n):AE (v+256^n*Z) k=AE v k:=by
 have hp:=KR k;obtain⟨d,rfl⟩:∃ d,n=k+(1+d):=⟨n-k-1,by omega⟩;unfold AE;rw[Int.pow_add,Int.pow_add,show(256:Int)^k*(256^1*256^d)*Z=256^k*(256*(256^d*Z))by grind,Int.add_mul_ediv_left _ _ (Int.ne_of_gt hp)];omega
theorem Tp(S:Nat→Int)(n k:Nat)(h:k<n):(He S k+S k)%256=AE (EY S n) k:=by
 have hp:=KR k;obtain⟨d,rfl⟩:∃ d,n=(k+1)+d:=⟨n-(k+1),by omega⟩;obtain⟨Z,hZ⟩:=UA S (k+1) d;rw[hZ,Ke _ _ _ _ (by omega),AE,EY,Int.add_mul_ediv_right _ _ (Int.ne_of_gt hp)];rfl
theorem XQ(S T:Nat→Int)(k:Nat):EY (fun j=>S j+T j) k=EY S k+EY T k:=by
 induction k with
 | zero=>rfl
 | succ k ih=>simp only[EY,ih];grind
theorem XR(l:List Int)(k:Nat):EY (fun j=>l.getD j 0) k=leP l k:=by
 induction k with
 | zero=>rfl
 | succ k ih=>simp only[EY,leP,ih]
theorem RH(v:Int)(n:Nat):∃ Z,v=EY (AE v) n+256^n*Z∧Z=v/256^n:=by
 induction n with
 | zero=>exact⟨v,by simp[EY],by simp⟩
 | succ n ih =>
  obtain⟨Z,h1,h2⟩:=ih;refine⟨Z/256,?_,?_⟩
  ·rw[EY,AE,← h2,Int.pow_succ];have:Z=Z%256+256*(Z/256):=by omega
   grind
  ·rw[h2,Int.pow_succ,Int.ediv_ediv_of_nonneg (Int.le_of_lt (KR n))]
theorem Vu(v:Int)(s:List Int)(k:Nat)(hk:k<16)(hs:s.length≤16) :
  (He (fun j=>AE v j+s.getD j 0) k+(AE v k+s.getD k 0))%256=AE (v+leN s) k:=by
 rw[Tp (fun j=>AE v j+s.getD j 0) 16 k hk,XQ (AE v) (fun j=>s.getD j 0),XR,WI 16 hs];obtain⟨Z,h1,_⟩:=RH v 16;have e:v+leN s=EY (AE v) 16+leN s+256^16*Z:=by omega
 rw[e,Ke _ _ _ _ hk]
def Ih(v:Int)(k:Nat):List Int:=(List.range 16).map fun j=>if j<k then AE v j else 0
theorem PM(v:Int)(k:Nat):(Ih v k).length=16:=by simp[Ih]
theorem UI(v:Int):Ih v 0=List.replicate 16 0:=rfl
theorem XZ(v:Int):Ih v 16=leB 16 v:=by
 unfold Ih leB;refine List.map_congr_left fun j hj=>?_;rw[if_pos (List.mem_range.1 hj)]
theorem UH(v:Int)(k:Nat)(_hk:k<16):(Ih v k).set k (AE v k)=Ih v (k+1):=by
 apply List.ext_getElem (by simp[Ih]);intro j h1 h2;rw[List.getElem_set];simp only[Ih,List.getElem_map,List.getElem_range];by_cases e:k=j
 ·subst e;rw[if_pos rfl,if_pos (by omega)]
 ·rw[if_neg e];by_cases c:j<k
  ·rw[if_pos c,if_pos (by omega)]
  ·rw[if_neg c,if_neg (by omega)]
theorem Rn(a b:Int)(k:Nat)(m:Int)(hm:m=2^k)(ha:0≤a)(ha2:a<m)(hb:0≤b)(hs:a+b*m<18446744073709551616):bits .or .u64 a (b*m)=a+b*m:=by
 obtain⟨x,rfl⟩:=Int.eq_ofNat_of_zero_le ha;obtain⟨y,rfl⟩:=Int.eq_ofNat_of_zero_le hb;have e:(y:Int)*m=((2^k*y:Nat):Int):=by rw[hm,Int.natCast_mul,Int.natCast_pow,Int.mul_comm];rfl
 rw[e]at hs ⊢
 have hx:x<2^k:=by
  have:((x:Nat):Int)<((2^k:Nat):Int):=by rw[Int.natCast_pow];rw[hm]at ha2;exact ha2
  omega
 have h1:=Nat.two_pow_add_eq_or_of_lt hx y;rw[u64_or_nat _ _ (by omega) (by omega),Nat.or_comm,← h1];omega
theorem dZ{a b:Int}(h:a=b):Ending.returned (.int .u8 a)=.returned (.int .u8 b):=by rw[h]
theorem Qg(n:List Int)(i:Nat)(w:World)(hn:Lim 67108864 n)(hi:i<16) :
  Calls prog 201 #[.agg (Ah n),.int .i64 i] w fun e w'=>e=.returned (.int .u8 (AE (val n) i))∧Bw w w':=by
 obtain⟨a,b,c,d,e,rfl,⟨a1,a2⟩,⟨b1,b2⟩,⟨c1,c2⟩,⟨d1,d2⟩,⟨e1,e2⟩⟩:=hn.split;have hs:(w.alloc (.cells (Ah [a,b,c,d,e]) 271 (0,0))).heap[w.heap.size]?=some (.cells (Ah [a,b,c,d,e]) 271 (0,0)):=heap_alloc_new _ _;have k0:=(cell_of_row _ _ 0 _ _ _ hs).trans (Aq _ 0 (by simp));have k1:=(cell_of_row _ _ 1 _ _ _ hs).trans (Aq _ 1 (by simp));have k2:=(cell_of_row _ _ 2 _ _ _ hs).trans (Aq _ 2 (by simp));have k3:=(cell_of_row _ _ 3 _ _ _ hs).trans (Aq _ 3 (by simp));have k4:=(cell_of_row _ _ 4 _ _ _ hs).trans (Aq _ 4 (by simp));simp only[List.getD_cons_zero,List.getD_cons_succ]at k0 k1 k2 k3 k4;have HV:Hid (val [a,b,c,d,e]=a+67108864*b+4503599627370496*c+302231454903657293676544*d+20282409603651670423947251286016*e):=CP a b c d e;generalize Ah [a,b,c,d,e]=arr at k0 k1 k2 k3 k4 ⊢;generalize val [a,b,c,d,e]=V at HV ⊢;clear hn hs;obtain rfl|rfl|rfl|rfl|rfl|rfl|rfl|rfl|rfl|rfl|rfl|rfl|rfl|rfl|rfl|rfl:i=0∨i=1∨i=2∨i=3∨i=4∨i=5∨i=6∨i=7∨i=8∨i=9∨i=10∨i=11∨i=12∨i=13∨i=14∨i=15:=by omega
 all_goals
  go_enter func201,ntmps201
  go_wp2
  go_ret;refine⟨dZ ?_,(Below.refl _ _).alloc (Nat.le_refl _) _⟩;have hV:=HV.out;clear HV k0 k1 k2 k3 k4;unfold AE
  first
   | rw[Rn _ _ 2 4 rfl (by omega) (by omega) (by omega) (by omega)]
   | rw[Rn _ _ 4 16 rfl (by omega) (by omega) (by omega) (by omega)]
   | rw[Rn _ _ 6 64 rfl (by omega) (by omega) (by omega) (by omega)]
   | skip
  subst hV;simp only[Int.reducePow];omega
theorem LX{P:Program}{id:Nat}{ops:Array Oper}{K:Act→World→Prop}{Q:Exit→Act→World→Prop}{a:Act}{w:World}(R:World→Prop){A:Act}
  (hreg:∀ K':Act→World→Prop,Hid (∀ W2,R W2→K' A W2)→(Code.region id ops true).wp P (Exit.then K' Q) a w)(hrest:∀ W2,R W2→K A W2):(Code.region id ops true).wp P (Exit.then K Q) a w:=hreg K hrest
theorem NZ(nl:List Int)(v:Value)(s:List Int)(w:World)(h:Sl w v s)(hl:s.length=16)(hn:Lim 67108864 nl) :
  Calls prog 189 #[.agg (Ah nl),v] w fun e w'=>∃ v',e=.returned v'∧Sl w' v' (leB 16 (val nl+leN s))∧Bw w w':=by
 obtain⟨⟨a,cap,rfl,hc,hn0,h1⟩,hla,hba⟩:=h;rcases h1 with rfl|⟨B,off,rfl,hB,hcell⟩
 ·simp at hl
 have HC:Hid (∀ i,i<16→w.cell? ⟨B,off+i,none⟩=some (.int .u8 (s.getD i 0))):=fun i hi=>hcell i (by omega);have HBY:Hid (∀ x∈s,0≤x∧x<256):=hba;have HS16:Hid (s.length=16):=hl;rw[hl]at hc ⊢
 clear hcell hba hn0 hla;obtain⟨n0,n1,n2,n3,n4,rfl,_⟩:=hn.split;obtain⟨V,hV⟩:∃ V,val [n0,n1,n2,n3,n4]=V:=⟨_,rfl⟩;have HV:Hid (val [n0,n1,n2,n3,n4]=V):=hV;rw[hV];clear hV;obtain⟨i0,hi0,hz0,hz1,hz2⟩:=info_parts At;go_enter func189,ntmps189
 go_wp2_with (at_make;refine wpList_make_row _ rfl _ _ 25 rfl 5 i0 (.int .u8 0) underlying25 hi0 hz0 hz1 rfl _ _ 16 rfl rfl (by rw[hz2];omega) (by omega) ?_)
 clear hi0 hz0 hz1 hz2
 go_loopw [6,11] (fun cv i wr=>∃ (k:Nat),k≤16∧i=.int .i64 k∧cv=.int .i64 (He (fun j=>AE V j+s.getD j 0) k)∧wr.heap[w.heap.size]?=some (.cells (Ah [n0,n1,n2,n3,n4]) 271 (0,0))∧wr.heap[w.heap.size+1]?=some (.cells (byA (Ih (V+leN s) k)) 5 (0,0))∧Bw w wr) (fun _ i _=>16-(intOf i).toNat)
 case atStart =>
  refine⟨0,by omega,rfl,by rw[Mm],?_,?_,?_⟩
  ·exact heap_alloc2_old _ _ _
  ·have e:madeCells #[Value.int .u8 0] 16=byA (Ih (V+leN s) 0):=by rw[UI];kernel_rfl
   rw[e];exact heap_alloc2_new _ _ _
  ·exact((Below.refl _ _).alloc (Nat.le_refl _) _).alloc (by simp) _
 case round =>
  obtain⟨k,hk,rfl,rfl,hr,ht,hb⟩:=hrel;by_cases hk16:k<16
  ·have hki:(k:Int)<16:=by omega
   have kn0:=(cell_of_row _ _ 0 _ _ _ hr).trans (Aq _ 0 (by simp));have kn1:=(cell_of_row _ _ 1 _ _ _ hr).trans (Aq _ 1 (by simp));have kn2:=(cell_of_row _ _ 2 _ _ _ hr).trans (Aq _ 2 (by simp));have kn3:=(cell_of_row _ _ 3 _ _ _ hr).trans (Aq _ 3 (by simp));have kn4:=(cell_of_row _ _ 4 _ _ _ hr).trans (Aq _ 4 (by simp));simp only[List.getD_cons_zero,List.getD_cons_succ]at kn0 kn1 kn2 kn3 kn4;have hzr:w.heap.size+1<wr.heap.size:=(Array.getElem?_eq_some_iff.1 ht).1;have hBr:B<wr.heap.size:=by omega
   have ch:=(hb.cell (p:=⟨B,off+k,none⟩) hB).trans (HC.out k hk16);have hby:∀ j,0≤AE V j+s.getD j 0∧AE V j+s.getD j 0<1000:=fun j=>by
    have b1:=Fu V j;have b2:=Ak HBY.out j;omega
   have hcr:=Qh (fun j=>AE V j+s.getD j 0) hby k;have HCS:Hid (He (fun j=>AE V j+s.getD j 0) (k+1)=(He (fun j=>AE V j+s.getD j 0) k+(AE V k+s.getD k 0))/256):=Ml _ k;have HCB:Hid ((He (fun j=>AE V j+s.getD j 0) k+(AE V k+s.getD k 0))%256=AE (V+leN s) k):=Vu V s k hk16 (by rw[HS16.out];omega);have b1:=Fu V k;have b2:=Ak HBY.out k;have hat:=Qg [n0,n1,n2,n3,n4] k;rw[HV.out]at hat
   have HAT:Hid (∀ W,Calls prog 201 #[.agg (Ah [n0,n1,n2,n3,n4]),.int .i64 k] W fun e w'=>e=.returned (.int .u8 (AE V k))∧Bw W w'):=fun W=>hat W hn hk16;have HT:Hid _:=ht;have HR:Hid _:=hr;have HB:Hid _:=hb;clear hat hby ht hr hb;have htl:=PM (V+leN s) k;have HTS:Hid ((Ih (V+leN s) k).set k (AE (V+leN s) k)=Ih (V+leN s) (k+1)):=UH _ k hk16;generalize He (fun j=>AE V j+s.getD j 0) k=cy at HCS HCB hcr;generalize AE V k=x at HCS HCB b1 HAT;generalize s.getD k 0=y at HCS HCB b2 ch;obtain⟨x1,x2⟩:=b1;obtain⟨y1,y2⟩:=b2;obtain⟨z1,z2⟩:=hcr;go_wp2_with fail
   apply LX (fun W=>Bw wr W)
   ·intro K2 HK2
    go_region_with (go_at_call 201;refine(HAT.out _).mono ?_;rintro e w2 ⟨rfl,hb2⟩;have ch2:=(hb2.cell (p:=⟨B,off+k,none⟩) hBr).trans ch)
    all_goals exact HK2.out _ ((Below.refl _ _).drew.trans hb2)
   intro W hW;have ht:=(hW.block _ hzr).trans HT.out;have hr:=(hW.block _ (by omega)).trans HR.out;have ct:=(cell_of_row _ _ k _ _ _ ht).trans (Hd _ k (by omega));have ft:=frozen_of_row _ _ k _ _ ht;have hB2:Bw w W:=HB.out.trans (hW.mono HB.out.size);clear kn0 kn1 kn2 kn3 kn4 ch;generalize (Ih (V+leN s) k).getD k 0=c0 at ct;go_wp2
   go_roundw
   case rel =>
    refine⟨k+1,by omega,by go_num,?_,?_,?_,?_⟩
    ·rw[HCS.out]
    ·exact(heap_setCell_other _ _ _ _ (by simp)).trans hr
    ·have h1:=FU ht k (AE (V+leN s) k);rw[HTS.out,← HCB.out]at h1
     exact h1
    ·exact hB2.setCell (p:=⟨w.heap.size+1,k,none⟩) (by simp) _
   case measure=>simp[intOf];omega
  ·have hki:¬ (k:Int)<16:=by omega
   have HK:Hid (k=16):=by unfold Hid;omega
   go_wp2
   go_ret;have hK:=HK.out;subst hK;rw[XZ]at ht
   exact⟨_,rfl,Sl.rowOf ht (CU _ _) (by rw[CU];omega) (Hs _ _),hb⟩
def UF(key data:List Int):List Int:=leB 16 (bX (leN (Dm (key.take 16))) data+leN (key.drop 16))
theorem PK(key data:List Int):(UF key data).length=16:=CU _ _
theorem UG(key data:List Int):∀ x∈UF key data,0≤x∧x<256:=Hs _ _
theorem Sl.aShape{w:World}{v:Value}{l:List Int}(h:Sl w v l):∃ a c,v=.slice a l.length c:=by
 obtain⟨⟨a,cap,e,_⟩,_⟩:=h;exact⟨a,cap,e⟩
theorem eC(vk vd:Value)(key data:List Int)(w:World)(hk:Sl w vk key)(hd:Sl w vd data)(lk:key.length=32)(ld:data.length≤4000) :
  Calls prog 178 #[vk,vd] w fun e w'=>∃ v',e=.returned (.tuple #[v',.int .i64 0])∧Sl w' v' (UF key data)∧Bw w w':=by
 obtain⟨ak,ck,rfl⟩:=hk.aShape;obtain⟨ad,cd,rfl⟩:=hd.aShape;rw[lk]at hk ⊢
 obtain⟨a1,c1,hc1',s1⟩:=hk.upTo 16 (by omega);obtain⟨a2,c2,hc2',s2⟩:=hk.from 16 (by omega);have hc1:∀ W,(Instr.slice 25 (.slice ak 32 ck) none (some (.int .i64 16)) none).run prog W=.ok (.slice a1 16 c1) W:=hc1';have hc2:∀ W,(Instr.slice 25 (.slice ak 32 ck) (some (.int .i64 16)) none none).run prog W=.ok (.slice a2 16 c2) W:=hc2';clear hc1' hc2';have lt:(key.take 16).length=16:=by rw[List.length_take];omega
 have lr:(key.drop 16).length=16:=by rw[List.length_drop];omega
 have ldi:¬ (4000:Int)<(data.length:Int):=by omega
 have HT:Hid (UF key data=leB 16 (bX (leN (Dm (key.take 16))) data+leN (key.drop 16))):=rfl;generalize key.take 16=K1 at s1 lt HT;generalize key.drop 16=K2 at s2 lr HT;clear hk lk;have hdl:Hid (data.length≤4000):=ld;go_enter func178,ntmps178
 go_wp2_with fail
 go_region_with (first
  | (go_at_call 191;refine(QA _ K1 _ (s1.below ((Below.refl _ _).drew)) lt).mono ?_;rintro e w2 ⟨r1,rfl,l1,v1,hb2⟩)
  | (go_at_call 190;refine(Ns r1 (leN (Dm K1)) _ data _ (hd.below ((Below.refl _ _).drew.trans hb2)) hdl.out l1 v1).mono ?_;rintro e w3 ⟨n1,rfl,l3,v3,hb3⟩)
  | (go_at_call 189;refine(NZ n1 _ K2 _ (s2.below (((Below.refl _ _).drew.trans hb2).trans (hb3.mono hb2.size))) lr l3).mono ?_;rintro e w4 ⟨v4,rfl,s4,hb4⟩))
 all_goals
  go_wp2
  go_ret2
  refine⟨v4,rfl,?_,?_⟩
  ·rw[HT.out,← v3];exact s4
  ·have b3:Bw w w3:=((Below.refl _ _).drew.trans hb2).trans (hb3.mono hb2.size);exact b3.trans (hb4.mono b3.size)
def gap(n:Nat):Nat:=(16-n%16)%16
def DM(l:List Int):List Int:=l++List.replicate (gap l.length) 0
theorem DV(l:List Int):(DM l).length=l.length+gap l.length:=by rw[DM,List.length_append,List.length_replicate]
theorem GE(n:Nat):gap n<16:=by unfold gap;omega
theorem Ss(n:Nat):(n+gap n)%16=0:=by unfold gap;omega
theorem TB(n j:Nat)(h:j<gap n):¬ (n+j)%16=0:=by unfold gap at h;omega
theorem Zc(n m:Nat)(h:n%16=0):gap (n+m)=gap m:=by unfold gap;omega
theorem MH{l:List Int}(h:∀ x∈l,0≤x∧x<256):∀ x∈DM l,0≤x∧x<256:=by
 intro x hx;rcases List.mem_append.1 hx with h1|h1
 ·exact h x h1
 ·rw[(List.mem_replicate.1 h1).2];omega
theorem Xk(a s:List Int):DM (DM a++s)=DM a++DM s:=by
 have h:(DM a).length%16=0:=by rw[DV];exact Ss _
 rw[DM,List.length_append,Zc _ _ h,List.append_assoc];rfl
theorem WH(k:Nat)(v:Int):leB (k+1) v=leB k v++[AE v k]:=by
 simp[leB,List.range_succ]
def F5(a s:List Int):List Int:=DM a++DM s++leB 8 (a.length:Int)++leB 8 (s.length:Int)
theorem Hr(a s:List Int):(F5 a s).length=a.length+gap a.length+(s.length+gap s.length)+8+8:=by
 simp only[F5,List.length_append,DV,CU]
theorem QQ{a s:List Int}(ha:∀ x∈a,0≤x∧x<256)(hs:∀ x∈s,0≤x∧x<256):∀ x∈F5 a s,0≤x∧x<256:=by
 intro x hx;rcases List.mem_append.1 hx with hx|hx
 ·rcases List.mem_append.1 hx with hx|hx
  ·rcases List.mem_append.1 hx with hx|hx
   ·exact MH ha x hx
   ·exact MH hs x hx
  ·exact Hs _ _ x hx
 ·exact Hs _ _ x hx
def DI(key nonce a s:List Int):List Int:=UF ((Cf (BB key (BitVec.ofNat 32 0) nonce)).take 32) (F5 a s)
theorem If(key nonce a s:List Int):(DI key nonce a s).length=16:=PK _ _
theorem Li(key nonce a s:List Int):∀ x∈DI key nonce a s,0≤x∧x<256:=UG _ _
def DX(key nonce p:List Int):List Int:=OY (BB key (BitVec.ofNat 32 1) nonce) p
theorem EX(key nonce p:List Int):(DX key nonce p).length=p.length:=OZ _ _
def Jp(key nonce a p:List Int):List Int:=DX key nonce p++DI key nonce a (DX key nonce p)
theorem Ib(key nonce a p:List Int):(Jp key nonce a p).length=p.length+16:=by
 rw[Jp,List.length_append,EX,If]
theorem Jq(v:Value)(l:List Int)(B:Nat)(w:World)(ho:w.ownsRow B 5 1 v l.length (l.map (Value.int .u8)))(hB:B≤w.heap.size)(hl:l.length≤100000) :
  Calls prog 192 #[v] w fun e w'=>∃ v',e=.returned v'∧w'.ownsRow B 5 1 v' (DM l).length ((DM l).map (Value.int .u8))∧Below B w w':=by
 have HF:Hid (DM l=l++List.replicate (gap l.length) 0):=rfl;have hg:=GE l.length;have HS:Hid (∀ j,j<gap l.length→¬ (l.length+j)%16=0):=fun j hj=>TB _ _ hj;have HE:Hid ((l.length+gap l.length)%16=0):=Ss _;obtain⟨a0,c0,rfl⟩:=DU ho;generalize gap l.length=G at HF hg HS HE;go_enter func192,ntmps192
 go_wp2_with fail
 go_loopw [0] (fun v wr=>∃ (j:Nat) (a:Option Addr) (cap:Nat),j≤G∧v=.slice a (l.length+j) cap∧wr.ownsRow B 5 1 v (l++List.replicate j 0).length ((l++List.replicate j 0).map (Value.int .u8))∧Below B w wr) (fun v _=>l.length+G-WL v)
 case atStart=>exact⟨0,a0,c0,by omega,rfl,by simpa using ho,Below.refl _ _⟩
 case round =>
  clear ho;obtain⟨j,a,cap,hj,rfl,hown,hb⟩:=hrel;have hlt:=hown.lt;by_cases hjn:j<G
  ·have h1:=HS.out j hjn;have h2:¬ ((l.length:Int)+j)%16=0:=by omega
   go_wp2_with (at_builtin;refine Aa _ rfl _ _ 25 rfl B 5 underlying25 At _ _ rfl rfl (l++List.replicate j 0) [0] (hown.alloc _) (Sl.one _ _ _ rfl (by omega)) (by simp;omega) (by have:=hb.size;simp;omega) ?_)
   intro v2 w2 ho2 hg2;have ho2':w2.ownsRow B 5 1 v2 (l++List.replicate (j+1) 0).length ((l++List.replicate (j+1) 0).map (Value.int .u8)):=by rw[← Lc];simpa using ho2
   have hb2:Below B w w2:=(hb.alloc (Nat.le_trans hB hb.size) _).grown hg2 (by have:=hb.size;simp;omega) (fun k hk=>(hlt k hk).1);obtain⟨a2,c2,hv2⟩:=DU ho2';rw[List.length_append,List.length_replicate]at hv2
   subst hv2;clear ho2 hg2 hown hlt hb h1 h2;go_wp2
   go_roundw
   case rel=>exact⟨j+1,a2,c2,by omega,rfl,ho2',hb2⟩
   case measure=>simp[WL];omega
  ·have HJ:Hid (G=j):=by unfold Hid;omega
   have h0:=HE.out;have h1:((l.length:Int)+j)%16=0:=by have:=HJ.out;omega
   have h2:(((l.length:Int)+j)%16 != 0)=false:=by simp;omega
   clear h0;go_wp2
   go_ret;refine⟨_,rfl,?_,hb⟩;rw[HF.out,HJ.out];exact hown
theorem FQ(v:Value)(l:List Int)(n:Nat)(B:Nat)(w:World)(ho:w.ownsRow B 5 1 v l.length (l.map (Value.int .u8)))(hB:B≤w.heap.size)(hl:l.length≤100000)(hn:n≤100000) :
  Calls prog 193 #[v,.int .i64 n] w fun e w'=>∃ v',e=.returned v'∧w'.ownsRow B 5 1 v' (l++leB 8 (n:Int)).length ((l++leB 8 (n:Int)).map (Value.int .u8))∧Below B w w':=by
 go_enter func193,ntmps193
 go_wp2_with fail
 go_loopw [0,1,5] (fun v s i wr=>∃ k:Nat,k≤8∧i=.int .i64 k∧s=.int .i64 ((n:Int)/256^k)∧wr.ownsRow B 5 1 v (l++leB k (n:Int)).length ((l++leB k (n:Int)).map (Value.int .u8))∧Below B w wr) (fun _ _ i _=>8-(intOf i).toNat)
 case atStart=>exact⟨0,by omega,rfl,by simp,by simpa[leB]using ho,Below.refl _ _⟩
 case round =>
  clear ho;obtain⟨k,hk,rfl,rfl,hown,hb⟩:=hrel;have hlt:=hown.lt;by_cases hk8:k<8
  ·have hki:(k:Int)<8:=by omega
   obtain⟨x,hx⟩:∃ x:Int,(n:Int)/256^k=x:=⟨_,rfl⟩;have hp:(0:Int)<256^k:=KR k;have hx0:0≤x:=by rw[← hx];exact Int.ediv_nonneg (by omega) (by omega)
   have hx1:x≤100000:=by rw[← hx];have:=Int.ediv_le_self (256^k) (show(0:Int)≤n by omega);omega
   have HX:Hid ((n:Int)/256^(k+1)=x/256):=by unfold Hid;rw[Int.pow_succ,← Int.ediv_ediv_of_nonneg (Int.le_of_lt hp),hx]
   have HBY:Hid (x%256=AE n k):=by unfold Hid AE;rw[hx]
   have hlk:=CU k (n:Int);have HS:Hid (leB (k+1) (n:Int)=leB k n++[AE n k]):=WH k _;rw[hx];clear hx hp;generalize leB k (n:Int)=pre at hown HS hlk;generalize AE (n:Int) k=y at HBY HS;go_wp2_with (at_builtin;refine Aa _ rfl _ _ 25 rfl B 5 underlying25 At _ _ rfl rfl (l++pre) [y] (hown.alloc _) (Sl.one2 _ _ _ _ rfl ?_ ?_) (by simp;omega) (by have:=hb.size;simp;omega) ?_)
   ·have:=HBY.out;omega
   ·have:=HBY.out;omega
   intro v2 w2 ho2 hg2;have ho2':w2.ownsRow B 5 1 v2 (l++(pre++[y])).length ((l++(pre++[y])).map (Value.int .u8)):=by rw[← List.append_assoc];simpa[hlk]using ho2
   have hb2:Below B w w2:=(hb.alloc (Nat.le_trans hB hb.size) _).grown hg2 (by have:=hb.size;simp;omega) (fun k hk=>(hlt k hk).1);clear ho2 hg2 hown hlt hb;go_wp2
   go_roundw
   case rel=>exact⟨k+1,by omega,by go_num,by rw[HX.out],by rw[HS.out];exact ho2',hb2⟩
   case measure=>simp[intOf];omega
  ·obtain rfl:k=8:=by omega
   go_wp2
   go_ret;exact⟨_,rfl,hown,hb⟩
theorem WE(va vs:Value)(a s:List Int)(w:World)(ha:Sl w va a)(hs:Sl w vs s)(la:a.length≤10000)(ls:s.length≤10000) :
  Calls prog 179 #[va,vs] w fun e w'=>∃ v',e=.returned v'∧Sl w' v' (F5 a s)∧Bw w w':=by
 have HL:Hid (F5 a s=DM (DM a++s)++leB 8 (a.length:Int)++leB 8 (s.length:Int)):=by unfold Hid;rw[Xk];rfl
 have HY:Hid (∀ x∈F5 a s,0≤x∧x<256):=QQ ha.byte hs.byte;have HN:Hid ((F5 a s).length≤30000):=by unfold Hid;rw[Hr];have:=GE a.length;have:=GE s.length;omega
 have hpa:(DM a).length≤11000:=by rw[DV];have:=GE a.length;omega
 have hpp:(DM (DM a++s)).length≤30000:=by rw[DV,List.length_append];have:=GE ((DM a).length+s.length);omega
 obtain⟨aa,ca,rfl⟩:=ha.shape;obtain⟨as0,cs,rfl⟩:=hs.shape;generalize hn:a.length=n at la HL ha ⊢;generalize hm:s.length=m at ls HL hs ⊢;have HNA:Hid (a.length=n):=hn;have HMS:Hid (s.length=m):=hm;clear hn hm;go_enter func179,ntmps179
 go_wp2_with (at_builtin;refine Aa _ rfl _ _ 25 rfl w.heap.size 5 underlying25 At _ _ rfl rfl [] a (World.ownsRow_nil _ _ _ _) ha (by have:=HNA.out;simp;omega) (Nat.le_refl _) ?_)
 intro v1 w1 ho1 hg1;have b1:Bw w w1:=(Below.refl _ _).grown hg1 (Nat.le_refl _) (by simp[Value.ownBlock]);replace ho1:w1.ownsRow w.heap.size 5 1 v1 a.length (a.map (Value.int .u8)):=by simpa using ho1
 clear hg1;go_wp2_with fail
 refine(Jq v1 a w.heap.size w1 ho1 b1.size (by have:=HNA.out;omega)).mono ?_;rintro e w2 ⟨v2,rfl,ho2,b2⟩;replace b2:=b1.trans b2;clear ho1 b1;have hs2:=hs.below b2;have hlt:=ho2.lt;generalize DM a=A at HL hpa hpp ho2;go_wp2_with (at_builtin;refine Aa _ rfl _ _ 25 rfl w.heap.size 5 underlying25 At _ _ rfl rfl A s ho2 hs2 (by have:=HMS.out;omega) b2.size ?_)
 intro v3 w3 ho3 hg3;have b3:Bw w w3:=b2.grown hg3 b2.size (fun k hk=>(hlt k hk).1);clear hg3 hlt ho2 b2 hs2;replace ho3:w3.ownsRow w.heap.size 5 1 v3 (A++s).length ((A++s).map (Value.int .u8)):=by simpa using ho3
 have hAs:(A++s).length≤21000:=by rw[List.length_append];have:=HMS.out;omega
 generalize A++s=AS at HL hpp ho3 hAs;go_wp2_with fail
 refine(Jq v3 AS w.heap.size w3 ho3 b3.size (by omega)).mono ?_;rintro e w4 ⟨v4,rfl,ho4,b4⟩;replace b4:=b3.trans b4;clear ho3 b3;generalize DM AS=X at HL hpp ho4;go_wp2_with fail
 refine(FQ v4 X n w.heap.size w4 ho4 b4.size (by omega) (by omega)).mono ?_;rintro e w5 ⟨v5,rfl,ho5,b5⟩;replace b5:=b4.trans b5;have hX5:(X++leB 8 (n:Int)).length≤30008:=by rw[List.length_append,CU];omega
 clear ho4 b4;generalize X++leB 8 (n:Int)=X5 at HL hX5 ho5;go_wp2_with fail
 refine(FQ v5 X5 m w.heap.size w5 ho5 b5.size (by omega) (by omega)).mono ?_;rintro e w6 ⟨v6,rfl,ho6,b6⟩;replace b6:=b5.trans b6;rw[← HL.out]at ho6
 go_wp2
 go_ret;exact⟨_,rfl,Sl.ofOwns ho6 (by have:=HN.out;omega) HY.out,b6⟩
def Gl(key nonce a:List Int):Bool:=decide (key.length=32)&&decide (nonce.length=12)&&decide (a.length≤256)
theorem Ga(vk vn va:Value)(key nonce a:List Int)(w:World)(hk:Sl w vk key)(hn:Sl w vn nonce)(ha:Sl w va a) :
  Calls prog 150 #[vk,vn,va] w fun e w'=>e=.returned (.bool (Gl key nonce a))∧w'=w:=by
 have h1:=hk.len;have h2:=hn.len;have h3:=ha.len;obtain⟨ak,ck,rfl⟩:=hk.shape;obtain⟨an,cn,rfl⟩:=hn.shape;obtain⟨aa,ca,rfl⟩:=ha.shape;unfold Gl;generalize key.length=n1 at h1 hk ⊢;generalize nonce.length=n2 at h2 hn ⊢;generalize a.length=n3 at h3 ha ⊢;clear hk hn ha;by_cases c1:(n1:Int)=32
 ·by_cases c2:(n2:Int)=12
  ·by_cases c3:(n3:Int)≤256
   ·go_enter func150,ntmps150
    go_wp2
    go_ret;refine⟨Ae ?_,rfl⟩;simp;omega
   ·go_enter func150,ntmps150
    go_wp2
    go_ret;refine⟨Ae ?_,rfl⟩;simp;omega
  ·go_enter func150,ntmps150
   go_wp2
   go_ret;refine⟨Ae ?_,rfl⟩;simp;omega
 ·go_enter func150,ntmps150
  go_wp2
  go_ret;refine⟨Ae ?_,rfl⟩;simp;omega
theorem Vq(vk vn:Value)(key nonce:List Int)(x:Int)(c:Nat)(hx:x=(c:Int))(w:World)(hk:Sl w vk key)(hn:Sl w vn nonce)(lk:key.length=32)(ln:nonce.length=12)(hc:c≤1073741824)(ht:Cr w) :
  Calls prog 177 #[vk,.int .i64 x,vn] w fun e w'=>∃ v',e=.returned (.tuple #[v',.int .i64 0])∧Got w w' v' (Cf (BB key (BitVec.ofNat 32 c) nonce)):=by
 subst hx;exact Vr vk vn key nonce c w hk hn lk ln hc ht
theorem NU(vk vn va vs:Value)(key nonce a s:List Int)(w:World)(hk:Sl w vk key)(hn:Sl w vn nonce)(ha:Sl w va a)(hs:Sl w vs s)(lk:key.length=32)(ln:nonce.length=12)(la:a.length≤256)(ls:s.length≤2000)(ht:Cr w) :
  Calls prog 152 #[vk,vn,va,vs] w fun e w'=>∃ v',e=.returned (.tuple #[v',.int .i64 0])∧Sl w' v' (DI key nonce a s)∧Bw w w':=by
 have HT:Hid (DI key nonce a s=UF ((Cf (BB key (BitVec.ofNat 32 0) nonce)).take 32) (F5 a s)):=rfl;have hll:(F5 a s).length≤4000:=by rw[Hr];have:=GE a.length;have:=GE s.length;omega
 go_enter func152,ntmps152
 go_wp2_with fail
 refine(Vq vk vn key nonce 0 0 rfl w hk hn lk ln (by omega) ht).mono ?_;rintro e w1 ⟨vb,rfl,g1⟩;have sb:=g1.sl;have b1:=g1.bel;clear g1;have hbl:=Ee (BB key (BitVec.ofNat 32 0) nonce);generalize Cf (BB key (BitVec.ofNat 32 0) nonce)=bs at HT sb hbl;obtain⟨ab,cb,rfl⟩:=sb.shape;rw[hbl]at sb ⊢
 obtain⟨a1,c1,hc1',s1⟩:=sb.upTo 32 (by omega);have hc1:∀ W,(Instr.slice 25 (.slice ab 64 cb) none (some (.int .i64 32)) none).run prog W=.ok (.slice a1 32 c1) W:=hc1';have lt:(bs.take 32).length=32:=by rw[List.length_take];omega
 generalize bs.take 32=K at HT s1 lt;have ha1:=ha.below b1;have hs1:=hs.below b1;clear hc1' sb hbl;have la2:a.length≤10000:=by omega
 have ls2:s.length≤10000:=by omega
 have HLA:Hid (a.length≤10000):=la2;have HLS:Hid (s.length≤10000):=ls2;have HLL:Hid ((F5 a s).length≤4000):=hll;clear la ls la2 ls2 hll hk hn ha hs lk ln;go_wp2_with fail
 go_region_with (first
  | (go_at_call 179;refine(WE _ _ a s _ (ha1.below ((Below.refl _ _).drew)) (hs1.below ((Below.refl _ _).drew)) HLA.out HLS.out).mono ?_;rintro e w2 ⟨v2,rfl,s2,hb2⟩)
  | (go_at_call 178;refine(eC _ _ K _ _ (s1.below ((Below.refl _ _).drew.trans hb2)) s2 lt HLL.out).mono ?_;rintro e w3 ⟨v3,rfl,s3,hb3⟩))
 all_goals
  go_wp2
  go_ret2
  refine⟨v3,rfl,?_,?_⟩
  ·rw[HT.out];exact s3
  ·have b2:Bw w w2:=b1.trans (((Below.refl _ _).drew.trans hb2).mono b1.size);exact b2.trans (hb3.mono b2.size)
theorem OX(vk vn vd:Value)(key nonce d:List Int)(w:World)(hk:Sl w vk key)(hn:Sl w vn nonce)(hd:Sl w vd d)(lk:key.length=32)(ln:nonce.length=12)(ld:d.length≤2000)(ht:Cr w) :
  Calls prog 151 #[vk,.int .i64 1,vn,vd] w fun e w'=>∃ v',e=.returned (.tuple #[v',.int .i64 0])∧w'.ownsRow w.heap.size 5 1 v' (DX key nonce d).length ((DX key nonce d).map (Value.int .u8))∧Bw w w' :=
 Zx vk vn vd key nonce d 1 w hk hn hd lk ln (by omega) ld ht
theorem EQ{w w':World}{base e:Nat}{v:Value}{n:Nat}{xs:List Value}(h:w.ownsRow base e 1 v n xs)(hb:Bw w w'):w'.ownsRow base e 1 v n xs :=
 E2 h fun k hk=>hb.block k (h.lt k hk).2
theorem I0{key nonce a:List Int}(h:Gl key nonce a=true):key.length=32∧nonce.length=12∧a.length≤256:=by
 unfold Gl at h;simp at h;omega
theorem az(vk vn va vp:Value)(key nonce a p:List Int)(w:World)(hk:Sl w vk key)(hn:Sl w vn nonce)(ha:Sl w va a)(hp:Sl w vp p)(hf:Gl key nonce a=true)(lp:p.length≤2000)(ht:Cr w) :
  Calls prog 119 #[vk,vn,va,vp] w fun e w'=>∃ v',e=.returned (.tuple #[v',.int .i64 0])∧Sl w' v' (Jp key nonce a p)∧Bw w w':=by
 obtain⟨lk,ln,la⟩:=I0 hf;have hpos:=ht.pos;have HS:Hid (Jp key nonce a p=DX key nonce p++DI key nonce a (DX key nonce p)):=rfl;have hxl:=EX key nonce p;have hxb:∀ x∈DX key nonce p,0≤x∧x<256:=I6 _ hp.byte;have hpl:¬ (2000:Int)<(p.length:Int):=by omega
 obtain⟨ap,cp,rfl⟩:=hp.shape;go_enter func119,ntmps119
 go_wp2_with fail
 refine(Ga vk vn va key nonce a w hk hn ha).mono ?_;rintro e w0 ⟨rfl,rfl⟩;rw[hf];go_wp2_with fail
 refine(OX vk vn _ key nonce p w0 hk hn hp lk ln lp ht).mono ?_;rintro e w1 ⟨vx,rfl,o1,b1⟩;generalize DX key nonce p=X at HS hxl hxb o1;have s1:Sl w1 vx X:=Sl.ofOwns o1 (by omega) hxb;go_wp2_with fail
 refine(NU vk vn va vx key nonce a X w1 (hk.below b1) (hn.below b1) (ha.below b1) s1 lk ln la (by omega) (ht.below hpos b1)).mono ?_;rintro e w2 ⟨vt,rfl,s2,b2⟩;have o2:=EQ o1 b2;have hlt:=o2.lt;have hB2:Bw w0 w2:=b1.trans (b2.mono b1.size);have htl:=If key nonce a X;have htb:=Li key nonce a X;generalize DI key nonce a X=T at HS s2 htl htb;have hX2:X.length≤2000:=by omega
 clear hxl o1 s1 b1 b2 hk hn ha hp;go_wp2_with (at_builtin;refine Aa _ rfl _ _ 25 rfl w0.heap.size 5 underlying25 At _ _ rfl rfl X T o2 s2 (by omega) hB2.size ?_)
 intro v3 w3 ho3 hg3;replace ho3:w3.ownsRow w0.heap.size 5 1 v3 (X++T).length ((X++T).map (Value.int .u8)):=by simpa[htl]using ho3
 have b3:Bw w0 w3:=hB2.grown hg3 hB2.size (fun k hk=>(hlt k hk).1);go_wp2
 go_ret2
 refine⟨v3,rfl,?_,b3⟩;rw[HS.out];refine Sl.ofOwns ho3 (by rw[List.length_append];omega) ?_;intro x hx;rcases List.mem_append.1 hx with h|h
 ·exact hxb x h
 ·exact htb x h
def DC(key nonce a d:List Int):Int :=
 if Gl key nonce a=true∧d.length≤2016 then(if d.length<16 then 13 else if DI key nonce a (d.take (d.length-16))=d.drop (d.length-16)then 0 else 6)else 1
def Pk(key nonce a d:List Int):List Int:=if DC key nonce a d=0 then DX key nonce (d.take (d.length-16))else[]
theorem ZI(vk vn va vd:Value)(key nonce a d:List Int)(w:World)(hk:Sl w vk key)(hn:Sl w vn nonce)(ha:Sl w va a)(hd:Sl w vd d)(hno:Gl key nonce a=false∨2016<d.length) :
  Calls prog 197 #[vk,vn,va,vd] w fun e w'=>e=.returned (.tuple #[.slice none 0 0,.int .i64 1])∧w'=w:=by
 have h1:=hd.len;obtain⟨ap,cp,rfl⟩:=hd.shape;by_cases hf:Gl key nonce a=true
 ·have hpl:(2016:Int)<(d.length:Int):=by
   rcases hno with h|h
   ·rw[hf]at h;cases h
   ·omega
  go_enter func197,ntmps197
  go_wp2_with fail
  refine(Ga vk vn va key nonce a w hk hn ha).mono ?_;rintro e w0 ⟨rfl,rfl⟩;rw[hf];go_wp2
  go_ret2
  exact⟨rfl,rfl⟩
 ·rw[Bool.not_eq_true]at hf
  go_enter func197,ntmps197
  go_wp2_with fail
  refine(Ga vk vn va key nonce a w hk hn ha).mono ?_;rintro e w0 ⟨rfl,rfl⟩;rw[hf];go_wp2
  go_ret2
  exact⟨rfl,rfl⟩
theorem Rm(vk vn va vd:Value)(key nonce a d:List Int)(w:World)(hk:Sl w vk key)(hn:Sl w vn nonce)(ha:Sl w va a)(hd:Sl w vd d)(hf:Gl key nonce a=true)(hs:d.length<16) :
  Calls prog 197 #[vk,vn,va,vd] w fun e w'=>e=.returned (.tuple #[.slice none 0 0,.int .i64 13])∧w'=w:=by
 obtain⟨ap,cp,rfl⟩:=hd.shape;have hpl:(d.length:Int)<16:=by omega
 go_enter func197,ntmps197
 go_wp2_with fail
 refine(Ga vk vn va key nonce a w hk hn ha).mono ?_;rintro e w0 ⟨rfl,rfl⟩;rw[hf];go_wp2
 go_ret2
 exact⟨rfl,rfl⟩
theorem Xf(vk vn va vd:Value)(key nonce a d:List Int)(w:World)(hk:Sl w vk key)(hn:Sl w vn nonce)(ha:Sl w va a)(hd:Sl w vd d)(hf:Gl key nonce a=true)(m:Nat)(hm:d.length=m+16)(hl:m≤2000)(ht:Cr w)(hq:DI key nonce a (d.take m)≠d.drop m) :
  Calls prog 197 #[vk,vn,va,vd] w fun e w'=>e=.returned (.tuple #[.slice none 0 0,.int .i64 6])∧Bw w w':=by
 obtain⟨lk,ln,la⟩:=I0 hf;have hpos:=ht.pos;have hyd:=hd.byte;obtain⟨ad,cd,rfl⟩:=hd.shape;rw[hm]at hd ⊢
 obtain⟨a1,c1,hc1,s1⟩:=hd.upTo m (by omega);obtain⟨a2,c2,hc2,s2⟩:=hd.from m (by omega);rw[Nat.add_sub_cancel_left]at hc2 s2
 have l1:(d.take m).length=m:=by rw[List.length_take];omega
 have y1:∀ x∈d.take m,0≤x∧x<256:=fun x hx=>hyd x (List.mem_of_mem_take hx);have HQ:Hid (DI key nonce a (d.take m)≠d.drop m):=hq;clear hq;generalize d.take m=D at s1 l1 y1 HQ ⊢;generalize d.drop m=L at s2 HQ;have HL1:Hid (D.length=m):=l1;clear hd hm hyd l1;go_enter func197,ntmps197
 go_wp2_with fail
 refine(Ga vk vn va key nonce a w hk hn ha).mono ?_;rintro e w0 ⟨rfl,rfl⟩;rw[hf];go_wp2_with fail
 go_quiet (fail)
 have e1:Bw w0 (w0.drewN nq):=An (Below.refl _ _) nq;generalize w0.drewN nq=w1 at e1 ⊢;replace hk:=hk.below e1;replace hn:=hn.below e1;replace ha:=ha.below e1;replace s1:=s1.below e1;replace s2:=s2.below e1;replace ht:=ht.below hpos e1;clear hc1 hc2;go_wp2_with fail
 refine(NU vk vn va _ key nonce a D w1 hk hn ha s1 lk ln la (by have:=HL1.out;omega) ht).mono ?_;rintro e w2 ⟨vt,rfl,st,b2⟩;go_wp2_with fail
 refine(Ia vt _ (DI key nonce a D) L w2 st (s2.below b2)).mono ?_;rintro e w3 ⟨rfl,n3,rfl⟩;have e2:Bw w2 (w2.drewN n3):=An (Below.refl _ _) n3;have e3:Bw w0 (w2.drewN n3):=e1.trans ((b2.trans (e2.mono b2.size)).mono e1.size);rw[decide_eq_false HQ.out];go_wp2
 go_ret2
 exact⟨rfl,e3⟩
theorem ZJ(vk vn va vd:Value)(key nonce a d:List Int)(w:World)(hk:Sl w vk key)(hn:Sl w vn nonce)(ha:Sl w va a)(hd:Sl w vd d)(hf:Gl key nonce a=true)(m:Nat)(hm:d.length=m+16)(hl:m≤2000)(ht:Cr w)(hq:DI key nonce a (d.take m)=d.drop m) :
  Calls prog 197 #[vk,vn,va,vd] w fun e w'=>∃ v',e=.returned (.tuple #[v',.int .i64 0])∧Sl w' v' (DX key nonce (d.take m))∧Bw w w':=by
 obtain⟨lk,ln,la⟩:=I0 hf;have hpos:=ht.pos;have hyd:=hd.byte;obtain⟨ad,cd,rfl⟩:=hd.shape;rw[hm]at hd ⊢
 obtain⟨a1,c1,hc1,s1⟩:=hd.upTo m (by omega);obtain⟨a2,c2,hc2,s2⟩:=hd.from m (by omega);rw[Nat.add_sub_cancel_left]at hc2 s2
 have l1:(d.take m).length=m:=by rw[List.length_take];omega
 have y1:∀ x∈d.take m,0≤x∧x<256:=fun x hx=>hyd x (List.mem_of_mem_take hx);have HQ:Hid (DI key nonce a (d.take m)=d.drop m):=hq;clear hq;generalize d.take m=D at s1 l1 y1 HQ ⊢;generalize d.drop m=L at s2 HQ;have HL1:Hid (D.length=m):=l1;clear hd hm hyd l1;go_enter func197,ntmps197
 go_wp2_with fail
 refine(Ga vk vn va key nonce a w hk hn ha).mono ?_;rintro e w0 ⟨rfl,rfl⟩;rw[hf];go_wp2_with fail
 go_quiet (fail)
 have e1:Bw w0 (w0.drewN nq):=An (Below.refl _ _) nq;generalize w0.drewN nq=w1 at e1 ⊢;replace hk:=hk.below e1;replace hn:=hn.below e1;replace ha:=ha.below e1;replace s1:=s1.below e1;replace s2:=s2.below e1;replace ht:=ht.below hpos e1;clear hc1 hc2;go_wp2_with fail
 refine(NU vk vn va _ key nonce a D w1 hk hn ha s1 lk ln la (by have:=HL1.out;omega) ht).mono ?_;rintro e w2 ⟨vt,rfl,st,b2⟩;go_wp2_with fail
 refine(Ia vt _ (DI key nonce a D) L w2 st (s2.below b2)).mono ?_;rintro e w3 ⟨rfl,n3,rfl⟩;have e2:Bw w2 (w2.drewN n3):=An (Below.refl _ _) n3;have e3:Bw w0 (w2.drewN n3):=e1.trans ((b2.trans (e2.mono b2.size)).mono e1.size);rw[decide_eq_true HQ.out];have hB:Bw w1 (w2.drewN n3):=b2.trans (e2.mono b2.size);replace hk:=hk.below hB;replace hn:=hn.below hB;replace s1:=s1.below hB;replace ht:=ht.below (Nat.lt_of_lt_of_le hpos e1.size) hB;have hxl:=EX key nonce D;have hxb:∀ x∈DX key nonce D,0≤x∧x<256:=I6 _ y1;clear s2 st ha e2 b2;generalize w2.drewN n3=w3 at hk hn s1 ht e3 hB ⊢;go_wp2_with fail
 refine(OX vk vn _ key nonce D w3 hk hn s1 lk ln (by have:=HL1.out;omega) ht).mono ?_;rintro e w4 ⟨vx,rfl,o4,b4⟩;have s4:Sl w4 vx (DX key nonce D):=Sl.ofOwns o4 (by have:=HL1.out;omega) hxb;have e4:Bw w0 w4:=e3.trans (b4.mono e3.size);clear o4 hxb;go_wp2
 go_ret2
 exact⟨vx,rfl,s4,e4⟩
theorem Xe(vk vn va vd:Value)(key nonce a d:List Int)(w:World)(hk:Sl w vk key)(hn:Sl w vn nonce)(ha:Sl w va a)(hd:Sl w vd d)(ht:Cr w) :
  Calls prog 197 #[vk,vn,va,vd] w fun e w'=>∃ v',e=.returned (.tuple #[v',.int .i64 (DC key nonce a d)])∧Sl w' v' (Pk key nonce a d)∧Bw w w':=by
 unfold Pk;by_cases h:Gl key nonce a=true∧d.length≤2016
 ·by_cases h16:d.length<16
  ·have hE:DC key nonce a d=13:=by unfold DC;rw[if_pos h,if_pos h16]
   rw[hE,if_neg (by omega)];refine(Rm vk vn va vd key nonce a d w hk hn ha hd h.1 h16).mono ?_;rintro e w1 ⟨rfl,rfl⟩;exact⟨_,rfl,Sl.nil _ _,Below.refl _ _⟩
  ·by_cases hq:DI key nonce a (d.take (d.length-16))=d.drop (d.length-16)
   ·have hE:DC key nonce a d=0:=by unfold DC;rw[if_pos h,if_neg h16,if_pos hq]
    rw[hE,if_pos rfl];exact ZJ vk vn va vd key nonce a d w hk hn ha hd h.1 (d.length-16) (by omega) (by omega) ht hq
   ·have hE:DC key nonce a d=6:=by unfold DC;rw[if_pos h,if_neg h16,if_neg hq]
    rw[hE,if_neg (by omega)];refine(Xf vk vn va vd key nonce a d w hk hn ha hd h.1 (d.length-16) (by omega) (by omega) ht hq).mono ?_;rintro e w1 ⟨rfl,b⟩;exact⟨_,rfl,Sl.nil _ _,b⟩
 ·have hE:DC key nonce a d=1:=by unfold DC;rw[if_neg h]
  rw[hE,if_neg (by omega)];refine(ZI vk vn va vd key nonce a d w hk hn ha hd ?_).mono ?_
  ·by_cases hf:Gl key nonce a=true
   ·exact .inr (by have:¬ d.length≤2016:=fun hp=>h ⟨hf,hp⟩;omega)
   ·exact .inl (by simpa using hf)
  ·rintro e w1 ⟨rfl,rfl⟩;exact⟨_,rfl,Sl.nil _ _,Below.refl _ _⟩
theorem RD(key nonce:List Int){p:List Int}(hp:∀ x∈p,0≤x∧x<256):∀ x∈DX key nonce p,0≤x∧x<256:=I6 _ hp
theorem R9(key nonce a:List Int){p:List Int}(hp:∀ x∈p,0≤x∧x<256):∀ x∈Jp key nonce a p,0≤x∧x<256:=by
 intro x hx;rcases List.mem_append.1 hx with h|h
 ·exact RD key nonce hp x h
 ·exact Li _ _ _ _ x h
theorem YU{key nonce a:List Int}(lk:key.length=32)(ln:nonce.length=12)(la:a.length≤256):Gl key nonce a=true:=by
 unfold Gl;simp;omega
end
section
def JA(key:List Int)(n:Int)(p:List Int):List Int:=Ac n++Jp key (Bj (Ac n)) (Ac n) p
theorem FF(key:List Int)(n:Int)(p:List Int):(JA key n p).length=p.length+20:=by
 rw[JA,List.length_append,Ca,Ib];omega
theorem Uv(key:List Int)(n:Int){p:List Int}(hp:∀ x∈p,0≤x∧x<256):∀ x∈JA key n p,0≤x∧x<256:=by
 intro x hx;rcases List.mem_append.1 hx with h|h
 ·exact AO n x h
 ·exact R9 _ _ _ hp x h
def DG(key:List Int)(s t:Int)(l:List Bool)(p:List Int):Int:=if ¬ OkC key s t l then 5 else if 2000<p.length then 1 else if s=1073741824 then 8 else 0
def Cd(key:List Int)(s t:Int)(l:List Bool)(r:List Int):Int :=
 if ¬ OkC key s t l then 5 else if 2020<r.length then 1 else if r.length<20 then 13 else if 1073741824≤EO (r.take 4)then 2 else if GL t l (EO (r.take 4))=true then 7
 else DC key (Bj (r.take 4)) (r.take 4) (r.drop 4)
def Jt(key:List Int)(r:List Int):List Int:=Pk key (Bj (r.take 4)) (r.take 4) (r.drop 4)
end
end Go.Proofs.YtfhbkoflaekhpadGreatDoor
