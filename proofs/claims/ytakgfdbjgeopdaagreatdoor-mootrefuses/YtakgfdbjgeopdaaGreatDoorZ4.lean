/- Part 4 of the walk: what the functions of the program do, one by one. -/
import Derived.Laws.ResultCell
import Derived.Test.YtakgfdbjgeopdaaGreatDoorZ3
set_option maxRecDepth 100000
set_option maxHeartbeats 4000000
open Go.Proofs.Tryz
namespace Go.Proofs.YtakgfdbjgeopdaaGreatDoor
open Go.RowKit
theorem Zv(x:Int)(h0:0≤x)(h1:x<18446744073709551616):bits .and .u64 x 67108863=x%67108864:=by
 obtain⟨n,rfl⟩:=Int.eq_ofNat_of_zero_le h0;rw[show(67108863:Int)=((67108863:Nat):Int)from rfl,u64_and_nat _ _ (by omega) (by omega),show(67108863:Nat)=2^26-1 from rfl,Nat.and_two_pow_sub_one_eq_mod];omega
theorem Ci{l:List Int}(h:l.length=5):(prog.info? 273).map (·.size)=some (Ai l).size:=by rw[Al,h];kernel_rfl
theorem AO{B:Nat}{a w:World}(h:Below B a w){g:Nat}(hg:B≤g)(cs:Array Value):Below B a (w.setRow g cs) :=
 h.trans ⟨rfl,rfl,rfl,by simp,fun k hk=>setRow_other w g k cs (by omega)⟩
theorem EX{P:Program}{fn:Func}{p u:Tmp}{ty:TypeId}(h:fn.results=#[.cell p ty,.tmp u])(tmps:Array Value)(w:World)(g:Nat)(t:TypeId)(cs:Array Value)(fr:Nat × Nat)(d:TypeDesc)
  (hp:tmps.getD p undef=.pointer (some ⟨g,0,none⟩))(hg:w.heap[g]?=some (.cells cs t fr))
  (hu:P.underlying ty=some d)(hd:(match d with|.struct _|.array _ _=>true|_=>false)=true)(hi:(P.info? ty).map (·.size)=some cs.size){v:Value}(hv:tmps.getD u undef=v) :
  (results fn tmps).run P w=.ok (.tuple #[.agg cs,v]) w:=by
 have hp':tmps[p]?.getD undef=.pointer (some ⟨g,0,none⟩):=by simpa using hp
 rw[results_cell_tmp h,hv];simp[hp',asAddr,run_loadVar_row w g t ty cs fr d hg hu hd hi]
theorem Ap{P:Program}{ops:Array Oper}{Q:Exit→Act→World→Prop}{l:List Oper}{a:Act}{w:World}(h:wpList P ops Q l a w):wpList P ops Q l a w:=h
theorem NI(l:List Int)(w:World)(hl:Lim 9223372036854775808 l) :
  Calls prog 256 #[.agg (Ai l)] w fun e w'=>∃ m o,e=.returned (.tuple #[.agg (Ai m),.int .u64 o])∧Carr l m 5 o∧Below w.heap.size w w':=by
 have h5:=hl.1;have hsz:=Ci h5;go_enter func256,ntmps256
 go_wp2_with fail
 go_loopw [4,6] (fun o i wr=>∃ (k:Nat) (m:List Int) (ov:Int),k≤5∧i=.int .i64 k∧o=.int .u64 ov∧Carr l m k ov∧wr.heap[w.heap.size]?=some (.cells (Ai m) 273 (0,0))∧wr.heap[w.heap.size+1]?=some (.cells (Ai [0,0,0,0,0]) 273 (0,0))∧Below w.heap.size w wr) (fun _ i _=>5-(intOf i).toNat)
 case atStart=>
  refine⟨0,l,0,by omega,rfl,rfl,Carr.zero h5,?_,?_,?_⟩
  ·exact heap_alloc2_old _ _ _
  ·exact heap_alloc2_new _ _ _
  ·exact((Below.refl _ _).alloc (Nat.le_refl _) _).alloc (by simp) _
 case round =>
  obtain⟨k,m,ov,hk,rfl,rfl,hc,hn,hr,hb⟩:=hrel;by_cases hk5:k<5
  ·have hki:(k:Int)<5:=by omega
   have cn:=(cell_of_row wr _ k _ _ _ hn).trans (Ar m k (by rw[hc.len];omega));have fn:=frozen_of_row wr _ k _ _ hn;have hs:=hc.succ hl hk5;have o1:=hc.lo;have o2:=hc.hi;have e1:m.getD k 0=l.getD k 0:=hc.rest k (by omega);have b1:=hl.2 k;rw[← e1]at b1
   have HS:Hid (Carr l (m.set k ((m.getD k 0+ov)%67108864)) (k+1) ((m.getD k 0+ov)/67108864)):=hs;clear hs hc e1;generalize m.getD k 0=x at cn HS b1;obtain⟨b1,b2⟩:=b1;have ha:=Zv (x+ov) (by omega) (by omega);go_wp2
   go_roundw
   case rel =>
    refine⟨k+1,_,_,by omega,by go_num,rfl,HS.out,?_,?_,?_⟩
    ·have h1:=D8 (D8 hn k (x+ov)) k ((x+ov)%67108864);rw[List.set_set]at h1
     exact h1
    ·rw[heap_setCell_other _ _ _ _ (by simp),heap_setCell_other _ _ _ _ (by simp)];exact hr
    ·exact(hb.setCell (p:=⟨w.heap.size,k,none⟩) (Nat.le_refl _) _).setCell (p:=⟨w.heap.size,k,none⟩) (Nat.le_refl _) _
   case measure=>simp[intOf];omega
  ·have HK:Hid (k=5):=by unfold Hid;omega
   have hki:¬ (k:Int)<5:=by omega
   have hsz1:=Ci hc.len;go_wp2_with ((with_reducible (refine Ap ?_));first
    | (refine wpList_load_row rfl 273 _ rfl w.heap.size rfl 273 _ (0,0) _ hn underlying273 rfl hsz1 ?_)
    | (refine wpList_store_row rfl 273 _ _ rfl (w.heap.size+1) _ rfl rfl 273 _ hr hsz1 (by rw[Al,Al,hc.len];rfl) (Bg m) ?_))
   refine bodyPost_ret (v:=.tuple #[.agg (Ai m),.int .u64 ov]) (EX rfl _ _ (w.heap.size+1) 273 _ (0,0) _ rfl (setRow_heap wr (w.heap.size+1) _ _ 273 _ hr) underlying273 rfl hsz1 rfl) rfl ⟨m,ov,rfl,by have:=HK.out;subst this;exact hc,AO hb (by omega) _⟩
def O9:Nat→List Int→Prop
 | 0,m=>Lim 1152921504606846976 m
 | 1,m=>Lim 274877906944 m∧val m<1361129467683753853853498429727072845824+274877906944
 | 2,m=>Lim 274877906944 m∧val m<1361129467683753853853498429727072845824
 | _,m=>Lim 67108864 m
theorem O9.lim:∀ {k:Nat} {m:List Int},O9 k m→Lim 9223372036854775808 m
 | 0,_,h=>Lim.mono h (by omega)
 | 1,_,h=>Lim.mono h.1 (by omega)
 | 2,_,h=>Lim.mono h.1 (by omega)
 | _+3,_,h=>Lim.mono (B:=67108864) h (by omega)
theorem Y9(a b o:Int)(h:a+1361129467683753853853498429727072845824*o=b):(a+5*o)%pp=b%pp:=by
 rw[← h,show a+1361129467683753853853498429727072845824*o=a+5*o+pp*o by unfold pp;omega,Int.add_mul_emod_self_left]
theorem O9.succ{k:Nat}{l m:List Int}{o:Int}(h:O9 k l)(hk:k<3)(hc:Carr l m 5 o):O9 (k+1) (m.set 0 (m.getD 0 0+o*5))∧val (m.set 0 (m.getD 0 0+o*5))%pp=val l%pp∧0≤m.getD 0 0∧m.getD 0 0<67108864∧0≤o∧o<274877906944:=by
 obtain⟨h1,h2⟩:=hc.five;obtain⟨m0,m1,m2,m3,m4,rfl,b0,b1,b2,b3,b4⟩:=h1.split;have o1:=hc.lo;have o2:=hc.hi;simp only[List.set_cons_zero,List.getD_cons_zero];have hm:=Y9 _ _ _ h2;rw[Cz]at h2
 have e:val [m0+o*5,m1,m2,m3,m4]=val [m0,m1,m2,m3,m4]+5*o:=by rw[Cz,Cz];omega
 rw[← e]at hm
 refine⟨?_,hm,b0.1,b0.2,o1,o2⟩;obtain rfl|rfl|rfl:k=0∨k=1∨k=2:=by omega
 ·obtain⟨l0,l1,l2,l3,l4,rfl,c0,c1,c2,c3,c4⟩:=Lim.split h;rw[Cz]at h2
  refine⟨Lim.of5 (by omega) (by omega) (by omega) (by omega) (by omega),?_⟩;rw[Cz];omega
 ·obtain⟨h3,h4⟩:=h;obtain⟨l0,l1,l2,l3,l4,rfl,c0,c1,c2,c3,c4⟩:=Lim.split h3;rw[Cz]at h2 h4
  refine⟨Lim.of5 (by omega) (by omega) (by omega) (by omega) (by omega),?_⟩;rw[Cz];omega
 ·obtain⟨h3,h4⟩:=h;have ho:o=0:=by omega
  subst ho;show Lim 67108864 _;exact Lim.of5 (by omega) (by omega) (by omega) (by omega) (by omega)
theorem Ij(l:List Int)(w:World)(hl:Lim 1152921504606846976 l) :
  Calls prog 255 #[.agg (Ai l)] w fun e w'=>∃ m,e=.returned (.agg (Ai m))∧Lim 67108864 m∧val m%pp=val l%pp∧Below w.heap.size w w':=by
 have h5:=hl.1;have hsz:=Ci h5;go_enter func255,ntmps255
 go_wp2_with fail
 go_loopw [4] (fun i wr=>∃ (k:Nat) (m:List Int),k≤3∧i=.int .i64 k∧O9 k m∧val m%pp=val l%pp∧wr.heap[w.heap.size]?=some (.cells (Ai m) 273 (0,0))∧wr.heap[w.heap.size+1]?=some (.cells (Ai [0,0,0,0,0]) 273 (0,0))∧w.heap.size+2≤wr.heap.size∧Below w.heap.size w wr) (fun i _=>3-(intOf i).toNat)
 case atStart=>
  refine⟨0,l,by omega,rfl,hl,rfl,?_,?_,by simp,?_⟩
  ·exact heap_alloc2_old _ _ _
  ·exact heap_alloc2_new _ _ _
  ·exact((Below.refl _ _).alloc (Nat.le_refl _) _).alloc (by simp) _
 case round =>
  obtain⟨k,m,hk,rfl,hc,hv,hn,hr,hz,hb⟩:=hrel;have hm5:=hc.lim.1;have hsz1:=Ci hm5;by_cases hk3:k<3
  ·have hki:(k:Int)<3:=by omega
   go_wp2_with ((with_reducible (refine Ap ?_));refine wpList_load_row rfl 273 _ rfl w.heap.size rfl 273 _ (0,0) _ hn underlying273 rfl hsz1 ?_)
   refine(NI m wr hc.lim).mono ?_;rintro e w1 ⟨m1,o,rfl,hc1,hb1⟩;obtain⟨hs,hv1,x1,x2,o1,o2⟩:=hc.succ hk3 hc1;have hl1:=hc1.len;have hsz2:=Ci hl1;have hn1:=(hb1.block w.heap.size (by omega)).trans hn;have hr1:=(hb1.block (w.heap.size+1) (by omega)).trans hr;have hz1:=hb1.size;have hB1:Below w.heap.size w w1:=hb.trans (hb1.mono (by omega));have hn2:=setRow_heap w1 w.heap.size (Ai m) (Ai m1) 273 (0,0) hn1;have hr2:(w1.setRow w.heap.size (Ai m1)).heap[w.heap.size+1]?=some (.cells (Ai [0,0,0,0,0]) 273 (0,0)):=(setRow_other _ _ _ _ (by omega)).trans hr1;have hB2:Below w.heap.size w (w1.setRow w.heap.size (Ai m1)):=AO hB1 (Nat.le_refl _) _;have hz2:(w1.setRow w.heap.size (Ai m1)).heap.size=w1.heap.size:=by simp
   have cn:=(cell_of_row _ _ 0 _ _ _ hn2).trans (Ar m1 0 (by omega));have fn:=frozen_of_row _ _ 0 _ _ hn2;have hs':Hid (O9 (k+1) (m1.set 0 (m1.getD 0 0+o*5))):=hs;have hv':Hid (val (m1.set 0 (m1.getD 0 0+o*5))%pp=val m%pp):=hv1;have hst:Hid (((w1.setRow w.heap.size (Ai m1)).setCell ⟨w.heap.size,0,none⟩ (.int .u64 (m1.getD 0 0+o*5))).heap[w.heap.size]?=some (.cells (Ai (m1.set 0 (m1.getD 0 0+o*5))) 273 (0,0))):=D8 hn2 0 _;clear hb hn hr hb1 hr1 hB1 hc hc1 hs hv1;generalize m1.getD 0 0=x at cn hs' hv' hst x1 x2;go_wp2_with ((with_reducible (refine Ap ?_));refine wpList_store_row rfl 273 _ _ rfl w.heap.size _ rfl rfl 273 _ hn1 hsz2 (by rw[Al,Al,hl1,hm5]) (Bg m1) ?_)
   go_roundw
   case rel =>
    refine⟨k+1,_,by omega,by go_num,hs'.out,hv'.out.trans hv,hst.out,?_,?_,?_⟩
    ·rw[heap_setCell_other _ _ _ _ (by simp)];exact hr2
    ·simp;omega
    ·exact hB2.setCell (p:=⟨w.heap.size,0,none⟩) (Nat.le_refl _) _
   case measure=>simp[intOf];omega
  ·have hki:¬ (k:Int)<3:=by omega
   have hc3:Lim 67108864 m:=by
    obtain rfl:k=3:=by omega
    exact hc
   go_wp2_with ((with_reducible (refine Ap ?_));first
    | (refine wpList_load_row rfl 273 _ rfl w.heap.size rfl 273 _ (0,0) _ hn underlying273 rfl hsz1 ?_)
    | (refine wpList_store_row rfl 273 _ _ rfl (w.heap.size+1) _ rfl rfl 273 _ hr hsz1 (by rw[Al,Al,hm5];rfl) (Bg m) ?_))
   refine bodyPost_ret (v:=.agg (Ai m)) (results_cell_row rfl _ _ (w.heap.size+1) 273 _ (0,0) _ rfl (setRow_heap wr (w.heap.size+1) _ _ 273 _ hr) underlying273 rfl hsz1) rfl ⟨m,rfl,hc3,hv,AO hb (by omega) _⟩
theorem Kr(n:Int):IntKind.u64.wrap n=n%18446744073709551616:=by simp[IntKind.wrap,IntKind.bits,IntKind.signed]
theorem Po(S:List Int)(hS:S.length=5)(j:Nat)(hj:j<5):∀ w,(Instr.index 273 (.agg (Ai S)) (.int .i64 (j:Int))).run prog w=.ok (.int .u64 (S.getD j 0)) w:=by
 intro w;obtain⟨a,b,c,d,e,rfl⟩:=Lm S hS;obtain rfl|rfl|rfl|rfl|rfl:j=0∨j=1∨j=2∨j=3∨j=4:=by omega
 all_goals kernel_rfl
theorem EC(w:World)(o1 o2 o3:Obj):(((w.alloc o1).alloc o2).alloc o3).heap[w.heap.size]?=some o1∧(((w.alloc o1).alloc o2).alloc o3).heap[w.heap.size+1]?=some o2∧(((w.alloc o1).alloc o2).alloc o3).heap[w.heap.size+1+1]?=some o3∧Below w.heap.size w (((w.alloc o1).alloc o2).alloc o3):=by
 refine⟨?_,?_,?_,(((Below.refl _ _).alloc (Nat.le_refl _) _).alloc (by simp) _).alloc (by simp;omega) _⟩
 ·rw[heap_alloc_old _ _ (by simp;omega)];exact heap_alloc2_old w o1 o2
 ·rw[heap_alloc_old _ _ (by simp)];exact heap_alloc2_new w o1 o2
 ·have:=heap_alloc_new ((w.alloc o1).alloc o2) o3;simpa using this
theorem Jc(w:World)(o1 o2 o3 o4:Obj):((((w.alloc o1).alloc o2).alloc o3).alloc o4).heap[w.heap.size]?=some o1∧((((w.alloc o1).alloc o2).alloc o3).alloc o4).heap[w.heap.size+1]?=some o2∧((((w.alloc o1).alloc o2).alloc o3).alloc o4).heap[w.heap.size+1+1]?=some o3∧((((w.alloc o1).alloc o2).alloc o3).alloc o4).heap[w.heap.size+1+1+1]?=some o4∧Below w.heap.size w ((((w.alloc o1).alloc o2).alloc o3).alloc o4):=by
 obtain⟨h1,h2,h3,hb⟩:=EC w o1 o2 o3;refine⟨?_,?_,?_,?_,hb.alloc (by simp;omega) _⟩
 ·rw[heap_alloc_old _ _ (by simp;omega)];exact h1
 ·rw[heap_alloc_old _ _ (by simp)];exact h2
 ·rw[heap_alloc_old _ _ (by simp)];exact h3
 ·have:=heap_alloc_new (((w.alloc o1).alloc o2).alloc o3) o4;simpa using this
theorem UM(l m:List Int)(w:World)(hl:Lim 67108864 l)(hm:Lim 67108864 m) :
  Calls prog 245 #[.agg (Ai l),.agg (Ai m)] w fun e w'=>∃ r,e=.returned (.agg (Ai r))∧Lim 134217728 r∧val r=val l+val m∧Below w.heap.size w w':=by
 have h5:=hl.1;have hszm:=Ci hm.1;go_enter func245,ntmps245
 go_wp2_with ((with_reducible (refine Ap ?_));(refine wpList_load_row rfl 273 _ rfl (w.heap.size+1) rfl 273 _ (0,0) _ (EC w _ _ _).2.1 underlying273 rfl hszm ?_))
 go_loopw [8] (fun i wr=>∃ (k:Nat) (r:List Int),k≤5∧i=.int .i64 k∧Adds l m r k∧wr.heap[w.heap.size]?=some (.cells (Ai r) 273 (0,0))∧wr.heap[w.heap.size+1+1]?=some (.cells (Ai [0,0,0,0,0]) 273 (0,0))∧Below w.heap.size w wr) (fun i _=>5-(intOf i).toNat)
 case atStart=>exact⟨0,l,by omega,rfl,Adds.zero h5,(EC w _ _ _).1,(EC w _ _ _).2.2.1,(EC w _ _ _).2.2.2⟩
 case round =>
  obtain⟨k,r,hk,rfl,hc,hn,hr,hb⟩:=hrel;have hr5:=hc.len;by_cases hk5:k<5
  ·have hki:(k:Int)<5:=by omega
   have hix:=Po m hm.1 k hk5;have cn:=(cell_of_row wr _ k _ _ _ hn).trans (Ar r k (by omega));have fn:=frozen_of_row wr _ k _ _ hn;have HS:Hid (Adds l m (r.set k (r.getD k 0+m.getD k 0)) (k+1)):=hc.succ hk5;have b1:=hl.2 k;rw[← hc.rest k (by omega)]at b1
   have b2:=hm.2 k;generalize r.getD k 0=x at cn HS b1;generalize m.getD k 0=y at hix HS b2;obtain⟨b1,b3⟩:=b1;obtain⟨b2,b4⟩:=b2;go_wp2
   go_roundw
   case rel =>
    refine⟨k+1,_,by omega,by go_num,HS.out,D8 hn k _,?_,?_⟩
    ·rw[heap_setCell_other _ _ _ _ (by simp;omega)];exact hr
    ·exact hb.setCell (p:=⟨w.heap.size,k,none⟩) (Nat.le_refl _) _
   case measure=>simp[intOf];omega
  ·have HK:Hid (k=5):=by unfold Hid;omega
   have hki:¬ (k:Int)<5:=by omega
   have hsz1:=Ci hr5;go_wp2_with ((with_reducible (refine Ap ?_));first
    | (refine wpList_load_row rfl 273 _ rfl (w.heap.size) rfl 273 _ (0,0) _ hn underlying273 rfl hsz1 ?_)
    | (refine wpList_store_row rfl 273 _ _ rfl (w.heap.size+1+1) _ rfl rfl 273 _ hr hsz1 (by rw[Al,Al,hr5];rfl) (Bg r) ?_))
   have hc5:Adds l m r 5:=by have:=HK.out;subst this;exact hc
   refine bodyPost_ret (v:=.agg (Ai r)) (results_cell_row rfl _ _ (w.heap.size+1+1) 273 _ (0,0) _ rfl (setRow_heap wr (w.heap.size+1+1) _ _ 273 _ hr) underlying273 rfl hsz1) rfl ⟨r,rfl,(hc5.five hl hm).1,(hc5.five hl hm).2,AO hb (by omega) _⟩
theorem SM(n m:List Int)(w:World)(hn:Lim 134217728 n)(hm:Lim 67108864 m) :
  Calls prog 247 #[.agg (Ai n),.agg (Ai m)] w fun e w'=>∃ r,e=.returned (.agg (Ai r))∧Lim 67108864 r∧val r%pp=(val n*val m)%pp∧Below w.heap.size w w':=by
 have hszn:=Ci hn.1;have hszm:=Ci hm.1;go_enter func247,ntmps247
 go_wp2_with ((with_reducible (refine Ap ?_));(refine wpList_load_row rfl 273 _ rfl (w.heap.size) rfl 273 _ (0,0) _ (Jc w _ _ _ _).1 underlying273 rfl hszn ?_))
 go_loopw [11] (fun i wr=>∃ (k:Nat) (r:List Int),k≤5∧i=.int .i64 k∧Prods n m r k 0∧wr.heap[w.heap.size+1]?=some (.cells (Ai m) 273 (0,0))∧wr.heap[w.heap.size+1+1]?=some (.cells (Ai [0,0,0,0,0]) 273 (0,0))∧wr.heap[w.heap.size+1+1+1]?=some (.cells (Ai r) 273 (0,0))∧Below w.heap.size w wr) (fun i _=>5-(intOf i).toNat)
 case atStart=>exact⟨0,_,by omega,rfl,Prods.zero n m,(Jc w _ _ _ _).2.1,(Jc w _ _ _ _).2.2.1,(Jc w _ _ _ _).2.2.2.1,(Jc w _ _ _ _).2.2.2.2⟩
 case round =>
  obtain⟨k,r,hk,rfl,hc,hm1,hz,ho,hb⟩:=hrel;have hr5:=hc.len;by_cases hk5:k<5
  ·have hki:(k:Int)<5:=by omega
   have hix:=Po n hn.1 k hk5;obtain⟨x,hx⟩:∃ x,n.getD k 0=x:=⟨_,rfl⟩;rw[hx]at hix
   have HX:Hid (n.getD k 0=x):=hx;clear hx;go_wp2_with ((with_reducible (refine Ap ?_));(refine wpList_load_row rfl 273 _ rfl (w.heap.size+1) rfl 273 _ (0,0) _ hm1 underlying273 rfl hszm ?_))
   go_loopw [16] (fun i wr=>∃ (j:Nat) (r:List Int),j≤5∧i=.int .i64 j∧Prods n m r k j∧wr.heap[w.heap.size+1]?=some (.cells (Ai m) 273 (0,0))∧wr.heap[w.heap.size+1+1]?=some (.cells (Ai [0,0,0,0,0]) 273 (0,0))∧wr.heap[w.heap.size+1+1+1]?=some (.cells (Ai r) 273 (0,0))∧Below w.heap.size w wr) (fun i _=>5-(intOf i).toNat)
   case atStart=>exact⟨0,r,by omega,rfl,hc,hm1,hz,ho,hb⟩
   case round =>
    clear hix;clear hc hm1 hz ho hb hr5;obtain⟨j,r,hj,rfl,hc,hm1,hz,ho,hb⟩:=hrel;have hr5:=hc.len;by_cases hj5:j<5
    ·have hji:(j:Int)<5:=by omega
     have hix:=Po m hm.1 j hj5;have hxy:=Ga (hn.2 k) (hm.2 j);rw[HX.out]at hxy
     by_cases hs:k+j<5
     ·have hsi:(k:Int)+(j:Int)<5:=by omega
      have cn:=(cell_of_row _ _ (k+j) _ _ _ ho).trans (Ar r (k+j) (by omega));have fn:=frozen_of_row _ _ (k+j) _ _ ho;have HS:Hid (Prods n m (r.set (k+j) (r.getD (k+j) 0+x*m.getD j 0)) k (j+1)):=by rw[← HX.out];exact hc.low_step hn hm hs
      have b1:=hc.low (k+j);have b2:r.getD (k+j) 0≤1152921504606846976:=by have:=hc.high (k+j);omega
      generalize r.getD (k+j) 0=z at cn HS b1 b2;generalize m.getD j 0=y at hix HS hxy;obtain⟨xy1,xy2⟩:=hxy;have e1:IntKind.u64.wrap (x*y)=x*y:=by rw[Kr];omega
      have e2:IntKind.u64.wrap (z+x*y)=z+x*y:=by rw[Kr];omega
      clear hc;go_wp2
      go_roundw
      case rel =>
       refine⟨j+1,_,by omega,by go_num,HS.out,?_,?_,D8 ho (k+j) _,?_⟩
       ·rw[heap_setCell_other _ _ _ _ (by simp)];exact hm1
       ·rw[heap_setCell_other _ _ _ _ (by simp)];exact hz
       ·exact hb.setCell (p:=⟨w.heap.size+1+1+1,k+j,none⟩) (by simp;omega) _
      case measure=>simp[intOf];omega
     ·have hsi:¬ (k:Int)+(j:Int)<5:=by omega
      have cn:=(cell_of_row _ _ (k+j-5) _ _ _ ho).trans (Ar r (k+j-5) (by omega));have fn:=frozen_of_row _ _ (k+j-5) _ _ ho;have HS:Hid (Prods n m (r.set (k+j-5) (r.getD (k+j-5) 0+x*m.getD j 0*5)) k (j+1)):=by rw[← HX.out];exact hc.high_step hn hm (by omega) hk5 hj5
      have b1:=hc.low (k+j-5);have b2:r.getD (k+j-5) 0≤1152921504606846976:=by have:=hc.high (k+j-5);omega
      generalize r.getD (k+j-5) 0=z at cn HS b1 b2;generalize m.getD j 0=y at hix HS hxy;obtain⟨xy1,xy2⟩:=hxy;have e1:IntKind.u64.wrap (x*y)=x*y:=by rw[Kr];omega
      have e3:IntKind.u64.wrap (x*y*5)=x*y*5:=by rw[Kr];omega
      have e2:IntKind.u64.wrap (z+x*y*5)=z+x*y*5:=by rw[Kr];omega
      clear hc;obtain⟨t,ht⟩:∃ t:Nat,k+j=t+5:=⟨k+j-5,by omega⟩;have e4:(k:Int)+(j:Int)-5=(t:Int):=by omega
      have ht':k+j-5=t:=by omega
      rw[ht']at cn fn HS
      go_wp2
      go_roundw
      case rel =>
       refine⟨j+1,_,by omega,by go_num,HS.out,?_,?_,D8 ho t _,?_⟩
       ·rw[heap_setCell_other _ _ _ _ (by simp)];exact hm1
       ·rw[heap_setCell_other _ _ _ _ (by simp)];exact hz
       ·exact hb.setCell (p:=⟨w.heap.size+1+1+1,t,none⟩) (by simp;omega) _
      case measure=>simp[intOf];omega
    ·have HJ:Hid (j=5):=by unfold Hid;omega
     have hji:¬ (j:Int)<5:=by omega
     go_wp2
     go_roundw
     case rel=>exact⟨k+1,r,by omega,by go_num,by have:=HJ.out;subst this;exact hc.row hm.1,hm1,hz,ho,hb⟩
     case measure=>simp[intOf];omega
  ·have HK:Hid (k=5):=by unfold Hid;omega
   have hki:¬ (k:Int)<5:=by omega
   have hsz1:=Ci hr5;have hc5:Prods n m r 5 0:=by have:=HK.out;subst this;exact hc
   obtain⟨l5,v5⟩:=hc5.five hn.1;have hzz:w.heap.size+1+1<wr.heap.size:=(Array.getElem?_eq_some_iff.1 hz).1;clear hc hc5 hm1;go_wp2_with ((with_reducible (refine Ap ?_));(refine wpList_load_row rfl 273 _ rfl (w.heap.size+1+1+1) rfl 273 _ (0,0) _ ho underlying273 rfl hsz1 ?_))
   refine(Ij r wr l5).mono ?_;rintro e w1 ⟨r1,rfl,l1,v1,hb1⟩;have hz1:=(hb1.block (w.heap.size+1+1) hzz).trans hz;have hB1:Below w.heap.size w w1:=hb.trans (hb1.mono hb.size);have hsz2:=Ci l1.1;go_wp2_with ((with_reducible (refine Ap ?_));(refine wpList_store_row rfl 273 _ _ rfl (w.heap.size+1+1) _ rfl rfl 273 _ hz1 hsz2 (by rw[Al,Al,l1.1];rfl) (Bg r1) ?_))
   refine bodyPost_ret (v:=.agg (Ai r1)) (results_cell_row rfl _ _ (w.heap.size+1+1) 273 _ (0,0) _ rfl (setRow_heap w1 (w.heap.size+1+1) _ _ 273 _ hz1) underlying273 rfl hsz2) rfl ⟨r1,rfl,l1,v1.trans v5,AO hB1 (by omega) _⟩
theorem Nt(w:World)(n:List Int)(_hn:n.length=5){A W:World}(hA:A=((w.alloc (.cells (Ai n) 273 (0,0))).alloc (.cells (Ai [0,0,0,0,0]) 273 (0,0))).alloc (.cells (Ai [0,0,0,0,0]) 273 (0,0)))(hW:A.setRow (w.heap.size+1+1) (Ai n)=W) :
  W.heap[w.heap.size]?=some (.cells (Ai n) 273 (0,0))∧W.heap[w.heap.size+1]?=some (.cells (Ai [0,0,0,0,0]) 273 (0,0))∧W.heap[w.heap.size+1+1]?=some (.cells (Ai n) 273 (0,0))∧Below w.heap.size w W:=by
 obtain⟨a1,a2,a3,a4⟩:=EC w (.cells (Ai n) 273 (0,0)) (.cells (Ai [0,0,0,0,0]) 273 (0,0)) (.cells (Ai [0,0,0,0,0]) 273 (0,0));rw[← hA]at a1 a2 a3 a4
 subst hW;refine⟨?_,?_,setRow_heap _ _ _ _ 273 _ a3,AO a4 (by omega) _⟩
 ·rw[setRow_other _ _ _ _ (by omega)];exact a1
 ·rw[setRow_other _ _ _ _ (by omega)];exact a2
theorem RO(n:List Int)(w:World)(hn:Lim 67108864 n) :
  Calls prog 248 #[.agg (Ai n)] w fun e w'=>∃ r,e=.returned (.agg (Ai r))∧Lim 67108864 r∧val r=val n%pp∧Below w.heap.size w w':=by
 have h5:=hn.1;have hszn:=Ci h5;have x0:=hn.2 0;have hset:(n.set 0 (n.getD 0 0+5)).length=5:=by simpa using h5
 have hlim:Lim 9223372036854775808 (n.set 0 (n.getD 0 0+5)):=by
  refine⟨hset,fun j=>?_⟩;by_cases e:0=j
  ·subst e;rw[AH (by omega)];omega
  ·rw[Ax e];have:=hn.2 j;omega
 have hszs:=Ci hset;have HL:Hid (∀ m o,Carr (n.set 0 (n.getD 0 0+5)) m 5 o→Lim 67108864 m∧(0<o→val m=val n%pp)∧(¬ 0<o→val n=val n%pp)):=fun m o h=>Py hn h;have HST:Hid (∀ W:World,W.heap[w.heap.size+1+1]?=some (.cells (Ai n) 273 (0,0))→(W.setCell ⟨w.heap.size+1+1,0,none⟩ (.int .u64 (n.getD 0 0+5))).heap[w.heap.size+1+1]?=some (.cells (Ai (n.set 0 (n.getD 0 0+5))) 273 (0,0))):=fun W h=>D8 h 0 _;have HC:Hid (∀ W:World,W.heap[w.heap.size+1+1]?=some (.cells (Ai n) 273 (0,0))→W.cell? ⟨w.heap.size+1+1,0,none⟩=some (.int .u64 (n.getD 0 0))):=fun W h=>(cell_of_row W _ 0 _ _ _ h).trans (Ar n 0 (by omega));generalize n.set 0 (n.getD 0 0+5)=m0 at hlim HL hszs HST hset;generalize n.getD 0 0=x at x0 HST HC;obtain⟨x1,x2⟩:=x0;obtain⟨A,hA⟩:∃ A,A=((w.alloc (.cells (Ai n) 273 (0,0))).alloc (.cells (Ai [0,0,0,0,0]) 273 (0,0))).alloc (.cells (Ai [0,0,0,0,0]) 273 (0,0)):=⟨_,rfl⟩;obtain⟨W1,hW1⟩:∃ W,A.setRow (w.heap.size+1+1) (Ai n)=W:=⟨_,rfl⟩;obtain⟨s1,s2,s3,s4⟩:=Nt w n h5 hA hW1;rw[hA]at hW1
 clear hA;have c0:=HC.out W1 s3;have f0:=frozen_of_row W1 _ 0 _ _ s3;have t3:=HST.out W1 s3;have t1:(W1.setCell ⟨w.heap.size+1+1,0,none⟩ (.int .u64 (x+5))).heap[w.heap.size]?=some (.cells (Ai n) 273 (0,0)):=by rw[heap_setCell_other _ _ _ _ (by simp;omega)];exact s1
 have t2:(W1.setCell ⟨w.heap.size+1+1,0,none⟩ (.int .u64 (x+5))).heap[w.heap.size+1]?=some (.cells (Ai [0,0,0,0,0]) 273 (0,0)):=by rw[heap_setCell_other _ _ _ _ (by simp)];exact s2
 have t4:Below w.heap.size w (W1.setCell ⟨w.heap.size+1+1,0,none⟩ (.int .u64 (x+5))):=s4.setCell (p:=⟨w.heap.size+1+1,0,none⟩) (by simp;omega) _;have tz:w.heap.size+1+1<(W1.setCell ⟨w.heap.size+1+1,0,none⟩ (.int .u64 (x+5))).heap.size:=(Array.getElem?_eq_some_iff.1 t3).1;have HW:Hid _:=hW1;clear hW1 s1 s2 s3 s4 HST HC;go_enter func248,ntmps248
 go_wp2_with ((with_reducible (refine Ap ?_));first
  | (refine wpList_load_row rfl 273 _ rfl (w.heap.size) rfl 273 _ (0,0) _ (heap_alloc2_old _ _ _) underlying273 rfl hszn ?_)
  | (refine wpList_store_row rfl 273 _ _ rfl (w.heap.size+1+1) _ rfl rfl 273 (Ai [0,0,0,0,0]) (EC w _ _ _).2.2.1 hszn (by rw[Al,Al,h5];rfl) (Bg n) ?_;refine(congrArg (wpList _ _ _ _ _) HW.out).mpr ?_)
  | (refine wpList_load_row rfl 273 _ rfl (w.heap.size+1+1) rfl 273 _ (0,0) _ t3 underlying273 rfl hszs ?_))
 refine(NI m0 _ hlim).mono ?_;rintro e w1 ⟨m1,o,rfl,hc1,hb1⟩;obtain⟨l1,g1,g2⟩:=HL.out m1 o hc1;have o1:=hc1.lo;generalize W1.setCell _ _=W2 at hb1 t1 t2 t3 t4 tz;have u1:=(hb1.block w.heap.size (by omega)).trans t1;have u2:=(hb1.block (w.heap.size+1) (by omega)).trans t2;have u3:=(hb1.block (w.heap.size+1+1) (by omega)).trans t3;have u4:Below w.heap.size w w1:=t4.trans (hb1.mono t4.size);have v1:(w1.setRow (w.heap.size+1+1) (Ai m1)).heap[w.heap.size]?=some (.cells (Ai n) 273 (0,0)):=(setRow_other _ _ _ _ (by omega)).trans u1;have v2:(w1.setRow (w.heap.size+1+1) (Ai m1)).heap[w.heap.size+1]?=some (.cells (Ai [0,0,0,0,0]) 273 (0,0)):=(setRow_other _ _ _ _ (by omega)).trans u2;have v3:=setRow_heap w1 (w.heap.size+1+1) _ (Ai m1) 273 _ u3;have v4:Below w.heap.size w (w1.setRow (w.heap.size+1+1) (Ai m1)):=AO u4 (by omega) _;have hsz1:=Ci l1.1;by_cases ho:0<o
 ·have g1':=g1 ho;clear g1 g2 hc1 HL c0 f0 HW;go_wp2_with ((with_reducible (refine Ap ?_));first
   | (refine wpList_store_row rfl 273 _ _ rfl (w.heap.size+1+1) _ rfl rfl 273 _ u3 hsz1 (by rw[Al,Al,l1.1,hset]) (Bg m1) ?_)
   | (refine wpList_load_row rfl 273 _ rfl (w.heap.size+1+1) rfl 273 _ (0,0) _ v3 underlying273 rfl hsz1 ?_)
   | (refine wpList_store_row rfl 273 _ _ rfl (w.heap.size+1) _ rfl rfl 273 _ v2 hsz1 (by rw[Al,Al,l1.1];rfl) (Bg m1) ?_))
  exact bodyPost_ret (v:=.agg (Ai m1)) (results_cell_row rfl _ _ (w.heap.size+1) 273 _ (0,0) _ rfl (setRow_heap _ (w.heap.size+1) _ _ 273 _ v2) underlying273 rfl hsz1) rfl ⟨m1,rfl,l1,g1',AO v4 (by omega) _⟩
 ·have g2':=g2 (by omega);clear g1 g2 hc1 HL c0 f0 HW;go_wp2_with ((with_reducible (refine Ap ?_));first
   | (refine wpList_store_row rfl 273 _ _ rfl (w.heap.size+1+1) _ rfl rfl 273 _ u3 hsz1 (by rw[Al,Al,l1.1,hset]) (Bg m1) ?_)
   | (refine wpList_load_row rfl 273 _ rfl (w.heap.size) rfl 273 _ (0,0) _ v1 underlying273 rfl hszn ?_)
   | (refine wpList_store_row rfl 273 _ _ rfl (w.heap.size+1) _ rfl rfl 273 _ v2 hszn (by rw[Al,Al,h5];rfl) (Bg n) ?_))
  exact bodyPost_ret (v:=.agg (Ai n)) (results_cell_row rfl _ _ (w.heap.size+1) 273 _ (0,0) _ rfl (setRow_heap _ (w.heap.size+1) _ _ 273 _ v2) underlying273 rfl hszn) rfl ⟨n,rfl,hn,g2',AO v4 (by omega) _⟩
theorem Sm(k q sh:Nat)(h:sh+26*q=8*k)(hs:sh<26):(0:Int)≤2^sh∧(2:Int)^sh≤33554432∧(2:Int)^sh*67108864^q=256^k:=by
 refine⟨Int.le_of_lt (Int.pow_pos (by omega)),?_,?_⟩
 ·have h1:(2:Nat)^sh≤2^25:=Nat.pow_le_pow_right (by omega) (by omega);have h2:(((2:Nat)^sh:Nat):Int)≤((2^25:Nat):Int):=Int.ofNat_le.2 h1;rw[Int.natCast_pow]at h2
  exact h2
 ·rw[show(67108864:Int)=2^26 from rfl,show(256:Int)=2^8 from rfl,← Int.pow_mul,← Int.pow_mul,← Int.pow_add,h]
theorem Oj(v:Value)(b:List Int)(w:World)(h:Sl w v b)(hl:b.length≤17) :
  Calls prog 249 #[v] w fun e w'=>∃ r,e=.returned (.agg (Ai r))∧Lim 67108864 r∧val r%pp=leN b%pp∧Below w.heap.size w w':=by
 obtain⟨⟨a,cap,rfl,hc,hn,h1⟩,hla,hba⟩:=h;have hcell:∃ B off,(b≠[]→a=some ⟨B,off,none⟩)∧(b≠[]→B<w.heap.size)∧∀ i,i<b.length→w.cell? ⟨B,off+i,none⟩=some (.int .u8 (b.getD i 0)):=by
  rcases h1 with rfl|⟨B,off,rfl,hb,hcell⟩
  ·exact⟨0,0,fun h=>absurd rfl h,fun h=>absurd rfl h,fun i hi=>by simp at hi⟩
  ·exact⟨B,off,fun _=>rfl,fun _=>hb,hcell⟩
 clear h1;obtain⟨B,off,ha,hB,HC0⟩:=hcell;have HC:Hid (∀ i,i<b.length→w.cell? ⟨B,off+i,none⟩=some (.int .u8 (b.getD i 0))):=HC0;have HA:Hid (b≠[]→a=some ⟨B,off,none⟩):=ha;have HB:Hid (b≠[]→B<w.heap.size):=hB;have HBY:Hid (∀ x∈b,0≤x∧x<256):=hba;obtain⟨n,HN⟩:∃ n,Hid (b.length=n):=⟨_,rfl⟩;rw[HN.out]at hl hc hla ⊢
 clear HC0 ha hB hba hn;go_enter func249,ntmps249
 go_wp2_with fail
 go_loopw [8] (fun i wr=>∃ (k:Nat) (r:List Int),k≤n∧i=.int .i64 k∧Reads b r k∧wr.heap[w.heap.size]?=some (.cells (Ai [0,0,0,0,0]) 273 (0,0))∧wr.heap[w.heap.size+1]?=some (.cells (Ai r) 273 (0,0))∧Below w.heap.size w wr) (fun i _=>n-(intOf i).toNat)
 case atStart=>exact⟨0,_,by omega,rfl,Reads.zero b,heap_alloc2_old _ _ _,heap_alloc2_new _ _ _,((Below.refl _ _).alloc (Nat.le_refl _) _).alloc (by simp) _⟩
 case round =>
  obtain⟨k,r,hk,rfl,hr,hz,ho,hb⟩:=hrel;have hr5:=hr.len;by_cases hkn:k<n
  ·have hki:(k:Int)<(n:Int):=by omega
   have hne:b≠[]:=by intro e;have:=HN.out;rw[e]at this;simp at this;omega
   have hA:=HA.out hne;subst hA;have hBs:=HB.out hne;have ck:=(hb.cell (p:=⟨B,off+k,none⟩) hBs).trans (HC.out k (by rw[HN.out];exact hkn));have hbk:=Ak HBY.out k;have HS:Hid (∀ (q:Nat) (m:Int),q<5→0≤m∧m≤33554432→m*67108864^q=256^k→Reads b (r.set q (r.getD q 0+b.getD k 0*m)) (k+1)):=fun q m h1 h2 h3=>hr.succ hbk q m h1 h2 h3;have HR:Hid (∀ t,0≤r.getD t 0∧r.getD t 0≤300000000000):=fun t=>⟨hr.low t,by have:=hr.high t;omega⟩;have HK:Hid (∀ t,t<5→wr.cell? ⟨w.heap.size+1,t,none⟩=some (.int .u64 (r.getD t 0))):=fun t ht=>(cell_of_row _ _ t _ _ _ ho).trans (Ar r t (by omega));have HF:Hid (∀ t,wr.frozen? ⟨w.heap.size+1,t,none⟩=false):=fun t=>frozen_of_row _ _ t _ _ ho;have HST:Hid (∀ t x,(wr.setCell ⟨w.heap.size+1,t,none⟩ (.int .u64 x)).heap[w.heap.size+1]?=some (.cells (Ai (r.set t x)) 273 (0,0))):=fun t x=>D8 ho t x;generalize b.getD k 0=x at ck HS hbk;obtain⟨x1,x2⟩:=hbk;clear hr;obtain⟨q,hq⟩:∃ q,8*k/26=q:=⟨_,rfl⟩;have hq5:q<5:=by omega
   have cq:=HK.out q hq5;have fq:=HF.out q;have rq:=HR.out q;have HSq:Hid (∀ (m:Int),0≤m∧m≤33554432→m*67108864^q=256^k→Reads b (r.set q (r.getD q 0+x*m)) (k+1)):=fun m h2 h3=>HS.out q m hq5 h2 h3;generalize r.getD q 0=y at cq rq HSq;obtain⟨y1,y2⟩:=rq;obtain⟨sh,hsh⟩:∃ sh,8*k%26=sh:=⟨_,rfl⟩;have hsh26:sh<26:=by omega
   have i1:(8*(k:Int))/26=(q:Int):=by omega
   have i2:(8*(k:Int))%26=(sh:Int):=by omega
   have i3:Int.tdiv (8*(k:Int)) 26=(q:Int):=by rw[Int.tdiv_eq_ediv_of_nonneg (by omega)];exact i1
   have i4:Int.tmod (8*(k:Int)) 26=(sh:Int):=by rw[Int.tmod_eq_emod_of_nonneg (by omega)];exact i2
   have HP:Hid ((0:Int)≤2^sh∧(2:Int)^sh≤33554432∧(2:Int)^sh*67108864^q=256^k):=Sm k q sh (by omega) hsh26;clear hq HK HF HR HS;go_wp2_with fail
   refine Aq 13 (by kernel_rfl) (by kernel_rfl) ?_;simp only[List.take_succ_cons,List.take_zero,List.drop_succ_cons,List.drop_zero]
   repeat (go_big_quiet_step (fail))
   refine wpQuiet_nil ?_;go_wp2
   obtain⟨p1,p2,p3⟩:=HP.out;have q1:0≤x*2^sh:=Int.mul_nonneg x1 p1;have q2:x*2^sh≤256*33554432:=Int.mul_le_mul (by omega) p2 p1 (by omega);rw[show IntKind.u64.wrap (x*2^sh)=x*2^sh by rw[Kr];omega,show IntKind.u64.wrap (y+x*2^sh)=y+x*2^sh by rw[Kr];omega];go_roundw
   case rel =>
    refine⟨k+1,_,by omega,by go_num,HSq.out (2^sh) ⟨p1,p2⟩ p3,?_,HST.out q _,?_⟩
    ·exact(heap_setCell_other _ _ _ _ (by simp)).trans hz
    ·exact(hb.setCell (p:=⟨w.heap.size+1,q,none⟩) (by simp) _).drew
   case measure=>simp[intOf];omega
  ·have HK:Hid (k=n):=by unfold Hid;omega
   have hki:¬ (k:Int)<(n:Int):=by omega
   have hsz1:=Ci hr5;have hlim:Lim 1152921504606846976 r:=⟨hr5,fun t=>⟨hr.low t,by have:=hr.high t;omega⟩⟩;have HV:Hid (val r=leN b):=by
    unfold Hid;rw[hr.sum,HK.out,← HN.out];rfl
   have hzz:w.heap.size<wr.heap.size:=(Array.getElem?_eq_some_iff.1 hz).1;clear hr;go_wp2_with ((with_reducible (refine Ap ?_));(refine wpList_load_row rfl 273 _ rfl (w.heap.size+1) rfl 273 _ (0,0) _ ho underlying273 rfl hsz1 ?_))
   refine(Ij r wr hlim).mono ?_;rintro e w1 ⟨r1,rfl,l1,v1,hb1⟩;have hz1:=(hb1.block w.heap.size hzz).trans hz;have hB1:Below w.heap.size w w1:=hb.trans (hb1.mono hb.size);have hsz2:=Ci l1.1;go_wp2_with ((with_reducible (refine Ap ?_));(refine wpList_store_row rfl 273 _ _ rfl (w.heap.size) _ rfl rfl 273 _ hz1 hsz2 (by rw[Al,Al,l1.1];rfl) (Bg r1) ?_))
   exact bodyPost_ret (v:=.agg (Ai r1)) (results_cell_row rfl _ _ (w.heap.size) 273 _ (0,0) _ rfl (setRow_heap w1 (w.heap.size) _ _ 273 _ hz1) underlying273 rfl hsz2) rfl ⟨r1,rfl,l1,by rw[v1,HV.out],AO hB1 (Nat.le_refl _) _⟩
end Go.Proofs.YtakgfdbjgeopdaaGreatDoor
