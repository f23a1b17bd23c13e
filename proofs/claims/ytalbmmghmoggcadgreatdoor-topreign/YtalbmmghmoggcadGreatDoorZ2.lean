/- Part 2 of the walk. -/
import Derived.Laws.ResultCell
import Derived.Laws.CopyOwn
import Derived.Deep.RegionWith
import Derived.Test.YtalbmmghmoggcadGreatDoorZ1
set_option maxRecDepth 100000
set_option maxHeartbeats 4000000
open Go.Proofs.Tryz
namespace Go.Proofs.YtalbmmghmoggcadGreatDoor
open Go.RowKit
section
def leP(l:List Int):Nat->Int
 | 0=>0
 | k+1=>leP l k+l.getD k 0*256^k
def leN(l:List Int):Int:=leP l l.length
variable{P:Program}{Q:Exit->Act->World->Prop}{a:Option Addr}{cap g k n:Nat}{fr:Nat × Nat}{l m r:List Int}{ops:Array Oper}{t:TypeId}{w:World}
theorem Xp(k:Nat)(h:l.length<=k):leP l k=leN l:=by
 obtain⟨d,rfl⟩:∃ d,k=l.length+d:=⟨k-l.length,by omega⟩;clear h;induction d with
 | zero=>rfl
 | succ d ih=>rw[<- jI,leP,ih,Gg (by omega)];omega
theorem U8(k:Nat)(h:∀ j,j<k->l.getD j 0=m.getD j 0):leP l k=leP m k:=by
 induction k with
 | zero=>rfl
 | succ k ih=>rw[leP,leP,ih (λj hj=>h j (by omega)),h k (by omega)]
theorem R5(k:Nat):leP (l++m) (l.length+k)=leN l+256^l.length*leP m k:=by
 induction k with
 | zero =>
  simp only[kf,leP,Int.mul_zero,Int.add_zero];unfold leN;exact U8 _ (λj hj=>by simp[List.getD,List.getElem?_append_left hj])
 | succ k ih =>
  rw[<- jI,leP,ih,leP,Int.mul_add,kZ];have:(l++m).getD (l.length+k) 0=m.getD k 0:=by simp[List.getD,List.getElem?_append_right]
  rw[this]
  grind
theorem R4(l m:List Int):leN (l++m)=leN l+256^l.length*leN m:=by
 have h:=R5 (l:=l) (m:=m) m.length;rw[<- G']at h
 exact h
theorem U7(n:Nat):leN (List.replicate n 0)=0:=by
 unfold leN;generalize (List.replicate n (0:Int)).length=k;induction k with
 | zero=>rfl
 | succ k ih =>
  rw[leP,ih];have:(List.replicate n (0:Int)).getD k 0=0:=by
   rcases jt k n with h|h
   .simp[List.getD,h]
   .exact Gg (by simpa using h)
  rw[this];omega
structure Reads(b r:List Int)(k:Nat):Prop where
 len:r.length=5
 sum:val r=leP b k
 low:∀ t,0<=r.getD t 0
 high:∀ t,r.getD t 0<=(k:Int)*17179869184
theorem Reads.zero(b:List Int):Reads b [0,0,0,0,0] 0:=by
 refine⟨rfl,rfl,λt=>?_,λt=>?_⟩
 .match t with
  | 0|1|2|3|4=>simp
  | t+5=>simp[List.getD]
 .match t with
  | 0|1|2|3|4=>simp
  | t+5=>simp[List.getD]
theorem Reads.succ{b:List Int}(h:Reads b r k)(hb:0<=b.getD k 0/\b.getD k 0<256)(q:Nat)(m:Int)(hq:q<5)(hm:0<=m/\m<=33554432)(he:m*67108864^q=256^k):Reads b (r.set q (r.getD q 0+b.getD k 0*m)) (k+1):=by
 have h1:0<=b.getD k 0*m:=mE hb.1 hm.1;have h2:b.getD k 0*m<=256*33554432:=mF (by omega) hm.2 hm.1 (by omega);refine⟨by simpa using h.len,?_,λt=>?_,λt=>?_⟩
 .rw[OB h.len q hq,h.sum,leP,<- he]
  grind
 .have:=h.low q;by_cases e:q=t
  .subst e;rw[AJ (by rw[h.len];omega)];omega
  .rw[Ay e];exact h.low t
 .have:=h.high q;by_cases e:q=t
  .subst e;rw[AJ (by rw[h.len];omega)];omega
  .rw[Ay e];have:=h.high t;omega
def piece(l:List Int)(k:Nat):List Int:=(l.drop (16*k)).take 16
def JB(R:Int)(l:List Int):Nat->Int
 | 0=>0
 | k+1=>(JB R l k+leN (piece l k++[1]))*R%pp
def Ot(l:List Int):Nat:=(l.length+15)/16
def cX(R:Int)(l:List Int):Int:=JB R l (Ot l)
theorem Sa:0<pp:=by unfold pp;omega
theorem Q8(R:Int)(l:List Int)(k:Nat):0<=JB R l k/\JB R l k<pp:=by
 cases k with
 | zero=>exact⟨by simp[JB],Sa⟩
 | succ k=>exact⟨mw _ (by have:=Sa;omega),l6 _ Sa⟩
theorem VA{n s t:List Int}{R:Int}(hn:val n%pp=JB R l k%pp)(hm:val m%pp=leN (piece l k++[1])%pp)(hs:val s=val n+val m)(hr:val r%pp=R%pp)(ht:val t%pp=(val s*val r)%pp) :
  val t%pp=JB R l (k+1)%pp:=by
 rw[ht,JB,Int.emod_emod_of_dvd _ (Int.dvd_refl _),Int.mul_emod,hs,lN,hn,hm,hr,<- lN,<- Int.mul_emod]
theorem CO(l:List Int)(n i:Nat):(l.drop n).getD i 0=l.getD (n+i) 0:=by simp[List.getD]
theorem Bk(l:List Int)(n i:Nat)(h:i<n):(l.take n).getD i 0=l.getD i 0:=by simp[List.getD,h]
theorem Sl.window(h:Sl w (.slice a n cap) l)(lo hi:Nat)(hlo:lo<=hi)(hhi:hi<=l.length):Sl w (sliced a lo hi cap 1) ((l.take hi).drop lo):=by
 have hd:=(h.take hi hhi).len;have hb:=h.byte;obtain⟨⟨a',cap',e,hc,hn,h1⟩,hla,hba⟩:=h;simp only[Value.slice.injEq]at e;obtain⟨rfl,rfl,rfl⟩:=e;have hl:((l.take hi).drop lo).length=hi-lo:=by rw[iQ,iO];omega
 have hbb:∀ x∈(l.take hi).drop lo,0<=x/\x<256:=λx hx=>hb x (jb (List.mem_of_mem_drop hx));cases a with
 | none =>
  have c0:=hn rfl;subst c0;have h0:l.length=0:=by omega
  refine⟨⟨_,_,by rw[hl];rfl,by omega,λ_=>by omega,.inl (iN (by omega))⟩,by omega,hbb⟩
 | some ad =>
  refine⟨⟨_,_,by rw[hl];rfl,by omega,(by intro h;split at h<;>simp at h),?_⟩,by omega,hbb⟩;rcases Nat.eq_or_lt_of_le hlo with he|hlt
  .exact .inl (iN (by omega))
  .rcases h1 with rfl|⟨b,off,e2,hbs,hcell⟩
   .simp at hhi;omega
   .simp only[X']at e2;subst e2;refine .inr ⟨b,off+lo,?_,hbs,λi hi2=>?_⟩
    .rw[if_neg (by omega)];simp[Addr.add]
    .rw[hl]at hi2
     rw[jI,hcell (lo+i) (by omega),CO,Bk _ _ _ (by omega)]
theorem IR(w:World):(Go.sizeOf 5).run prog w=.ok 1 w:=by
 obtain⟨i,hi,_,hsz,_⟩:=info_parts At;simp[sizeOf,typeInfo,hi,hsz]
theorem Sl.upTo(h:Sl w (.slice a n cap) l)(hi:Nat)(hhi:hi<=l.length) :
  ∃ a' c',(∀ W,(Instr.slice 28 (.slice a n cap) none (some (.int .i64 (hi:Int))) none).run prog W=.ok (.slice a' hi c') W)/\Sl w (.slice a' hi c') (l.take hi):=by
 have hw:=h.window 0 hi (by omega) hhi;obtain⟨⟨a',cap',e,hc,hn,h1⟩,hla,hba⟩:=h;simp only[Value.slice.injEq]at e;obtain⟨rfl,rfl,rfl⟩:=e;refine⟨_,_,λW=>?_,by simpa[sliced]using hw⟩;rw[run_slice_h (P:=prog) W 28 a _ cap underlying28 .i64 _ (by omega) (by omega)];have e:prog.elem 28=5:=by kernel_rfl
 rw[e,IR];simp[Result.andThen,sliced]
theorem Sl.from(h:Sl w (.slice a n cap) l)(lo:Nat)(hlo:lo<=l.length) :
  ∃ a' c',(∀ W,(Instr.slice 28 (.slice a n cap) (some (.int .i64 (lo:Int))) none none).run prog W=.ok (.slice a' (n-lo) c') W)/\Sl w (.slice a' (n-lo) c') (l.drop lo):=by
 have hw:=h.window lo l.length hlo (A' _);obtain⟨⟨a',cap',e,hc,hn,h1⟩,hla,hba⟩:=h;simp only[Value.slice.injEq]at e;obtain⟨rfl,rfl,rfl⟩:=e;refine⟨_,_,λW=>?_,by simpa[sliced]using hw⟩;rw[run_slice_l (P:=prog) W 28 a _ cap underlying28 .i64 _ (by omega) (by omega)];have e:prog.elem 28=5:=by kernel_rfl
 rw[e,IR];simp[Result.andThen,sliced]
theorem fC(x:Int)(h0:0<=x)(h1:x<18446744073709551616):bits .and .u64 x 67108863=x%67108864:=by
 obtain⟨n,rfl⟩:=jj h0;rw[show(67108863:Int)=((67108863:Nat):Int)from rfl,u64_and_nat _ _ (by omega) (by omega),show(67108863:Nat)=2^26-1 from rfl,lO];omega
theorem CH(h:l.length=5):(prog.info? 223).map (·.size)=some (Ai l).size:=by rw[Am,h];kernel_rfl
theorem AY{B:Nat}{a:World}(h:Below B a w)(hg:B<=g)(cs:Array Value):Below B a (w.setRow g cs) :=
 h.trans ⟨rfl,rfl,rfl,by simp,λk hk=>setRow_other w g k cs (by omega)⟩
theorem FL{fn:Func}{p u:Tmp}{ty:TypeId}(h:fn.results=#[.cell p ty,.tmp u])(tmps:Array Value)(w:World)(g:Nat)(t:TypeId)(cs:Array Value)(fr:Nat × Nat)(d:TypeDesc)(hp:tmps.getD p undef=.pointer (some ⟨g,0,none⟩))(hg:w.heap[g]?=some (.cells cs t fr))(hu:P.underlying ty=some d)(hd:(match d with|.struct _|.array _ _=>true|_=>false)=true)(hi:(P.info? ty).map (·.size)=some cs.size){v:Value}(hv:tmps.getD u undef=v) :
  (results fn tmps).run P w=.ok (.tuple #[.agg cs,v]) w:=by
 have hp':tmps[p]?.getD undef=.pointer (some ⟨g,0,none⟩):=by simpa using hp
 rw[results_cell_tmp h,hv];simp[hp',asAddr,run_loadVar_row w g t ty cs fr d hg hu hd hi]
theorem Ap{l:List Oper}{a:Act}(h:wpList P ops Q l a w):wpList P ops Q l a w:=h
theorem PK(l:List Int)(w:World)(hl:Lim 9223372036854775808 l) :
  Calls prog 194 #[.agg (Ai l)] w λe w'=>∃ m o,e=.returned (.tuple #[.agg (Ai m),.int .u64 o])/\Carr l m 5 o/\Bw w w':=by
 have h5:=hl.1;have hsz:=CH h5;go_enter func194,ntmps194
 go_wp2_with fail
 go_loopw [4,6] (λo i wr=>∃ (k:Nat) (m:List Int) (ov:Int),k<=5/\i=.int .i64 k/\o=.int .u64 ov/\Carr l m k ov/\wr.heap[w.heap.size]?=some (.cells (Ai m) 223 (0,0))/\wr.heap[w.heap.size+1]?=some (.cells (Ai [0,0,0,0,0]) 223 (0,0))/\Bw w wr) (λ_ i _=>5-(intOf i).toNat)
 case atStart=>
  refine⟨0,l,0,by omega,rfl,rfl,Carr.zero h5,?_,?_,?_⟩
  .exact heap_alloc2_old _ _ _
  .exact heap_alloc2_new _ _ _
  .exact((Below.refl _ _).alloc (A' _) _).alloc (by simp) _
 case round =>
  obtain⟨k,m,ov,hk,rfl,rfl,hc,hn,hr,hb⟩:=hrel;by_cases hk5:k<5
  .have hki:(k:Int)<5:=by omega
   have cn:=(cell_of_row wr _ k _ _ _ hn).trans (Aq m k (by rw[hc.len];omega));have fn:=frozen_of_row wr _ k _ _ hn;have hs:=hc.succ hl hk5;have o1:=hc.lo;have o2:=hc.hi;have e1:m.getD k 0=l.getD k 0:=hc.rest k (by omega);have b1:=hl.2 k;rw[<- e1]at b1
   have HS:Hid (Carr l (m.set k ((m.getD k 0+ov)%67108864)) (k+1) ((m.getD k 0+ov)/67108864)):=hs;clear hs hc e1;generalize m.getD k 0=x at cn HS b1;obtain⟨b1,b2⟩:=b1;have ha:=fC (x+ov) (by omega) (by omega);go_wp2
   go_roundw
   case rel =>
    refine⟨k+1,_,_,by omega,by go_num,rfl,HS.out,?_,?_,?_⟩
    .have h1:=DY (DY hn k (x+ov)) k ((x+ov)%67108864);rw[List.set_set]at h1
     exact h1
    .rw[heap_setCell_other _ _ _ _ (by simp),heap_setCell_other _ _ _ _ (by simp)];exact hr
    .exact(hb.setCell (p:=⟨w.heap.size,k,none⟩) (A' _) _).setCell (p:=⟨w.heap.size,k,none⟩) (A' _) _
   case measure=>simp[intOf];omega
  .have HK:Hid (k=5):=by unfold Hid;omega
   have hki:¬ (k:Int)<5:=by omega
   have hsz1:=CH hc.len;go_wp2_with ((with_reducible (refine Ap ?_));first
    | (refine wpList_load_row rfl 223 _ rfl w.heap.size rfl 223 _ (0,0) _ hn underlying223 rfl hsz1 ?_)
    | (refine wpList_store_row rfl 223 _ _ rfl (w.heap.size+1) _ rfl rfl 223 _ hr hsz1 (by rw[Am,Am,hc.len];rfl) (Bq m) ?_))
   refine bodyPost_ret (v:=.tuple #[.agg (Ai m),.int .u64 ov]) (FL rfl _ _ (w.heap.size+1) 223 _ (0,0) _ rfl (setRow_heap wr (w.heap.size+1) _ _ 223 _ hr) underlying223 rfl hsz1 rfl) rfl ⟨m,ov,rfl,by have:=HK.out;subst this;exact hc,AY hb (by omega) _⟩
def Q7:Nat->List Int->Prop
 | 0,m=>Lim 1152921504606846976 m
 | 1,m=>Lim 274877906944 m/\val m<1361129467683753853853498429727072845824+274877906944
 | 2,m=>Lim 274877906944 m/\val m<1361129467683753853853498429727072845824
 | _,m=>Lim 67108864 m
theorem Q7.lim:∀ {k:Nat} {m:List Int},Q7 k m->Lim 9223372036854775808 m
 | 0,_,h=>Lim.mono h (by omega)
 | 1,_,h=>Lim.mono h.1 (by omega)
 | 2,_,h=>Lim.mono h.1 (by omega)
 | _+3,_,h=>Lim.mono (B:=67108864) h (by omega)
theorem ea(a b o:Int)(h:a+1361129467683753853853498429727072845824*o=b):(a+5*o)%pp=b%pp:=by
 rw[<- h,show a+1361129467683753853853498429727072845824*o=a+5*o+pp*o by unfold pp;omega,lX]
theorem Q7.succ{o:Int}(h:Q7 k l)(hk:k<3)(hc:Carr l m 5 o):Q7 (k+1) (m.set 0 (m.getD 0 0+o*5))/\val (m.set 0 (m.getD 0 0+o*5))%pp=val l%pp/\0<=m.getD 0 0/\m.getD 0 0<67108864/\0<=o/\o<274877906944:=by
 obtain⟨h1,h2⟩:=hc.five;obtain⟨m0,m1,m2,m3,m4,rfl,b0,b1,b2,b3,b4⟩:=h1.split;have o1:=hc.lo;have o2:=hc.hi;simp only[Y',je];have hm:=ea _ _ _ h2;rw[CU]at h2
 have e:val [m0+o*5,m1,m2,m3,m4]=val [m0,m1,m2,m3,m4]+5*o:=by rw[CU,CU];omega
 rw[<- e]at hm
 refine⟨?_,hm,b0.1,b0.2,o1,o2⟩;obtain rfl|rfl|rfl:k=0\/k=1\/k=2:=by omega
 .obtain⟨l0,l1,l2,l3,l4,rfl,c0,c1,c2,c3,c4⟩:=Lim.split h;rw[CU]at h2
  refine⟨Lim.of5 (by omega) (by omega) (by omega) (by omega) (by omega),?_⟩;rw[CU];omega
 .obtain⟨h3,h4⟩:=h;obtain⟨l0,l1,l2,l3,l4,rfl,c0,c1,c2,c3,c4⟩:=Lim.split h3;rw[CU]at h2 h4
  refine⟨Lim.of5 (by omega) (by omega) (by omega) (by omega) (by omega),?_⟩;rw[CU];omega
 .obtain⟨h3,h4⟩:=h;have ho:o=0:=by omega
  subst ho;show Lim 67108864 _;exact Lim.of5 (by omega) (by omega) (by omega) (by omega) (by omega)
theorem Jh(l:List Int)(w:World)(hl:Lim 1152921504606846976 l) :
  Calls prog 193 #[.agg (Ai l)] w λe w'=>∃ m,e=.returned (.agg (Ai m))/\Lim 67108864 m/\val m%pp=val l%pp/\Bw w w':=by
 have h5:=hl.1;have hsz:=CH h5;go_enter func193,ntmps193
 go_wp2_with fail
 go_loopw [4] (λi wr=>∃ (k:Nat) (m:List Int),k<=3/\i=.int .i64 k/\Q7 k m/\val m%pp=val l%pp/\wr.heap[w.heap.size]?=some (.cells (Ai m) 223 (0,0))/\wr.heap[w.heap.size+1]?=some (.cells (Ai [0,0,0,0,0]) 223 (0,0))/\w.heap.size+2<=wr.heap.size/\Bw w wr) (λi _=>3-(intOf i).toNat)
 case atStart=>
  refine⟨0,l,by omega,rfl,hl,rfl,?_,?_,by simp,?_⟩
  .exact heap_alloc2_old _ _ _
  .exact heap_alloc2_new _ _ _
  .exact((Below.refl _ _).alloc (A' _) _).alloc (by simp) _
 case round =>
  obtain⟨k,m,hk,rfl,hc,hv,hn,hr,hz,hb⟩:=hrel;have hm5:=hc.lim.1;have hsz1:=CH hm5;by_cases hk3:k<3
  .have hki:(k:Int)<3:=by omega
   go_wp2_with ((with_reducible (refine Ap ?_));refine wpList_load_row rfl 223 _ rfl w.heap.size rfl 223 _ (0,0) _ hn underlying223 rfl hsz1 ?_)
   refine(PK m wr hc.lim).mono ?_;rintro e w1 ⟨m1,o,rfl,hc1,hb1⟩;obtain⟨hs,hv1,x1,x2,o1,o2⟩:=hc.succ hk3 hc1;have hl1:=hc1.len;have hsz2:=CH hl1;have hn1:=(hb1.block w.heap.size (by omega)).trans hn;have hr1:=(hb1.block (w.heap.size+1) (by omega)).trans hr;have hz1:=hb1.size;have hB1:Bw w w1:=hb.trans (hb1.mono (by omega));have hn2:=setRow_heap w1 w.heap.size (Ai m) (Ai m1) 223 (0,0) hn1;have hr2:(w1.setRow w.heap.size (Ai m1)).heap[w.heap.size+1]?=some (.cells (Ai [0,0,0,0,0]) 223 (0,0)):=(setRow_other _ _ _ _ (by omega)).trans hr1;have hB2:Bw w (w1.setRow w.heap.size (Ai m1)):=AY hB1 (A' _) _;have hz2:(w1.setRow w.heap.size (Ai m1)).heap.size=w1.heap.size:=by simp
   have cn:=(cell_of_row _ _ 0 _ _ _ hn2).trans (Aq m1 0 (by omega));have fn:=frozen_of_row _ _ 0 _ _ hn2;have hs':Hid (Q7 (k+1) (m1.set 0 (m1.getD 0 0+o*5))):=hs;have hv':Hid (val (m1.set 0 (m1.getD 0 0+o*5))%pp=val m%pp):=hv1;have hst:Hid (((w1.setRow w.heap.size (Ai m1)).setCell ⟨w.heap.size,0,none⟩ (.int .u64 (m1.getD 0 0+o*5))).heap[w.heap.size]?=some (.cells (Ai (m1.set 0 (m1.getD 0 0+o*5))) 223 (0,0))):=DY hn2 0 _;clear hb hn hr hb1 hr1 hB1 hc hc1 hs hv1;generalize m1.getD 0 0=x at cn hs' hv' hst x1 x2;go_wp2_with ((with_reducible (refine Ap ?_));refine wpList_store_row rfl 223 _ _ rfl w.heap.size _ rfl rfl 223 _ hn1 hsz2 (by rw[Am,Am,hl1,hm5]) (Bq m1) ?_)
   go_roundw
   case rel =>
    refine⟨k+1,_,by omega,by go_num,hs'.out,hv'.out.trans hv,hst.out,?_,?_,?_⟩
    .rw[heap_setCell_other _ _ _ _ (by simp)];exact hr2
    .simp;omega
    .exact hB2.setCell (p:=⟨w.heap.size,0,none⟩) (A' _) _
   case measure=>simp[intOf];omega
  .have hki:¬ (k:Int)<3:=by omega
   have hc3:Lim 67108864 m:=by
    obtain rfl:k=3:=by omega
    exact hc
   go_wp2_with ((with_reducible (refine Ap ?_));first
    | (refine wpList_load_row rfl 223 _ rfl w.heap.size rfl 223 _ (0,0) _ hn underlying223 rfl hsz1 ?_)
    | (refine wpList_store_row rfl 223 _ _ rfl (w.heap.size+1) _ rfl rfl 223 _ hr hsz1 (by rw[Am,Am,hm5];rfl) (Bq m) ?_))
   refine bodyPost_ret (v:=.agg (Ai m)) (results_cell_row rfl _ _ (w.heap.size+1) 223 _ (0,0) _ rfl (setRow_heap wr (w.heap.size+1) _ _ 223 _ hr) underlying223 rfl hsz1) rfl ⟨m,rfl,hc3,hv,AY hb (by omega) _⟩
theorem Ma(n:Int):IntKind.u64.wrap n=n%18446744073709551616:=by simp[IntKind.wrap,IntKind.bits,IntKind.signed]
theorem Rv(S:List Int)(hS:S.length=5)(j:Nat)(hj:j<5):∀ w,(Instr.index 223 (.agg (Ai S)) (.int .i64 (j:Int))).run prog w=.ok (.int .u64 (S.getD j 0)) w:=by
 intro w;obtain⟨a,b,c,d,e,rfl⟩:=Na S hS;obtain rfl|rfl|rfl|rfl|rfl:j=0\/j=1\/j=2\/j=3\/j=4:=by omega
 all_goals kernel_rfl
theorem Fx(w:World)(o1 o2 o3:Obj):(((w.alloc o1).alloc o2).alloc o3).heap[w.heap.size]?=some o1/\(((w.alloc o1).alloc o2).alloc o3).heap[w.heap.size+1]?=some o2/\(((w.alloc o1).alloc o2).alloc o3).heap[w.heap.size+1+1]?=some o3/\Bw w (((w.alloc o1).alloc o2).alloc o3):=by
 refine⟨?_,?_,?_,(((Below.refl _ _).alloc (A' _) _).alloc (by simp) _).alloc (by simp;omega) _⟩
 .rw[heap_alloc_old _ _ (by simp;omega)];exact heap_alloc2_old w o1 o2
 .rw[heap_alloc_old _ _ (by simp)];exact heap_alloc2_new w o1 o2
 .have:=heap_alloc_new ((w.alloc o1).alloc o2) o3;simpa using this
theorem Ku(w:World)(o1 o2 o3 o4:Obj):((((w.alloc o1).alloc o2).alloc o3).alloc o4).heap[w.heap.size]?=some o1/\((((w.alloc o1).alloc o2).alloc o3).alloc o4).heap[w.heap.size+1]?=some o2/\((((w.alloc o1).alloc o2).alloc o3).alloc o4).heap[w.heap.size+1+1]?=some o3/\((((w.alloc o1).alloc o2).alloc o3).alloc o4).heap[w.heap.size+1+1+1]?=some o4/\Bw w ((((w.alloc o1).alloc o2).alloc o3).alloc o4):=by
 obtain⟨h1,h2,h3,hb⟩:=Fx w o1 o2 o3;refine⟨?_,?_,?_,?_,hb.alloc (by simp;omega) _⟩
 .rw[heap_alloc_old _ _ (by simp;omega)];exact h1
 .rw[heap_alloc_old _ _ (by simp)];exact h2
 .rw[heap_alloc_old _ _ (by simp)];exact h3
 .have:=heap_alloc_new (((w.alloc o1).alloc o2).alloc o3) o4;simpa using this
theorem XR(l m:List Int)(w:World)(hl:Lim 67108864 l)(hm:Lim 67108864 m) :
  Calls prog 171 #[.agg (Ai l),.agg (Ai m)] w λe w'=>∃ r,e=.returned (.agg (Ai r))/\Lim 134217728 r/\val r=val l+val m/\Bw w w':=by
 have h5:=hl.1;have hszm:=CH hm.1;go_enter func171,ntmps171
 go_wp2_with ((with_reducible (refine Ap ?_));(refine wpList_load_row rfl 223 _ rfl (w.heap.size+1) rfl 223 _ (0,0) _ (Fx w _ _ _).2.1 underlying223 rfl hszm ?_))
 go_loopw [8] (λi wr=>∃ (k:Nat) (r:List Int),k<=5/\i=.int .i64 k/\Adds l m r k/\wr.heap[w.heap.size]?=some (.cells (Ai r) 223 (0,0))/\wr.heap[w.heap.size+1+1]?=some (.cells (Ai [0,0,0,0,0]) 223 (0,0))/\Bw w wr) (λi _=>5-(intOf i).toNat)
 case atStart=>exact⟨0,l,by omega,rfl,Adds.zero h5,(Fx w _ _ _).1,(Fx w _ _ _).2.2.1,(Fx w _ _ _).2.2.2⟩
 case round =>
  obtain⟨k,r,hk,rfl,hc,hn,hr,hb⟩:=hrel;have hr5:=hc.len;by_cases hk5:k<5
  .have hki:(k:Int)<5:=by omega
   have hix:=Rv m hm.1 k hk5;have cn:=(cell_of_row wr _ k _ _ _ hn).trans (Aq r k (by omega));have fn:=frozen_of_row wr _ k _ _ hn;have HS:Hid (Adds l m (r.set k (r.getD k 0+m.getD k 0)) (k+1)):=hc.succ hk5;have b1:=hl.2 k;rw[<- hc.rest k (by omega)]at b1
   have b2:=hm.2 k;generalize r.getD k 0=x at cn HS b1;generalize m.getD k 0=y at hix HS b2;obtain⟨b1,b3⟩:=b1;obtain⟨b2,b4⟩:=b2;go_wp2
   go_roundw
   case rel =>
    refine⟨k+1,_,by omega,by go_num,HS.out,DY hn k _,?_,?_⟩
    .rw[heap_setCell_other _ _ _ _ (by simp;omega)];exact hr
    .exact hb.setCell (p:=⟨w.heap.size,k,none⟩) (A' _) _
   case measure=>simp[intOf];omega
  .have HK:Hid (k=5):=by unfold Hid;omega
   have hki:¬ (k:Int)<5:=by omega
   have hsz1:=CH hr5;go_wp2_with ((with_reducible (refine Ap ?_));first
    | (refine wpList_load_row rfl 223 _ rfl (w.heap.size) rfl 223 _ (0,0) _ hn underlying223 rfl hsz1 ?_)
    | (refine wpList_store_row rfl 223 _ _ rfl (w.heap.size+1+1) _ rfl rfl 223 _ hr hsz1 (by rw[Am,Am,hr5];rfl) (Bq r) ?_))
   have hc5:Adds l m r 5:=by have:=HK.out;subst this;exact hc
   refine bodyPost_ret (v:=.agg (Ai r)) (results_cell_row rfl _ _ (w.heap.size+1+1) 223 _ (0,0) _ rfl (setRow_heap wr (w.heap.size+1+1) _ _ 223 _ hr) underlying223 rfl hsz1) rfl ⟨r,rfl,(hc5.five hl hm).1,(hc5.five hl hm).2,AY hb (by omega) _⟩
theorem V0(n m:List Int)(w:World)(hn:Lim 134217728 n)(hm:Lim 67108864 m) :
  Calls prog 173 #[.agg (Ai n),.agg (Ai m)] w λe w'=>∃ r,e=.returned (.agg (Ai r))/\Lim 67108864 r/\val r%pp=(val n*val m)%pp/\Bw w w':=by
 have hszn:=CH hn.1;have hszm:=CH hm.1;go_enter func173,ntmps173
 go_wp2_with ((with_reducible (refine Ap ?_));(refine wpList_load_row rfl 223 _ rfl (w.heap.size) rfl 223 _ (0,0) _ (Ku w _ _ _ _).1 underlying223 rfl hszn ?_))
 go_loopw [11] (λi wr=>∃ (k:Nat) (r:List Int),k<=5/\i=.int .i64 k/\Prods n m r k 0/\wr.heap[w.heap.size+1]?=some (.cells (Ai m) 223 (0,0))/\wr.heap[w.heap.size+1+1]?=some (.cells (Ai [0,0,0,0,0]) 223 (0,0))/\wr.heap[w.heap.size+1+1+1]?=some (.cells (Ai r) 223 (0,0))/\Bw w wr) (λi _=>5-(intOf i).toNat)
 case atStart=>exact⟨0,_,by omega,rfl,Prods.zero n m,(Ku w _ _ _ _).2.1,(Ku w _ _ _ _).2.2.1,(Ku w _ _ _ _).2.2.2.1,(Ku w _ _ _ _).2.2.2.2⟩
 case round =>
  obtain⟨k,r,hk,rfl,hc,hm1,hz,ho,hb⟩:=hrel;have hr5:=hc.len;by_cases hk5:k<5
  .have hki:(k:Int)<5:=by omega
   have hix:=Rv n hn.1 k hk5;obtain⟨x,hx⟩:∃ x,n.getD k 0=x:=⟨_,rfl⟩;rw[hx]at hix
   have HX:Hid (n.getD k 0=x):=hx;clear hx;go_wp2_with ((with_reducible (refine Ap ?_));(refine wpList_load_row rfl 223 _ rfl (w.heap.size+1) rfl 223 _ (0,0) _ hm1 underlying223 rfl hszm ?_))
   go_loopw [16] (λi wr=>∃ (j:Nat) (r:List Int),j<=5/\i=.int .i64 j/\Prods n m r k j/\wr.heap[w.heap.size+1]?=some (.cells (Ai m) 223 (0,0))/\wr.heap[w.heap.size+1+1]?=some (.cells (Ai [0,0,0,0,0]) 223 (0,0))/\wr.heap[w.heap.size+1+1+1]?=some (.cells (Ai r) 223 (0,0))/\Bw w wr) (λi _=>5-(intOf i).toNat)
   case atStart=>exact⟨0,r,by omega,rfl,hc,hm1,hz,ho,hb⟩
   case round =>
    clear hix;clear hc hm1 hz ho hb hr5;obtain⟨j,r,hj,rfl,hc,hm1,hz,ho,hb⟩:=hrel;have hr5:=hc.len;by_cases hj5:j<5
    .have hji:(j:Int)<5:=by omega
     have hix:=Rv m hm.1 j hj5;have hxy:=GW (hn.2 k) (hm.2 j);rw[HX.out]at hxy
     by_cases hs:k+j<5
     .have hsi:(k:Int)+(j:Int)<5:=by omega
      have cn:=(cell_of_row _ _ (k+j) _ _ _ ho).trans (Aq r (k+j) (by omega));have fn:=frozen_of_row _ _ (k+j) _ _ ho;have HS:Hid (Prods n m (r.set (k+j) (r.getD (k+j) 0+x*m.getD j 0)) k (j+1)):=by rw[<- HX.out];exact hc.low_step hn hm hs
      have b1:=hc.low (k+j);have b2:r.getD (k+j) 0<=1152921504606846976:=by have:=hc.high (k+j);omega
      generalize r.getD (k+j) 0=z at cn HS b1 b2;generalize m.getD j 0=y at hix HS hxy;obtain⟨xy1,xy2⟩:=hxy;have e1:IntKind.u64.wrap (x*y)=x*y:=by rw[Ma];omega
      have e2:IntKind.u64.wrap (z+x*y)=z+x*y:=by rw[Ma];omega
      clear hc;go_wp2
      go_roundw
      case rel =>
       refine⟨j+1,_,by omega,by go_num,HS.out,?_,?_,DY ho (k+j) _,?_⟩
       .rw[heap_setCell_other _ _ _ _ (by simp)];exact hm1
       .rw[heap_setCell_other _ _ _ _ (by simp)];exact hz
       .exact hb.setCell (p:=⟨w.heap.size+1+1+1,k+j,none⟩) (by simp;omega) _
      case measure=>simp[intOf];omega
     .have hsi:¬ (k:Int)+(j:Int)<5:=by omega
      have cn:=(cell_of_row _ _ (k+j-5) _ _ _ ho).trans (Aq r (k+j-5) (by omega));have fn:=frozen_of_row _ _ (k+j-5) _ _ ho;have HS:Hid (Prods n m (r.set (k+j-5) (r.getD (k+j-5) 0+x*m.getD j 0*5)) k (j+1)):=by rw[<- HX.out];exact hc.high_step hn hm (by omega) hk5 hj5
      have b1:=hc.low (k+j-5);have b2:r.getD (k+j-5) 0<=1152921504606846976:=by have:=hc.high (k+j-5);omega
      generalize r.getD (k+j-5) 0=z at cn HS b1 b2;generalize m.getD j 0=y at hix HS hxy;obtain⟨xy1,xy2⟩:=hxy;have e1:IntKind.u64.wrap (x*y)=x*y:=by rw[Ma];omega
      have e3:IntKind.u64.wrap (x*y*5)=x*y*5:=by rw[Ma];omega
      have e2:IntKind.u64.wrap (z+x*y*5)=z+x*y*5:=by rw[Ma];omega
      clear hc;obtain⟨t,ht⟩:∃ t:Nat,k+j=t+5:=⟨k+j-5,by omega⟩;have e4:(k:Int)+(j:Int)-5=(t:Int):=by omega
      have ht':k+j-5=t:=by omega
      rw[ht']at cn fn HS
      go_wp2
      go_roundw
      case rel =>
       refine⟨j+1,_,by omega,by go_num,HS.out,?_,?_,DY ho t _,?_⟩
       .rw[heap_setCell_other _ _ _ _ (by simp)];exact hm1
       .rw[heap_setCell_other _ _ _ _ (by simp)];exact hz
       .exact hb.setCell (p:=⟨w.heap.size+1+1+1,t,none⟩) (by simp;omega) _
      case measure=>simp[intOf];omega
    .have HJ:Hid (j=5):=by unfold Hid;omega
     have hji:¬ (j:Int)<5:=by omega
     go_wp2
     go_roundw
     case rel=>exact⟨k+1,r,by omega,by go_num,by have:=HJ.out;subst this;exact hc.row hm.1,hm1,hz,ho,hb⟩
     case measure=>simp[intOf];omega
  .have HK:Hid (k=5):=by unfold Hid;omega
   have hki:¬ (k:Int)<5:=by omega
   have hsz1:=CH hr5;have hc5:Prods n m r 5 0:=by have:=HK.out;subst this;exact hc
   obtain⟨l5,v5⟩:=hc5.five hn.1;have hzz:w.heap.size+1+1<wr.heap.size:=(H'.1 hz).1;clear hc hc5 hm1;go_wp2_with ((with_reducible (refine Ap ?_));(refine wpList_load_row rfl 223 _ rfl (w.heap.size+1+1+1) rfl 223 _ (0,0) _ ho underlying223 rfl hsz1 ?_))
   refine(Jh r wr l5).mono ?_;rintro e w1 ⟨r1,rfl,l1,v1,hb1⟩;have hz1:=(hb1.block (w.heap.size+1+1) hzz).trans hz;have hB1:Bw w w1:=hb.trans (hb1.mono hb.size);have hsz2:=CH l1.1;go_wp2_with ((with_reducible (refine Ap ?_));(refine wpList_store_row rfl 223 _ _ rfl (w.heap.size+1+1) _ rfl rfl 223 _ hz1 hsz2 (by rw[Am,Am,l1.1];rfl) (Bq r1) ?_))
   refine bodyPost_ret (v:=.agg (Ai r1)) (results_cell_row rfl _ _ (w.heap.size+1+1) 223 _ (0,0) _ rfl (setRow_heap w1 (w.heap.size+1+1) _ _ 223 _ hz1) underlying223 rfl hsz2) rfl ⟨r1,rfl,l1,v1.trans v5,AY hB1 (by omega) _⟩
theorem P4(w:World)(n:List Int)(_hn:n.length=5){A W:World}(hA:A=((w.alloc (.cells (Ai n) 223 (0,0))).alloc (.cells (Ai [0,0,0,0,0]) 223 (0,0))).alloc (.cells (Ai [0,0,0,0,0]) 223 (0,0)))(hW:A.setRow (w.heap.size+1+1) (Ai n)=W) :
  W.heap[w.heap.size]?=some (.cells (Ai n) 223 (0,0))/\W.heap[w.heap.size+1]?=some (.cells (Ai [0,0,0,0,0]) 223 (0,0))/\W.heap[w.heap.size+1+1]?=some (.cells (Ai n) 223 (0,0))/\Bw w W:=by
 obtain⟨a1,a2,a3,a4⟩:=Fx w (.cells (Ai n) 223 (0,0)) (.cells (Ai [0,0,0,0,0]) 223 (0,0)) (.cells (Ai [0,0,0,0,0]) 223 (0,0));rw[<- hA]at a1 a2 a3 a4
 subst hW;refine⟨?_,?_,setRow_heap _ _ _ _ 223 _ a3,AY a4 (by omega) _⟩
 .rw[setRow_other _ _ _ _ (by omega)];exact a1
 .rw[setRow_other _ _ _ _ (by omega)];exact a2
theorem U9(n:List Int)(w:World)(hn:Lim 67108864 n) :
  Calls prog 174 #[.agg (Ai n)] w λe w'=>∃ r,e=.returned (.agg (Ai r))/\Lim 67108864 r/\val r=val n%pp/\Bw w w':=by
 have h5:=hn.1;have hszn:=CH h5;have x0:=hn.2 0;have hset:(n.set 0 (n.getD 0 0+5)).length=5:=by simpa using h5
 have hlim:Lim 9223372036854775808 (n.set 0 (n.getD 0 0+5)):=by
  refine⟨hset,λj=>?_⟩;by_cases e:0=j
  .subst e;rw[AJ (by omega)];omega
  .rw[Ay e];have:=hn.2 j;omega
 have hszs:=CH hset;have HL:Hid (∀ m o,Carr (n.set 0 (n.getD 0 0+5)) m 5 o->Lim 67108864 m/\(0<o->val m=val n%pp)/\(¬ 0<o->val n=val n%pp)):=λm o h=>R7 hn h;have HST:Hid (∀ W:World,W.heap[w.heap.size+1+1]?=some (.cells (Ai n) 223 (0,0))->(W.setCell ⟨w.heap.size+1+1,0,none⟩ (.int .u64 (n.getD 0 0+5))).heap[w.heap.size+1+1]?=some (.cells (Ai (n.set 0 (n.getD 0 0+5))) 223 (0,0))):=λW h=>DY h 0 _;have HC:Hid (∀ W:World,W.heap[w.heap.size+1+1]?=some (.cells (Ai n) 223 (0,0))->W.cell? ⟨w.heap.size+1+1,0,none⟩=some (.int .u64 (n.getD 0 0))):=λW h=>(cell_of_row W _ 0 _ _ _ h).trans (Aq n 0 (by omega));generalize n.set 0 (n.getD 0 0+5)=m0 at hlim HL hszs HST hset;generalize n.getD 0 0=x at x0 HST HC;obtain⟨x1,x2⟩:=x0;obtain⟨A,hA⟩:∃ A,A=((w.alloc (.cells (Ai n) 223 (0,0))).alloc (.cells (Ai [0,0,0,0,0]) 223 (0,0))).alloc (.cells (Ai [0,0,0,0,0]) 223 (0,0)):=⟨_,rfl⟩;obtain⟨W1,hW1⟩:∃ W,A.setRow (w.heap.size+1+1) (Ai n)=W:=⟨_,rfl⟩;obtain⟨s1,s2,s3,s4⟩:=P4 w n h5 hA hW1;rw[hA]at hW1
 clear hA;have c0:=HC.out W1 s3;have f0:=frozen_of_row W1 _ 0 _ _ s3;have t3:=HST.out W1 s3;have t1:(W1.setCell ⟨w.heap.size+1+1,0,none⟩ (.int .u64 (x+5))).heap[w.heap.size]?=some (.cells (Ai n) 223 (0,0)):=by rw[heap_setCell_other _ _ _ _ (by simp;omega)];exact s1
 have t2:(W1.setCell ⟨w.heap.size+1+1,0,none⟩ (.int .u64 (x+5))).heap[w.heap.size+1]?=some (.cells (Ai [0,0,0,0,0]) 223 (0,0)):=by rw[heap_setCell_other _ _ _ _ (by simp)];exact s2
 have t4:Bw w (W1.setCell ⟨w.heap.size+1+1,0,none⟩ (.int .u64 (x+5))):=s4.setCell (p:=⟨w.heap.size+1+1,0,none⟩) (by simp;omega) _;have tz:w.heap.size+1+1<(W1.setCell ⟨w.heap.size+1+1,0,none⟩ (.int .u64 (x+5))).heap.size:=(H'.1 t3).1;have HW:Hid _:=hW1;clear hW1 s1 s2 s3 s4 HST HC;go_enter func174,ntmps174
 go_wp2_with ((with_reducible (refine Ap ?_));first
  | (refine wpList_load_row rfl 223 _ rfl (w.heap.size) rfl 223 _ (0,0) _ (heap_alloc2_old _ _ _) underlying223 rfl hszn ?_)
  | (refine wpList_store_row rfl 223 _ _ rfl (w.heap.size+1+1) _ rfl rfl 223 (Ai [0,0,0,0,0]) (Fx w _ _ _).2.2.1 hszn (by rw[Am,Am,h5];rfl) (Bq n) ?_;refine(congrArg (wpList _ _ _ _ _) HW.out).mpr ?_)
  | (refine wpList_load_row rfl 223 _ rfl (w.heap.size+1+1) rfl 223 _ (0,0) _ t3 underlying223 rfl hszs ?_))
 refine(PK m0 _ hlim).mono ?_;rintro e w1 ⟨m1,o,rfl,hc1,hb1⟩;obtain⟨l1,g1,g2⟩:=HL.out m1 o hc1;have o1:=hc1.lo;generalize W1.setCell _ _=W2 at hb1 t1 t2 t3 t4 tz;have u1:=(hb1.block w.heap.size (by omega)).trans t1;have u2:=(hb1.block (w.heap.size+1) (by omega)).trans t2;have u3:=(hb1.block (w.heap.size+1+1) (by omega)).trans t3;have u4:Bw w w1:=t4.trans (hb1.mono t4.size);have v1:(w1.setRow (w.heap.size+1+1) (Ai m1)).heap[w.heap.size]?=some (.cells (Ai n) 223 (0,0)):=(setRow_other _ _ _ _ (by omega)).trans u1;have v2:(w1.setRow (w.heap.size+1+1) (Ai m1)).heap[w.heap.size+1]?=some (.cells (Ai [0,0,0,0,0]) 223 (0,0)):=(setRow_other _ _ _ _ (by omega)).trans u2;have v3:=setRow_heap w1 (w.heap.size+1+1) _ (Ai m1) 223 _ u3;have v4:Bw w (w1.setRow (w.heap.size+1+1) (Ai m1)):=AY u4 (by omega) _;have hsz1:=CH l1.1;by_cases ho:0<o
 .have g1':=g1 ho;clear g1 g2 hc1 HL c0 f0 HW;go_wp2_with ((with_reducible (refine Ap ?_));first
   | (refine wpList_store_row rfl 223 _ _ rfl (w.heap.size+1+1) _ rfl rfl 223 _ u3 hsz1 (by rw[Am,Am,l1.1,hset]) (Bq m1) ?_)
   | (refine wpList_load_row rfl 223 _ rfl (w.heap.size+1+1) rfl 223 _ (0,0) _ v3 underlying223 rfl hsz1 ?_)
   | (refine wpList_store_row rfl 223 _ _ rfl (w.heap.size+1) _ rfl rfl 223 _ v2 hsz1 (by rw[Am,Am,l1.1];rfl) (Bq m1) ?_))
  exact bodyPost_ret (v:=.agg (Ai m1)) (results_cell_row rfl _ _ (w.heap.size+1) 223 _ (0,0) _ rfl (setRow_heap _ (w.heap.size+1) _ _ 223 _ v2) underlying223 rfl hsz1) rfl ⟨m1,rfl,l1,g1',AY v4 (by omega) _⟩
 .have g2':=g2 (by omega);clear g1 g2 hc1 HL c0 f0 HW;go_wp2_with ((with_reducible (refine Ap ?_));first
   | (refine wpList_store_row rfl 223 _ _ rfl (w.heap.size+1+1) _ rfl rfl 223 _ u3 hsz1 (by rw[Am,Am,l1.1,hset]) (Bq m1) ?_)
   | (refine wpList_load_row rfl 223 _ rfl (w.heap.size) rfl 223 _ (0,0) _ v1 underlying223 rfl hszn ?_)
   | (refine wpList_store_row rfl 223 _ _ rfl (w.heap.size+1) _ rfl rfl 223 _ v2 hszn (by rw[Am,Am,h5];rfl) (Bq n) ?_))
  exact bodyPost_ret (v:=.agg (Ai n)) (results_cell_row rfl _ _ (w.heap.size+1) 223 _ (0,0) _ rfl (setRow_heap _ (w.heap.size+1) _ _ 223 _ v2) underlying223 rfl hszn) rfl ⟨n,rfl,hn,g2',AY v4 (by omega) _⟩
theorem US(k q sh:Nat)(h:sh+26*q=8*k)(hs:sh<26):(0:Int)<=2^sh/\(2:Int)^sh<=33554432/\(2:Int)^sh*67108864^q=256^k:=by
 refine⟨lM (Int.pow_pos (by omega)),?_,?_⟩
 .have h1:(2:Nat)^sh<=2^25:=Nat.pow_le_pow_right (by omega) (by omega);have h2:(((2:Nat)^sh:Nat):Int)<=((2^25:Nat):Int):=Int.ofNat_le.2 h1;rw[kH]at h2
  exact h2
 .rw[show(67108864:Int)=2^26 from rfl,show(256:Int)=2^8 from rfl,<- Int.pow_mul,<- Int.pow_mul,<- kZ,h]
theorem Qb(v:Value)(b:List Int)(w:World)(h:Sl w v b)(hl:b.length<=17) :
  Calls prog 175 #[v] w λe w'=>∃ r,e=.returned (.agg (Ai r))/\Lim 67108864 r/\val r%pp=leN b%pp/\Bw w w':=by
 obtain⟨⟨a,cap,rfl,hc,hn,h1⟩,hla,hba⟩:=h;have hcell:∃ B off,(b≠[]->a=some ⟨B,off,none⟩)/\(b≠[]->B<w.heap.size)/\∀ i,i<b.length->w.cell? ⟨B,off+i,none⟩=some (.int .u8 (b.getD i 0)):=by
  rcases h1 with rfl|⟨B,off,rfl,hb,hcell⟩
  .exact⟨0,0,λh=>absurd rfl h,λh=>absurd rfl h,λi hi=>by simp at hi⟩
  .exact⟨B,off,λ_=>rfl,λ_=>hb,hcell⟩
 clear h1;obtain⟨B,off,ha,hB,HC0⟩:=hcell;have HC:Hid (∀ i,i<b.length->w.cell? ⟨B,off+i,none⟩=some (.int .u8 (b.getD i 0))):=HC0;have HA:Hid (b≠[]->a=some ⟨B,off,none⟩):=ha;have HB:Hid (b≠[]->B<w.heap.size):=hB;have HBY:Hid (∀ x∈b,0<=x/\x<256):=hba;obtain⟨n,HN⟩:∃ n,Hid (b.length=n):=⟨_,rfl⟩;rw[HN.out]at hl hc hla ⊢
 clear HC0 ha hB hba hn;go_enter func175,ntmps175
 go_wp2_with fail
 go_loopw [8] (λi wr=>∃ (k:Nat) (r:List Int),k<=n/\i=.int .i64 k/\Reads b r k/\wr.heap[w.heap.size]?=some (.cells (Ai [0,0,0,0,0]) 223 (0,0))/\wr.heap[w.heap.size+1]?=some (.cells (Ai r) 223 (0,0))/\Bw w wr) (λi _=>n-(intOf i).toNat)
 case atStart=>exact⟨0,_,by omega,rfl,Reads.zero b,heap_alloc2_old _ _ _,heap_alloc2_new _ _ _,((Below.refl _ _).alloc (A' _) _).alloc (by simp) _⟩
 case round =>
  obtain⟨k,r,hk,rfl,hr,hz,ho,hb⟩:=hrel;have hr5:=hr.len;by_cases hkn:k<n
  .have hki:(k:Int)<(n:Int):=by omega
   have hne:b≠[]:=by intro e;have:=HN.out;rw[e]at this;simp at this;omega
   have hA:=HA.out hne;subst hA;have hBs:=HB.out hne;have ck:=(hb.cell (p:=⟨B,off+k,none⟩) hBs).trans (HC.out k (by rw[HN.out];exact hkn));have hbk:=Al HBY.out k;have HS:Hid (∀ (q:Nat) (m:Int),q<5->0<=m/\m<=33554432->m*67108864^q=256^k->Reads b (r.set q (r.getD q 0+b.getD k 0*m)) (k+1)):=λq m h1 h2 h3=>hr.succ hbk q m h1 h2 h3;have HR:Hid (∀ t,0<=r.getD t 0/\r.getD t 0<=300000000000):=λt=>⟨hr.low t,by have:=hr.high t;omega⟩;have HK:Hid (∀ t,t<5->wr.cell? ⟨w.heap.size+1,t,none⟩=some (.int .u64 (r.getD t 0))):=λt ht=>(cell_of_row _ _ t _ _ _ ho).trans (Aq r t (by omega));have HF:Hid (∀ t,wr.frozen? ⟨w.heap.size+1,t,none⟩=false):=λt=>frozen_of_row _ _ t _ _ ho;have HST:Hid (∀ t x,(wr.setCell ⟨w.heap.size+1,t,none⟩ (.int .u64 x)).heap[w.heap.size+1]?=some (.cells (Ai (r.set t x)) 223 (0,0))):=λt x=>DY ho t x;generalize b.getD k 0=x at ck HS hbk;obtain⟨x1,x2⟩:=hbk;clear hr;obtain⟨q,hq⟩:∃ q,8*k/26=q:=⟨_,rfl⟩;have hq5:q<5:=by omega
   have cq:=HK.out q hq5;have fq:=HF.out q;have rq:=HR.out q;have HSq:Hid (∀ (m:Int),0<=m/\m<=33554432->m*67108864^q=256^k->Reads b (r.set q (r.getD q 0+x*m)) (k+1)):=λm h2 h3=>HS.out q m hq5 h2 h3;generalize r.getD q 0=y at cq rq HSq;obtain⟨y1,y2⟩:=rq;obtain⟨sh,hsh⟩:∃ sh,8*k%26=sh:=⟨_,rfl⟩;have hsh26:sh<26:=by omega
   have i1:(8*(k:Int))/26=(q:Int):=by omega
   have i2:(8*(k:Int))%26=(sh:Int):=by omega
   have i3:Int.tdiv (8*(k:Int)) 26=(q:Int):=by rw[lY (by omega)];exact i1
   have i4:Int.tmod (8*(k:Int)) 26=(sh:Int):=by rw[Int.tmod_eq_emod_of_nonneg (by omega)];exact i2
   have HP:Hid ((0:Int)<=2^sh/\(2:Int)^sh<=33554432/\(2:Int)^sh*67108864^q=256^k):=US k q sh (by omega) hsh26;clear hq HK HF HR HS;go_wp2_with fail
   refine Ar 13 (by kernel_rfl) (by kernel_rfl) ?_;simp only[jQ,jY,jV,kh]
   repeat (go_big_quiet_step (fail))
   refine wpQuiet_nil ?_;go_wp2
   obtain⟨p1,p2,p3⟩:=HP.out;have q1:0<=x*2^sh:=mE x1 p1;have q2:x*2^sh<=256*33554432:=mF (by omega) p2 p1 (by omega);rw[show IntKind.u64.wrap (x*2^sh)=x*2^sh by rw[Ma];omega,show IntKind.u64.wrap (y+x*2^sh)=y+x*2^sh by rw[Ma];omega];go_roundw
   case rel =>
    refine⟨k+1,_,by omega,by go_num,HSq.out (2^sh) ⟨p1,p2⟩ p3,?_,HST.out q _,?_⟩
    .exact(heap_setCell_other _ _ _ _ (by simp)).trans hz
    .exact(hb.setCell (p:=⟨w.heap.size+1,q,none⟩) (by simp) _).drew
   case measure=>simp[intOf];omega
  .have HK:Hid (k=n):=by unfold Hid;omega
   have hki:¬ (k:Int)<(n:Int):=by omega
   have hsz1:=CH hr5;have hlim:Lim 1152921504606846976 r:=⟨hr5,λt=>⟨hr.low t,by have:=hr.high t;omega⟩⟩;have HV:Hid (val r=leN b):=by
    unfold Hid;rw[hr.sum,HK.out,<- HN.out];rfl
   have hzz:w.heap.size<wr.heap.size:=(H'.1 hz).1;clear hr;go_wp2_with ((with_reducible (refine Ap ?_));(refine wpList_load_row rfl 223 _ rfl (w.heap.size+1) rfl 223 _ (0,0) _ ho underlying223 rfl hsz1 ?_))
   refine(Jh r wr hlim).mono ?_;rintro e w1 ⟨r1,rfl,l1,v1,hb1⟩;have hz1:=(hb1.block w.heap.size hzz).trans hz;have hB1:Bw w w1:=hb.trans (hb1.mono hb.size);have hsz2:=CH l1.1;go_wp2_with ((with_reducible (refine Ap ?_));(refine wpList_store_row rfl 223 _ _ rfl (w.heap.size) _ rfl rfl 223 _ hz1 hsz2 (by rw[Am,Am,l1.1];rfl) (Bq r1) ?_))
   exact bodyPost_ret (v:=.agg (Ai r1)) (results_cell_row rfl _ _ (w.heap.size) 223 _ (0,0) _ rfl (setRow_heap w1 (w.heap.size) _ _ 223 _ hz1) underlying223 rfl hsz2) rfl ⟨r1,rfl,l1,by rw[v1,HV.out],AY hB1 (A' _) _⟩
def byA(l:List Int):Array Value:=(l.map (Value.int .u8)).toArray
theorem Zj(l:List Int)(i:Nat)(x:Int):(byA l).setIfInBounds i (.int .u8 x)=byA (l.set i x):=by
 apply ky;simp[byA,List.map_set]
theorem FZ(h:w.heap[g]?=some (.cells (byA l) t (0,0)))(k:Nat)(x:Int) :
  (w.setCell ⟨g,k,none⟩ (.int .u8 x)).heap[g]?=some (.cells (byA (l.set k x)) t (0,0)):=by
 rw[heap_setCell_same _ _ _ _ _ _ h,Zj]
theorem Hh(l:List Int)(i:Nat)(h:i<l.length):(byA l)[i]?=some (.int .u8 (l.getD i 0)):=by
 simp[byA,List.getD,List.getElem?_eq_getElem h]
theorem WY:(prog.info? 5).map (·.size)=some 1:=by kernel_rfl
theorem Il(l:List Int)(n:Nat):splice ((List.replicate n (0:Int)).map (Value.int .u8)) 0 (l.map (Value.int .u8))=(l++List.replicate (n-l.length) 0).map (Value.int .u8):=by
 have e:(List.replicate n (0:Int)).map (Value.int .u8)=List.replicate n (Value.int .u8 0):=lw;rw[e];simp only[splice,jY,j5,jc,jm,List.drop_replicate,iS,lw]
theorem Sl.src{sp:Option Addr}{c:Nat}(h:Sl w (.slice sp n c) l)(hp:0<l.length):∃ ad,sp=some ad/\∀ (j:Nat) (v:Value),(l.map (Value.int .u8))[j]?=some v->w.cell? (ad.add j)=some v:=by
 obtain⟨⟨a,cap,e,hc,hn,h1⟩,hla,hba⟩:=h;simp only[Value.slice.injEq]at e;obtain⟨rfl,rfl,rfl⟩:=e;rcases h1 with rfl|⟨b,off,rfl,_,hcell⟩
 .simp at hp
 .refine⟨_,rfl,λj v hj=>?_⟩;have hjl:j<l.length:=by
   have:=(Q'.1 hj).1;simpa using this
  have hadd:(⟨b,off,none⟩:Addr).add j=⟨b,off+j,none⟩:=by unfold Addr.add;split<;>simp_all
  rw[hadd,hcell j hjl];simp[List.getElem?_eq_getElem hjl]at hj
  rw[AR hjl,hj]
theorem Sl.ofByA(h:w.heap[g]?=some (.cells (byA l) t fr))(hl:l.length<=140737488351232)(hb:∀ x∈l,0<=x/\x<256):Sl w (.slice (some ⟨g,0,none⟩) l.length l.length) l:=by
 refine⟨⟨_,l.length,rfl,by simp,by simp,.inr ⟨g,0,rfl,(H'.1 h).1,λi hi=>?_⟩⟩,hl,hb⟩;rw[cell_of_row _ _ (0+i) _ _ _ h,jm,Hh l i hi]
theorem Sl.rowOf(h:w.heap[g]?=some (.cells (byA l) t fr))(hn:l.length=n)(hl:l.length<=140737488351232)(hb:∀ x∈l,0<=x/\x<256):Sl w (.slice (some ⟨g,0,none⟩) n n) l:=by
 subst hn;exact Sl.ofByA h hl hb
theorem Xz(l:List Int)(h:l.length<=16):(l++List.replicate (17-l.length) 0).set l.length 1=l++[1]++List.replicate (16-l.length) 0:=by
 rw[j' _ _ (A' _),show 17-l.length=16-l.length+1 by omega,List.replicate_succ];simp
theorem Xy(l:List Int)(n:Nat):leN (l++[1]++List.replicate n 0)=leN (l++[1]):=by
 rw[R4,U7];omega
theorem PR(v:Value)(l:List Int)(w:World)(h:Sl w v l)(hl:l.length<=16) :
  Calls prog 172 #[v] w λe w'=>∃ r,e=.returned (.agg (Ai r))/\Lim 67108864 r/\val r%pp=leN (l++[1])%pp/\Bw w w':=by
 have hs:=h;obtain⟨⟨a,cap,rfl,hc,hn,h1⟩,hla,hba⟩:=h;have HBY:Hid (∀ x∈l,0<=x/\x<256):=hba;have HM:=Xz l hl;have HML:=Xy l (16-l.length);clear h1 hba hn;go_enter func172,ntmps172
 go_wp2_with (refine wpList_copy_splice rfl _ _ 28 28 rfl 5 underlying28 WY _ _ _ _ _ _ rfl rfl (w.heap.size+1) 0 ((List.replicate 17 (0:Int)).map (Value.int .u8)) 271 (heap_alloc2_new _ _ _) (l.map (Value.int .u8)) (by rw[jc];exact(jR (show l.length<=17 by omega)).symm) (λhp=>⟨rfl,(hs.below (((Below.refl _ _).alloc (A' _) _).alloc (by simp) _)).src (by simpa using hp)⟩) (by rw[jc,jc,j4];omega) (E6 _) (w.heap.size+1) _ (Below.refl _ _) (A' _) ?_)
 intro w2 H2 hb2;have hr2:w2.heap[w.heap.size+1]?=some (.cells (byA (l++List.replicate (17-l.length) 0)) 271 (0,0)):=by
  have h3:w2.heap[w.heap.size+1]?=some (.cells (splice ((List.replicate 17 (0:Int)).map (Value.int .u8)) 0 (l.map (Value.int .u8))).toArray 271 (0,0)):=H2.out;rw[Il]at h3
  exact h3
 have hB2:Bw w w2:=(((Below.refl _ _).alloc (A' _) _).alloc (by simp) _).trans (hb2.mono (by omega));have hq2:w2.heap[w.heap.size]?=some (.cells (Ai [0,0,0,0,0]) 223 (0,0)):=by
  rw[hb2.block _ (by omega)];exact heap_alloc2_old _ _ _
 clear H2 hb2;have hlen:(l++List.replicate (17-l.length) (0:Int)).length=17:=by simp;omega
 have cl:=(cell_of_row _ _ l.length _ _ _ hr2).trans (Hh _ l.length (by omega));have fl:=frozen_of_row _ _ l.length _ _ hr2;have hr3:=FZ hr2 l.length 1;rw[HM]at hr3
 have hq3:(w2.setCell ⟨w.heap.size+1,l.length,none⟩ (.int .u8 1)).heap[w.heap.size]?=some (.cells (Ai [0,0,0,0,0]) 223 (0,0)):=(heap_setCell_other _ _ _ _ (by simp)).trans hq2;have hB3:Bw w (w2.setCell ⟨w.heap.size+1,l.length,none⟩ (.int .u8 1)):=hB2.setCell (p:=⟨w.heap.size+1,l.length,none⟩) (by simp) _;have hzz:w.heap.size<(w2.setCell ⟨w.heap.size+1,l.length,none⟩ (.int .u8 1)).heap.size:=(H'.1 hq3).1;have s3:Sl (w2.setCell ⟨w.heap.size+1,l.length,none⟩ (.int .u8 1)) (.slice (some ⟨w.heap.size+1,0,none⟩) 17 17) (l++[1]++List.replicate (16-l.length) 0):=by
  refine Sl.rowOf hr3 (by simp;omega) (by simp;omega) ?_;intro x hx;rcases V'.1 hx with h|h
  .rcases V'.1 h with h|h
   .exact HBY.out x h
   .simp at h;omega
  .rw[(lh.1 h).2];omega
 have hlen3:(l++[1]++List.replicate (16-l.length) (0:Int)).length<=17:=by simp;omega
 have HS3:Hid _:=s3;have HHM:Hid (leN (l++[1]++List.replicate (16-l.length) 0)=leN (l++[1])):=HML;clear hr3 hr2 HM HML s3 hs;generalize l++[1]++List.replicate (16-l.length) 0=L at HS3 hlen3 HHM;generalize (l++List.replicate (17-l.length) (0:Int)).getD l.length 0=c0 at cl;go_wp2_with fail
 refine(Qb _ L _ HS3.out hlen3).mono ?_;rintro e w4 ⟨r,rfl,lr,vr,hb4⟩;have hq4:=(hb4.block w.heap.size hzz).trans hq3;have hB4:Bw w w4:=hB3.trans (hb4.mono hB3.size);have hsz2:=CH lr.1;go_wp2_with ((with_reducible (refine Ap ?_));(refine wpList_store_row rfl 223 _ _ rfl (w.heap.size) _ rfl rfl 223 _ hq4 hsz2 (by rw[Am,Am,lr.1];rfl) (Bq r) ?_))
 exact bodyPost_ret (v:=.agg (Ai r)) (results_cell_row rfl _ _ (w.heap.size) 223 _ (0,0) _ rfl (setRow_heap w4 (w.heap.size) _ _ 223 _ hq4) underlying223 rfl hsz2) rfl ⟨r,rfl,lr,by rw[vr,HHM.out],AY hB4 (A' _) _⟩
def fY:Value->Nat
 | .slice _ n _=>n
 | _=>0
theorem eQ{old:Array Value}(t:List Int)(hg:w.heap[g]?=some (.cells old 223 (0,0)))(ho:old.size=5)(ht:t.length=5):(storeCells ⟨g,0,none⟩ (Ai t).toList).run prog w=.ok () (w.setRow g (Ai t)):=by
 have:=run_storeCells_from (P:=prog) g 223 (Ai t).toList 0 old w hg (by simp[Am];omega) (λv hv=>by simp[Ai]at hv;obtain⟨x,_,rfl⟩:=hv;rfl);rw[this];simp[Ai]
theorem Mu{id:Nat}{K:Act->World->Prop}{a:Act}(R:List Int->List Int->List Int->World->Prop){A:List Int->List Int->List Int->Act}(hreg:∀ K':Act->World->Prop,Hid (∀ x y z W2,R x y z W2->K' (A x y z) W2)->(Code.region id ops true).wp P (Exit.then K' Q) a w)(hrest:∀ x y z W2,R x y z W2->K (A x y z) W2):(Code.region id ops true).wp P (Exit.then K Q) a w:=hreg K hrest
theorem NY(rl:List Int)(R:Int)(v:Value)(l:List Int)(w:World)(h:Sl w v l)(hl:l.length<=4000)(hr:Lim 67108864 rl)(hR:val rl%pp=R%pp) :
  Calls prog 142 #[.agg (Ai rl),v] w λe w'=>∃ r,e=.returned (.agg (Ai r))/\Lim 67108864 r/\val r=cX R l/\Bw w w':=by
 obtain⟨a0,c0,rfl⟩:∃ a c,v=.slice a l.length c:=by
  obtain⟨⟨a,c,e,_⟩,_⟩:=h;exact⟨a,c,e⟩
 have HR:Hid (val rl%pp=R%pp):=hR;clear hR;go_enter func142,ntmps142
 go_wp2_with fail
 go_loopw [1] (λdv wr=>∃ (k:Nat) (nl:List Int) (a:Option Addr) (c:Nat),16*k<=l.length+15/\dv=.slice a (l.length-16*k) c/\Sl w dv (l.drop (16*k))/\Lim 67108864 nl/\val nl%pp=JB R l k%pp/\wr.heap[w.heap.size]?=some (.cells (Ai rl) 223 (0,0))/\wr.heap[w.heap.size+1]?=some (.cells (Ai [0,0,0,0,0]) 223 (0,0))/\wr.heap[w.heap.size+1+1]?=some (.cells (Ai nl) 223 (0,0))/\Bw w wr) (λdv _=>fY dv)
 case atStart =>
  obtain⟨s1,s2,s3,s4⟩:=Fx w (.cells (Ai rl) 223 (0,0)) (.cells (Ai [0,0,0,0,0]) 223 (0,0)) (.cells (Ai [0,0,0,0,0]) 223 (0,0));exact⟨0,[0,0,0,0,0],a0,c0,by omega,rfl,h,Lim.of5 (by omega) (by omega) (by omega) (by omega) (by omega),rfl,s1,s2,s3,s4⟩
 case round =>
  clear h;obtain⟨k,nl,a,c,hk,rfl,hs,hln,hvn,hrr,hz,hn,hb⟩:=hrel;by_cases hk16:16*k<l.length
  .obtain⟨n,hne⟩:∃ n,l.length-16*k=n:=⟨_,rfl⟩;have HNE:Hid (l.length-16*k=n):=hne;have hn0:0<n:=by omega
   have hn0i:(0:Int)<(n:Int):=by omega
   rw[hne]at hs ⊢
   have hlen:(l.drop (16*k)).length=n:=by rw[iQ];exact hne
   obtain⟨n0,n1,n2,n3,n4,rfl,_⟩:=hln.split;obtain⟨r0,r1,r2,r3,r4,rfl,_⟩:=hr.split;have kn0:=(cell_of_row _ _ 0 _ _ _ hn).trans (Aq _ 0 (by simp));have kn1:=(cell_of_row _ _ 1 _ _ _ hn).trans (Aq _ 1 (by simp));have kn2:=(cell_of_row _ _ 2 _ _ _ hn).trans (Aq _ 2 (by simp));have kn3:=(cell_of_row _ _ 3 _ _ _ hn).trans (Aq _ 3 (by simp));have kn4:=(cell_of_row _ _ 4 _ _ _ hn).trans (Aq _ 4 (by simp));have kr0:=(cell_of_row _ _ 0 _ _ _ hrr).trans (Aq _ 0 (by simp));have kr1:=(cell_of_row _ _ 1 _ _ _ hrr).trans (Aq _ 1 (by simp));have kr2:=(cell_of_row _ _ 2 _ _ _ hrr).trans (Aq _ 2 (by simp));have kr3:=(cell_of_row _ _ 3 _ _ _ hrr).trans (Aq _ 3 (by simp));have kr4:=(cell_of_row _ _ 4 _ _ _ hrr).trans (Aq _ 4 (by simp));simp only[je,jq]at kn0 kn1 kn2 kn3 kn4 kr0 kr1 kr2 kr3 kr4;have hzn:w.heap.size+1+1<wr.heap.size:=(H'.1 hn).1;have hzr:w.heap.size<wr.heap.size:=by omega
   have HN:Hid _:=hn;have HRR:Hid _:=hrr;have HZ:Hid _:=hz;have HB:Hid _:=hb;have HVN:Hid (val [n0,n1,n2,n3,n4]%pp=JB R l k%pp):=hvn;clear hn hrr hz hb hvn hne;obtain⟨sz,hmin,hsz1,hsz2⟩:∃ sz:Nat,(if(n:Int)<16 then(n:Int)else 16)=(sz:Int)/\sz<=n/\((sz=16)\/(sz=n/\n<16)):=by
    by_cases h16:(n:Int)<16
    .exact⟨n,by rw[if_pos h16],by omega,.inr ⟨rfl,by omega⟩⟩
    .exact⟨16,by rw[if_neg h16];rfl,by omega,.inl rfl⟩
   obtain⟨a1,c1,hc1,st⟩:=hs.upTo sz (by omega);obtain⟨a2,c2,hc2,sd⟩:=hs.from sz (by omega);have hpl:((l.drop (16*k)).take sz).length<=16:=by rw[iO];omega
   have HP:Hid ((l.drop (16*k)).take sz=piece l k):=by
    unfold Hid piece;rcases hsz2 with rfl|⟨rfl,h16⟩
    .rfl
    .rw[iU (by omega),iU (by omega)]
   have HD:Hid ((l.drop (16*k)).drop sz=l.drop (16*(k+1))/\n-sz=l.length-16*(k+1)):=by
    unfold Hid;have:=HNE.out;rw[kz];rcases hsz2 with rfl|⟨rfl,h16⟩
    .exact⟨by congr 1,by omega⟩
    .refine⟨?_,by omega⟩;rw[jD (by omega),jD (by omega)]
   have HSZ:Hid (1<=sz):=by unfold Hid;omega
   clear hsz2;go_wp2_with fail
   apply Mu (λm1 s1 t1 W=>Lim 67108864 t1/\val t1%pp=JB R l (k+1)%pp/\W.heap[w.heap.size]?=some (.cells (Ai [r0,r1,r2,r3,r4]) 223 (0,0))/\W.heap[w.heap.size+1]?=some (.cells (Ai [0,0,0,0,0]) 223 (0,0))/\W.heap[w.heap.size+1+1]?=some (.cells (Ai t1) 223 (0,0))/\Bw w W)
   .intro K2 HK2
    go_region_with (first
     | (go_at_call 172;refine(PR _ _ _ (st.below HB.out.drew) hpl).mono ?_;rintro e w2 ⟨m1,rfl,lm1,vm1,hb2⟩;have hzn2:w.heap.size+1+1<w2.heap.size:=Z' hzn hb2.size;have hzr2:w.heap.size<w2.heap.size:=Z' hzr hb2.size;have ln0:=(hb2.cell (p:=⟨w.heap.size+1+1,0,none⟩) hzn).trans kn0;have ln1:=(hb2.cell (p:=⟨w.heap.size+1+1,1,none⟩) hzn).trans kn1;have ln2:=(hb2.cell (p:=⟨w.heap.size+1+1,2,none⟩) hzn).trans kn2;have ln3:=(hb2.cell (p:=⟨w.heap.size+1+1,3,none⟩) hzn).trans kn3;have ln4:=(hb2.cell (p:=⟨w.heap.size+1+1,4,none⟩) hzn).trans kn4;have lr0:=(hb2.cell (p:=⟨w.heap.size,0,none⟩) hzr).trans kr0;have lr1:=(hb2.cell (p:=⟨w.heap.size,1,none⟩) hzr).trans kr1;have lr2:=(hb2.cell (p:=⟨w.heap.size,2,none⟩) hzr).trans kr2;have lr3:=(hb2.cell (p:=⟨w.heap.size,3,none⟩) hzr).trans kr3;have lr4:=(hb2.cell (p:=⟨w.heap.size,4,none⟩) hzr).trans kr4)
     | (go_at_call 171;refine(XR [n0,n1,n2,n3,n4] m1 _ hln lm1).mono ?_;rintro e w3 ⟨s1,rfl,ls1,vs1,hb3⟩;have hzn3:w.heap.size+1+1<w3.heap.size:=Z' hzn2 hb3.size;have mr0:=(hb3.cell (p:=⟨w.heap.size,0,none⟩) hzr2).trans lr0;have mr1:=(hb3.cell (p:=⟨w.heap.size,1,none⟩) hzr2).trans lr1;have mr2:=(hb3.cell (p:=⟨w.heap.size,2,none⟩) hzr2).trans lr2;have mr3:=(hb3.cell (p:=⟨w.heap.size,3,none⟩) hzr2).trans lr3;have mr4:=(hb3.cell (p:=⟨w.heap.size,4,none⟩) hzr2).trans lr4)
     | (go_at_call 173;refine(V0 s1 [r0,r1,r2,r3,r4] _ ls1 hr).mono ?_;rintro e w4 ⟨t1,rfl,lt1,vt1,hb4⟩;have hst:=eQ t1 ((hb4.block _ hzn3).trans ((hb3.block _ hzn2).trans ((hb2.block _ hzn).trans HN.out))) rfl lt1.1;have hs5:(Ai t1).size=5:=by rw[Am];exact lt1.1))
    all_goals
     refine HK2.out m1 s1 t1 _ ⟨lt1,?_,?_,?_,?_,?_⟩
     .rw[HP.out]at vm1
      exact VA HVN.out vm1 vs1 HR.out vt1
     .exact(setRow_other _ _ _ _ (by omega)).trans ((hb4.block _ (by omega)).trans ((hb3.block _ (by omega)).trans ((hb2.block _ hzr).trans HRR.out)))
     .exact(setRow_other _ _ _ _ (by omega)).trans ((hb4.block _ (by omega)).trans ((hb3.block _ (by omega)).trans ((hb2.block _ (Nat.lt_of_succ_lt hzn)).trans HZ.out)))
     .exact setRow_heap _ _ _ _ 223 _ ((hb4.block _ hzn3).trans ((hb3.block _ hzn2).trans ((hb2.block _ hzn).trans HN.out)))
     .exact AY (((HB.out.drew.trans (hb2.mono (ks hzr))).trans (hb3.mono (ks hzr2))).trans (hb4.mono (by omega))) (by omega) _
   intro m1 s1 t1 W hW;obtain⟨lt1,vt1,q1,q2,q3,q4⟩:=hW;clear kn0 kn1 kn2 kn3 kn4 kr0 kr1 kr2 kr3 kr4 st hc1 hpl;go_wp2
   go_roundw
   case rel =>
    obtain⟨d1,d2⟩:=HD.out;rw[d1]at sd
    exact⟨k+1,t1,a2,c2,by omega,by rw[d2],sd,lt1,vt1,q1,q2,q3,q4⟩
   case measure=>have:=HSZ.out;simp[fY];omega
  .have HK:Hid (k=Ot l):=by unfold Hid Ot;omega
   have hzero:l.length-16*k=0:=by omega
   rw[hzero];have hsz1:=CH hln.1;have hzz:w.heap.size+1<wr.heap.size:=(H'.1 hz).1;have HV:Hid (val nl%pp=JB R l k%pp):=hvn;clear hvn hs;go_wp2_with ((with_reducible (refine Ap ?_));(refine wpList_load_row rfl 223 _ rfl (w.heap.size+1+1) rfl 223 _ (0,0) _ hn underlying223 rfl hsz1 ?_))
   refine(U9 nl wr hln).mono ?_;rintro e w1 ⟨r1,rfl,l1,v1,hb1⟩;have hz1:=(hb1.block (w.heap.size+1) hzz).trans hz;have hB1:Bw w w1:=hb.trans (hb1.mono hb.size);have hsz2:=CH l1.1;go_wp2_with ((with_reducible (refine Ap ?_));(refine wpList_store_row rfl 223 _ _ rfl (w.heap.size+1) _ rfl rfl 223 _ hz1 hsz2 (by rw[Am,Am,l1.1];rfl) (Bq r1) ?_))
   refine bodyPost_ret (v:=.agg (Ai r1)) (results_cell_row rfl _ _ (w.heap.size+1) 223 _ (0,0) _ rfl (setRow_heap w1 (w.heap.size+1) _ _ 223 _ hz1) underlying223 rfl hsz2) rfl ⟨r1,rfl,l1,?_,AY hB1 (by omega) _⟩;have hK:=HK.out;subst hK;rw[v1,HV.out];have:=Q8 R l (Ot l);exact Int.emod_eq_of_lt this.1 this.2
end
end Go.Proofs.YtalbmmghmoggcadGreatDoor
