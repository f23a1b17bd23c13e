/- Part 5 of the walk: what the functions of the program do, one by one. -/
import Derived.Laws.CopyOwn
import Derived.Deep.RegionWith
import Derived.Deep.MidRow
import Derived.Laws.Tables
import Derived.Laws.Rows
import Derived.Test.YtakgfdbjgeopdaaGreatDoorZ4
set_option maxRecDepth 100000
set_option maxHeartbeats 4000000
open Go.Proofs.Tryz
namespace Go.Proofs.YtakgfdbjgeopdaaGreatDoor
open Go.RowKit
def byA(l:List Int):Array Value:=(l.map (Value.int .u8)).toArray
theorem VO(l:List Int)(i:Nat)(x:Int):(byA l).setIfInBounds i (.int .u8 x)=byA (l.set i x):=by
 apply Array.ext';simp[byA,List.map_set]
theorem Fl{w:World}{g:Nat}{l:List Int}{t:TypeId}(h:w.heap[g]?=some (.cells (byA l) t (0,0)))(k:Nat)(x:Int) :
  (w.setCell ⟨g,k,none⟩ (.int .u8 x)).heap[g]?=some (.cells (byA (l.set k x)) t (0,0)):=by
 rw[heap_setCell_same _ _ _ _ _ _ h,VO]
theorem Gl(l:List Int)(i:Nat)(h:i<l.length):(byA l)[i]?=some (.int .u8 (l.getD i 0)):=by
 simp[byA,List.getD,List.getElem?_eq_getElem h]
theorem TZ:(prog.info? 5).map (·.size)=some 1:=by kernel_rfl
theorem GO(l:List Int)(n:Nat):splice ((List.replicate n (0:Int)).map (Value.int .u8)) 0 (l.map (Value.int .u8))=(l++List.replicate (n-l.length) 0).map (Value.int .u8):=by
 have e:(List.replicate n (0:Int)).map (Value.int .u8)=List.replicate n (Value.int .u8 0):=List.map_replicate;rw[e];simp only[splice,List.take_zero,List.nil_append,List.length_map,Nat.zero_add,List.drop_replicate,List.map_append,List.map_replicate]
theorem Sl.src{w:World}{sp:Option Addr}{n c:Nat}{l:List Int}(h:Sl w (.slice sp n c) l)(hp:0<l.length):∃ ad,sp=some ad∧∀ (j:Nat) (v:Value),(l.map (Value.int .u8))[j]?=some v→w.cell? (ad.add j)=some v:=by
 obtain⟨⟨a,cap,e,hc,hn,h1⟩,hla,hba⟩:=h;simp only[Value.slice.injEq]at e;obtain⟨rfl,rfl,rfl⟩:=e;rcases h1 with rfl|⟨b,off,rfl,_,hcell⟩
 ·simp at hp
 ·refine⟨_,rfl,fun j v hj=>?_⟩;have hjl:j<l.length:=by
   have:=(List.getElem?_eq_some_iff.1 hj).1;simpa using this
  have hadd:(⟨b,off,none⟩:Addr).add j=⟨b,off+j,none⟩:=by unfold Addr.add;split<;>simp_all
  rw[hadd,hcell j hjl];simp[List.getElem?_eq_getElem hjl]at hj
  rw[AG hjl,hj]
theorem Sl.ofByA{w:World}{g:Nat}{l:List Int}{t:TypeId}{fr:Nat × Nat}(h:w.heap[g]?=some (.cells (byA l) t fr))(hl:l.length≤140737488351232)(hb:∀ x∈l,0≤x∧x<256):Sl w (.slice (some ⟨g,0,none⟩) l.length l.length) l:=by
 refine⟨⟨_,l.length,rfl,by simp,by simp,.inr ⟨g,0,rfl,(Array.getElem?_eq_some_iff.1 h).1,fun i hi=>?_⟩⟩,hl,hb⟩;rw[cell_of_row _ _ (0+i) _ _ _ h,Nat.zero_add,Gl l i hi]
theorem Sl.rowOf{w:World}{g n:Nat}{l:List Int}{t:TypeId}{fr:Nat × Nat}(h:w.heap[g]?=some (.cells (byA l) t fr))(hn:l.length=n)(hl:l.length≤140737488351232)(hb:∀ x∈l,0≤x∧x<256):Sl w (.slice (some ⟨g,0,none⟩) n n) l:=by
 subst hn;exact Sl.ofByA h hl hb
theorem Us(l:List Int)(h:l.length≤16):(l++List.replicate (17-l.length) 0).set l.length 1=l++[1]++List.replicate (16-l.length) 0:=by
 rw[List.set_append_right _ _ (Nat.le_refl _),show 17-l.length=16-l.length+1 by omega,List.replicate_succ];simp
theorem Ur(l:List Int)(n:Nat):leN (l++[1]++List.replicate n 0)=leN (l++[1]):=by
 rw[Pv,RM];omega
theorem NV(v:Value)(l:List Int)(w:World)(h:Sl w v l)(hl:l.length≤16) :
  Calls prog 246 #[v] w fun e w'=>∃ r,e=.returned (.agg (Ai r))∧Lim 67108864 r∧val r%pp=leN (l++[1])%pp∧Below w.heap.size w w':=by
 have hs:=h;obtain⟨⟨a,cap,rfl,hc,hn,h1⟩,hla,hba⟩:=h;have HBY:Hid (∀ x∈l,0≤x∧x<256):=hba;have HM:=Us l hl;have HML:=Ur l (16-l.length);clear h1 hba hn;go_enter func246,ntmps246
 go_wp2_with (refine wpList_copy_splice rfl _ _ 26 26 rfl 5 underlying26 TZ _ _ _ _ _ _ rfl rfl (w.heap.size+1) 0 ((List.replicate 17 (0:Int)).map (Value.int .u8)) 298 (heap_alloc2_new _ _ _) (l.map (Value.int .u8)) (by rw[List.length_map];exact(Nat.min_eq_left (show l.length≤17 by omega)).symm) (fun hp=>⟨rfl,(hs.below (((Below.refl _ _).alloc (Nat.le_refl _) _).alloc (by simp) _)).src (by simpa using hp)⟩) (by rw[List.length_map,List.length_map,List.length_replicate];omega) (DT _) (w.heap.size+1) _ (Below.refl _ _) (Nat.le_refl _) ?_)
 intro w2 H2 hb2;have hr2:w2.heap[w.heap.size+1]?=some (.cells (byA (l++List.replicate (17-l.length) 0)) 298 (0,0)):=by
  have h3:w2.heap[w.heap.size+1]?=some (.cells (splice ((List.replicate 17 (0:Int)).map (Value.int .u8)) 0 (l.map (Value.int .u8))).toArray 298 (0,0)):=H2.out;rw[GO]at h3
  exact h3
 have hB2:Below w.heap.size w w2:=(((Below.refl _ _).alloc (Nat.le_refl _) _).alloc (by simp) _).trans (hb2.mono (by omega));have hq2:w2.heap[w.heap.size]?=some (.cells (Ai [0,0,0,0,0]) 273 (0,0)):=by
  rw[hb2.block _ (by omega)];exact heap_alloc2_old _ _ _
 clear H2 hb2;have hlen:(l++List.replicate (17-l.length) (0:Int)).length=17:=by simp;omega
 have cl:=(cell_of_row _ _ l.length _ _ _ hr2).trans (Gl _ l.length (by omega));have fl:=frozen_of_row _ _ l.length _ _ hr2;have hr3:=Fl hr2 l.length 1;rw[HM]at hr3
 have hq3:(w2.setCell ⟨w.heap.size+1,l.length,none⟩ (.int .u8 1)).heap[w.heap.size]?=some (.cells (Ai [0,0,0,0,0]) 273 (0,0)):=(heap_setCell_other _ _ _ _ (by simp)).trans hq2;have hB3:Below w.heap.size w (w2.setCell ⟨w.heap.size+1,l.length,none⟩ (.int .u8 1)):=hB2.setCell (p:=⟨w.heap.size+1,l.length,none⟩) (by simp) _;have hzz:w.heap.size<(w2.setCell ⟨w.heap.size+1,l.length,none⟩ (.int .u8 1)).heap.size:=(Array.getElem?_eq_some_iff.1 hq3).1;have s3:Sl (w2.setCell ⟨w.heap.size+1,l.length,none⟩ (.int .u8 1)) (.slice (some ⟨w.heap.size+1,0,none⟩) 17 17) (l++[1]++List.replicate (16-l.length) 0):=by
  refine Sl.rowOf hr3 (by simp;omega) (by simp;omega) ?_;intro x hx;rcases List.mem_append.1 hx with h|h
  ·rcases List.mem_append.1 h with h|h
   ·exact HBY.out x h
   ·simp at h;omega
  ·rw[(List.mem_replicate.1 h).2];omega
 have hlen3:(l++[1]++List.replicate (16-l.length) (0:Int)).length≤17:=by simp;omega
 have HS3:Hid _:=s3;have HHM:Hid (leN (l++[1]++List.replicate (16-l.length) 0)=leN (l++[1])):=HML;clear hr3 hr2 HM HML s3 hs;generalize l++[1]++List.replicate (16-l.length) 0=L at HS3 hlen3 HHM;generalize (l++List.replicate (17-l.length) (0:Int)).getD l.length 0=c0 at cl;go_wp2_with fail
 refine(Oj _ L _ HS3.out hlen3).mono ?_;rintro e w4 ⟨r,rfl,lr,vr,hb4⟩;have hq4:=(hb4.block w.heap.size hzz).trans hq3;have hB4:Below w.heap.size w w4:=hB3.trans (hb4.mono hB3.size);have hsz2:=Ci lr.1;go_wp2_with ((with_reducible (refine Ap ?_));(refine wpList_store_row rfl 273 _ _ rfl (w.heap.size) _ rfl rfl 273 _ hq4 hsz2 (by rw[Al,Al,lr.1];rfl) (Bg r) ?_))
 exact bodyPost_ret (v:=.agg (Ai r)) (results_cell_row rfl _ _ (w.heap.size) 273 _ (0,0) _ rfl (setRow_heap w4 (w.heap.size) _ _ 273 _ hq4) underlying273 rfl hsz2) rfl ⟨r,rfl,lr,by rw[vr,HHM.out],AO hB4 (Nat.le_refl _) _⟩
def ZP:Value→Nat
 | .slice _ n _=>n
 | _=>0
theorem YY{w:World}{g:Nat}{old:Array Value}(t:List Int)(hg:w.heap[g]?=some (.cells old 273 (0,0)))(ho:old.size=5)(ht:t.length=5):(storeCells ⟨g,0,none⟩ (Ai t).toList).run prog w=.ok () (w.setRow g (Ai t)):=by
 have:=run_storeCells_from (P:=prog) g 273 (Ai t).toList 0 old w hg (by simp[Al];omega) (fun v hv=>by simp[Ai]at hv;obtain⟨x,_,rfl⟩:=hv;rfl);rw[this];simp[Ai]
theorem KE{P:Program}{id:Nat}{ops:Array Oper}{K:Act→World→Prop}{Q:Exit→Act→World→Prop}{a:Act}{w:World}(R:List Int→List Int→List Int→World→Prop){A:List Int→List Int→List Int→Act}
  (hreg:∀ K':Act→World→Prop,Hid (∀ x y z W2,R x y z W2→K' (A x y z) W2)→(Code.region id ops true).wp P (Exit.then K' Q) a w)(hrest:∀ x y z W2,R x y z W2→K (A x y z) W2):(Code.region id ops true).wp P (Exit.then K Q) a w:=hreg K hrest
theorem Me(rl:List Int)(R:Int)(v:Value)(l:List Int)(w:World)(h:Sl w v l)(hl:l.length≤4000)(hr:Lim 67108864 rl)(hR:val rl%pp=R%pp) :
  Calls prog 223 #[.agg (Ai rl),v] w fun e w'=>∃ r,e=.returned (.agg (Ai r))∧Lim 67108864 r∧val r=XP R l∧Below w.heap.size w w':=by
 obtain⟨a0,c0,rfl⟩:∃ a c,v=.slice a l.length c:=by
  obtain⟨⟨a,c,e,_⟩,_⟩:=h;exact⟨a,c,e⟩
 have HR:Hid (val rl%pp=R%pp):=hR;clear hR;go_enter func223,ntmps223
 go_wp2_with fail
 go_loopw [1] (fun dv wr=>∃ (k:Nat) (nl:List Int) (a:Option Addr) (c:Nat),16*k≤l.length+15∧dv=.slice a (l.length-16*k) c∧Sl w dv (l.drop (16*k))∧Lim 67108864 nl∧val nl%pp=IA R l k%pp∧wr.heap[w.heap.size]?=some (.cells (Ai rl) 273 (0,0))∧wr.heap[w.heap.size+1]?=some (.cells (Ai [0,0,0,0,0]) 273 (0,0))∧wr.heap[w.heap.size+1+1]?=some (.cells (Ai nl) 273 (0,0))∧Below w.heap.size w wr) (fun dv _=>ZP dv)
 case atStart =>
  obtain⟨s1,s2,s3,s4⟩:=EC w (.cells (Ai rl) 273 (0,0)) (.cells (Ai [0,0,0,0,0]) 273 (0,0)) (.cells (Ai [0,0,0,0,0]) 273 (0,0));exact⟨0,[0,0,0,0,0],a0,c0,by omega,rfl,h,Lim.of5 (by omega) (by omega) (by omega) (by omega) (by omega),rfl,s1,s2,s3,s4⟩
 case round =>
  clear h;obtain⟨k,nl,a,c,hk,rfl,hs,hln,hvn,hrr,hz,hn,hb⟩:=hrel;by_cases hk16:16*k<l.length
  ·obtain⟨n,hne⟩:∃ n,l.length-16*k=n:=⟨_,rfl⟩;have HNE:Hid (l.length-16*k=n):=hne;have hn0:0<n:=by omega
   have hn0i:(0:Int)<(n:Int):=by omega
   rw[hne]at hs ⊢
   have hlen:(l.drop (16*k)).length=n:=by rw[List.length_drop];exact hne
   obtain⟨n0,n1,n2,n3,n4,rfl,_⟩:=hln.split;obtain⟨r0,r1,r2,r3,r4,rfl,_⟩:=hr.split;have kn0:=(cell_of_row _ _ 0 _ _ _ hn).trans (Ar _ 0 (by simp));have kn1:=(cell_of_row _ _ 1 _ _ _ hn).trans (Ar _ 1 (by simp));have kn2:=(cell_of_row _ _ 2 _ _ _ hn).trans (Ar _ 2 (by simp));have kn3:=(cell_of_row _ _ 3 _ _ _ hn).trans (Ar _ 3 (by simp));have kn4:=(cell_of_row _ _ 4 _ _ _ hn).trans (Ar _ 4 (by simp));have kr0:=(cell_of_row _ _ 0 _ _ _ hrr).trans (Ar _ 0 (by simp));have kr1:=(cell_of_row _ _ 1 _ _ _ hrr).trans (Ar _ 1 (by simp));have kr2:=(cell_of_row _ _ 2 _ _ _ hrr).trans (Ar _ 2 (by simp));have kr3:=(cell_of_row _ _ 3 _ _ _ hrr).trans (Ar _ 3 (by simp));have kr4:=(cell_of_row _ _ 4 _ _ _ hrr).trans (Ar _ 4 (by simp));simp only[List.getD_cons_zero,List.getD_cons_succ]at kn0 kn1 kn2 kn3 kn4 kr0 kr1 kr2 kr3 kr4;have hzn:w.heap.size+1+1<wr.heap.size:=(Array.getElem?_eq_some_iff.1 hn).1;have hzr:w.heap.size<wr.heap.size:=by omega
   have HN:Hid _:=hn;have HRR:Hid _:=hrr;have HZ:Hid _:=hz;have HB:Hid _:=hb;have HVN:Hid (val [n0,n1,n2,n3,n4]%pp=IA R l k%pp):=hvn;clear hn hrr hz hb hvn hne;obtain⟨sz,hmin,hsz1,hsz2⟩:∃ sz:Nat,(if(n:Int)<16 then(n:Int)else 16)=(sz:Int)∧sz≤n∧((sz=16)∨(sz=n∧n<16)):=by
    by_cases h16:(n:Int)<16
    ·exact⟨n,by rw[if_pos h16],by omega,.inr ⟨rfl,by omega⟩⟩
    ·exact⟨16,by rw[if_neg h16];rfl,by omega,.inl rfl⟩
   obtain⟨a1,c1,hc1,st⟩:=hs.upTo sz (by omega);obtain⟨a2,c2,hc2,sd⟩:=hs.from sz (by omega);have hpl:((l.drop (16*k)).take sz).length≤16:=by rw[List.length_take];omega
   have HP:Hid ((l.drop (16*k)).take sz=piece l k):=by
    unfold Hid piece;rcases hsz2 with rfl|⟨rfl,h16⟩
    ·rfl
    ·rw[List.take_of_length_le (by omega),List.take_of_length_le (by omega)]
   have HD:Hid ((l.drop (16*k)).drop sz=l.drop (16*(k+1))∧n-sz=l.length-16*(k+1)):=by
    unfold Hid;have:=HNE.out;rw[List.drop_drop];rcases hsz2 with rfl|⟨rfl,h16⟩
    ·exact⟨by congr 1,by omega⟩
    ·refine⟨?_,by omega⟩;rw[List.drop_eq_nil_of_le (by omega),List.drop_eq_nil_of_le (by omega)]
   have HSZ:Hid (1≤sz):=by unfold Hid;omega
   clear hsz2;go_wp2_with fail
   apply KE (fun m1 s1 t1 W=>Lim 67108864 t1∧val t1%pp=IA R l (k+1)%pp∧W.heap[w.heap.size]?=some (.cells (Ai [r0,r1,r2,r3,r4]) 273 (0,0))∧W.heap[w.heap.size+1]?=some (.cells (Ai [0,0,0,0,0]) 273 (0,0))∧W.heap[w.heap.size+1+1]?=some (.cells (Ai t1) 273 (0,0))∧Below w.heap.size w W)
   ·intro K2 HK2
    go_region_with (first
     | (go_at_call 246;refine(NV _ _ _ (st.below HB.out.drew) hpl).mono ?_;rintro e w2 ⟨m1,rfl,lm1,vm1,hb2⟩;have hzn2:w.heap.size+1+1<w2.heap.size:=Nat.lt_of_lt_of_le hzn hb2.size;have hzr2:w.heap.size<w2.heap.size:=Nat.lt_of_lt_of_le hzr hb2.size;have ln0:=(hb2.cell (p:=⟨w.heap.size+1+1,0,none⟩) hzn).trans kn0;have ln1:=(hb2.cell (p:=⟨w.heap.size+1+1,1,none⟩) hzn).trans kn1;have ln2:=(hb2.cell (p:=⟨w.heap.size+1+1,2,none⟩) hzn).trans kn2;have ln3:=(hb2.cell (p:=⟨w.heap.size+1+1,3,none⟩) hzn).trans kn3;have ln4:=(hb2.cell (p:=⟨w.heap.size+1+1,4,none⟩) hzn).trans kn4;have lr0:=(hb2.cell (p:=⟨w.heap.size,0,none⟩) hzr).trans kr0;have lr1:=(hb2.cell (p:=⟨w.heap.size,1,none⟩) hzr).trans kr1;have lr2:=(hb2.cell (p:=⟨w.heap.size,2,none⟩) hzr).trans kr2;have lr3:=(hb2.cell (p:=⟨w.heap.size,3,none⟩) hzr).trans kr3;have lr4:=(hb2.cell (p:=⟨w.heap.size,4,none⟩) hzr).trans kr4)
     | (go_at_call 245;refine(UM [n0,n1,n2,n3,n4] m1 _ hln lm1).mono ?_;rintro e w3 ⟨s1,rfl,ls1,vs1,hb3⟩;have hzn3:w.heap.size+1+1<w3.heap.size:=Nat.lt_of_lt_of_le hzn2 hb3.size;have mr0:=(hb3.cell (p:=⟨w.heap.size,0,none⟩) hzr2).trans lr0;have mr1:=(hb3.cell (p:=⟨w.heap.size,1,none⟩) hzr2).trans lr1;have mr2:=(hb3.cell (p:=⟨w.heap.size,2,none⟩) hzr2).trans lr2;have mr3:=(hb3.cell (p:=⟨w.heap.size,3,none⟩) hzr2).trans lr3;have mr4:=(hb3.cell (p:=⟨w.heap.size,4,none⟩) hzr2).trans lr4)
     | (go_at_call 247;refine(SM s1 [r0,r1,r2,r3,r4] _ ls1 hr).mono ?_;rintro e w4 ⟨t1,rfl,lt1,vt1,hb4⟩;have hst:=YY t1 ((hb4.block _ hzn3).trans ((hb3.block _ hzn2).trans ((hb2.block _ hzn).trans HN.out))) rfl lt1.1;have hs5:(Ai t1).size=5:=by rw[Al];exact lt1.1))
    all_goals
     refine HK2.out m1 s1 t1 _ ⟨lt1,?_,?_,?_,?_,?_⟩
     ·rw[HP.out]at vm1
      exact SV HVN.out vm1 vs1 HR.out vt1
     ·exact(setRow_other _ _ _ _ (by omega)).trans ((hb4.block _ (by omega)).trans ((hb3.block _ (by omega)).trans ((hb2.block _ hzr).trans HRR.out)))
     ·exact(setRow_other _ _ _ _ (by omega)).trans ((hb4.block _ (by omega)).trans ((hb3.block _ (by omega)).trans ((hb2.block _ (Nat.lt_of_succ_lt hzn)).trans HZ.out)))
     ·exact setRow_heap _ _ _ _ 273 _ ((hb4.block _ hzn3).trans ((hb3.block _ hzn2).trans ((hb2.block _ hzn).trans HN.out)))
     ·exact AO (((HB.out.drew.trans (hb2.mono (Nat.le_of_lt hzr))).trans (hb3.mono (Nat.le_of_lt hzr2))).trans (hb4.mono (by omega))) (by omega) _
   intro m1 s1 t1 W hW;obtain⟨lt1,vt1,q1,q2,q3,q4⟩:=hW;clear kn0 kn1 kn2 kn3 kn4 kr0 kr1 kr2 kr3 kr4 st hc1 hpl;go_wp2
   go_roundw
   case rel =>
    obtain⟨d1,d2⟩:=HD.out;rw[d1]at sd
    exact⟨k+1,t1,a2,c2,by omega,by rw[d2],sd,lt1,vt1,q1,q2,q3,q4⟩
   case measure=>have:=HSZ.out;simp[ZP];omega
  ·have HK:Hid (k=Ms l):=by unfold Hid Ms;omega
   have hzero:l.length-16*k=0:=by omega
   rw[hzero];have hsz1:=Ci hln.1;have hzz:w.heap.size+1<wr.heap.size:=(Array.getElem?_eq_some_iff.1 hz).1;have HV:Hid (val nl%pp=IA R l k%pp):=hvn;clear hvn hs;go_wp2_with ((with_reducible (refine Ap ?_));(refine wpList_load_row rfl 273 _ rfl (w.heap.size+1+1) rfl 273 _ (0,0) _ hn underlying273 rfl hsz1 ?_))
   refine(RO nl wr hln).mono ?_;rintro e w1 ⟨r1,rfl,l1,v1,hb1⟩;have hz1:=(hb1.block (w.heap.size+1) hzz).trans hz;have hB1:Below w.heap.size w w1:=hb.trans (hb1.mono hb.size);have hsz2:=Ci l1.1;go_wp2_with ((with_reducible (refine Ap ?_));(refine wpList_store_row rfl 273 _ _ rfl (w.heap.size+1) _ rfl rfl 273 _ hz1 hsz2 (by rw[Al,Al,l1.1];rfl) (Bg r1) ?_))
   refine bodyPost_ret (v:=.agg (Ai r1)) (results_cell_row rfl _ _ (w.heap.size+1) 273 _ (0,0) _ rfl (setRow_heap w1 (w.heap.size+1) _ _ 273 _ hz1) underlying273 rfl hsz2) rfl ⟨r1,rfl,l1,?_,AO hB1 (by omega) _⟩;have hK:=HK.out;subst hK;rw[v1,HV.out];have:=OA R l (Ms l);exact Int.emod_eq_of_lt this.1 this.2
set_option linter.unusedVariables false
theorem AC{a b:Int}(h:a=b):Ending.returned (.int .i64 a)=.returned (.int .i64 b):=by rw[h]
def chA(k:Value)(s t:Int)(l:List Bool):Array Value:=(k::.int .i64 s::.int .i64 t::l.map Value.bool).toArray
theorem Ji(k:Value)(s t:Int)(l:List Bool):(chA k s t l).size=l.length+3:=by simp[chA]
theorem Qw(k:Value)(s t:Int)(l:List Bool):(chA k s t l)[0]?=some k:=by simp[chA]
theorem FC(l:List Bool)(hl:l.length=8):∃ b0 b1 b2 b3 b4 b5 b6 b7,l=[b0,b1,b2,b3,b4,b5,b6,b7]:=by
 match l,hl with
 | [b0,b1,b2,b3,b4,b5,b6,b7],_=>exact⟨b0,b1,b2,b3,b4,b5,b6,b7,rfl⟩
theorem Rj{w:World}{g:Nat}{k:Value}{s t:Int}{b0 b1 b2 b3 b4 b5 b6 b7:Bool}{ty:TypeId}{fr:Nat × Nat}(h:w.heap[g]?=some (.cells (chA k s t [b0,b1,b2,b3,b4,b5,b6,b7]) ty fr)) :
  w.cell? ⟨g,0,none⟩=some k∧w.cell? ⟨g,1,none⟩=some (.int .i64 s)∧w.cell? ⟨g,2,none⟩=some (.int .i64 t)∧w.cell? ⟨g,3,none⟩=some (.bool b0)∧w.cell? ⟨g,4,none⟩=some (.bool b1)∧w.cell? ⟨g,5,none⟩=some (.bool b2)∧w.cell? ⟨g,6,none⟩=some (.bool b3)∧w.cell? ⟨g,7,none⟩=some (.bool b4)∧w.cell? ⟨g,8,none⟩=some (.bool b5)∧w.cell? ⟨g,9,none⟩=some (.bool b6)∧w.cell? ⟨g,10,none⟩=some (.bool b7) :=
 ⟨cell_of_row _ _ 0 _ _ _ h,cell_of_row _ _ 1 _ _ _ h,cell_of_row _ _ 2 _ _ _ h,cell_of_row _ _ 3 _ _ _ h,cell_of_row _ _ 4 _ _ _ h,cell_of_row _ _ 5 _ _ _ h,cell_of_row _ _ 6 _ _ _ h,cell_of_row _ _ 7 _ _ _ h,cell_of_row _ _ 8 _ _ _ h,cell_of_row _ _ 9 _ _ _ h,cell_of_row _ _ 10 _ _ _ h⟩
def wA(t:Int)(l:List Bool):Array Value:=(.int .i64 t::l.map Value.bool).toArray
theorem CZ(t:Int)(l:List Bool):(wA t l).size=l.length+1:=by simp[wA]
theorem Zn(t:Int)(l:List Bool):(wA t l)[0]?=some (.int .i64 t):=by simp[wA]
theorem IZ(t:Int)(l:List Bool)(i:Nat)(hi:i<l.length):(wA t l)[1+i]?=some (.bool (l.getD i false)):=by
 rw[Nat.add_comm];simp[wA,List.getD,List.getElem?_eq_getElem hi]
theorem MF(t:Int)(l:List Bool):(wA t l).all (·.oneCell')=true:=by simp[wA,Value.oneCell']
theorem Kh{w:World}{g:Nat}{t:Int}{b0 b1 b2 b3 b4 b5 b6 b7:Bool}{ty:TypeId}{fr:Nat × Nat}(h:w.heap[g]?=some (.cells (wA t [b0,b1,b2,b3,b4,b5,b6,b7]) ty fr)) :
  w.cell? ⟨g,0,none⟩=some (.int .i64 t)∧w.cell? ⟨g,1,none⟩=some (.bool b0)∧w.cell? ⟨g,2,none⟩=some (.bool b1)∧w.cell? ⟨g,3,none⟩=some (.bool b2)∧w.cell? ⟨g,4,none⟩=some (.bool b3)∧w.cell? ⟨g,5,none⟩=some (.bool b4)∧w.cell? ⟨g,6,none⟩=some (.bool b5)∧w.cell? ⟨g,7,none⟩=some (.bool b6)∧w.cell? ⟨g,8,none⟩=some (.bool b7) :=
 ⟨cell_of_row _ _ 0 _ _ _ h,cell_of_row _ _ 1 _ _ _ h,cell_of_row _ _ 2 _ _ _ h,cell_of_row _ _ 3 _ _ _ h,cell_of_row _ _ 4 _ _ _ h,cell_of_row _ _ 5 _ _ _ h,cell_of_row _ _ 6 _ _ _ h,cell_of_row _ _ 7 _ _ _ h,cell_of_row _ _ 8 _ _ _ h⟩
def Ny(t:Int)(l:List Bool)(x:Int):Bool:=decide (t-8≤x)&&decide (x<t)&&l.getD (x-(t-8)).toNat false
theorem Mm(t:Int)(l:List Bool)(k:Nat)(hk:k<8):Ny t l (t-8+k)=l.getD k false:=by
 unfold Ny;rw[decide_eq_true (by omega),decide_eq_true (by omega),show(t-8+(k:Int)-(t-8)).toNat=k by omega];simp
theorem QE{t:Int}{l:List Bool}{x:Int}(h:t≤x):Ny t l x=false:=by
 unfold Ny;rw[decide_eq_false (show ¬ x<t by omega)];simp
structure OkC(key:List Int)(s t:Int)(l:List Bool):Prop where
 key:key.length=32
 s0:0≤s
 s1:s≤1073741824
 t0:0≤t
 t1:t≤1073741824
 low:∀ i:Nat,i<8→l.getD i false=true→0≤t-8+(i:Int)
 top:t=0∨l.getD 7 false=true
theorem WM(key:List Int)(s t:Int)(l:List Bool):OkC key s t l↔(key.length=32∧0≤s∧s≤1073741824∧0≤t∧t≤1073741824∧(∀ i,i<8→l.getD i false=true→0≤t-8+(i:Int))∧(t=0∨l.getD 7 false=true)) :=
 ⟨fun h=>⟨h.1,h.2,h.3,h.4,h.5,h.6,h.7⟩,fun h=>⟨h.1,h.2.1,h.2.2.1,h.2.2.2.1,h.2.2.2.2.1,h.2.2.2.2.2.1,h.2.2.2.2.2.2⟩⟩
instance (key:List Int) (s t:Int) (l:List Bool):Decidable (OkC key s t l):=decidable_of_iff _ (WM key s t l).symm
def P0(t:Int)(l:List Bool):Bool:=((List.range 8).all fun i=>!l.getD i false||decide (0≤t-8+(i:Int)))&&(decide (t=0)||l.getD 7 false)
theorem ER(t:Int)(l:List Bool):P0 t l=true↔((∀ i:Nat,i<8→l.getD i false=true→0≤t-8+(i:Int))∧(t=0∨l.getD 7 false=true)):=by
 unfold P0;rw[Bool.and_eq_true,Bool.or_eq_true,List.all_eq_true];constructor
 ·rintro⟨h1,h2⟩;refine⟨fun i hi hb=>?_,h2.imp of_decide_eq_true id⟩;have h:=h1 i (List.mem_range.2 hi);rw[hb]at h
  simpa using h
 ·rintro⟨h1,h2⟩;refine⟨fun i hi=>?_,h2.imp decide_eq_true id⟩;cases hb:l.getD i false with
  | true=>simpa using h1 i (List.mem_range.1 hi) hb
  | false=>rfl
def EF(key:List Int)(s t:Int)(l:List Bool):Int:=if OkC key s t l then 0 else 5
def FX(t:Int)(l:List Bool)(n:Int):Bool:=decide (n<t)&&(decide (n<t-8)||Ny t l n)
def F5(t n:Int):Int:=if t≤n then n+1 else t
def IM(t:Int)(l:List Bool)(n:Int):List Bool:=(List.range 8).map fun k:Nat=>decide (F5 t n-8+(k:Int)=n)||Ny t l (F5 t n-8+(k:Int))
theorem DD(t:Int)(l:List Bool)(n:Int):(IM t l n).length=8:=by simp[IM]
theorem QR(t:Int)(l:List Bool)(n:Int)(k:Nat)(hk:k<8):(IM t l n).getD k false=(decide (F5 t n-8+(k:Int)=n)||Ny t l (F5 t n-8+(k:Int))):=by
 simp[IM,List.getD,hk]
def noB:List Bool:=List.replicate 8 false
theorem FU:noB.length=8:=rfl
theorem QJ{t:Int}{l:List Bool}{n:Int}(h:t≤n):FX t l n=false:=by unfold FX;rw[decide_eq_false (by omega)];simp
theorem WO{t:Int}{l:List Bool}{n:Int}(h:t-8≤n):FX t l n=Ny t l n:=by
 by_cases h2:n<t
 ·unfold FX;rw[decide_eq_true h2,decide_eq_false (show ¬ n<t-8 by omega)];simp
 ·rw[QJ (by omega),QE (by omega)]
theorem NH{t:Int}{l:List Bool}{n:Int}(h:n<t-8):FX t l n=true:=by unfold FX;rw[decide_eq_true (show n<t by omega),decide_eq_true h];simp
def Aw(n:Int):List Int:=[n/16777216%256,n/65536%256,n/256%256,n%256]
def BL(h:List Int):List Int:=List.replicate 8 0++h
def Ep(h:List Int):Int:=16777216*h.getD 0 0+65536*h.getD 1 0+256*h.getD 2 0+h.getD 3 0
theorem Gy(n:Int):(Aw n).length=4:=rfl
theorem Bk(n:Int):∀ x∈Aw n,0≤x∧x<256:=by
 intro x hx;simp only[Aw,List.mem_cons,List.not_mem_nil,or_false]at hx;rcases hx with rfl|rfl|rfl|rfl<;>omega
theorem K7{h:List Int}(hh:h.length=4):(BL h).length=12:=by simp[BL,hh]
theorem NE{h:List Int}(hb:∀ x∈h,0≤x∧x<256):∀ x∈BL h,0≤x∧x<256:=by
 intro x hx;rcases List.mem_append.1 hx with h1|h1
 ·rw[(List.mem_replicate.1 h1).2];omega
 ·exact hb x h1
theorem bB(h:List Int)(hh:h.length=4):∃ a b c d,h=[a,b,c,d]:=by
 match h,hh with
 | [a,b,c,d],_=>exact⟨a,b,c,d,rfl⟩
theorem JE{h:List Int}(hh:h.length=4)(hb:∀ x∈h,0≤x∧x<256):0≤Ep h∧Ep h<4294967296:=by
 obtain⟨a,b,c,d,rfl⟩:=bB h hh;have h1:=hb a (by simp);have h2:=hb b (by simp);have h3:=hb c (by simp);have h4:=hb d (by simp);show 0≤16777216*a+65536*b+256*c+d∧16777216*a+65536*b+256*c+d<4294967296;omega
theorem I9{t:Int}{l:List Bool}(hl:l.length=8):(prog.info? 190).map (·.size)=some (wA t l).size:=by rw[CZ,hl];kernel_rfl
theorem GJ{P:Program}{fn:Func}{p u:Tmp}{ty:TypeId}(h:fn.results=#[.cell p ty,.tmp u])(tmps:Array Value)(w:World)(g:Nat)(t:TypeId)(cs:Array Value)(fr:Nat × Nat)(d:TypeDesc)
  (hp:tmps.getD p undef=.pointer (some ⟨g,0,none⟩))(hg:w.heap[g]?=some (.cells cs t fr))
  (hu:P.underlying ty=some d)(hd:(match d with|.struct _|.array _ _=>true|_=>false)=true)(hi:(P.info? ty).map (·.size)=some cs.size) :
  (results fn tmps).run P w=.ok (.tuple #[.agg cs,tmps.getD u undef]) w:=by
 have hp':tmps[p]?.getD undef=.pointer (some ⟨g,0,none⟩):=by simpa using hp
 simp[results,h,hp',asAddr,run_loadVar_row w g t ty cs fr d hg hu hd hi]
theorem GL{P:Program}{fn:Func}{p u v:Tmp}{ty:TypeId}(h:fn.results=#[.cell p ty,.tmp u,.tmp v])(tmps:Array Value)(w:World)(g:Nat)(t:TypeId)(cs:Array Value)(fr:Nat × Nat)(d:TypeDesc)
  (hp:tmps.getD p undef=.pointer (some ⟨g,0,none⟩))(hg:w.heap[g]?=some (.cells cs t fr))
  (hu:P.underlying ty=some d)(hd:(match d with|.struct _|.array _ _=>true|_=>false)=true)(hi:(P.info? ty).map (·.size)=some cs.size) :
  (results fn tmps).run P w=.ok (.tuple #[.agg cs,tmps.getD u undef,tmps.getD v undef]) w:=by
 have hp':tmps[p]?.getD undef=.pointer (some ⟨g,0,none⟩):=by simpa using hp
 simp[results,h,hp',asAddr,run_loadVar_row w g t ty cs fr d hg hu hd hi]
def blA(l:List Bool):Array Value:=(l.map Value.bool).toArray
theorem to8{j:Nat}(h:j<8):j=0∨j=1∨j=2∨j=3∨j=4∨j=5∨j=6∨j=7:=by omega
theorem Te(S:List Bool)(hS:S.length=8)(j:Nat)(hj:j<8):∀ w,(Instr.index 53 (.agg (blA S)) (.int .i64 (j:Int))).run prog w=.ok (.bool (S.getD j false)) w:=by
 intro w;obtain⟨b0,b1,b2,b3,b4,b5,b6,b7,rfl⟩:=FC S hS;rcases to8 hj with rfl|rfl|rfl|rfl|rfl|rfl|rfl|rfl;all_goals kernel_rfl
theorem E5(k:Value)(s t:Int)(l:List Bool)(w:World)(hl:l.length=8) :
  Calls prog 134 #[.agg (chA k s t l)] w fun e w'=>e=.returned (.agg (wA t l))∧Below w.heap.size w w':=by
 obtain⟨b0,b1,b2,b3,b4,b5,b6,b7,rfl⟩:=FC l hl;simp only[chA,wA,List.map];go_enter func134,ntmps134
 go_wp2
 exact bodyPost_ret (v:=.agg (wA t [b0,b1,b2,b3,b4,b5,b6,b7])) (results_cell_row rfl _ _ (w.heap.size+1) 190 _ (0,0) _ rfl (heap_alloc2_new _ _ _) underlying190 rfl (I9 rfl)) rfl ⟨rfl,((Below.refl _ _).alloc (Nat.le_refl _) _).alloc (by simp) _⟩
theorem Dn(t:Int)(l:List Bool)(w:World)(hl:l.length=8)(t0:-1000≤t)(t1:t≤4611686018427387904) :
  Calls prog 178 #[.agg (wA t l)] w fun e w'=>e=.returned (.int .i64 (t-8))∧Below w.heap.size w w':=by
 obtain⟨b0,b1,b2,b3,b4,b5,b6,b7,rfl⟩:=FC l hl;simp only[wA,List.map];go_enter func178,ntmps178
 go_wp2
 go_ret;exact⟨rfl,(Below.refl _ _).alloc (Nat.le_refl _) _⟩
theorem RF(t n:Int)(l:List Bool)(w:World)(hl:l.length=8)(t0:0≤t)(t1:t≤1073741824)(n0:0≤n)(n1:n<1073741824) :
  Calls prog 197 #[.agg (wA t l),.int .i64 n] w fun e w'=>e=.returned (.bool (FX t l n))∧Below w.heap.size w w':=by
 have hl':=hl;obtain⟨b0,b1,b2,b3,b4,b5,b6,b7,rfl⟩:=FC l hl;simp only[wA,List.map];by_cases h1:t≤n
 ·have HO:Hid (false=FX t [b0,b1,b2,b3,b4,b5,b6,b7] n):=(QJ h1).symm;go_enter func197,ntmps197
  go_wp2
  go_ret;exact⟨Ab HO.out,(Below.refl _ _).alloc (Nat.le_refl _) _⟩
 ·have hb:Below w.heap.size w (w.alloc (.cells (wA t [b0,b1,b2,b3,b4,b5,b6,b7]) 190)):=(Below.refl _ _).alloc (Nat.le_refl _) _;go_enter func197,ntmps197
  go_wp2_with fail
  have hrow:(w.alloc (.cells (wA t [b0,b1,b2,b3,b4,b5,b6,b7]) 190)).heap[w.heap.size]?=some (.cells (wA t [b0,b1,b2,b3,b4,b5,b6,b7]) 190 (0,0)):=heap_alloc_new _ _;refine(Dn t [b0,b1,b2,b3,b4,b5,b6,b7] _ rfl (by omega) (by omega)).mono ?_;rintro e w1 ⟨rfl,c1⟩;have d1:Below w.heap.size w w1:=hb.trans (c1.mono (by simp));replace hrow:=(c1.block w.heap.size (by simp)).trans hrow;clear hb c1;by_cases h2:n<t-8
  ·have HO:Hid (true=FX t [b0,b1,b2,b3,b4,b5,b6,b7] n):=(NH h2).symm;go_wp2
   go_ret;exact⟨Ab HO.out,d1⟩
  ·have h3:n<t:=by omega
   obtain⟨i,hi,hn⟩:∃ i:Nat,i<8∧n=t-8+(i:Int):=⟨(n-(t-8)).toNat,by omega,by omega⟩;have HO:Hid (FX t [b0,b1,b2,b3,b4,b5,b6,b7] n=[b0,b1,b2,b3,b4,b5,b6,b7].getD i false):=by
    unfold Hid;rw[WO (by omega),hn,Mm _ _ _ hi]
   have HN:Hid (n=t-8+(i:Int)):=hn;have cs:=(cell_of_row _ _ (1+i) _ _ _ hrow).trans (IZ t _ i hi);obtain⟨c0,c1,c2,c3,c4,c5,c6,c7,c8⟩:=Kh hrow;have hz:w.heap.size<w1.heap.size:=(Array.getElem?_eq_some_iff.1 hrow).1;clear hn;generalize [b0,b1,b2,b3,b4,b5,b6,b7].getD i false=c at cs HO;go_wp2_with fail
   refine(Dn t [b0,b1,b2,b3,b4,b5,b6,b7] _ rfl (by omega) (by omega)).mono ?_;rintro e w2 ⟨rfl,e2⟩;have d2:Below w.heap.size w w2:=d1.trans (e2.mono d1.size);replace cs:=(e2.cell (p:=⟨w.heap.size,1+i,none⟩) hz).trans cs;have hii:n-(t-8)=(i:Int):=by have:=HN.out;omega
   clear c0 c1 c2 c3 c4 c5 c6 c7 c8 hrow e2;go_wp2
   go_ret;exact⟨Ab (by rw[HO.out,decide_eq_false (by omega),Bool.false_or]),d2⟩
theorem RR(t:Int)(l:List Bool)(w:World)(hl:l.length=8)(t0:0≤t)(t1:t≤1073741824) :
  Calls prog 135 #[.agg (wA t l)] w fun e w'=>e=.returned (.bool (P0 t l))∧Below w.heap.size w w':=by
 have HS:Hid (∀ i:Nat,i<8→∀ w,(Instr.index 53 (.agg (blA l)) (.int .i64 (i:Int))).run prog w=.ok (.bool (l.getD i false)) w):=fun i hi=>Te l hl i hi;obtain⟨b0,b1,b2,b3,b4,b5,b6,b7,rfl⟩:=FC l hl;simp only[wA,blA,List.map]at HS ⊢;go_enter func135,ntmps135
 go_wp2_with fail
 have hrow:(w.alloc (.cells (wA t [b0,b1,b2,b3,b4,b5,b6,b7]) 190)).heap[w.heap.size]?=some (.cells (wA t [b0,b1,b2,b3,b4,b5,b6,b7]) 190 (0,0)):=heap_alloc_new _ _;have hsz:(w.alloc (.cells (wA t [b0,b1,b2,b3,b4,b5,b6,b7]) 190)).heap.size=w.heap.size+1:=by simp
 have b0':Below w.heap.size w (w.alloc (.cells (wA t [b0,b1,b2,b3,b4,b5,b6,b7]) 190)):=(Below.refl _ _).alloc (Nat.le_refl _) _;simp only[wA,List.map]at hrow hsz b0';generalize w.alloc (.cells #[.int .i64 t,.bool b0,.bool b1,.bool b2,.bool b3,.bool b4,.bool b5,.bool b6,.bool b7] 190)=W0 at hrow hsz b0' ⊢;generalize (#[.bool b0,.bool b1,.bool b2,.bool b3,.bool b4,.bool b5,.bool b6,.bool b7]:Array Value)=S at HS ⊢
 go_loopw [7] (fun iv wr=>∃ i:Nat,i≤8∧iv=.int .i64 i∧Hid (∀ j:Nat,j<i→[b0,b1,b2,b3,b4,b5,b6,b7].getD j false=true→0≤t-8+(j:Int))∧Below (w.heap.size+1) W0 wr) (fun iv _=>8-(intOf iv).toNat)
 case atStart=>exact⟨0,by omega,rfl,fun j hj=>by omega,Below.refl _ _⟩
 case round =>
  obtain⟨i,hi,rfl,hold,hbel⟩:=hrel;have hr:=(hbel.block w.heap.size (by omega)).trans hrow;obtain⟨c0,c1,c2,c3,c4,c5,c6,c7,c8⟩:=Kh hr;have dW:Below w.heap.size w wr:=b0'.trans (hbel.mono (by omega));have hzr:=hbel.size;by_cases hi8:i<8
  ·have hii:(i:Int)<8:=by omega
   have hx:=HS.out i hi8;cases hb:[b0,b1,b2,b3,b4,b5,b6,b7].getD i false with
   | true =>
    rw[hb]at hx
    have HBI:Hid ([b0,b1,b2,b3,b4,b5,b6,b7].getD i false=true):=hb;clear hb hr;go_wp2_with fail
    refine(Dn t [b0,b1,b2,b3,b4,b5,b6,b7] _ rfl (by omega) (by omega)).mono ?_;rintro e w2 ⟨rfl,e2⟩;have d2:Below w.heap.size w w2:=dW.trans (e2.mono dW.size);have hb2:Below (w.heap.size+1) W0 w2:=hbel.trans (e2.mono (by omega));clear c0 c1 c2 c3 c4 c5 c6 c7 c8 e2 hbel;by_cases hneg:t-8+(i:Int)<0
    ·have HF:Hid (false=P0 t [b0,b1,b2,b3,b4,b5,b6,b7]):=by
      unfold Hid;symm;rw[Bool.eq_false_iff];intro hm;have:=((ER _ _).1 hm).1 i hi8 HBI.out;omega
     go_wp2
     go_ret;exact⟨Ab HF.out,d2⟩
    ·go_wp2
     go_roundw
     case rel =>
      refine⟨i+1,by omega,by go_num,?_,hb2⟩;intro j hj hbj;rcases Nat.lt_or_ge j i with h|h
      ·exact hold.out j h hbj
      ·obtain rfl:j=i:=by omega
       omega
     case measure=>simp[intOf];omega
   | false =>
    rw[hb]at hx
    have HBI:Hid ([b0,b1,b2,b3,b4,b5,b6,b7].getD i false=false):=hb;clear hb hr;go_wp2
    go_roundw
    case rel =>
     refine⟨i+1,by omega,by go_num,?_,hbel⟩;intro j hj hbj;rcases Nat.lt_or_ge j i with h|h
     ·exact hold.out j h hbj
     ·obtain rfl:j=i:=by omega
      rw[HBI.out]at hbj
      cases hbj
    case measure=>simp[intOf];omega
  ·obtain rfl:i=8:=by omega
   rw[show((8:Nat):Int)=8 from rfl];have HM:Hid ((decide (t=0)||b7)=P0 t [b0,b1,b2,b3,b4,b5,b6,b7]):=by
    unfold Hid;rw[Bool.eq_iff_iff,ER,Bool.or_eq_true];constructor
    ·intro h;exact⟨hold.out,h.imp of_decide_eq_true id⟩
    ·intro h;exact h.2.imp decide_eq_true id
   clear hr HS;go_wp2
   all_goals
    rename_i ht
    go_ret;refine⟨Ab ?_,dW⟩;rw[← HM.out];simp[ht]
end Go.Proofs.YtakgfdbjgeopdaaGreatDoor
