/- Part 4 of the walk. -/
import Derived.Laws.CopyOwn
import Derived.Deep.RegionWith
import Derived.Test.YtaeckakjdagddadGreatDoorZ3
set_option maxRecDepth 100000
set_option maxHeartbeats 4000000
open Go.Proofs.Tryz
namespace Go.Proofs.YtaeckakjdagddadGreatDoor
open Go.RowKit
def byA(l:List Int):Array Value:=(l.map (Value.int .u8)).toArray
theorem Yo(l:List Int)(i:Nat)(x:Int):(byA l).setIfInBounds i (.int .u8 x)=byA (l.set i x):=by
 apply Array.ext';simp[byA,List.map_set]
theorem FB{w:World}{g:Nat}{l:List Int}{t:TypeId}(h:w.heap[g]?=some (.cells (byA l) t (0,0)))(k:Nat)(x:Int) :
  (w.setCell ⟨g,k,none⟩ (.int .u8 x)).heap[g]?=some (.cells (byA (l.set k x)) t (0,0)):=by
 rw[heap_setCell_same _ _ _ _ _ _ h,Yo]
theorem GI(l:List Int)(i:Nat)(h:i<l.length):(byA l)[i]?=some (.int .u8 (l.getD i 0)):=by
 simp[byA,List.getD,List.getElem?_eq_getElem h]
theorem Wb:(prog.info? 5).map (·.size)=some 1:=by kernel_rfl
theorem Hq(l:List Int)(n:Nat):splice ((List.replicate n (0:Int)).map (Value.int .u8)) 0 (l.map (Value.int .u8))=(l++List.replicate (n-l.length) 0).map (Value.int .u8):=by
 have e:(List.replicate n (0:Int)).map (Value.int .u8)=List.replicate n (Value.int .u8 0):=List.map_replicate;rw[e];simp only[splice,List.take_zero,List.nil_append,List.length_map,Nat.zero_add,List.drop_replicate,List.map_append,List.map_replicate]
theorem Sl.src{w:World}{sp:Option Addr}{n c:Nat}{l:List Int}(h:Sl w (.slice sp n c) l)(hp:0<l.length):∃ ad,sp=some ad∧∀ (j:Nat) (v:Value),(l.map (Value.int .u8))[j]?=some v→w.cell? (ad.add j)=some v:=by
 obtain⟨⟨a,cap,e,hc,hn,h1⟩,hla,hba⟩:=h;simp only[Value.slice.injEq]at e;obtain⟨rfl,rfl,rfl⟩:=e;rcases h1 with rfl|⟨b,off,rfl,_,hcell⟩
 ·simp at hp
 ·refine⟨_,rfl,fun j v hj=>?_⟩;have hjl:j<l.length:=by
   have:=(List.getElem?_eq_some_iff.1 hj).1;simpa using this
  have hadd:(⟨b,off,none⟩:Addr).add j=⟨b,off+j,none⟩:=by unfold Addr.add;split<;>simp_all
  rw[hadd,hcell j hjl];simp[List.getElem?_eq_getElem hjl]at hj
  rw[AL hjl,hj]
theorem Sl.ofByA{w:World}{g:Nat}{l:List Int}{t:TypeId}{fr:Nat × Nat}(h:w.heap[g]?=some (.cells (byA l) t fr))(hl:l.length≤140737488351232)(hb:∀ x∈l,0≤x∧x<256):Sl w (.slice (some ⟨g,0,none⟩) l.length l.length) l:=by
 refine⟨⟨_,l.length,rfl,by simp,by simp,.inr ⟨g,0,rfl,(Array.getElem?_eq_some_iff.1 h).1,fun i hi=>?_⟩⟩,hl,hb⟩;rw[cell_of_row _ _ (0+i) _ _ _ h,Nat.zero_add,GI l i hi]
theorem Sl.rowOf{w:World}{g n:Nat}{l:List Int}{t:TypeId}{fr:Nat × Nat}(h:w.heap[g]?=some (.cells (byA l) t fr))(hn:l.length=n)(hl:l.length≤140737488351232)(hb:∀ x∈l,0≤x∧x<256):Sl w (.slice (some ⟨g,0,none⟩) n n) l:=by
 subst hn;exact Sl.ofByA h hl hb
theorem Wv(l:List Int)(h:l.length≤16):(l++List.replicate (17-l.length) 0).set l.length 1=l++[1]++List.replicate (16-l.length) 0:=by
 rw[List.set_append_right _ _ (Nat.le_refl _),show 17-l.length=16-l.length+1 by omega,List.replicate_succ];simp
theorem Wu(l:List Int)(n:Nat):leN (l++[1]++List.replicate n 0)=leN (l++[1]):=by
 rw[QF,TE];omega
theorem Pf(v:Value)(l:List Int)(w:World)(h:Sl w v l)(hl:l.length≤16) :
  Calls prog 202 #[v] w fun e w'=>∃ r,e=.returned (.agg (Ah r))∧Lim 67108864 r∧val r%pp=leN (l++[1])%pp∧Bw w w':=by
 have hs:=h;obtain⟨⟨a,cap,rfl,hc,hn,h1⟩,hla,hba⟩:=h;have HBY:Hid (∀ x∈l,0≤x∧x<256):=hba;have HM:=Wv l hl;have HML:=Wu l (16-l.length);clear h1 hba hn;go_enter func202,ntmps202
 go_wp2_with (refine wpList_copy_splice rfl _ _ 40 40 rfl 5 underlying40 Wb _ _ _ _ _ _ rfl rfl (w.heap.size+1) 0 ((List.replicate 17 (0:Int)).map (Value.int .u8)) 285 (heap_alloc2_new _ _ _) (l.map (Value.int .u8)) (by rw[List.length_map];exact(Nat.min_eq_left (show l.length≤17 by omega)).symm) (fun hp=>⟨rfl,(hs.below (((Below.refl _ _).alloc (Nat.le_refl _) _).alloc (by simp) _)).src (by simpa using hp)⟩) (by rw[List.length_map,List.length_map,List.length_replicate];omega) (Em _) (w.heap.size+1) _ (Below.refl _ _) (Nat.le_refl _) ?_)
 intro w2 H2 hb2;have hr2:w2.heap[w.heap.size+1]?=some (.cells (byA (l++List.replicate (17-l.length) 0)) 285 (0,0)):=by
  have h3:w2.heap[w.heap.size+1]?=some (.cells (splice ((List.replicate 17 (0:Int)).map (Value.int .u8)) 0 (l.map (Value.int .u8))).toArray 285 (0,0)):=H2.out;rw[Hq]at h3
  exact h3
 have hB2:Bw w w2:=(((Below.refl _ _).alloc (Nat.le_refl _) _).alloc (by simp) _).trans (hb2.mono (by omega));have hq2:w2.heap[w.heap.size]?=some (.cells (Ah [0,0,0,0,0]) 272 (0,0)):=by
  rw[hb2.block _ (by omega)];exact heap_alloc2_old _ _ _
 clear H2 hb2;have hlen:(l++List.replicate (17-l.length) (0:Int)).length=17:=by simp;omega
 have cl:=(cell_of_row _ _ l.length _ _ _ hr2).trans (GI _ l.length (by omega));have fl:=frozen_of_row _ _ l.length _ _ hr2;have hr3:=FB hr2 l.length 1;rw[HM]at hr3
 have hq3:(w2.setCell ⟨w.heap.size+1,l.length,none⟩ (.int .u8 1)).heap[w.heap.size]?=some (.cells (Ah [0,0,0,0,0]) 272 (0,0)):=(heap_setCell_other _ _ _ _ (by simp)).trans hq2;have hB3:Bw w (w2.setCell ⟨w.heap.size+1,l.length,none⟩ (.int .u8 1)):=hB2.setCell (p:=⟨w.heap.size+1,l.length,none⟩) (by simp) _;have hzz:w.heap.size<(w2.setCell ⟨w.heap.size+1,l.length,none⟩ (.int .u8 1)).heap.size:=(Array.getElem?_eq_some_iff.1 hq3).1;have s3:Sl (w2.setCell ⟨w.heap.size+1,l.length,none⟩ (.int .u8 1)) (.slice (some ⟨w.heap.size+1,0,none⟩) 17 17) (l++[1]++List.replicate (16-l.length) 0):=by
  refine Sl.rowOf hr3 (by simp;omega) (by simp;omega) ?_;intro x hx;rcases List.mem_append.1 hx with h|h
  ·rcases List.mem_append.1 h with h|h
   ·exact HBY.out x h
   ·simp at h;omega
  ·rw[(List.mem_replicate.1 h).2];omega
 have hlen3:(l++[1]++List.replicate (16-l.length) (0:Int)).length≤17:=by simp;omega
 have HS3:Hid _:=s3;have HHM:Hid (leN (l++[1]++List.replicate (16-l.length) 0)=leN (l++[1])):=HML;clear hr3 hr2 HM HML s3 hs;generalize l++[1]++List.replicate (16-l.length) 0=L at HS3 hlen3 HHM;generalize (l++List.replicate (17-l.length) (0:Int)).getD l.length 0=c0 at cl;go_wp2_with fail
 refine(Pr _ L _ HS3.out hlen3).mono ?_;rintro e w4 ⟨r,rfl,lr,vr,hb4⟩;have hq4:=(hb4.block w.heap.size hzz).trans hq3;have hB4:Bw w w4:=hB3.trans (hb4.mono hB3.size);have hsz2:=Cn lr.1;go_wp2_with ((with_reducible (refine Ao ?_));(refine wpList_store_row rfl 272 _ _ rfl (w.heap.size) _ rfl rfl 272 _ hq4 hsz2 (by rw[Ak,Ak,lr.1];rfl) (Bg r) ?_))
 exact bodyPost_ret (v:=.agg (Ah r)) (results_cell_row rfl _ _ (w.heap.size) 272 _ (0,0) _ rfl (setRow_heap w4 (w.heap.size) _ _ 272 _ hq4) underlying272 rfl hsz2) rfl ⟨r,rfl,lr,by rw[vr,HHM.out],AP hB4 (Nat.le_refl _) _⟩
def eI:Value→Nat
 | .slice _ n _=>n
 | _=>0
theorem dD{w:World}{g:Nat}{old:Array Value}(t:List Int)(hg:w.heap[g]?=some (.cells old 272 (0,0)))(ho:old.size=5)(ht:t.length=5):(storeCells ⟨g,0,none⟩ (Ah t).toList).run prog w=.ok () (w.setRow g (Ah t)):=by
 have:=run_storeCells_from (P:=prog) g 272 (Ah t).toList 0 old w hg (by simp[Ak];omega) (fun v hv=>by simp[Ah]at hv;obtain⟨x,_,rfl⟩:=hv;rfl);rw[this];simp[Ah]
theorem LB{P:Program}{id:Nat}{ops:Array Oper}{K:Act→World→Prop}{Q:Exit→Act→World→Prop}{a:Act}{w:World}(R:List Int→List Int→List Int→World→Prop){A:List Int→List Int→List Int→Act}
  (hreg:∀ K':Act→World→Prop,Hid (∀ x y z W2,R x y z W2→K' (A x y z) W2)→(Code.region id ops true).wp P (Exit.then K' Q) a w)(hrest:∀ x y z W2,R x y z W2→K (A x y z) W2):(Code.region id ops true).wp P (Exit.then K Q) a w:=hreg K hrest
theorem MZ(rl:List Int)(R:Int)(v:Value)(l:List Int)(w:World)(h:Sl w v l)(hl:l.length≤4000)(hr:Lim 67108864 rl)(hR:val rl%pp=R%pp) :
  Calls prog 193 #[.agg (Ah rl),v] w fun e w'=>∃ r,e=.returned (.agg (Ah r))∧Lim 67108864 r∧val r=bi R l∧Bw w w':=by
 obtain⟨a0,c0,rfl⟩:∃ a c,v=.slice a l.length c:=by
  obtain⟨⟨a,c,e,_⟩,_⟩:=h;exact⟨a,c,e⟩
 have HR:Hid (val rl%pp=R%pp):=hR;clear hR;go_enter func193,ntmps193
 go_wp2_with fail
 go_loopw [1] (fun dv wr=>∃ (k:Nat) (nl:List Int) (a:Option Addr) (c:Nat),16*k≤l.length+15∧dv=.slice a (l.length-16*k) c∧Sl w dv (l.drop (16*k))∧Lim 67108864 nl∧val nl%pp=Ji R l k%pp∧wr.heap[w.heap.size]?=some (.cells (Ah rl) 272 (0,0))∧wr.heap[w.heap.size+1]?=some (.cells (Ah [0,0,0,0,0]) 272 (0,0))∧wr.heap[w.heap.size+1+1]?=some (.cells (Ah nl) 272 (0,0))∧Bw w wr) (fun dv _=>eI dv)
 case atStart =>
  obtain⟨s1,s2,s3,s4⟩:=EY w (.cells (Ah rl) 272 (0,0)) (.cells (Ah [0,0,0,0,0]) 272 (0,0)) (.cells (Ah [0,0,0,0,0]) 272 (0,0));exact⟨0,[0,0,0,0,0],a0,c0,by omega,rfl,h,Lim.of5 (by omega) (by omega) (by omega) (by omega) (by omega),rfl,s1,s2,s3,s4⟩
 case round =>
  clear h;obtain⟨k,nl,a,c,hk,rfl,hs,hln,hvn,hrr,hz,hn,hb⟩:=hrel;by_cases hk16:16*k<l.length
  ·obtain⟨n,hne⟩:∃ n,l.length-16*k=n:=⟨_,rfl⟩;have HNE:Hid (l.length-16*k=n):=hne;have hn0:0<n:=by omega
   have hn0i:(0:Int)<(n:Int):=by omega
   rw[hne]at hs ⊢
   have hlen:(l.drop (16*k)).length=n:=by rw[List.length_drop];exact hne
   obtain⟨n0,n1,n2,n3,n4,rfl,_⟩:=hln.split;obtain⟨r0,r1,r2,r3,r4,rfl,_⟩:=hr.split;have kn0:=(cell_of_row _ _ 0 _ _ _ hn).trans (Ap _ 0 (by simp));have kn1:=(cell_of_row _ _ 1 _ _ _ hn).trans (Ap _ 1 (by simp));have kn2:=(cell_of_row _ _ 2 _ _ _ hn).trans (Ap _ 2 (by simp));have kn3:=(cell_of_row _ _ 3 _ _ _ hn).trans (Ap _ 3 (by simp));have kn4:=(cell_of_row _ _ 4 _ _ _ hn).trans (Ap _ 4 (by simp));have kr0:=(cell_of_row _ _ 0 _ _ _ hrr).trans (Ap _ 0 (by simp));have kr1:=(cell_of_row _ _ 1 _ _ _ hrr).trans (Ap _ 1 (by simp));have kr2:=(cell_of_row _ _ 2 _ _ _ hrr).trans (Ap _ 2 (by simp));have kr3:=(cell_of_row _ _ 3 _ _ _ hrr).trans (Ap _ 3 (by simp));have kr4:=(cell_of_row _ _ 4 _ _ _ hrr).trans (Ap _ 4 (by simp));simp only[List.getD_cons_zero,List.getD_cons_succ]at kn0 kn1 kn2 kn3 kn4 kr0 kr1 kr2 kr3 kr4;have hzn:w.heap.size+1+1<wr.heap.size:=(Array.getElem?_eq_some_iff.1 hn).1;have hzr:w.heap.size<wr.heap.size:=by omega
   have HN:Hid _:=hn;have HRR:Hid _:=hrr;have HZ:Hid _:=hz;have HB:Hid _:=hb;have HVN:Hid (val [n0,n1,n2,n3,n4]%pp=Ji R l k%pp):=hvn;clear hn hrr hz hb hvn hne;obtain⟨sz,hmin,hsz1,hsz2⟩:∃ sz:Nat,(if(n:Int)<16 then(n:Int)else 16)=(sz:Int)∧sz≤n∧((sz=16)∨(sz=n∧n<16)):=by
    by_cases h16:(n:Int)<16
    ·exact⟨n,by rw[if_pos h16],by omega,.inr ⟨rfl,by omega⟩⟩
    ·exact⟨16,by rw[if_neg h16];rfl,by omega,.inl rfl⟩
   obtain⟨a1,c1,hc1,st⟩:=hs.upTo sz (by omega);obtain⟨a2,c2,hc2,sd⟩:=hs.from sz (by omega);have hpl:((l.drop (16*k)).take sz).length≤16:=by rw[List.length_take];omega
   have HP:Hid ((l.drop (16*k)).take sz=piece l k):=by
    unfold Hid piece;rcases hsz2 with rfl|⟨rfl,h16⟩
    ·rfl
    ·rw[List.take_of_length_le (by omega),List.take_of_length_le (by omega)]
   have HD:Hid ((l.drop (16*k)).drop sz=l.drop (16*(k+1))∧n-sz=l.length-16*(k+1)):=by
    unfold Hid;have:=HNE.out;rw[List.drop_drop];rcases hsz2 with rfl|⟨rfl,h16⟩
    ·exact⟨by congr 1,by omega⟩
    ·refine⟨?_,by omega⟩;rw[List.drop_eq_nil_of_le (by omega),List.drop_eq_nil_of_le (by omega)]
   have HSZ:Hid (1≤sz):=by unfold Hid;omega
   clear hsz2;go_wp2_with fail
   apply LB (fun m1 s1 t1 W=>Lim 67108864 t1∧val t1%pp=Ji R l (k+1)%pp∧W.heap[w.heap.size]?=some (.cells (Ah [r0,r1,r2,r3,r4]) 272 (0,0))∧W.heap[w.heap.size+1]?=some (.cells (Ah [0,0,0,0,0]) 272 (0,0))∧W.heap[w.heap.size+1+1]?=some (.cells (Ah t1) 272 (0,0))∧Bw w W)
   ·intro K2 HK2
    go_region_with (first
     | (go_at_call 202;refine(Pf _ _ _ (st.below HB.out.drew) hpl).mono ?_;rintro e w2 ⟨m1,rfl,lm1,vm1,hb2⟩;have hzn2:w.heap.size+1+1<w2.heap.size:=Nat.lt_of_lt_of_le hzn hb2.size;have hzr2:w.heap.size<w2.heap.size:=Nat.lt_of_lt_of_le hzr hb2.size;have ln0:=(hb2.cell (p:=⟨w.heap.size+1+1,0,none⟩) hzn).trans kn0;have ln1:=(hb2.cell (p:=⟨w.heap.size+1+1,1,none⟩) hzn).trans kn1;have ln2:=(hb2.cell (p:=⟨w.heap.size+1+1,2,none⟩) hzn).trans kn2;have ln3:=(hb2.cell (p:=⟨w.heap.size+1+1,3,none⟩) hzn).trans kn3;have ln4:=(hb2.cell (p:=⟨w.heap.size+1+1,4,none⟩) hzn).trans kn4;have lr0:=(hb2.cell (p:=⟨w.heap.size,0,none⟩) hzr).trans kr0;have lr1:=(hb2.cell (p:=⟨w.heap.size,1,none⟩) hzr).trans kr1;have lr2:=(hb2.cell (p:=⟨w.heap.size,2,none⟩) hzr).trans kr2;have lr3:=(hb2.cell (p:=⟨w.heap.size,3,none⟩) hzr).trans kr3;have lr4:=(hb2.cell (p:=⟨w.heap.size,4,none⟩) hzr).trans kr4)
     | (go_at_call 201;refine(WW [n0,n1,n2,n3,n4] m1 _ hln lm1).mono ?_;rintro e w3 ⟨s1,rfl,ls1,vs1,hb3⟩;have hzn3:w.heap.size+1+1<w3.heap.size:=Nat.lt_of_lt_of_le hzn2 hb3.size;have mr0:=(hb3.cell (p:=⟨w.heap.size,0,none⟩) hzr2).trans lr0;have mr1:=(hb3.cell (p:=⟨w.heap.size,1,none⟩) hzr2).trans lr1;have mr2:=(hb3.cell (p:=⟨w.heap.size,2,none⟩) hzr2).trans lr2;have mr3:=(hb3.cell (p:=⟨w.heap.size,3,none⟩) hzr2).trans lr3;have mr4:=(hb3.cell (p:=⟨w.heap.size,4,none⟩) hzr2).trans lr4)
     | (go_at_call 203;refine(UE s1 [r0,r1,r2,r3,r4] _ ls1 hr).mono ?_;rintro e w4 ⟨t1,rfl,lt1,vt1,hb4⟩;have hst:=dD t1 ((hb4.block _ hzn3).trans ((hb3.block _ hzn2).trans ((hb2.block _ hzn).trans HN.out))) rfl lt1.1;have hs5:(Ah t1).size=5:=by rw[Ak];exact lt1.1))
    all_goals
     refine HK2.out m1 s1 t1 _ ⟨lt1,?_,?_,?_,?_,?_⟩
     ·rw[HP.out]at vm1
      exact UQ HVN.out vm1 vs1 HR.out vt1
     ·exact(setRow_other _ _ _ _ (by omega)).trans ((hb4.block _ (by omega)).trans ((hb3.block _ (by omega)).trans ((hb2.block _ hzr).trans HRR.out)))
     ·exact(setRow_other _ _ _ _ (by omega)).trans ((hb4.block _ (by omega)).trans ((hb3.block _ (by omega)).trans ((hb2.block _ (Nat.lt_of_succ_lt hzn)).trans HZ.out)))
     ·exact setRow_heap _ _ _ _ 272 _ ((hb4.block _ hzn3).trans ((hb3.block _ hzn2).trans ((hb2.block _ hzn).trans HN.out)))
     ·exact AP (((HB.out.drew.trans (hb2.mono (Nat.le_of_lt hzr))).trans (hb3.mono (Nat.le_of_lt hzr2))).trans (hb4.mono (by omega))) (by omega) _
   intro m1 s1 t1 W hW;obtain⟨lt1,vt1,q1,q2,q3,q4⟩:=hW;clear kn0 kn1 kn2 kn3 kn4 kr0 kr1 kr2 kr3 kr4 st hc1 hpl;go_wp2
   go_roundw
   case rel =>
    obtain⟨d1,d2⟩:=HD.out;rw[d1]at sd
    exact⟨k+1,t1,a2,c2,by omega,by rw[d2],sd,lt1,vt1,q1,q2,q3,q4⟩
   case measure=>have:=HSZ.out;simp[eI];omega
  ·have HK:Hid (k=Np l):=by unfold Hid Np;omega
   have hzero:l.length-16*k=0:=by omega
   rw[hzero];have hsz1:=Cn hln.1;have hzz:w.heap.size+1<wr.heap.size:=(Array.getElem?_eq_some_iff.1 hz).1;have HV:Hid (val nl%pp=Ji R l k%pp):=hvn;clear hvn hs;go_wp2_with ((with_reducible (refine Ao ?_));(refine wpList_load_row rfl 272 _ rfl (w.heap.size+1+1) rfl 272 _ (0,0) _ hn underlying272 rfl hsz1 ?_))
   refine(TG nl wr hln).mono ?_;rintro e w1 ⟨r1,rfl,l1,v1,hb1⟩;have hz1:=(hb1.block (w.heap.size+1) hzz).trans hz;have hB1:Bw w w1:=hb.trans (hb1.mono hb.size);have hsz2:=Cn l1.1;go_wp2_with ((with_reducible (refine Ao ?_));(refine wpList_store_row rfl 272 _ _ rfl (w.heap.size+1) _ rfl rfl 272 _ hz1 hsz2 (by rw[Ak,Ak,l1.1];rfl) (Bg r1) ?_))
   refine bodyPost_ret (v:=.agg (Ah r1)) (results_cell_row rfl _ _ (w.heap.size+1) 272 _ (0,0) _ rfl (setRow_heap w1 (w.heap.size+1) _ _ 272 _ hz1) underlying272 rfl hsz2) rfl ⟨r1,rfl,l1,?_,AP hB1 (by omega) _⟩;have hK:=HK.out;subst hK;rw[v1,HV.out];have:=PQ R l (Np l);exact Int.emod_eq_of_lt this.1 this.2
end Go.Proofs.YtaeckakjdagddadGreatDoor
