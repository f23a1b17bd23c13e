/- Part 3 of the walk: what the functions of the program do, one by one. -/
import Derived.Test.YtakgfdbjgeopdaaGreatDoorZ2
set_option maxRecDepth 100000
set_option maxHeartbeats 4000000
open Go.Proofs.Tryz
namespace Go.Proofs.YtakgfdbjgeopdaaGreatDoor
open Go.RowKit
theorem Qu{x y:Int}(hx:0≤x∧x<256)(hy:0≤y∧y<256):bits .xor .u8 x y=bx x y:=by
 obtain⟨a,rfl⟩:∃ a:Nat,x=a:=⟨x.toNat,by omega⟩;obtain⟨b,rfl⟩:∃ b:Nat,y=b:=⟨y.toNat,by omega⟩;rw[u8_xor_nat _ _ (by omega) (by omega)];rfl
theorem Ht{w:World}{base e:Nat}{v:Value}{n:Nat}{xs:List Value}(h:w.ownsRow base e 1 v n xs){g:Nat}{cs:Array Value}{t:TypeId}{fr:Nat × Nat}(hg:w.heap[g]?=some (.cells cs t fr))(ht:t≠e):v.ownBlock≠some g:=by
 intro hv;rcases h.2 with⟨rfl,_⟩|⟨g',cap,cur,rfl,_,hg',_⟩
 ·simp[Value.ownBlock]at hv
 ·simp only[Value.ownBlock,Option.some.injEq]at hv;subst hv;rw[hg']at hg
  simp only[Option.some.injEq,Obj.cells.injEq]at hg;exact ht hg.2.1.symm
theorem Fv{w w':World}{base e:Nat}{v:Value}{n:Nat}{xs:List Value}(h:w.ownsRow base e 1 v n xs)(hk:∀ k,v.ownBlock=some k→w'.heap[k]?=w.heap[k]?):w'.ownsRow base e 1 v n xs:=by
 refine⟨h.1,?_⟩;rcases h.2 with h2|⟨g,cap,cur,hv,hb,hg,hr⟩
 ·exact .inl h2
 ·exact .inr ⟨g,cap,cur,hv,hb,(hk g (by rw[hv];rfl)).trans hg,hr⟩
theorem Sl.one2(w:World)(b b':Int)(e:TypeId){g:Nat}(hg:g=w.heap.size)(hb:0≤b∧b<256)(he:b'=b):Sl (w.alloc (.cells #[.int .u8 b'] e)) (.slice (some ⟨g,0,none⟩) 1 1) [b]:=by
 subst he;exact Sl.one w b' e hg hb
theorem V7(x:BitVec 32):(uw x+1)%(4294967296:Int)=uw (x+1#32):=Cy x 1#32
theorem OT(c:BitVec 32)(q:Nat):c+BitVec.ofNat 32 q+1#32=c+BitVec.ofNat 32 (q+1):=by
 rw[BitVec.add_assoc]
 congr 1
 apply BitVec.eq_of_toNat_eq;simp[BitVec.toNat_add,BitVec.toNat_ofNat]
def DF(ws:List (BitVec 32))(q:Nat):List (BitVec 32):=ws.set 12 (ws.getD 12 0#32+BitVec.ofNat 32 q)
theorem MW(ws:List (BitVec 32))(q:Nat):(DF ws q).length=ws.length:=by simp[DF]
theorem Rp(ws:List (BitVec 32))(h:ws.length=16):DF ws 0=ws:=by
 unfold DF;rw[show BitVec.ofNat 32 0=0#32 from rfl,BitVec.add_zero,List.getD,List.getElem?_eq_getElem (by omega),Option.getD_some,List.set_getElem_self]
theorem VU(ws:List (BitVec 32))(q:Nat)(h:ws.length=16):(DF ws q).getD 12 0#32=ws.getD 12 0#32+BitVec.ofNat 32 q:=by
 unfold DF;simp[List.getD,h]
theorem Ro(ws:List (BitVec 32))(q:Nat)(h:ws.length=16):(DF ws q).set 12 ((DF ws q).getD 12 0#32+1#32)=DF ws (q+1):=by
 rw[VU ws q h,OT];unfold DF;rw[List.set_set]
theorem Ow(ws:List (BitVec 32))(q j:Nat)(hj:j<64):L5 ws (64*q+j)=(BU (DF ws q)).getD j 0:=by
 unfold L5 DF;rw[show(64*q+j)/64=q by omega,show(64*q+j)%64=j by omega]
theorem OQ(ws:List (BitVec 32))(vd:Value)(d:List Int)(w:World)(hws:ws.length=16)(hd:Sl w vd d)(hl:d.length≤100000)(ht:C1 w) :
  Calls prog 180 #[.agg (Av ws),vd] w fun e w'=>∃ v',e=.returned v'∧w'.ownsRow w.heap.size 5 1 v' (Nz ws d).length ((Nz ws d).map (Value.int .u8))∧Below w.heap.size w w':=by
 obtain⟨i0,hi,hz0,hz1,hz2⟩:=info_parts AB;have hds:=hd;obtain⟨⟨ad,capd,rfl,hc,hn,h1⟩,hla,hba⟩:=hd;have hpos:=ht.pos;generalize hnn:d.length=n at *;have HN:Hid (d.length=n):=hnn;clear hnn h1 hn;go_enter func180,ntmps180
 go_wp2_with (at_make;refine wpList_make_own _ rfl _ _ 26 rfl w.heap.size 5 i0 (.int .u8 0) 1 underlying26 hi hz0 hz1 _ _ _ n rfl rfl (by omega) (by rw[hz2];omega) (by unfold maxLen;omega) (by simp) ?_)
 intro w1 ho1 hg1;have hrow:w1.heap[w.heap.size]?=some (.cells (Av (DF ws 0)) 233 (0,0)):=by
  rw[hg1.block w.heap.size (by simp) (by simp),Rp ws hws];exact heap_alloc_new _ _
 have hb1:Below w.heap.size w w1:=((Below.refl _ _).alloc (Nat.le_refl _) _).grown hg1 (by simp) (by simp);have ho1':w1.ownsRow w.heap.size 5 1 (.slice (some ⟨w.heap.size+1,0,none⟩) 0 n) (Cu ws d 0).length ((Cu ws d 0).map (Value.int .u8)):=ho1;clear hg1 ho1 hz0 hz1 hz2 hi;go_wp2_with fail
 go_loopw [5] (fun v wr=>∃ (q m:Nat) (a:Option Addr) (cap:Nat),m=min (64*q) n∧v=.slice a m cap∧wr.ownsRow w.heap.size 5 1 v (Cu ws d m).length ((Cu ws d m).map (Value.int .u8))∧wr.heap[w.heap.size]?=some (.cells (Av (DF ws q)) 233 (0,0))∧Below w.heap.size w wr) (fun v _=>n-Uq v)
 case atStart=>exact⟨0,0,_,_,by omega,rfl,ho1',hrow,hb1⟩
 case round =>
  clear ho1' hrow hb1;obtain⟨q,m,a,cap,hm,rfl,hown,hrow,hb⟩:=hrel;have HM:Hid (m=min (64*q) n):=hm;have hmle:m≤n:=by omega
  clear hm;have hBlt:w.heap.size<wr.heap.size:=(Array.getElem?_eq_some_iff.1 hrow).1;by_cases hmn:m<n
  ·have hmni:(m:Int)<(n:Int):=by omega
   have HM64:Hid (m=64*q):=by have:=HM.out;unfold Hid;omega
   have hul:(DF ws q).length=16:=by rw[MW];exact hws
   have HBL:Hid (∀ j,j<64→L5 ws (m+j)=(BU (DF ws q)).getD j 0):=fun j hj=>by rw[HM64.out];exact Ow ws q j hj
   have hsz:(prog.info? 233).map (·.size)=some (Av (DF ws q)).size:=by rw[AP,hul];kernel_rfl
   have HSU:Hid ((DF ws q).set 12 ((DF ws q).getD 12 0#32+1#32)=DF ws (q+1)):=Ro ws q hws;generalize DF ws q=us at hrow hul HBL hsz HSU;go_wp2_with ((with_reducible (refine Cn ?_));refine wpList_load_row rfl 233 _ rfl w.heap.size rfl 233 _ (0,0) _ hrow underlying233 rfl hsz ?_)
   refine(FH us wr hul (ht.below hpos hb)).mono ?_;rintro e w2 ⟨rfl,b2⟩;have hbl:=DE us;have hbb:=ED us;generalize BU us=bs at hbl hbb HBL;have hsz2:(prog.info? 186).map (·.size)=some (AK bs).size:=by rw[Ay,hbl];kernel_rfl
   have hone:(AK bs).all (·.oneCell')=true:=by simp[AK,Value.oneCell']
   have hkeep:∀ k,Value.ownBlock (.slice a m cap)=some k→k<wr.heap.size:=fun k hk=>(hown.lt k hk).2;by_cases h64:(64:Int)≤(n:Int)-(m:Int)
   ·have HRr:Hid (m+64=min (64*(q+1)) n):=by have:=HM64.out;unfold Hid;omega
    have hrn:m+64≤n:=by omega
    have hr64:64≤64:=by omega
    go_wp2_with ((with_reducible (refine Cn ?_));refine wpList_store_row rfl 186 _ _ rfl w2.heap.size _ rfl rfl 186 (AK (List.replicate 64 0)) (heap_alloc_new _ _) hsz2 (by rw[Ay,Ay,hbl];rfl) hone ?_)
    generalize hW3:World.setRow _ _ _=W3;obtain⟨hg3,b3,hs3⟩:=Hf w2 bs _ 186 (AK (List.replicate 64 0)) rfl hW3;clear hW3;have b23:Below wr.heap.size wr W3:=b2.trans (b3.mono b2.size);have hrow3:=(b23.block w.heap.size hBlt).trans hrow;have hown3:=Fv hown (fun k hk=>b23.block k (hkeep k hk));have hb3:Below w.heap.size w W3:=hb.trans (b23.mono hb.size);have hgB:w.heap.size<w2.heap.size:=Nat.lt_of_lt_of_le hBlt b2.size;clear hown hrow hb b2 b3 b23 hkeep hs3 hsz hsz2 hone hmn hmni;generalize w2.heap.size=g at hg3 hgB ⊢
    go_loopw [5,27] (fun v i wr=>∃ (j:Nat) (a:Option Addr) (cap:Nat),j≤64∧i=.int .i64 j∧v=.slice a (m+j) cap∧wr.ownsRow w.heap.size 5 1 v (Cu ws d (m+j)).length ((Cu ws d (m+j)).map (Value.int .u8))∧wr.heap[w.heap.size]?=some (.cells (Av us) 233 (0,0))∧wr.heap[g]?=some (.cells (AK bs) 186 (0,0))∧Below w.heap.size w wr) (fun _ i _=>64-(intOf i).toNat)
    case atStart=>exact⟨0,a,cap,by omega,rfl,rfl,hown3,hrow3,hg3,hb3⟩
    case round =>
     clear hown3 hrow3 hg3 hb3;obtain⟨j,a2,cap2,hj,rfl,rfl,hown,hrow,hg,hb⟩:=hrel;by_cases hjr:j<64
     ·have hjri:(j:Int)<(64:Int):=by omega
      have hlt:=hown.lt;have cb:=(cell_of_row wr _ j _ _ _ hg).trans (Dh bs j (by omega));obtain⟨bd,od,rfl,hbd,hcd⟩:∃ bd od,ad=some ⟨bd,od,none⟩∧bd<w.heap.size∧w.cell? ⟨bd,od+(m+j),none⟩=some (.int .u8 (d.getD (m+j) 0)):=by
       obtain⟨⟨a',cap',e',_,_,h1'⟩,_,_⟩:=hds;rw[HN.out]at e' h1'
       simp only[Value.slice.injEq]at e';obtain⟨rfl,_,_⟩:=e';rcases h1' with h1'|⟨b',o',rfl,hb',hc'⟩
       ·have:=HN.out;rw[h1']at this;simp at this;omega
       ·exact⟨b',o',rfl,hb',hc' (m+j) (by omega)⟩
      have cd:=(hb.cell (p:=⟨bd,od+(m+j),none⟩) hbd).trans hcd;have y1:=Ak hbb j;have y2:=Ak hba (m+j);have HV:Hid (Cu ws d (m+(j+1))=Cu ws d (m+j)++[bx (bs.getD j 0) (d.getD (m+j) 0)]):=by
       unfold Hid;rw[← HBL.out j (by omega)];rfl
      have hml:=Em ws d (m+j);have HBX:=LS y1 y2;have HXX:Hid (bits .xor .u8 (bs.getD j 0) (d.getD (m+j) 0)=bx (bs.getD j 0) (d.getD (m+j) 0)):=Qu y1 y2;have HBB:Hid (0≤bx (bs.getD j 0) (d.getD (m+j) 0)∧bx (bs.getD j 0) (d.getD (m+j) 0)<256):=HBX;clear HBX hcd;generalize bs.getD j 0=x at cb y1 HV HXX HBB;generalize d.getD (m+j) 0=y at cd y2 HV HXX HBB;generalize bx x y=xy at HV HXX HBB;generalize Cu ws d (m+j)=pre at hown hml HV;go_wp2_with (at_builtin;refine Aa _ rfl _ _ 26 rfl w.heap.size 5 underlying26 AB _ _ rfl rfl pre [xy] (hown.alloc _) (Sl.one2 _ _ _ _ rfl HBB.out HXX.out) (by rw[hml];simp;omega) (by have:=hb.size;simp;omega) ?_)
      intro v' w' ho hgr;have ho':w'.ownsRow w.heap.size 5 1 v' (pre++[xy]).length ((pre++[xy]).map (Value.int .u8)):=by simpa[hml]using ho
      have hb':Below w.heap.size w w':=(hb.alloc hb.size _).grown hgr (by have:=hb.size;simp;omega) (fun k hk=>(hlt k hk).1);have n1:=Ht hown hrow (by decide);have n2:=Ht hown hg (by decide);have hBs:w.heap.size<wr.heap.size:=(Array.getElem?_eq_some_iff.1 hrow).1;have hgs:g<wr.heap.size:=(Array.getElem?_eq_some_iff.1 hg).1;have hrow':w'.heap[w.heap.size]?=some (.cells (Av us) 233 (0,0)):=((hgr.block w.heap.size (by simp;omega) n1.symm).trans (heap_alloc_old _ _ hBs)).trans hrow;have hg':w'.heap[g]?=some (.cells (AK bs) 186 (0,0)):=((hgr.block g (by simp;omega) n2.symm).trans (heap_alloc_old _ _ hgs)).trans hg;obtain⟨a3,c3,hv3⟩:=DA ho';rw[List.length_append,hml,List.length_singleton]at hv3
      subst hv3;clear ho hgr hown hlt hb hrow hg cb cd n1 n2;go_wp2
      go_roundw
      case rel=>exact⟨j+1,a3,c3,by omega,by go_num,rfl,by rw[HV.out];exact ho',hrow',hg',hb'⟩
      case measure=>simp[intOf];omega
     ·have hjri:¬ (j:Int)<(64:Int):=by omega
      have HJ:Hid (j=64):=by unfold Hid;omega
      have c12:=(cell_of_row wr _ 12 _ _ _ hrow).trans (Bw us 12 (by omega));have f12:=frozen_of_row wr _ 12 _ _ hrow;generalize hcw:us.getD 12 0#32=cw at c12;have HCW:Hid (us.getD 12 0#32=cw):=hcw;clear hcw;have hinc:=V7 cw;have n1:=Ht hown hrow (by decide);go_wp2
      go_roundw
      case rel =>
       refine⟨q+1,m+j,a2,cap2,by rw[HJ.out];exact HRr.out,rfl,Fv hown (fun k hk=>heap_setCell_other _ _ _ _ (by simp;intro e;subst e;exact n1 hk)),?_,hb.setCell (p:=⟨w.heap.size,12,none⟩) (Nat.le_refl _) _⟩;rw[← HSU.out,HCW.out];exact DW hrow 12 _
      case measure=>simp[Uq];have:=HJ.out;omega
   ·obtain⟨r,hrsub⟩:∃ r:Nat,(n:Int)-(m:Int)=(r:Int):=⟨n-m,by omega⟩;have HRr:Hid (m+r=min (64*(q+1)) n):=by have:=HM64.out;unfold Hid;omega
    have hrn:m+r≤n:=by omega
    have hr64:r≤64:=by omega
    have hr64i:(r:Int)≤64:=by omega
    have hr0i:(0:Int)≤(r:Int):=by omega
    have hr1:0<r:=by omega
    go_wp2_with ((with_reducible (refine Cn ?_));refine wpList_store_row rfl 186 _ _ rfl w2.heap.size _ rfl rfl 186 (AK (List.replicate 64 0)) (heap_alloc_new _ _) hsz2 (by rw[Ay,Ay,hbl];rfl) hone ?_)
    generalize hW3:World.setRow _ _ _=W3;obtain⟨hg3,b3,hs3⟩:=Hf w2 bs _ 186 (AK (List.replicate 64 0)) rfl hW3;clear hW3;have b23:Below wr.heap.size wr W3:=b2.trans (b3.mono b2.size);have hrow3:=(b23.block w.heap.size hBlt).trans hrow;have hown3:=Fv hown (fun k hk=>b23.block k (hkeep k hk));have hb3:Below w.heap.size w W3:=hb.trans (b23.mono hb.size);have hgB:w.heap.size<w2.heap.size:=Nat.lt_of_lt_of_le hBlt b2.size;clear hown hrow hb b2 b3 b23 hkeep hs3 hsz hsz2 hone hmn hmni;generalize w2.heap.size=g at hg3 hgB ⊢
    go_loopw [5,27] (fun v i wr=>∃ (j:Nat) (a:Option Addr) (cap:Nat),j≤r∧i=.int .i64 j∧v=.slice a (m+j) cap∧wr.ownsRow w.heap.size 5 1 v (Cu ws d (m+j)).length ((Cu ws d (m+j)).map (Value.int .u8))∧wr.heap[w.heap.size]?=some (.cells (Av us) 233 (0,0))∧wr.heap[g]?=some (.cells (AK bs) 186 (0,0))∧Below w.heap.size w wr) (fun _ i _=>r-(intOf i).toNat)
    case atStart=>exact⟨0,a,cap,by omega,rfl,rfl,hown3,hrow3,hg3,hb3⟩
    case round =>
     clear hown3 hrow3 hg3 hb3;obtain⟨j,a2,cap2,hj,rfl,rfl,hown,hrow,hg,hb⟩:=hrel;by_cases hjr:j<r
     ·have hjri:(j:Int)<(r:Int):=by omega
      have hlt:=hown.lt;have cb:=(cell_of_row wr _ j _ _ _ hg).trans (Dh bs j (by omega));obtain⟨bd,od,rfl,hbd,hcd⟩:∃ bd od,ad=some ⟨bd,od,none⟩∧bd<w.heap.size∧w.cell? ⟨bd,od+(m+j),none⟩=some (.int .u8 (d.getD (m+j) 0)):=by
       obtain⟨⟨a',cap',e',_,_,h1'⟩,_,_⟩:=hds;rw[HN.out]at e' h1'
       simp only[Value.slice.injEq]at e';obtain⟨rfl,_,_⟩:=e';rcases h1' with h1'|⟨b',o',rfl,hb',hc'⟩
       ·have:=HN.out;rw[h1']at this;simp at this;omega
       ·exact⟨b',o',rfl,hb',hc' (m+j) (by omega)⟩
      have cd:=(hb.cell (p:=⟨bd,od+(m+j),none⟩) hbd).trans hcd;have y1:=Ak hbb j;have y2:=Ak hba (m+j);have HV:Hid (Cu ws d (m+(j+1))=Cu ws d (m+j)++[bx (bs.getD j 0) (d.getD (m+j) 0)]):=by
       unfold Hid;rw[← HBL.out j (by omega)];rfl
      have hml:=Em ws d (m+j);have HBX:=LS y1 y2;have HXX:Hid (bits .xor .u8 (bs.getD j 0) (d.getD (m+j) 0)=bx (bs.getD j 0) (d.getD (m+j) 0)):=Qu y1 y2;have HBB:Hid (0≤bx (bs.getD j 0) (d.getD (m+j) 0)∧bx (bs.getD j 0) (d.getD (m+j) 0)<256):=HBX;clear HBX hcd;generalize bs.getD j 0=x at cb y1 HV HXX HBB;generalize d.getD (m+j) 0=y at cd y2 HV HXX HBB;generalize bx x y=xy at HV HXX HBB;generalize Cu ws d (m+j)=pre at hown hml HV;go_wp2_with (at_builtin;refine Aa _ rfl _ _ 26 rfl w.heap.size 5 underlying26 AB _ _ rfl rfl pre [xy] (hown.alloc _) (Sl.one2 _ _ _ _ rfl HBB.out HXX.out) (by rw[hml];simp;omega) (by have:=hb.size;simp;omega) ?_)
      intro v' w' ho hgr;have ho':w'.ownsRow w.heap.size 5 1 v' (pre++[xy]).length ((pre++[xy]).map (Value.int .u8)):=by simpa[hml]using ho
      have hb':Below w.heap.size w w':=(hb.alloc hb.size _).grown hgr (by have:=hb.size;simp;omega) (fun k hk=>(hlt k hk).1);have n1:=Ht hown hrow (by decide);have n2:=Ht hown hg (by decide);have hBs:w.heap.size<wr.heap.size:=(Array.getElem?_eq_some_iff.1 hrow).1;have hgs:g<wr.heap.size:=(Array.getElem?_eq_some_iff.1 hg).1;have hrow':w'.heap[w.heap.size]?=some (.cells (Av us) 233 (0,0)):=((hgr.block w.heap.size (by simp;omega) n1.symm).trans (heap_alloc_old _ _ hBs)).trans hrow;have hg':w'.heap[g]?=some (.cells (AK bs) 186 (0,0)):=((hgr.block g (by simp;omega) n2.symm).trans (heap_alloc_old _ _ hgs)).trans hg;obtain⟨a3,c3,hv3⟩:=DA ho';rw[List.length_append,hml,List.length_singleton]at hv3
      subst hv3;clear ho hgr hown hlt hb hrow hg cb cd n1 n2;go_wp2
      go_roundw
      case rel=>exact⟨j+1,a3,c3,by omega,by go_num,rfl,by rw[HV.out];exact ho',hrow',hg',hb'⟩
      case measure=>simp[intOf];omega
     ·have hjri:¬ (j:Int)<(r:Int):=by omega
      have HJ:Hid (j=r):=by unfold Hid;omega
      have c12:=(cell_of_row wr _ 12 _ _ _ hrow).trans (Bw us 12 (by omega));have f12:=frozen_of_row wr _ 12 _ _ hrow;generalize hcw:us.getD 12 0#32=cw at c12;have HCW:Hid (us.getD 12 0#32=cw):=hcw;clear hcw;have hinc:=V7 cw;have n1:=Ht hown hrow (by decide);go_wp2
      go_roundw
      case rel =>
       refine⟨q+1,m+j,a2,cap2,by rw[HJ.out];exact HRr.out,rfl,Fv hown (fun k hk=>heap_setCell_other _ _ _ _ (by simp;intro e;subst e;exact n1 hk)),?_,hb.setCell (p:=⟨w.heap.size,12,none⟩) (Nat.le_refl _) _⟩;rw[← HSU.out,HCW.out];exact DW hrow 12 _
      case measure=>simp[Uq];have:=HJ.out;omega
  ·have hmni:¬ (m:Int)<(n:Int):=by omega
   have HMN:Hid (n=m):=by unfold Hid;omega
   go_wp2
   go_ret;refine⟨_,rfl,?_,hb⟩;unfold Nz;rw[HN.out,HMN.out];exact hown
theorem WF(vk vn vd:Value)(key nonce d:List Int)(c:Nat)(w:World)(hk:Sl w vk key)(hn:Sl w vn nonce)(hd:Sl w vd d)(lk:key.length=32)(ln:nonce.length=12)(hc:c≤1073741824)(ld:d.length≤2000)(ht:C1 w) :
  Calls prog 137 #[vk,.int .i64 c,vn,vd] w fun e w'=>∃ v',e=.returned (.tuple #[v',.int .i64 0])∧w'.ownsRow w.heap.size 5 1 v' (Nz (Bz key (BitVec.ofNat 32 c) nonce) d).length ((Nz (Bz key (BitVec.ofNat 32 c) nonce) d).map (Value.int .u8))∧Below w.heap.size w w':=by
 have hds:=hd;obtain⟨⟨ad,capd,rfl,hcd,hnd,h1⟩,hla,hba⟩:=hd;clear h1;have ldi:(d.length:Int)≤2000:=by omega
 go_enter func137,ntmps137
 go_wp2_with fail
 refine(I1 vk vn key nonce c w hk hn).mono ?_;rintro e w1 ⟨rfl,rfl⟩;rw[Hg lk ln (by omega)];go_wp2_with fail
 refine(KP vk vn key nonce c w1 hk hn lk ln (by omega)).mono ?_;rintro e w2 ⟨rfl,b2⟩;have hl:=F8 key (BitVec.ofNat 32 c) nonce;generalize hus:Bz key (BitVec.ofNat 32 c) nonce=us at hl;have HUS:Hid (Bz key (BitVec.ofNat 32 c) nonce=us):=hus;clear hus;go_wp2_with fail
 refine(OQ us _ d w2 hl (hds.below b2) (by omega) (ht.below ht.pos b2)).mono ?_;rintro e w3 ⟨v3,rfl,ho3,b3⟩;go_wp2
 go_ret2
 refine⟨v3,rfl,?_,b2.trans (b3.mono b2.size)⟩;rw[HUS.out];exact B1 ho3 b2.size
def Ai(l:List Int):Array Value:=(l.map (Value.int .u64)).toArray
theorem Al(l:List Int):(Ai l).size=l.length:=by simp[Ai]
theorem Ar(l:List Int)(i:Nat)(h:i<l.length):(Ai l)[i]?=some (.int .u64 (l.getD i 0)):=by
 simp[Ai,List.getD,List.getElem?_eq_getElem h]
theorem Uy(l:List Int)(i:Nat)(x:Int):(Ai l).setIfInBounds i (.int .u64 x)=Ai (l.set i x):=by
 apply Array.ext';simp[Ai,List.map_set]
theorem D8{w:World}{g:Nat}{l:List Int}{t:TypeId}(h:w.heap[g]?=some (.cells (Ai l) t (0,0)))(k:Nat)(x:Int) :
  (w.setCell ⟨g,k,none⟩ (.int .u64 x)).heap[g]?=some (.cells (Ai (l.set k x)) t (0,0)):=by
 rw[heap_setCell_same _ _ _ _ _ _ h,Uy]
theorem Bg(l:List Int):(Ai l).all (·.oneCell')=true:=by simp[Ai,Value.oneCell']
theorem Lm:∀ (S:List Int),S.length=5→∃ a b c d e,S=[a,b,c,d,e]
 | [a,b,c,d,e],_=>⟨a,b,c,d,e,rfl⟩
def val:List Int→Int
 | []=>0
 | x::l=>x+67108864*val l
def Lim(B:Int)(l:List Int):Prop:=l.length=5∧∀ j,0≤l.getD j 0∧l.getD j 0<B
theorem Lim.of5{B a b c d e:Int}(ha:0≤a∧a<B)(hb:0≤b∧b<B)(hc:0≤c∧c<B)(hd:0≤d∧d<B)(he:0≤e∧e<B):Lim B [a,b,c,d,e]:=by
 refine⟨rfl,fun j=>?_⟩
 match j with
 | 0=>exact ha
 | 1=>exact hb
 | 2=>exact hc
 | 3=>exact hd
 | 4=>exact he
 | j+5=>simp[List.getD];omega
theorem Lim.split{B:Int}{l:List Int}(h:Lim B l):∃ a b c d e,l=[a,b,c,d,e]∧(0≤a∧a<B)∧(0≤b∧b<B)∧(0≤c∧c<B)∧(0≤d∧d<B)∧(0≤e∧e<B):=by
 obtain⟨a,b,c,d,e,rfl⟩:=Lm l h.1;exact⟨a,b,c,d,e,rfl,h.2 0,h.2 1,h.2 2,h.2 3,h.2 4⟩
theorem Lim.mono{B C:Int}{l:List Int}(h:Lim B l)(hBC:B≤C):Lim C l:=⟨h.1,fun j=>⟨(h.2 j).1,by have:=(h.2 j).2;omega⟩⟩
theorem Cz(a b c d e:Int):val [a,b,c,d,e]=a+67108864*b+4503599627370496*c+302231454903657293676544*d+20282409603651670423947251286016*e:=by
 simp only[val];omega
structure Carr(l m:List Int)(k:Nat)(o:Int):Prop where
 len:m.length=5
 sum:val m+o*67108864^k=val l
 done:∀ j,j<k→0≤m.getD j 0∧m.getD j 0<67108864
 rest:∀ j,k≤j→m.getD j 0=l.getD j 0
 lo:0≤o
 hi:o<274877906944
theorem Carr.zero{l:List Int}(h:l.length=5):Carr l l 0 0:=⟨h,by omega,fun _ h=>by omega,fun _ _=>rfl,by omega,by omega⟩
theorem Carr.succ{l m:List Int}{k:Nat}{o:Int}(h:Carr l m k o)(hl:Lim 9223372036854775808 l)(hk:k<5) :
  Carr l (m.set k ((m.getD k 0+o)%67108864)) (k+1) ((m.getD k 0+o)/67108864):=by
 obtain⟨l0,l1,l2,l3,l4,rfl,b0,b1,b2,b3,b4⟩:=hl.split;obtain⟨m0,m1,m2,m3,m4,rfl⟩:=Lm m h.len;have hs:=h.sum;have hd:=h.done;have hr:=h.rest;have h1:=h.lo;have h2:=h.hi;rw[Cz]at hs
 rw[Cz]at hs
 obtain rfl|rfl|rfl|rfl|rfl:k=0∨k=1∨k=2∨k=3∨k=4:=by omega
 ·have e0:m0=l0:=hr 0 (by omega);have e1:m1=l1:=hr 1 (by omega);have e2:m2=l2:=hr 2 (by omega);have e3:m3=l3:=hr 3 (by omega);have e4:m4=l4:=hr 4 (by omega);simp only[List.set_cons_zero,List.getD_cons_zero];refine⟨rfl,?_,fun j hj=>?_,fun j hj=>?_,by omega,by omega⟩
  ·rw[Cz,Cz];omega
  ·obtain rfl:j=0:=by omega
   simp only[List.getD_cons_zero];omega
  ·obtain⟨j,rfl⟩:∃ i,j=i+1:=⟨j-1,by omega⟩;have:=hr (j+1) (by omega);simpa using this
 ·have e1:m1=l1:=hr 1 (by omega);have d0:0≤m0∧m0<67108864:=hd 0 (by omega);simp only[List.set_cons_zero,List.set_cons_succ,List.getD_cons_zero,List.getD_cons_succ];refine⟨rfl,?_,fun j hj=>?_,fun j hj=>?_,by omega,by omega⟩
  ·rw[Cz,Cz];omega
  ·obtain rfl|rfl:j=0∨j=1:=by omega
   ·exact d0
   ·simp only[List.getD_cons_zero,List.getD_cons_succ];omega
  ·obtain⟨j,rfl⟩:∃ i,j=i+2:=⟨j-2,by omega⟩;have:=hr (j+2) (by omega);simpa using this
 ·have e1:m2=l2:=hr 2 (by omega);have d0:0≤m0∧m0<67108864:=hd 0 (by omega);have d1:0≤m1∧m1<67108864:=hd 1 (by omega);simp only[List.set_cons_zero,List.set_cons_succ,List.getD_cons_zero,List.getD_cons_succ];refine⟨rfl,?_,fun j hj=>?_,fun j hj=>?_,by omega,by omega⟩
  ·rw[Cz,Cz];omega
  ·obtain rfl|rfl|rfl:j=0∨j=1∨j=2:=by omega
   ·exact d0
   ·exact d1
   ·simp only[List.getD_cons_zero,List.getD_cons_succ];omega
  ·obtain⟨j,rfl⟩:∃ i,j=i+3:=⟨j-3,by omega⟩;have:=hr (j+3) (by omega);simpa using this
 ·have e1:m3=l3:=hr 3 (by omega);have d0:0≤m0∧m0<67108864:=hd 0 (by omega);have d1:0≤m1∧m1<67108864:=hd 1 (by omega);have d2:0≤m2∧m2<67108864:=hd 2 (by omega);simp only[List.set_cons_zero,List.set_cons_succ,List.getD_cons_zero,List.getD_cons_succ];refine⟨rfl,?_,fun j hj=>?_,fun j hj=>?_,by omega,by omega⟩
  ·rw[Cz,Cz];omega
  ·obtain rfl|rfl|rfl|rfl:j=0∨j=1∨j=2∨j=3:=by omega
   ·exact d0
   ·exact d1
   ·exact d2
   ·simp only[List.getD_cons_zero,List.getD_cons_succ];omega
  ·obtain⟨j,rfl⟩:∃ i,j=i+4:=⟨j-4,by omega⟩;have:=hr (j+4) (by omega);simpa using this
 ·have e1:m4=l4:=hr 4 (by omega);have d0:0≤m0∧m0<67108864:=hd 0 (by omega);have d1:0≤m1∧m1<67108864:=hd 1 (by omega);have d2:0≤m2∧m2<67108864:=hd 2 (by omega);have d3:0≤m3∧m3<67108864:=hd 3 (by omega);simp only[List.set_cons_zero,List.set_cons_succ,List.getD_cons_zero,List.getD_cons_succ];refine⟨rfl,?_,fun j hj=>?_,fun j hj=>?_,by omega,by omega⟩
  ·rw[Cz,Cz];omega
  ·obtain rfl|rfl|rfl|rfl|rfl:j=0∨j=1∨j=2∨j=3∨j=4:=by omega
   ·exact d0
   ·exact d1
   ·exact d2
   ·exact d3
   ·simp only[List.getD_cons_zero,List.getD_cons_succ];omega
  ·obtain⟨j,rfl⟩:∃ i,j=i+5:=⟨j-5,by omega⟩;simp[List.getD]
theorem Carr.five{l m:List Int}{o:Int}(h:Carr l m 5 o):Lim 67108864 m∧val m+1361129467683753853853498429727072845824*o=val l:=by
 refine⟨⟨h.len,fun j=>?_⟩,?_⟩
 ·by_cases hj:j<5
  ·exact h.done j hj
  ·rw[Fs (by have:=h.len;omega)];omega
 ·have:=h.sum;omega
def pp:Int:=1361129467683753853853498429727072845819
theorem ME{l:List Int}(h:l.length=5)(t:Nat)(ht:t<5)(y:Int):val (l.set t y)=val l+(y-l.getD t 0)*67108864^t:=by
 obtain⟨a,b,c,d,e,rfl⟩:=Lm l h;obtain rfl|rfl|rfl|rfl|rfl:t=0∨t=1∨t=2∨t=3∨t=4:=by omega
 all_goals
  simp only[List.set_cons_zero,List.set_cons_succ,List.getD_cons_zero,List.getD_cons_succ,Cz];omega
def pv(n:List Int):Nat→Int
 | 0=>0
 | k+1=>pv n k+n.getD k 0*67108864^k
theorem QM{n:List Int}(h:n.length=5):pv n 5=val n:=by
 obtain⟨a,b,c,d,e,rfl⟩:=Lm n h;simp only[pv,List.getD_cons_zero,List.getD_cons_succ,Cz];omega
structure Adds(l m r:List Int)(k:Nat):Prop where
 len:r.length=5
 done:∀ j,j<k→r.getD j 0=l.getD j 0+m.getD j 0
 rest:∀ j,k≤j→r.getD j 0=l.getD j 0
theorem Adds.zero{l m:List Int}(h:l.length=5):Adds l m l 0:=⟨h,fun _ h=>by omega,fun _ _=>rfl⟩
theorem AH{l:List Int}{k:Nat}(h:k<l.length)(x:Int):(l.set k x).getD k 0=x:=by
 simp[List.getD,h]
theorem Ax{l:List Int}{k j:Nat}(h:k≠j)(x:Int):(l.set k x).getD j 0=l.getD j 0:=by
 simp[List.getD,List.getElem?_set_ne h]
theorem Adds.succ{l m r:List Int}{k:Nat}(h:Adds l m r k)(hk:k<5):Adds l m (r.set k (r.getD k 0+m.getD k 0)) (k+1):=by
 refine⟨by simpa using h.len,fun j hj=>?_,fun j hj=>?_⟩
 ·by_cases e:k=j
  ·subst e;rw[AH (by rw[h.len];omega),h.rest k (by omega)]
  ·rw[Ax e];exact h.done j (by omega)
 ·rw[Ax (by omega)];exact h.rest j (by omega)
theorem Adds.five{l m r:List Int}(h:Adds l m r 5)(hl:Lim 67108864 l)(hm:Lim 67108864 m):Lim 134217728 r∧val r=val l+val m:=by
 obtain⟨l0,l1,l2,l3,l4,rfl,b0,b1,b2,b3,b4⟩:=hl.split;obtain⟨m0,m1,m2,m3,m4,rfl,c0,c1,c2,c3,c4⟩:=hm.split;obtain⟨r0,r1,r2,r3,r4,rfl⟩:=Lm r h.len;have d0:r0=l0+m0:=h.done 0 (by omega);have d1:r1=l1+m1:=h.done 1 (by omega);have d2:r2=l2+m2:=h.done 2 (by omega);have d3:r3=l3+m3:=h.done 3 (by omega);have d4:r4=l4+m4:=h.done 4 (by omega);exact⟨Lim.of5 (by omega) (by omega) (by omega) (by omega) (by omega),by rw[Cz,Cz,Cz];omega⟩
structure Prods(n m r:List Int)(i j:Nat):Prop where
 len:r.length=5
 sum:val r%pp=(pv n i*val m+n.getD i 0*67108864^i*pv m j)%pp
 low:∀ t,0≤r.getD t 0
 high:∀ t,r.getD t 0≤(5*(i:Int)+(j:Int))*45035996273704960
theorem Prods.zero(n m:List Int):Prods n m [0,0,0,0,0] 0 0:=by
 refine⟨rfl,?_,fun t=>?_,fun t=>?_⟩
 ·simp[pv,val]
 ·match t with
  | 0|1|2|3|4=>simp
  | t+5=>simp[List.getD]
 ·match t with
  | 0|1|2|3|4=>simp
  | t+5=>simp[List.getD]
theorem Ga{x y:Int}(hx:0≤x∧x<134217728)(hy:0≤y∧y<67108864):0≤x*y∧x*y≤9007199254740992:=by
 refine⟨Int.mul_nonneg hx.1 hy.1,?_⟩;have h1:=Int.mul_le_mul (Int.le_of_lt hx.2) (Int.le_of_lt hy.2) hy.1 (by omega);omega
theorem Prods.low_step{n m r:List Int}{i j:Nat}(h:Prods n m r i j)(hn:Lim 134217728 n)(hm:Lim 67108864 m)(hij:i+j<5) :
  Prods n m (r.set (i+j) (r.getD (i+j) 0+n.getD i 0*m.getD j 0)) i (j+1):=by
 have hb:=Ga (hn.2 i) (hm.2 j);have h1:=h.low (i+j);have h2:=h.high (i+j);refine⟨by simpa using h.len,?_,fun t=>?_,fun t=>?_⟩
 ·rw[ME h.len _ hij,Int.add_emod,h.sum,← Int.add_emod]
  congr 1
  rw[Int.pow_add];simp only[pv]
  grind
 ·by_cases e:i+j=t
  ·subst e;rw[AH (by rw[h.len];omega)];omega
  ·rw[Ax e];exact h.low t
 ·by_cases e:i+j=t
  ·subst e;rw[AH (by rw[h.len];omega)];omega
  ·rw[Ax e];have:=h.high t;omega
theorem Prods.high_step{n m r:List Int}{i j:Nat}(h:Prods n m r i j)(hn:Lim 134217728 n)(hm:Lim 67108864 m)(hij:5≤i+j)(hi:i<5)(hj:j<5) :
  Prods n m (r.set (i+j-5) (r.getD (i+j-5) 0+n.getD i 0*m.getD j 0*5)) i (j+1):=by
 have hb:=Ga (hn.2 i) (hm.2 j);have h1:=h.low (i+j-5);have h2:=h.high (i+j-5);refine⟨by simpa using h.len,?_,fun t=>?_,fun t=>?_⟩
 ·rw[ME h.len _ (by omega),Int.add_emod,h.sum,← Int.add_emod];have e:(67108864:Int)^i*67108864^j=67108864^(i+j-5)*(pp+5):=by
   rw[← Int.pow_add,show pp+5=(67108864:Int)^5 by unfold pp;rfl,← Int.pow_add];congr 1;omega
  have e2:pv n i*val m+n.getD i 0*67108864^i*pv m (j+1)=pv n i*val m+n.getD i 0*67108864^i*pv m j+(r.getD (i+j-5) 0+n.getD i 0*m.getD j 0*5-r.getD (i+j-5) 0)*67108864^(i+j-5)+pp*(n.getD i 0*m.getD j 0*67108864^(i+j-5)):=by
   simp only[pv]
   grind
  rw[e2,Int.add_mul_emod_self_left]
 ·by_cases e:i+j-5=t
  ·subst e;rw[AH (by rw[h.len];omega)];omega
  ·rw[Ax e];exact h.low t
 ·by_cases e:i+j-5=t
  ·subst e;rw[AH (by rw[h.len];omega)];omega
  ·rw[Ax e];have:=h.high t;omega
theorem Prods.row{n m r:List Int}{i:Nat}(h:Prods n m r i 5)(hm:m.length=5):Prods n m r (i+1) 0:=by
 refine⟨h.len,?_,h.low,fun t=>?_⟩
 ·rw[h.sum,QM hm]
  congr 1
  simp only[pv]
  grind
 ·have:=h.high t;omega
theorem Prods.five{n m r:List Int}(h:Prods n m r 5 0)(hn:n.length=5):Lim 1152921504606846976 r∧val r%pp=(val n*val m)%pp:=by
 refine⟨⟨h.len,fun t=>⟨h.low t,?_⟩⟩,?_⟩
 ·have:=h.high t;omega
 ·rw[h.sum,QM hn];congr 1;simp only[pv];grind
theorem Py{n m:List Int}{o:Int}(hn:Lim 67108864 n)(hc:Carr (n.set 0 (n.getD 0 0+5)) m 5 o):Lim 67108864 m∧(0<o→val m=val n%pp)∧(¬ 0<o→val n=val n%pp):=by
 obtain⟨h1,h2⟩:=hc.five;refine⟨h1,?_⟩;have o1:=hc.lo;obtain⟨n0,n1,n2,n3,n4,rfl,b0,b1,b2,b3,b4⟩:=hn.split;obtain⟨m0,m1,m2,m3,m4,rfl,c0,c1,c2,c3,c4⟩:=h1.split;simp only[List.set_cons_zero,List.getD_cons_zero]at h2;have v1:val [n0+5,n1,n2,n3,n4]=val [n0,n1,n2,n3,n4]+5:=by rw[Cz,Cz];omega
 have v2:0≤val [n0,n1,n2,n3,n4]∧val [n0,n1,n2,n3,n4]<1361129467683753853853498429727072845824:=by rw[Cz];omega
 have v3:0≤val [m0,m1,m2,m3,m4]∧val [m0,m1,m2,m3,m4]<1361129467683753853853498429727072845824:=by rw[Cz];omega
 rw[v1]at h2
 generalize val [n0,n1,n2,n3,n4]=V at *;generalize val [m0,m1,m2,m3,m4]=M at *;unfold pp;constructor
 ·intro ho;obtain rfl:o=1:=by omega
  omega
 ·intro ho;obtain rfl:o=0:=by omega
  omega
def leP(l:List Int):Nat→Int
 | 0=>0
 | k+1=>leP l k+l.getD k 0*256^k
def leN(l:List Int):Int:=leP l l.length
theorem Un{l:List Int}(k:Nat)(h:l.length≤k):leP l k=leN l:=by
 obtain⟨d,rfl⟩:∃ d,k=l.length+d:=⟨k-l.length,by omega⟩;clear h;induction d with
 | zero=>rfl
 | succ d ih=>rw[← Nat.add_assoc,leP,ih,Fs (by omega)];omega
theorem RN{l m:List Int}(k:Nat)(h:∀ j,j<k→l.getD j 0=m.getD j 0):leP l k=leP m k:=by
 induction k with
 | zero=>rfl
 | succ k ih=>rw[leP,leP,ih (fun j hj=>h j (by omega)),h k (by omega)]
theorem Pw{l m:List Int}(k:Nat):leP (l++m) (l.length+k)=leN l+256^l.length*leP m k:=by
 induction k with
 | zero =>
  simp only[Nat.add_zero,leP,Int.mul_zero,Int.add_zero];unfold leN;exact RN _ (fun j hj=>by simp[List.getD,List.getElem?_append_left hj])
 | succ k ih =>
  rw[← Nat.add_assoc,leP,ih,leP,Int.mul_add,Int.pow_add];have:(l++m).getD (l.length+k) 0=m.getD k 0:=by simp[List.getD,List.getElem?_append_right]
  rw[this]
  grind
theorem Pv(l m:List Int):leN (l++m)=leN l+256^l.length*leN m:=by
 have h:=Pw (l:=l) (m:=m) m.length;rw[← List.length_append]at h
 exact h
theorem RM(n:Nat):leN (List.replicate n 0)=0:=by
 unfold leN;generalize (List.replicate n (0:Int)).length=k;induction k with
 | zero=>rfl
 | succ k ih =>
  rw[leP,ih];have:(List.replicate n (0:Int)).getD k 0=0:=by
   rcases Nat.lt_or_ge k n with h|h
   ·simp[List.getD,h]
   ·exact Fs (by simpa using h)
  rw[this];omega
structure Reads(b r:List Int)(k:Nat):Prop where
 len:r.length=5
 sum:val r=leP b k
 low:∀ t,0≤r.getD t 0
 high:∀ t,r.getD t 0≤(k:Int)*17179869184
theorem Reads.zero(b:List Int):Reads b [0,0,0,0,0] 0:=by
 refine⟨rfl,rfl,fun t=>?_,fun t=>?_⟩
 ·match t with
  | 0|1|2|3|4=>simp
  | t+5=>simp[List.getD]
 ·match t with
  | 0|1|2|3|4=>simp
  | t+5=>simp[List.getD]
theorem Reads.succ{b r:List Int}{k:Nat}(h:Reads b r k)(hb:0≤b.getD k 0∧b.getD k 0<256)(q:Nat)(m:Int)(hq:q<5)(hm:0≤m∧m≤33554432)(he:m*67108864^q=256^k):Reads b (r.set q (r.getD q 0+b.getD k 0*m)) (k+1):=by
 have h1:0≤b.getD k 0*m:=Int.mul_nonneg hb.1 hm.1;have h2:b.getD k 0*m≤256*33554432:=Int.mul_le_mul (by omega) hm.2 hm.1 (by omega);refine⟨by simpa using h.len,?_,fun t=>?_,fun t=>?_⟩
 ·rw[ME h.len q hq,h.sum,leP,← he]
  grind
 ·have:=h.low q;by_cases e:q=t
  ·subst e;rw[AH (by rw[h.len];omega)];omega
  ·rw[Ax e];exact h.low t
 ·have:=h.high q;by_cases e:q=t
  ·subst e;rw[AH (by rw[h.len];omega)];omega
  ·rw[Ax e];have:=h.high t;omega
def piece(l:List Int)(k:Nat):List Int:=(l.drop (16*k)).take 16
def IA(R:Int)(l:List Int):Nat→Int
 | 0=>0
 | k+1=>(IA R l k+leN (piece l k++[1]))*R%pp
def Ms(l:List Int):Nat:=(l.length+15)/16
def XP(R:Int)(l:List Int):Int:=IA R l (Ms l)
theorem PW:0<pp:=by unfold pp;omega
theorem OA(R:Int)(l:List Int)(k:Nat):0≤IA R l k∧IA R l k<pp:=by
 cases k with
 | zero=>exact⟨by simp[IA],PW⟩
 | succ k=>exact⟨Int.emod_nonneg _ (by have:=PW;omega),Int.emod_lt_of_pos _ PW⟩
theorem SV{n m s t r:List Int}{R:Int}{l:List Int}{k:Nat}(hn:val n%pp=IA R l k%pp)(hm:val m%pp=leN (piece l k++[1])%pp)(hs:val s=val n+val m)(hr:val r%pp=R%pp)(ht:val t%pp=(val s*val r)%pp) :
  val t%pp=IA R l (k+1)%pp:=by
 rw[ht,IA,Int.emod_emod_of_dvd _ (Int.dvd_refl _),Int.mul_emod,hs,Int.add_emod,hn,hm,hr,← Int.add_emod,← Int.mul_emod]
theorem Ct(l:List Int)(n i:Nat):(l.drop n).getD i 0=l.getD (n+i) 0:=by simp[List.getD]
theorem AY(l:List Int)(n i:Nat)(h:i<n):(l.take n).getD i 0=l.getD i 0:=by simp[List.getD,h]
theorem Sl.window{w:World}{a:Option Addr}{n cap:Nat}{l:List Int}(h:Sl w (.slice a n cap) l)(lo hi:Nat)(hlo:lo≤hi)(hhi:hi≤l.length):Sl w (sliced a lo hi cap 1) ((l.take hi).drop lo):=by
 have hd:=(h.take hi hhi).len;have hb:=h.byte;obtain⟨⟨a',cap',e,hc,hn,h1⟩,hla,hba⟩:=h;simp only[Value.slice.injEq]at e;obtain⟨rfl,rfl,rfl⟩:=e;have hl:((l.take hi).drop lo).length=hi-lo:=by rw[List.length_drop,List.length_take];omega
 have hbb:∀ x∈(l.take hi).drop lo,0≤x∧x<256:=fun x hx=>hb x (List.mem_of_mem_take (List.mem_of_mem_drop hx));cases a with
 | none =>
  have c0:=hn rfl;subst c0;have h0:l.length=0:=by omega
  refine⟨⟨_,_,by rw[hl];rfl,by omega,fun _=>by omega,.inl (List.eq_nil_of_length_eq_zero (by omega))⟩,by omega,hbb⟩
 | some ad =>
  refine⟨⟨_,_,by rw[hl];rfl,by omega,(by intro h;split at h<;>simp at h),?_⟩,by omega,hbb⟩;rcases Nat.eq_or_lt_of_le hlo with he|hlt
  ·exact .inl (List.eq_nil_of_length_eq_zero (by omega))
  ·rcases h1 with rfl|⟨b,off,e2,hbs,hcell⟩
   ·simp at hhi;omega
   ·simp only[Option.some.injEq]at e2;subst e2;refine .inr ⟨b,off+lo,?_,hbs,fun i hi2=>?_⟩
    ·rw[if_neg (by omega)];simp[Addr.add]
    ·rw[hl]at hi2
     rw[Nat.add_assoc,hcell (lo+i) (by omega),Ct,AY _ _ _ (by omega)]
theorem JS(w:World):(Go.sizeOf 5).run prog w=.ok 1 w:=by
 obtain⟨i,hi,_,hsz,_⟩:=info_parts AB;simp[sizeOf,typeInfo,hi,hsz]
theorem Sl.upTo{w:World}{a:Option Addr}{n cap:Nat}{l:List Int}(h:Sl w (.slice a n cap) l)(hi:Nat)(hhi:hi≤l.length) :
  ∃ a' c',(∀ W,(Instr.slice 26 (.slice a n cap) none (some (.int .i64 (hi:Int))) none).run prog W=.ok (.slice a' hi c') W)∧Sl w (.slice a' hi c') (l.take hi):=by
 have hw:=h.window 0 hi (by omega) hhi;obtain⟨⟨a',cap',e,hc,hn,h1⟩,hla,hba⟩:=h;simp only[Value.slice.injEq]at e;obtain⟨rfl,rfl,rfl⟩:=e;refine⟨_,_,fun W=>?_,by simpa[sliced]using hw⟩;rw[run_slice_h (P:=prog) W 26 a _ cap underlying26 .i64 _ (by omega) (by omega)];have e:prog.elem 26=5:=by kernel_rfl
 rw[e,JS];simp[Result.andThen,sliced]
theorem Sl.from{w:World}{a:Option Addr}{n cap:Nat}{l:List Int}(h:Sl w (.slice a n cap) l)(lo:Nat)(hlo:lo≤l.length) :
  ∃ a' c',(∀ W,(Instr.slice 26 (.slice a n cap) (some (.int .i64 (lo:Int))) none none).run prog W=.ok (.slice a' (n-lo) c') W)∧Sl w (.slice a' (n-lo) c') (l.drop lo):=by
 have hw:=h.window lo l.length hlo (Nat.le_refl _);obtain⟨⟨a',cap',e,hc,hn,h1⟩,hla,hba⟩:=h;simp only[Value.slice.injEq]at e;obtain⟨rfl,rfl,rfl⟩:=e;refine⟨_,_,fun W=>?_,by simpa[sliced]using hw⟩;rw[run_slice_l (P:=prog) W 26 a _ cap underlying26 .i64 _ (by omega) (by omega)];have e:prog.elem 26=5:=by kernel_rfl
 rw[e,JS];simp[Result.andThen,sliced]
end Go.Proofs.YtakgfdbjgeopdaaGreatDoor
