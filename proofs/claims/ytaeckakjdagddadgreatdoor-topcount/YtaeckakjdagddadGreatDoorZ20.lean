/- Part 20 of the walk. -/
import Derived.Deep.RegionWith
import Derived.Lib.SlBytesRow
import Derived.Test.YtaeckakjdagddadGreatDoorZ11
import Derived.Test.YtaeckakjdagddadGreatDoorZ3
set_option maxRecDepth 100000
set_option maxHeartbeats 4000000
open Go.Proofs.Tryz
set_option linter.unusedVariables false
namespace Go.Proofs.YtaeckakjdagddadGreatDoor
open Go.RowKit
theorem Vq:(prog.info? 44).map (·.size)=some 5:=by kernel_rfl
theorem SM:(prog.info? 162).map (·.size)=some 8:=by kernel_rfl
theorem dJ{v r:Value}{lo hi:Option Value}(h:∀ W,(Instr.slice 40 v lo hi none).run prog W=.ok r W)(w:World) :
  (do let x ← Instr.slice 40 v lo hi none;pure (Next.value x):Sem Next).run prog w=.ok (.value r) w:=by
 simp only[Sem.run_bind,h w,Result.andThen_ok,Sem.run_pure]
theorem Sl.four2(w:World)(b0 b1 b2 b3 c0 c1 c2 c3:Int)(e:TypeId){g:Nat}(hg:g=w.heap.size)(h0:0≤b0∧b0<256)(h1:0≤b1∧b1<256)(h2:0≤b2∧b2<256)(h3:0≤b3∧b3<256)(e0:c0=b0)(e1:c1=b1)(e2:c2=b2)(e3:c3=b3) :
  Sl (w.alloc (.cells #[.int .u8 c0,.int .u8 c1,.int .u8 c2,.int .u8 c3] e)) (.slice (some ⟨g,0,none⟩) 4 4) [b0,b1,b2,b3]:=by
 subst e0 e1 e2 e3;exact Sl.built w [c0,c1,c2,c3] e hg (by simp) (by intro x hx;simp at hx;omega)
theorem PA(w:World)(l:List Int)(e:TypeId){g:Nat}(hg:g=w.heap.size){base:Nat}(hb:base≤w.heap.size)(hl:l.length≤1000):(w.alloc (.cells (l.map (Value.int .u8)).toArray e)).ownsRow base e 1 (.slice (some ⟨g,0,none⟩) l.length l.length) l.length (l.map (Value.int .u8)):=by
 subst hg;refine⟨by simp,.inr ⟨w.heap.size,l.length,_,rfl,hb,heap_alloc_new _ _,Nat.le_refl _,by unfold maxLen;omega,by simp,by rw[List.take_of_length_le (by simp)]⟩⟩
theorem I1(w:World)(b c:Int)(e:TypeId){g:Nat}(hg:g=w.heap.size){base:Nat}(hb:base≤w.heap.size)(he:c=b):(w.alloc (.cells #[.int .u8 c] e)).ownsRow base e 1 (.slice (some ⟨g,0,none⟩) 1 1) [b].length ([b].map (Value.int .u8)):=by
 subst he;exact PA w [c] e hg hb (by simp)
def Cp(ns:List Int):List Int:=ns.flatMap Ag
theorem TS(ns:List Int):(Cp ns).length=4*ns.length:=by
 induction ns with
 | nil=>rfl
 | cons n ns ih =>
  show(Ag n++Cp ns).length=_;rw[List.length_append,BR,ih,List.length_cons];omega
theorem QR(ns:List Int)(n:Int):Cp (ns++[n])=Cp ns++Ag n:=by simp[Cp]
theorem R8(l:List Int)(k:Nat)(hk:k<l.length):l.take (k+1)=l.take k++[l.getD k 0]:=by
 rw[List.take_succ_eq_append_getElem hk,AL hk]
theorem Ft(v:Value)(l ns:List Int)(B g:Nat)(w:World)(ho:w.ownsRow B 5 1 v l.length (l.map (Value.int .u8)))(hB:B≤w.heap.size)(hl:l.length≤1000)(hk:ns.length≤10)(hn:∀ x∈ns,0≤x∧x<2147483648)
  (hg:w.heap[g]?=some (.cells (ns.map (Value.int .i64)).toArray 3)) :
  Calls prog 174 #[v,.slice (some ⟨g,0,none⟩) ns.length ns.length] w fun e w'=>∃ v',e=.returned v'∧w'.ownsRow B 5 1 v' (l++Cp ns).length ((l++Cp ns).map (Value.int .u8))∧Below B w w':=by
 obtain⟨N,hN⟩:∃ N,ns.length=N:=⟨_,rfl⟩;have HN:Hid (ns.length=N):=hN;have Hn:Hid (∀ x∈ns,0≤x∧x<2147483648):=hn;rw[hN]at hk ⊢
 clear hN hn;have HO0:Hid (w.ownsRow B 5 1 v (l++Cp (ns.take 0)).length ((l++Cp (ns.take 0)).map (Value.int .u8))):=by unfold Hid;simpa[Cp]using ho
 clear ho;go_enter func174,ntmps174
 go_wp2_with fail
 go_loopw [0,9] (fun v iv wr=>∃ j:Nat,j≤N∧iv=.int .i64 (j:Int)∧Hid (wr.ownsRow B 5 1 v (l++Cp (ns.take j)).length ((l++Cp (ns.take j)).map (Value.int .u8)))∧wr.heap[g]?=some (.cells (ns.map (Value.int .i64)).toArray 3)∧Below B w wr) (fun _ iv _=>N-(intOf iv).toNat)
 case atStart=>exact⟨0,by omega,rfl,HO0,hg,Below.refl _ _⟩
 case round =>
  obtain⟨j,hj,rfl,HO,hgr,hbel⟩:=hrel;clear HO0 hg;by_cases hjN:j<N
  ·have hji:(j:Int)<(N:Int):=by omega
   have hjl:j<ns.length:=by rw[HN.out];exact hjN
   have hlt:=HO.out.lt;have hz:B≤wr.heap.size:=Nat.le_trans hB hbel.size;have hx:=Hn.out (ns.getD j 0) (by rw[AL hjl];exact List.getElem_mem hjl);have hc:wr.cell? ⟨g,j,none⟩=some (.int .i64 (ns.getD j 0)):=by
    rw[cell_of_row _ _ j _ _ _ hgr,AL hjl];simp[List.getElem?_eq_getElem hjl]
   have HT:Hid (ns.take (j+1)=ns.take j++[ns.getD j 0]):=R8 ns j hjl;have hlen:(l++Cp (ns.take j)).length+4≤140737488355328:=by
    rw[List.length_append,TS,List.length_take];omega
   have hne:=KT HO.out hgr (by decide);have lg:g<wr.heap.size:=(Array.getElem?_eq_some_iff.1 hgr).1;have HH:Hid (∀ n,Ag n=[n/16777216%256,n/65536%256,n/256%256,n%256]):=fun n=>rfl;generalize ns.getD j 0=n at hx hc HT;generalize hL:l++Cp (ns.take j)=L at HO hlen;have HL:Hid (l++Cp (ns.take j)=L):=hL;clear hL hjl;go_wp2_with (at_builtin;refine Aa _ rfl _ _ 40 rfl B 5 underlying40 As _ _ rfl rfl L [n/16777216%256,n/65536%256,n/256%256,n%256] (HO.out.alloc _) (Sl.four2 _ (n/16777216%256) (n/65536%256) (n/256%256) (n%256) _ _ _ _ _ rfl (by omega) (by omega) (by omega) (by omega) (by omega) (by omega) (by omega) (by omega)) hlen (by simp;omega) ?_)
   intro v2 w2 ho2 hg2;have hb2:Below B w w2:=(hbel.alloc hz _).grown hg2 (by simp;omega) (fun k hk=>(hlt k hk).1);have hgr2:w2.heap[g]?=some (.cells (ns.map (Value.int .i64)).toArray 3):=by
    rw[hg2.block g (by simp;omega) (fun e=>hne g e.symm rfl),heap_alloc_old _ _ lg];exact hgr
   have HO2:Hid (w2.ownsRow B 5 1 v2 (l++Cp (ns.take (j+1))).length ((l++Cp (ns.take (j+1))).map (Value.int .u8))):=by
    unfold Hid;rw[HT.out,QR,← List.append_assoc,HL.out,HH.out];simpa using ho2
   clear ho2 hg2 hbel hlen HO hne hlt hgr hc HT HL;go_wp2
   go_roundw
   case rel=>exact⟨j+1,by omega,by go_num,HO2,hgr2,hb2⟩
   case measure=>simp[intOf];omega
  ·obtain rfl:j=N:=by omega
   have ht:ns.take j=ns:=List.take_of_length_le (by rw[HN.out];exact Nat.le_refl _);rw[ht]at HO
   clear ht;go_wp2
   go_ret;exact⟨_,rfl,HO.out,hbel⟩
theorem Sl.cutT{w:World}{a:Option Addr}{n cap:Nat}{l:List Int}(h:Sl w (.slice a n cap) l)(lo hi m:Nat)(hlo:lo≤hi)(hhi:hi≤l.length)(hm:m=hi-lo)(li hj:Int)(hli:li=(lo:Int))(hhj:hj=(hi:Int)) :
  ∃ a' c',(∀ W,(Instr.slice 40 (.slice a n cap) (some (.int .i64 li)) (some (.int .i64 hj)) none).run prog W=.ok (.slice a' m c') W)∧Sl w (.slice a' m c') ((l.take hi).drop lo):=by
 subst hli;subst hhj;subst hm;have hw:=h.window lo hi hlo hhi;obtain⟨⟨a',cap',e,hc,hn,h1⟩,hla,hba⟩:=h;simp only[Value.slice.injEq]at e;obtain⟨rfl,rfl,rfl⟩:=e;refine⟨_,_,fun W=>?_,by simpa[sliced]using hw⟩;rw[run_slice_lh (P:=prog) W 40 a _ cap underlying40 .i64 .i64 _ _ (by omega) (by omega) (by omega)];have e:prog.elem 40=5:=by kernel_rfl
 rw[e,G9,Int.toNat_natCast,Int.toNat_natCast];simp[Result.andThen,sliced]
def lenOf:Value→Nat
 | .slice _ n _=>n
 | _=>0
theorem Rb{w:World}{base e:Nat}{v:Value}{n:Nat}{xs:List Value}(h:w.ownsRow base e 1 v n xs):lenOf v=n:=by
 rcases h.2 with⟨rfl,rfl⟩|⟨g,cap,cur,rfl,_⟩<;>rfl
theorem Rg(v:Value)(l:List Int)(w:World)(h:Sl w v l)(hl:l.length≤100000) :
  Calls prog 165 #[v] w fun e w'=>∃ v',e=.returned v'∧w'.ownsRow w.heap.size 5 1 v' (pad l).length ((pad l).map (Value.int .u8))∧Bw w w':=by
 have hs:=h;obtain⟨⟨a,cap,rfl,hc,hn,h1⟩,hla,hba⟩:=h;clear h1 hn hba;obtain⟨i0,hi,hz0,hz1,hz2⟩:=info_parts As;go_enter func165,ntmps165
 go_wp2_with (at_make;refine wpList_make_own _ rfl _ _ 40 rfl w.heap.size 5 i0 (.int .u8 0) 1 underlying40 hi hz0 hz1 _ _ _ (l.length+128) rfl rfl (by omega) (by rw[hz2];omega) (by unfold maxLen;omega) (Nat.le_refl _) ?_)
 intro w1 ho1 hg1;have hb1:Bw w w1:=(Below.refl _ _).grown hg1 (Nat.le_refl _) (by simp);have ho1':w1.ownsRow w.heap.size 5 1 (.slice (some ⟨w.heap.size,0,none⟩) 0 (l.length+128)) ([]:List Int).length (([]:List Int).map (Value.int .u8)):=ho1;clear ho1 hg1;go_wp2_with (at_builtin;refine Aa _ rfl _ _ 40 rfl w.heap.size 5 underlying40 As _ _ rfl rfl [] l ho1' (hs.below hb1) (by simp;omega) hb1.size ?_)
 intro v2 w2 ho2 hg2;have ho2':w2.ownsRow w.heap.size 5 1 v2 l.length (l.map (Value.int .u8)):=by simpa using ho2
 have hb2:Bw w w2:=hb1.grown hg2 hb1.size (by simp[Value.ownBlock]);have hlt2:=ho2'.lt;clear ho1' hg2 hb1 ho2;go_wp2_with (at_builtin;refine Aa _ rfl _ _ 40 rfl w.heap.size 5 underlying40 As _ _ rfl rfl l [128] (ho2'.alloc _) (Sl.one _ _ _ rfl (by omega)) (by simp;omega) (by have:=hb2.size;simp;omega) ?_)
 intro v3 w3 ho3 hg3;have ho3':w3.ownsRow w.heap.size 5 1 v3 (Ce l 0).length ((Ce l 0).map (Value.int .u8)):=by simpa[Ce]using ho3
 have hb3:Bw w w3:=(hb2.alloc hb2.size _).grown hg3 (by have:=hb2.size;simp;omega) (fun k hk=>(hlt2 k hk).1);clear ho3 hg3 hb2 hlt2 ho2';go_wp2
 go_loopw [3] (fun v wr=>∃ j:Nat,j≤Ew l.length∧wr.ownsRow w.heap.size 5 1 v (Ce l j).length ((Ce l j).map (Value.int .u8))∧Bw w wr) (fun v _=>Ew l.length+l.length+1-lenOf v)
 case atStart=>exact⟨0,Nat.zero_le _,ho3',hb3⟩
 case round =>
  clear ho3' hb3;obtain⟨j,hj,hown,hb⟩:=hrel;obtain⟨g,cp,hv,hgB,hgs,hcp,hcell,hfr⟩:=D2 hown (by simp[Ce]);rw[CE]at hv
  subst hv;clear hcell hfr hcp;have hz:Ew l.length≤63:=by unfold Ew;omega
  have hlt:=hown.lt;by_cases hjz:j<Ew l.length
  ·have hne:¬ ((l.length+1+j)%64=56):=by unfold Ew at hjz;omega
   go_wp2_with (at_builtin;refine Aa _ rfl _ _ 40 rfl w.heap.size 5 underlying40 As _ _ rfl rfl (Ce l j) [0] (hown.alloc _) (Sl.one _ _ _ rfl (by omega)) (by rw[CE];simp;omega) (by have:=hb.size;simp;omega) ?_)
   intro v4 w4 ho4 hg4;have ho4':w4.ownsRow w.heap.size 5 1 v4 (Ce l (j+1)).length ((Ce l (j+1)).map (Value.int .u8)):=by rw[← Re];simpa using ho4
   have hb4:Bw w w4:=(hb.alloc hb.size _).grown hg4 (by have:=hb.size;simp;omega) (fun k hk=>(hlt k hk).1);have hl4:=Rb ho4';rw[CE]at hl4
   have HL:Hid (lenOf v4=l.length+1+(j+1)):=hl4;clear hl4 ho4 hg4 hown hlt hb;go_wp2
   go_roundw
   case rel=>exact⟨j+1,hjz,ho4',hb4⟩
   case measure =>
    have hl4:=HL.out;show Ew l.length+l.length+1-lenOf v4<Ew l.length+l.length+1-(l.length+1+j);rw[hl4];omega
  ·have heq:(l.length+1+j)%64=56:=by unfold Ew at hjz hj;omega
   have H56:Hid ((l.length+1+j)%64=56):=heq;have h56:(((l.length:Int)+1+j)%64 != 56)=false:=by simp;omega
   have ejz:j=Ew l.length:=by omega
   have EJ:Hid (j=Ew l.length):=ejz;clear heq ejz;go_wp2_with fail
   go_loopw [3,5] (fun v s wr=>∃ k:Nat,k≤8∧s=.int .i64 (56-8*(k:Int))∧wr.ownsRow w.heap.size 5 1 v (Ce l j++(Cc l.length).take k).length ((Ce l j++(Cc l.length).take k).map (Value.int .u8))∧Bw w wr) (fun _ s _=>(intOf s+8).toNat)
   case atStart=>exact⟨0,by omega,rfl,by simpa using hown,hb⟩
   case round =>
    clear hown hb hlt hgs;obtain⟨k,hk,rfl,hown,hb⟩:=hrel;have hlt:=hown.lt;by_cases hk8:k<8
    ·go_wp2_with (at_builtin;refine Aa _ rfl _ _ 40 rfl w.heap.size 5 underlying40 As _ _ rfl rfl _ _ (hown.alloc _) (Sl.one _ _ _ rfl ?_) (by rw[List.length_append,CE,List.length_take];simp;omega) (by have:=hb.size;simp;omega) ?_)
     ·omega
     intro v5 w5 ho5 hg5;have ho5':w5.ownsRow w.heap.size 5 1 v5 (Ce l j++(Cc l.length).take (k+1)).length ((Ce l j++(Cc l.length).take (k+1)).map (Value.int .u8)):=by
      rw[L2 _ _ hk8];simpa using ho5
     have hb5:Bw w w5:=(hb.alloc hb.size _).grown hg5 (by have:=hb.size;simp;omega) (fun k hk=>(hlt k hk).1);clear ho5 hg5 hown hlt hb;go_wp2
     go_roundw
     case rel=>exact⟨k+1,by omega,by go_num,ho5',hb5⟩
     case measure=>simp[intOf];omega
    ·obtain rfl:k=8:=by omega
     go_wp2
     go_ret;refine⟨u3,rfl,?_,hb⟩;unfold pad;rw[← EJ.out];exact hown
theorem PM(s:St)(w:World) :
  Calls prog 168 #[.agg s.cells] w fun e w'=>∃ v',e=.returned v'∧w'.ownsRow w.heap.size 5 1 v' (MO s).length ((MO s).map (Value.int .u8))∧Bw w w':=by
 obtain⟨i0,hi,hz0,hz1,hz2⟩:=info_parts As;unfold St.cells;go_enter func168,ntmps168
 go_wp2_with (at_make;refine wpList_make_own _ rfl _ _ 40 rfl w.heap.size 5 i0 (.int .u8 0) 1 underlying40 hi hz0 hz1 _ _ _ 32 rfl rfl (by omega) (by rw[hz2];omega) (by unfold maxLen;omega) (by simp) ?_)
 intro w1 ho1 hg1;have hb1:Bw w w1:=((Below.refl _ _).alloc (Nat.le_refl _) _).grown hg1 (by simp) (by simp);have hrow:w1.heap[w.heap.size]?=some (.cells #[.int .u32 (uw s.a),.int .u32 (uw s.b),.int .u32 (uw s.c),.int .u32 (uw s.d),.int .u32 (uw s.e),.int .u32 (uw s.f),.int .u32 (uw s.g),.int .u32 (uw s.h)] 245 (0,0)):=by
  rw[hg1.block w.heap.size (by simp) (by simp)];exact heap_alloc_new _ _
 have ho1':w1.ownsRow w.heap.size 5 1 (.slice (some ⟨w.heap.size+1,0,none⟩) 0 32) (BW (s.list.take 0)).length ((BW (s.list.take 0)).map (Value.int .u8)):=ho1;clear ho1 hg1;go_wp2_with (refine wpList_load_row rfl 245 _ rfl w.heap.size rfl 245 _ (0,0) _ hrow underlying245 rfl (by kernel_rfl) ?_)
 go_loopw [3,8] (fun v i wr=>∃ k:Nat,k≤8∧i=.int .i64 k∧wr.ownsRow w.heap.size 5 1 v (BW (s.list.take k)).length ((BW (s.list.take k)).map (Value.int .u8))∧Bw w wr) (fun _ i _=>8-(intOf i).toNat)
 case atStart=>exact⟨0,by omega,rfl,ho1',hb1⟩
 case round =>
  clear ho1' hb1 hrow;obtain⟨k,hk,rfl,hown,hb⟩:=hrel;have hlt:=hown.lt;by_cases hk8:k<8
  ·have hix:=VZ s k hk8;have hlen:=FW (s.list.take k);have HT:Hid (s.list.take (k+1)=s.list.take k++[s.list.getD k 0#32]):=by
    unfold Hid;rw[List.take_succ_eq_append_getElem (by simpa[St.list]using hk8)];simp[List.getD,List.getElem?_eq_getElem (show k<s.list.length by simpa[St.list]using hk8)]
   have hkl:(s.list.take k).length≤8:=by rw[List.length_take];omega
   generalize s.list.take k=pre at hown hlen HT hkl;generalize s.list.getD k 0#32=x at hix HT;have nx:=Df x;go_wp2_with (at_builtin;refine Aa _ rfl _ _ 40 rfl w.heap.size 5 underlying40 As _ _ rfl rfl (BW pre) (Ez x) (hown.alloc _) ?_ (by rw[hlen];simp[Ez];omega) (by have:=hb.size;simp;omega) ?_)
   ·exact Sl.built wr (Ez x) 5 rfl (by simp[Ez]) (IB x)
   intro v' w' ho hg;have ho':w'.ownsRow w.heap.size 5 1 v' (BW (pre++[x])).length ((BW (pre++[x])).map (Value.int .u8)):=by
    rw[NZ];simpa[FW]using ho
   have hb':Bw w w':=(hb.alloc hb.size _).grown hg (by have:=hb.size;simp;omega) (fun k hk=>(hlt k hk).1);clear ho hg hown hlt hb;go_wp2
   go_roundw
   case rel=>exact⟨k+1,by omega,by go_num,by rw[HT.out];exact ho',hb'⟩
   case measure=>simp[intOf];omega
  ·have HK:Hid (k=8):=by unfold Hid;omega
   go_wp2
   go_ret;refine⟨u3,rfl,?_,hb⟩;rw[HK.out]at hown
   exact hown
theorem fB(w:World):(Go.sizeOf 5).run prog w=.ok 1 w:=by
 obtain⟨i,hi,_,hsz,_⟩:=info_parts As;simp[sizeOf,typeInfo,hi,hsz]
theorem ZM(g n cp k:Nat)(hk:64*k+64≤64*n)(hcp:64*n≤cp):∀ W,(Instr.slice 40 (.slice (some ⟨g,0,none⟩) (64*n) cp) (some (.int .i64 (64*(k:Int)))) (some (.int .i64 (64*(k:Int)+64))) none).run prog W=.ok (.slice (some ⟨g,64*k,none⟩) 64 (cp-64*k)) W:=by
 intro W;have:=Lib.run_slice_window (P:=prog) W 40 5 underlying40 fB g 0 (64*n) cp (64*k) (64*k+64) (by omega) (by omega);rw[show 64*k+64-64*k=64 by omega,Nat.zero_add]at this
 rw[← this];rfl
theorem dE{w:World}{g:Nat}{old:Array Value}(s:St)(hg:w.heap[g]?=some (.cells old 245 (0,0)))(ho:old.size=8):(storeCells ⟨g,0,none⟩ s.cells.toList).run prog w=.ok () (w.setRow g s.cells):=by
 have:=run_storeCells_from (P:=prog) g 245 s.cells.toList 0 old w hg (by simp[St.cells];omega) (fun v hv=>by simp[St.cells]at hv;rcases hv with rfl|rfl|rfl|rfl|rfl|rfl|rfl|rfl<;>rfl);simpa using this
theorem Sl.setRowNe{w:World}{b off n cap:Nat}{l:List Int}(h:Sl w (.slice (some ⟨b,off,none⟩) n cap) l){g:Nat}(hg:g<b)(cs:Array Value):Sl (w.setRow g cs) (.slice (some ⟨b,off,none⟩) n cap) l:=by
 obtain⟨⟨a,cap',e,hc,hn,h1⟩,h2,h3⟩:=h;refine⟨⟨a,cap',e,hc,hn,?_⟩,h2,h3⟩;simp only[Value.slice.injEq]at e;obtain⟨rfl,_,_⟩:=e;rcases h1 with h1|⟨b',off',e',hbs,hcell⟩
 ·exact .inl h1
 ·simp only[Option.some.injEq,Addr.mk.injEq,and_true]at e';obtain⟨rfl,rfl⟩:=e';refine .inr ⟨b,off,rfl,by simpa using hbs,fun i hi=>?_⟩;rw[← hcell i hi];exact World.cell?_of_block (w:=w) (setRow_other w g b cs (by omega))
theorem bO(l:List Int)(k:Nat)(hk:64*k+64≤l.length):((l.drop (64*k)).take 64).length=64:=by
 rw[List.length_take,List.length_drop];omega
theorem E4(v:Value)(l:List Int)(w:World)(h:Sl w v l)(hl:l.length≤100000)(ht:AC w) :
  Calls prog 137 #[v] w fun e w'=>∃ v',e=.returned v'∧w'.ownsRow w.heap.size 5 1 v' (dig l).length ((dig l).map (Value.int .u8))∧Bw w w':=by
 go_enter func137,ntmps137
 go_wp2_with fail
 generalize hW0:w.alloc _=W0;have hb0:Bw w W0:=by rw[← hW0];exact(Below.refl _ _).alloc (Nat.le_refl _) _
 have hr0:W0.heap[w.heap.size]?=some (.cells (Au start.list) 245 (0,0)):=by rw[← hW0];exact heap_alloc_new _ _
 have hs0:W0.heap.size=w.heap.size+1:=by rw[← hW0];simp
 clear hW0;refine(Rg v l W0 (h.below hb0) hl).mono ?_;rintro e w1 ⟨vp,rfl,hop,hb1⟩;have hp:=Rf l;have hpb:=WQ h.byte;have sp:Sl w1 vp (pad l):=Sl.ofOwns hop (by omega) hpb;obtain⟨g,cp,hv,hgB,hgs,hcp,_,_⟩:=D2 hop (by intro e;rw[e]at hp;simp at hp);subst hv;have hB1:Bw w w1:=hb0.trans (hb1.mono hb0.size);have hr1:w1.heap[w.heap.size]?=some (.cells (Au start.list) 245 (0,0)):=(hb1.block _ (by omega)).trans hr0;have HD:Hid (dig l=MO (MW (pad l) ((pad l).length/64))):=rfl;have hgne:w.heap.size<g:=by omega
 clear hb0 hr0 hop hb1 hgB hgs hs0;generalize pad l=p at HD sp hp hpb hcp ⊢;obtain⟨n,hn⟩:∃ n,p.length=64*n:=⟨p.length/64,by omega⟩;have HN:Hid (p.length/64=n):=by unfold Hid;omega
 rw[HN.out]at HD
 rw[hn]at sp hcp ⊢
 have hpn:n≤2000:=by omega
 have HP:Hid (p.length=64*n):=hn;clear hn hp;go_wp2_with fail
 go_loopw [5] (fun i wr=>∃ k:Nat,k≤n∧i=.int .i64 (64*(k:Int))∧wr.heap[w.heap.size]?=some (.cells (Au (MW p k).list) 245 (0,0))∧Sl wr (.slice (some ⟨g,0,none⟩) (64*n) cp) p∧Bw w wr) (fun i _=>64*n-(intOf i).toNat)
 case atStart=>exact⟨0,by omega,rfl,hr1,sp,hB1⟩
 case round =>
  clear hr1 sp hB1;obtain⟨k,hk,rfl,hrow,sp,hb⟩:=hrel;by_cases hkn:k<n
  ·have hblk:=bO p k (by rw[HP.out];omega);have HS:Hid (MW p (k+1)=Wx (MW p k) (M2 ((p.drop (64*k)).take 64))):=rfl;have ssl:Sl wr (.slice (some ⟨g,64*k,none⟩) 64 (cp-64*k)) ((p.drop (64*k)).take 64):=by
    have q1:=Sl.drop (n:=64*n) (off:=0) sp (64*k) (by rw[HP.out];omega) (cp-64*k) (by rw[HP.out];omega);rw[Nat.zero_add]at q1
    exact q1.take 64 (by rw[List.length_drop,HP.out];omega)
   generalize (p.drop (64*k)).take 64=bl at hblk HS ssl;generalize MW p k=S at HS hrow;have c0:=cell_of_row wr _ 0 _ _ _ hrow;have c1:=cell_of_row wr _ 1 _ _ _ hrow;have c2:=cell_of_row wr _ 2 _ _ _ hrow;have c3:=cell_of_row wr _ 3 _ _ _ hrow;have c4:=cell_of_row wr _ 4 _ _ _ hrow;have c5:=cell_of_row wr _ 5 _ _ _ hrow;have c6:=cell_of_row wr _ 6 _ _ _ hrow;have c7:=cell_of_row wr _ 7 _ _ _ hrow;simp only[Au,St.list,List.map_cons,List.map_nil,List.getElem?_toArray,List.getElem?_cons_zero,List.getElem?_cons_succ]at c0 c1 c2 c3 c4 c5 c6 c7;have hBlt:w.heap.size<wr.heap.size:=(Array.getElem?_eq_some_iff.1 hrow).1;have ht1:AC wr:=ht.below hb;have hfz:∀ i,wr.frozen? ⟨w.heap.size,i,none⟩=false:=fun i=>frozen_of_row wr _ i _ _ hrow;have HR:Hid _:=hrow;have HB:Hid (Bw w wr):=hb;clear hrow hb;have hw64:IntKind.i64.wrap (64*(k:Int)+64)=64*(k:Int)+64:=by simp only[IntKind.wrap,IntKind.bits,IntKind.signed];simp;omega
   have hsl:=ZM g n cp k (by omega) hcp;go_wp2_with fail
   go_region_with (first
    | (go_at_call 167;refine(Nx _ bl _ (ssl.below ((Below.refl _ _).drew)) hblk).mono ?_;rintro e w2 ⟨rfl,hb2⟩;have hz2:w.heap.size<w2.heap.size:=Nat.lt_of_lt_of_le hBlt hb2.size;have d0:=(hb2.cell (p:=⟨w.heap.size,0,none⟩) hBlt).trans c0;have d1:=(hb2.cell (p:=⟨w.heap.size,1,none⟩) hBlt).trans c1;have d2:=(hb2.cell (p:=⟨w.heap.size,2,none⟩) hBlt).trans c2;have d3:=(hb2.cell (p:=⟨w.heap.size,3,none⟩) hBlt).trans c3;have d4:=(hb2.cell (p:=⟨w.heap.size,4,none⟩) hBlt).trans c4;have d5:=(hb2.cell (p:=⟨w.heap.size,5,none⟩) hBlt).trans c5;have d6:=(hb2.cell (p:=⟨w.heap.size,6,none⟩) hBlt).trans c6;have d7:=(hb2.cell (p:=⟨w.heap.size,7,none⟩) hBlt).trans c7)
    | (go_at_call 166;refine(TK S (M2 bl) _ (Nv bl) (ht1.below ((Below.refl _ _).drew.trans hb2))).mono ?_;rintro e w3 ⟨rfl,hb3⟩;have hz3:w.heap.size<w3.heap.size:=Nat.lt_of_lt_of_le hz2 hb3.size;have hst:=dE (Wx S (M2 bl)) (((hb3.block _ hz2).trans (hb2.block _ hBlt)).trans HR.out) (by rfl)))
   all_goals
    clear c0 c1 c2 c3 c4 c5 c6 c7 d0 d1 d2 d3 d4 d5 d6 d7 hst;have b23:Bw wr w3:=((Below.refl wr.heap.size wr).drew.trans hb2).trans (hb3.mono hb2.size);go_wp2
    go_roundw
    case rel =>
     refine⟨k+1,by omega,by go_num,?_,(sp.below b23).setRowNe hgne _,Bo (HB.out.trans (b23.mono HB.out.size)) (Nat.le_refl _) _⟩;rw[HS.out];exact setRow_heap w3 _ _ _ 245 _ ((b23.block _ hBlt).trans HR.out)
    case measure=>simp[intOf];omega
  ·have HK:Hid (k=n):=by unfold Hid;omega
   have HR:Hid _:=hrow;have hsz:(prog.info? 245).map (·.size)=some (Au (MW p k).list).size:=by kernel_rfl
   go_wp2_with (refine wpList_load_row rfl 245 _ rfl w.heap.size rfl 245 _ (0,0) _ hrow underlying245 rfl hsz ?_)
   refine(PM (MW p k) wr).mono ?_;rintro e w2 ⟨v2,rfl,ho2,hb2⟩;go_wp2
   go_ret;refine⟨v2,rfl,?_,hb.trans (hb2.mono hb.size)⟩;rw[HD.out,← HK.out];exact AN ho2 hb.size
structure Fresh(w w':World)(v:Value)(l:List Int):Prop where
 sl:Sl w' v l
 bel:Bw w w'
 shape:∃ g cap,v=.slice (some ⟨g,0,none⟩) l.length cap∧w.heap.size≤g∧l.length≤cap
theorem Fresh.ofOwns{w w':World}{v:Value}{l:List Int}(h:w'.ownsRow w.heap.size 5 1 v l.length (l.map (Value.int .u8)))(hne:l≠[])(hl:l.length≤140737488351232)(hb:∀ x∈l,0≤x∧x<256)(bel:Bw w w'):Fresh w w' v l:=by
 obtain⟨g,cap,hv,h1,_,h2,_,_⟩:=D2 h hne;exact⟨Sl.ofOwns h hl hb,bel,g,cap,hv,h1,h2⟩
theorem EA{l:List Int}{n:Nat}(h:l.length=n+1):l≠[]:=by
 intro e;rw[e]at h;simp at h
theorem dG(v:Value)(l:List Int)(w:World)(h:Sl w v l)(hl:l.length≤2000)(ht:AC w) :
  Calls prog 189 #[v] w fun e w'=>∃ v',e=.returned (.tuple #[v',.int .i64 0])∧Fresh w w' v' (dig l):=by
 have hs:=h;obtain⟨⟨a,cap,rfl,hc,hn,h1⟩,hla,hba⟩:=h;clear h1 hba;go_enter func189,ntmps189
 go_wp2_with fail
 refine(E4 _ l w hs (by omega) ht).mono ?_;rintro e w1 ⟨v1,rfl,ho,hb⟩;go_wp2
 go_ret2
 exact⟨v1,rfl,Fresh.ofOwns ho (EA (Az l)) (by rw[Az];omega) (CW l) hb⟩
end Go.Proofs.YtaeckakjdagddadGreatDoor
