/- Part 15 of the walk. -/
import Derived.Lib.SlBytesRow
import Derived.Test.YtalbmmghmoggcabGreatDoorZ14
set_option maxRecDepth 100000
set_option maxHeartbeats 4000000
open Go.Proofs.Tryz
set_option linter.unusedVariables false
namespace Go.Proofs.YtalbmmghmoggcabGreatDoor
open Go.RowKit
section
theorem U0:(prog.info? 53).map (·.size)=some 5:=by kernel_rfl
theorem RU:(prog.info? 138).map (·.size)=some 8:=by kernel_rfl
variable{base cap g n:Nat}{l la lb:List Int}{v:Value}{w:World}
theorem cA{r:Value}{lo hi:Option Value}(h:∀ W,(Instr.slice 25 v lo hi none).run prog W=.ok r W)(w:World) :
  (do let x <- Instr.slice 25 v lo hi none;pure (Next.value x):Sem Next).run prog w=.ok (.value r) w:=by
 simp only[Sem.run_bind,h w,Result.andThen_ok,Sem.run_pure]
theorem Sl.four2(w:World)(b0 b1 b2 b3 c0 c1 c2 c3:Int)(e:TypeId)(hg:g=w.heap.size)(h0:0<=b0/\b0<256)(h1:0<=b1/\b1<256)(h2:0<=b2/\b2<256)(h3:0<=b3/\b3<256)(e0:c0=b0)(e1:c1=b1)(e2:c2=b2)(e3:c3=b3) :
  Sl (w.alloc (.cells #[.int .u8 c0,.int .u8 c1,.int .u8 c2,.int .u8 c3] e)) (.slice (some ⟨g,0,none⟩) 4 4) [b0,b1,b2,b3]:=by
 subst e0 e1 e2 e3;exact Sl.built w [c0,c1,c2,c3] e hg (by simp) (by intro x hx;simp at hx;omega)
theorem OR(w:World)(l:List Int)(e:TypeId)(hg:g=w.heap.size)(hb:base<=w.heap.size)(hl:l.length<=1000):(w.alloc (.cells (l.map (Value.int .u8)).toArray e)).ownsRow base e 1 (.slice (some ⟨g,0,none⟩) l.length l.length) l.length (l.map (Value.int .u8)):=by
 subst hg;refine⟨by simp,.inr ⟨w.heap.size,l.length,_,rfl,hb,heap_alloc_new _ _,A' _,by unfold maxLen;omega,by simp,by rw[fB (by simp)]⟩⟩
theorem In(w:World)(b c:Int)(e:TypeId)(hg:g=w.heap.size)(hb:base<=w.heap.size)(he:c=b):(w.alloc (.cells #[.int .u8 c] e)).ownsRow base e 1 (.slice (some ⟨g,0,none⟩) 1 1) [b].length ([b].map (Value.int .u8)):=by
 subst he;exact OR w [c] e hg hb (by simp)
def Cn(ns:List Int):List Int:=ns.flatMap Ag
theorem SX(ns:List Int):(Cn ns).length=4*ns.length:=by
 induction ns with
 | nil=>rfl
 | cons n ns ih =>
  show(Ag n++Cn ns).length=_;rw[N',BQ,ih,fR];omega
theorem Ql(ns:List Int)(n:Int):Cn (ns++[n])=Cn ns++Ag n:=by simp[Cn]
theorem QQ(l:List Int)(k:Nat)(hk:k<l.length):l.take (k+1)=l.take k++[l.getD k 0]:=by
 rw[fJ hk,AL hk]
theorem Fi(v:Value)(l ns:List Int)(B g:Nat)(w:World)(ho:w.ownsRow B 5 1 v l.length (l.map (Value.int .u8)))(hB:B<=w.heap.size)(hl:l.length<=1000)(hk:ns.length<=10)(hn:∀ x∈ns,0<=x/\x<2147483648)(hg:w.heap[g]?=some (.cells (ns.map (Value.int .i64)).toArray 3)) :
  Calls prog 161 #[v,.slice (some ⟨g,0,none⟩) ns.length ns.length] w λe w'=>∃ v',e=.returned v'/\w'.ownsRow B 5 1 v' (l++Cn ns).length ((l++Cn ns).map (Value.int .u8))/\Below B w w':=by
 obtain⟨N,hN⟩:∃ N,ns.length=N:=⟨_,rfl⟩;have HN:Hid (ns.length=N):=hN;have Hn:Hid (∀ x∈ns,0<=x/\x<2147483648):=hn;rw[hN]at hk ⊢
 clear hN hn;have HO0:Hid (w.ownsRow B 5 1 v (l++Cn (ns.take 0)).length ((l++Cn (ns.take 0)).map (Value.int .u8))):=by unfold Hid;simpa[Cn]using ho
 clear ho;go_enter func161,ntmps161
 go_wp2_with fail
 go_loopw [0,9] (λv iv wr=>∃ j:Nat,j<=N/\iv=.int .i64 (j:Int)/\Hid (wr.ownsRow B 5 1 v (l++Cn (ns.take j)).length ((l++Cn (ns.take j)).map (Value.int .u8)))/\wr.heap[g]?=some (.cells (ns.map (Value.int .i64)).toArray 3)/\Below B w wr) (λ_ iv _=>N-(intOf iv).toNat)
 case atStart=>exact⟨0,by omega,rfl,HO0,hg,Below.refl _ _⟩
 case round =>
  obtain⟨j,hj,rfl,HO,hgr,hbel⟩:=hrel;clear HO0 hg;by_cases hjN:j<N
  .have hji:(j:Int)<(N:Int):=by omega
   have hjl:j<ns.length:=by rw[HN.out];exact hjN
   have hlt:=HO.out.lt;have hz:B<=wr.heap.size:=fy hB hbel.size;have hx:=Hn.out (ns.getD j 0) (by rw[AL hjl];exact fU hjl);have hc:wr.cell? ⟨g,j,none⟩=some (.int .i64 (ns.getD j 0)):=by
    rw[cell_of_row _ _ j _ _ _ hgr,AL hjl];simp[List.getElem?_eq_getElem hjl]
   have HT:Hid (ns.take (j+1)=ns.take j++[ns.getD j 0]):=QQ ns j hjl;have hlen:(l++Cn (ns.take j)).length+4<=140737488355328:=by
    rw[N',SX,fx];omega
   have hne:=K7 HO.out hgr (by decide);have lg:g<wr.heap.size:=(G'.1 hgr).1;have HH:Hid (∀ n,Ag n=[n/16777216%256,n/65536%256,n/256%256,n%256]):=λn=>rfl;generalize ns.getD j 0=n at hx hc HT;generalize hL:l++Cn (ns.take j)=L at HO hlen;have HL:Hid (l++Cn (ns.take j)=L):=hL;clear hL hjl;go_wp2_with (at_builtin;refine Aa _ rfl _ _ 25 rfl B 5 underlying25 As _ _ rfl rfl L [n/16777216%256,n/65536%256,n/256%256,n%256] (HO.out.alloc _) (Sl.four2 _ (n/16777216%256) (n/65536%256) (n/256%256) (n%256) _ _ _ _ _ rfl (by omega) (by omega) (by omega) (by omega) (by omega) (by omega) (by omega) (by omega)) hlen (by simp;omega) ?_)
   intro v2 w2 ho2 hg2;have hb2:Below B w w2:=(hbel.alloc hz _).grown hg2 (by simp;omega) (λk hk=>(hlt k hk).1);have hgr2:w2.heap[g]?=some (.cells (ns.map (Value.int .i64)).toArray 3):=by
    rw[hg2.block g (by simp;omega) (λe=>hne g e.symm rfl),heap_alloc_old _ _ lg];exact hgr
   have HO2:Hid (w2.ownsRow B 5 1 v2 (l++Cn (ns.take (j+1))).length ((l++Cn (ns.take (j+1))).map (Value.int .u8))):=by
    unfold Hid;rw[HT.out,Ql,<- fF,HL.out,HH.out];simpa using ho2
   clear ho2 hg2 hbel hlen HO hne hlt hgr hc HT HL;go_wp2
   go_roundw
   case rel=>exact⟨j+1,by omega,by go_num,HO2,hgr2,hb2⟩
   case measure=>simp[intOf];omega
  .obtain rfl:j=N:=by omega
   have ht:ns.take j=ns:=fB (by rw[HN.out];exact A' _);rw[ht]at HO
   clear ht;go_wp2
   go_ret;exact⟨_,rfl,HO.out,hbel⟩
theorem Sl.cutT{a:Option Addr}(h:Sl w (.slice a n cap) l)(lo hi m:Nat)(hlo:lo<=hi)(hhi:hi<=l.length)(hm:m=hi-lo)(li hj:Int)(hli:li=(lo:Int))(hhj:hj=(hi:Int)) :
  ∃ a' c',(∀ W,(Instr.slice 25 (.slice a n cap) (some (.int .i64 li)) (some (.int .i64 hj)) none).run prog W=.ok (.slice a' m c') W)/\Sl w (.slice a' m c') ((l.take hi).drop lo):=by
 subst hli;subst hhj;subst hm;have hw:=h.window lo hi hlo hhi;obtain⟨⟨a',cap',e,hc,hn,h1⟩,hla,hba⟩:=h;simp only[Value.slice.injEq]at e;obtain⟨rfl,rfl,rfl⟩:=e;refine⟨_,_,λW=>?_,by simpa[sliced]using hw⟩;rw[run_slice_lh (P:=prog) W 25 a _ cap underlying25 .i64 .i64 _ _ (by omega) (by omega) (by omega)];have e:prog.elem 25=5:=by kernel_rfl
 rw[e,Gu,ib,ib];simp[Result.andThen,sliced]
def lenOf:Value->Nat
 | .slice _ n _=>n
 | _=>0
theorem Qv{e:Nat}{xs:List Value}(h:w.ownsRow base e 1 v n xs):lenOf v=n:=by
 rcases h.2 with⟨rfl,rfl⟩|⟨g,cap,cur,rfl,_⟩<;>rfl
theorem Qz(v:Value)(l:List Int)(w:World)(h:Sl w v l)(hl:l.length<=100000) :
  Calls prog 167 #[v] w λe w'=>∃ v',e=.returned v'/\w'.ownsRow w.heap.size 5 1 v' (pad l).length ((pad l).map (Value.int .u8))/\Bw w w':=by
 have hs:=h;obtain⟨⟨a,cap,rfl,hc,hn,h1⟩,hla,hba⟩:=h;clear h1 hn hba;obtain⟨i0,hi,hz0,hz1,hz2⟩:=info_parts As;go_enter func167,ntmps167
 go_wp2_with (at_make;refine wpList_make_own _ rfl _ _ 25 rfl w.heap.size 5 i0 (.int .u8 0) 1 underlying25 hi hz0 hz1 _ _ _ (l.length+128) rfl rfl (by omega) (by rw[hz2];omega) (by unfold maxLen;omega) (A' _) ?_)
 intro w1 ho1 hg1;have hb1:Bw w w1:=(Below.refl _ _).grown hg1 (A' _) (by simp);have ho1':w1.ownsRow w.heap.size 5 1 (.slice (some ⟨w.heap.size,0,none⟩) 0 (l.length+128)) ([]:List Int).length (([]:List Int).map (Value.int .u8)):=ho1;clear ho1 hg1;go_wp2_with (at_builtin;refine Aa _ rfl _ _ 25 rfl w.heap.size 5 underlying25 As _ _ rfl rfl [] l ho1' (hs.below hb1) (by simp;omega) hb1.size ?_)
 intro v2 w2 ho2 hg2;have ho2':w2.ownsRow w.heap.size 5 1 v2 l.length (l.map (Value.int .u8)):=by simpa using ho2
 have hb2:Bw w w2:=hb1.grown hg2 hb1.size (by simp[Value.ownBlock]);have hlt2:=ho2'.lt;clear ho1' hg2 hb1 ho2;go_wp2_with (at_builtin;refine Aa _ rfl _ _ 25 rfl w.heap.size 5 underlying25 As _ _ rfl rfl l [128] (ho2'.alloc _) (Sl.one _ _ _ rfl (by omega)) (by simp;omega) (by have:=hb2.size;simp;omega) ?_)
 intro v3 w3 ho3 hg3;have ho3':w3.ownsRow w.heap.size 5 1 v3 (Cc l 0).length ((Cc l 0).map (Value.int .u8)):=by simpa[Cc]using ho3
 have hb3:Bw w w3:=(hb2.alloc hb2.size _).grown hg3 (by have:=hb2.size;simp;omega) (λk hk=>(hlt2 k hk).1);clear ho3 hg3 hb2 hlt2 ho2';go_wp2
 go_loopw [3] (λv wr=>∃ j:Nat,j<=El l.length/\wr.ownsRow w.heap.size 5 1 v (Cc l j).length ((Cc l j).map (Value.int .u8))/\Bw w wr) (λv _=>El l.length+l.length+1-lenOf v)
 case atStart=>exact⟨0,fP _,ho3',hb3⟩
 case round =>
  clear ho3' hb3;obtain⟨j,hj,hown,hb⟩:=hrel;obtain⟨g,cp,hv,hgB,hgs,hcp,hcell,hfr⟩:=Dv hown (by simp[Cc]);rw[Cy]at hv
  subst hv;clear hcell hfr hcp;have hz:El l.length<=63:=by unfold El;omega
  have hlt:=hown.lt;by_cases hjz:j<El l.length
  .have hne:¬ ((l.length+1+j)%64=56):=by unfold El at hjz;omega
   go_wp2_with (at_builtin;refine Aa _ rfl _ _ 25 rfl w.heap.size 5 underlying25 As _ _ rfl rfl (Cc l j) [0] (hown.alloc _) (Sl.one _ _ _ rfl (by omega)) (by rw[Cy];simp;omega) (by have:=hb.size;simp;omega) ?_)
   intro v4 w4 ho4 hg4;have ho4':w4.ownsRow w.heap.size 5 1 v4 (Cc l (j+1)).length ((Cc l (j+1)).map (Value.int .u8)):=by rw[<- Qx];simpa using ho4
   have hb4:Bw w w4:=(hb.alloc hb.size _).grown hg4 (by have:=hb.size;simp;omega) (λk hk=>(hlt k hk).1);have hl4:=Qv ho4';rw[Cy]at hl4
   have HL:Hid (lenOf v4=l.length+1+(j+1)):=hl4;clear hl4 ho4 hg4 hown hlt hb;go_wp2
   go_roundw
   case rel=>exact⟨j+1,hjz,ho4',hb4⟩
   case measure =>
    have hl4:=HL.out;show El l.length+l.length+1-lenOf v4<El l.length+l.length+1-(l.length+1+j);rw[hl4];omega
  .have heq:(l.length+1+j)%64=56:=by unfold El at hjz hj;omega
   have H56:Hid ((l.length+1+j)%64=56):=heq;have h56:(((l.length:Int)+1+j)%64 != 56)=false:=by simp;omega
   have ejz:j=El l.length:=by omega
   have EJ:Hid (j=El l.length):=ejz;clear heq ejz;go_wp2_with fail
   go_loopw [3,5] (λv s wr=>∃ k:Nat,k<=8/\s=.int .i64 (56-8*(k:Int))/\wr.ownsRow w.heap.size 5 1 v (Cc l j++(BZ l.length).take k).length ((Cc l j++(BZ l.length).take k).map (Value.int .u8))/\Bw w wr) (λ_ s _=>(intOf s+8).toNat)
   case atStart=>exact⟨0,by omega,rfl,by simpa using hown,hb⟩
   case round =>
    clear hown hb hlt hgs;obtain⟨k,hk,rfl,hown,hb⟩:=hrel;have hlt:=hown.lt;by_cases hk8:k<8
    .go_wp2_with (at_builtin;refine Aa _ rfl _ _ 25 rfl w.heap.size 5 underlying25 As _ _ rfl rfl _ _ (hown.alloc _) (Sl.one _ _ _ rfl ?_) (by rw[N',Cy,fx];simp;omega) (by have:=hb.size;simp;omega) ?_)
     .omega
     intro v5 w5 ho5 hg5;have ho5':w5.ownsRow w.heap.size 5 1 v5 (Cc l j++(BZ l.length).take (k+1)).length ((Cc l j++(BZ l.length).take (k+1)).map (Value.int .u8)):=by
      rw[La _ _ hk8];simpa using ho5
     have hb5:Bw w w5:=(hb.alloc hb.size _).grown hg5 (by have:=hb.size;simp;omega) (λk hk=>(hlt k hk).1);clear ho5 hg5 hown hlt hb;go_wp2
     go_roundw
     case rel=>exact⟨k+1,by omega,by go_num,ho5',hb5⟩
     case measure=>simp[intOf];omega
    .obtain rfl:k=8:=by omega
     go_wp2
     go_ret;refine⟨u3,rfl,?_,hb⟩;unfold pad;rw[<- EJ.out];exact hown
theorem Pe(s:St)(w:World) :
  Calls prog 170 #[.agg s.cells] w λe w'=>∃ v',e=.returned v'/\w'.ownsRow w.heap.size 5 1 v' (Mj s).length ((Mj s).map (Value.int .u8))/\Bw w w':=by
 obtain⟨i0,hi,hz0,hz1,hz2⟩:=info_parts As;unfold St.cells;go_enter func170,ntmps170
 go_wp2_with (at_make;refine wpList_make_own _ rfl _ _ 25 rfl w.heap.size 5 i0 (.int .u8 0) 1 underlying25 hi hz0 hz1 _ _ _ 32 rfl rfl (by omega) (by rw[hz2];omega) (by unfold maxLen;omega) (by simp) ?_)
 intro w1 ho1 hg1;have hb1:Bw w w1:=((Below.refl _ _).alloc (A' _) _).grown hg1 (by simp) (by simp);have hrow:w1.heap[w.heap.size]?=some (.cells #[.int .u32 (uw s.a),.int .u32 (uw s.b),.int .u32 (uw s.c),.int .u32 (uw s.d),.int .u32 (uw s.e),.int .u32 (uw s.f),.int .u32 (uw s.g),.int .u32 (uw s.h)] 244 (0,0)):=by
  rw[hg1.block w.heap.size (by simp) (by simp)];exact heap_alloc_new _ _
 have ho1':w1.ownsRow w.heap.size 5 1 (.slice (some ⟨w.heap.size+1,0,none⟩) 0 32) (BV (s.list.take 0)).length ((BV (s.list.take 0)).map (Value.int .u8)):=ho1;clear ho1 hg1;go_wp2_with (refine wpList_load_row rfl 244 _ rfl w.heap.size rfl 244 _ (0,0) _ hrow underlying244 rfl (by kernel_rfl) ?_)
 go_loopw [3,8] (λv i wr=>∃ k:Nat,k<=8/\i=.int .i64 k/\wr.ownsRow w.heap.size 5 1 v (BV (s.list.take k)).length ((BV (s.list.take k)).map (Value.int .u8))/\Bw w wr) (λ_ i _=>8-(intOf i).toNat)
 case atStart=>exact⟨0,by omega,rfl,ho1',hb1⟩
 case round =>
  clear ho1' hb1 hrow;obtain⟨k,hk,rfl,hown,hb⟩:=hrel;have hlt:=hown.lt;by_cases hk8:k<8
  .have hix:=Vi s k hk8;have hlen:=FN (s.list.take k);have HT:Hid (s.list.take (k+1)=s.list.take k++[s.list.getD k 0#32]):=by
    unfold Hid;rw[fJ (by simpa[St.list]using hk8)];simp[List.getD,List.getElem?_eq_getElem (show k<s.list.length by simpa[St.list]using hk8)]
   have hkl:(s.list.take k).length<=8:=by rw[fx];omega
   generalize s.list.take k=pre at hown hlen HT hkl;generalize s.list.getD k 0#32=x at hix HT;have nx:=Db x;go_wp2_with (at_builtin;refine Aa _ rfl _ _ 25 rfl w.heap.size 5 underlying25 As _ _ rfl rfl (BV pre) (Eo x) (hown.alloc _) ?_ (by rw[hlen];simp[Eo];omega) (by have:=hb.size;simp;omega) ?_)
   .exact Sl.built wr (Eo x) 5 rfl (by simp[Eo]) (Iz x)
   intro v' w' ho hg;have ho':w'.ownsRow w.heap.size 5 1 v' (BV (pre++[x])).length ((BV (pre++[x])).map (Value.int .u8)):=by
    rw[Ng];simpa[FN]using ho
   have hb':Bw w w':=(hb.alloc hb.size _).grown hg (by have:=hb.size;simp;omega) (λk hk=>(hlt k hk).1);clear ho hg hown hlt hb;go_wp2
   go_roundw
   case rel=>exact⟨k+1,by omega,by go_num,by rw[HT.out];exact ho',hb'⟩
   case measure=>simp[intOf];omega
  .have HK:Hid (k=8):=by unfold Hid;omega
   go_wp2
   go_ret;refine⟨u3,rfl,?_,hb⟩;rw[HK.out]at hown
   exact hown
theorem eh(w:World):(Go.sizeOf 5).run prog w=.ok 1 w:=by
 obtain⟨i,hi,_,hsz,_⟩:=info_parts As;simp[sizeOf,typeInfo,hi,hsz]
theorem YK(g n cp k:Nat)(hk:64*k+64<=64*n)(hcp:64*n<=cp):∀ W,(Instr.slice 25 (.slice (some ⟨g,0,none⟩) (64*n) cp) (some (.int .i64 (64*(k:Int)))) (some (.int .i64 (64*(k:Int)+64))) none).run prog W=.ok (.slice (some ⟨g,64*k,none⟩) 64 (cp-64*k)) W:=by
 intro W;have:=Lib.run_slice_window (P:=prog) W 25 5 underlying25 eh g 0 (64*n) cp (64*k) (64*k+64) (by omega) (by omega);rw[show 64*k+64-64*k=64 by omega,fV]at this
 rw[<- this];rfl
theorem ce{old:Array Value}(s:St)(hg:w.heap[g]?=some (.cells old 244 (0,0)))(ho:old.size=8):(storeCells ⟨g,0,none⟩ s.cells.toList).run prog w=.ok () (w.setRow g s.cells):=by
 have:=run_storeCells_from (P:=prog) g 244 s.cells.toList 0 old w hg (by simp[St.cells];omega) (λv hv=>by simp[St.cells]at hv;rcases hv with rfl|rfl|rfl|rfl|rfl|rfl|rfl|rfl<;>rfl);simpa using this
theorem Sl.setRowNe{b off:Nat}(h:Sl w (.slice (some ⟨b,off,none⟩) n cap) l)(hg:g<b)(cs:Array Value):Sl (w.setRow g cs) (.slice (some ⟨b,off,none⟩) n cap) l:=by
 obtain⟨⟨a,cap',e,hc,hn,h1⟩,h2,h3⟩:=h;refine⟨⟨a,cap',e,hc,hn,?_⟩,h2,h3⟩;simp only[Value.slice.injEq]at e;obtain⟨rfl,_,_⟩:=e;rcases h1 with h1|⟨b',off',e',hbs,hcell⟩
 .exact .inl h1
 .simp only[U',Addr.mk.injEq,and_true]at e';obtain⟨rfl,rfl⟩:=e';refine .inr ⟨b,off,rfl,by simpa using hbs,λi hi=>?_⟩;rw[<- hcell i hi];exact World.cell?_of_block (w:=w) (setRow_other w g b cs (by omega))
theorem ZY(l:List Int)(k:Nat)(hk:64*k+64<=l.length):((l.drop (64*k)).take 64).length=64:=by
 rw[fx,fA];omega
theorem Et(v:Value)(l:List Int)(w:World)(h:Sl w v l)(hl:l.length<=100000)(ht:AA w) :
  Calls prog 143 #[v] w λe w'=>∃ v',e=.returned v'/\w'.ownsRow w.heap.size 5 1 v' (dig l).length ((dig l).map (Value.int .u8))/\Bw w w':=by
 go_enter func143,ntmps143
 go_wp2_with fail
 generalize hW0:w.alloc _=W0;have hb0:Bw w W0:=by rw[<- hW0];exact(Below.refl _ _).alloc (A' _) _
 have hr0:W0.heap[w.heap.size]?=some (.cells (Au start.list) 244 (0,0)):=by rw[<- hW0];exact heap_alloc_new _ _
 have hs0:W0.heap.size=w.heap.size+1:=by rw[<- hW0];simp
 clear hW0;refine(Qz v l W0 (h.below hb0) hl).mono ?_;rintro e w1 ⟨vp,rfl,hop,hb1⟩;have hp:=Qy l;have hpb:=VN h.byte;have sp:Sl w1 vp (pad l):=Sl.ofOwns hop (by omega) hpb;obtain⟨g,cp,hv,hgB,hgs,hcp,_,_⟩:=Dv hop (by intro e;rw[e]at hp;simp at hp);subst hv;have hB1:Bw w w1:=hb0.trans (hb1.mono hb0.size);have hr1:w1.heap[w.heap.size]?=some (.cells (Au start.list) 244 (0,0)):=(hb1.block _ (by omega)).trans hr0;have HD:Hid (dig l=Mj (Mo (pad l) ((pad l).length/64))):=rfl;have hgne:w.heap.size<g:=by omega
 clear hb0 hr0 hop hb1 hgB hgs hs0;generalize pad l=p at HD sp hp hpb hcp ⊢;obtain⟨n,hn⟩:∃ n,p.length=64*n:=⟨p.length/64,by omega⟩;have HN:Hid (p.length/64=n):=by unfold Hid;omega
 rw[HN.out]at HD
 rw[hn]at sp hcp ⊢
 have hpn:n<=2000:=by omega
 have HP:Hid (p.length=64*n):=hn;clear hn hp;go_wp2_with fail
 go_loopw [5] (λi wr=>∃ k:Nat,k<=n/\i=.int .i64 (64*(k:Int))/\wr.heap[w.heap.size]?=some (.cells (Au (Mo p k).list) 244 (0,0))/\Sl wr (.slice (some ⟨g,0,none⟩) (64*n) cp) p/\Bw w wr) (λi _=>64*n-(intOf i).toNat)
 case atStart=>exact⟨0,by omega,rfl,hr1,sp,hB1⟩
 case round =>
  clear hr1 sp hB1;obtain⟨k,hk,rfl,hrow,sp,hb⟩:=hrel;by_cases hkn:k<n
  .have hblk:=ZY p k (by rw[HP.out];omega);have HS:Hid (Mo p (k+1)=V4 (Mo p k) (LU ((p.drop (64*k)).take 64))):=rfl;have ssl:Sl wr (.slice (some ⟨g,64*k,none⟩) 64 (cp-64*k)) ((p.drop (64*k)).take 64):=by
    have q1:=Sl.drop (n:=64*n) (off:=0) sp (64*k) (by rw[HP.out];omega) (cp-64*k) (by rw[HP.out];omega);rw[fV]at q1
    exact q1.take 64 (by rw[fA,HP.out];omega)
   generalize (p.drop (64*k)).take 64=bl at hblk HS ssl;generalize Mo p k=S at HS hrow;have c0:=cell_of_row wr _ 0 _ _ _ hrow;have c1:=cell_of_row wr _ 1 _ _ _ hrow;have c2:=cell_of_row wr _ 2 _ _ _ hrow;have c3:=cell_of_row wr _ 3 _ _ _ hrow;have c4:=cell_of_row wr _ 4 _ _ _ hrow;have c5:=cell_of_row wr _ 5 _ _ _ hrow;have c6:=cell_of_row wr _ 6 _ _ _ hrow;have c7:=cell_of_row wr _ 7 _ _ _ hrow;simp only[Au,St.list,fN,gy,gd,gp,iN]at c0 c1 c2 c3 c4 c5 c6 c7;have hBlt:w.heap.size<wr.heap.size:=(G'.1 hrow).1;have ht1:AA wr:=ht.below hb;have hfz:∀ i,wr.frozen? ⟨w.heap.size,i,none⟩=false:=λi=>frozen_of_row wr _ i _ _ hrow;have HR:Hid _:=hrow;have HB:Hid (Bw w wr):=hb;clear hrow hb;have hw64:IntKind.i64.wrap (64*(k:Int)+64)=64*(k:Int)+64:=by simp only[IntKind.wrap,IntKind.bits,IntKind.signed];simp;omega
   have hsl:=YK g n cp k (by omega) hcp;go_wp2_with fail
   go_region_with (first
    | (go_at_call 169;refine(MH _ bl _ (ssl.below ((Below.refl _ _).drew)) hblk).mono ?_;rintro e w2 ⟨rfl,hb2⟩;have hz2:w.heap.size<w2.heap.size:=Z' hBlt hb2.size;have d0:=(hb2.cell (p:=⟨w.heap.size,0,none⟩) hBlt).trans c0;have d1:=(hb2.cell (p:=⟨w.heap.size,1,none⟩) hBlt).trans c1;have d2:=(hb2.cell (p:=⟨w.heap.size,2,none⟩) hBlt).trans c2;have d3:=(hb2.cell (p:=⟨w.heap.size,3,none⟩) hBlt).trans c3;have d4:=(hb2.cell (p:=⟨w.heap.size,4,none⟩) hBlt).trans c4;have d5:=(hb2.cell (p:=⟨w.heap.size,5,none⟩) hBlt).trans c5;have d6:=(hb2.cell (p:=⟨w.heap.size,6,none⟩) hBlt).trans c6;have d7:=(hb2.cell (p:=⟨w.heap.size,7,none⟩) hBlt).trans c7)
    | (go_at_call 168;refine(SS S (LU bl) _ (MG bl) (ht1.below ((Below.refl _ _).drew.trans hb2))).mono ?_;rintro e w3 ⟨rfl,hb3⟩;have hz3:w.heap.size<w3.heap.size:=Z' hz2 hb3.size;have hst:=ce (V4 S (LU bl)) (((hb3.block _ hz2).trans (hb2.block _ hBlt)).trans HR.out) (by rfl)))
   all_goals
    clear c0 c1 c2 c3 c4 c5 c6 c7 d0 d1 d2 d3 d4 d5 d6 d7 hst;have b23:Bw wr w3:=((Below.refl wr.heap.size wr).drew.trans hb2).trans (hb3.mono hb2.size);go_wp2
    go_roundw
    case rel =>
     refine⟨k+1,by omega,by go_num,?_,(sp.below b23).setRowNe hgne _,Bo (HB.out.trans (b23.mono HB.out.size)) (A' _) _⟩;rw[HS.out];exact setRow_heap w3 _ _ _ 244 _ ((b23.block _ hBlt).trans HR.out)
    case measure=>simp[intOf];omega
  .have HK:Hid (k=n):=by unfold Hid;omega
   have HR:Hid _:=hrow;have hsz:(prog.info? 244).map (·.size)=some (Au (Mo p k).list).size:=by kernel_rfl
   go_wp2_with (refine wpList_load_row rfl 244 _ rfl w.heap.size rfl 244 _ (0,0) _ hrow underlying244 rfl hsz ?_)
   refine(Pe (Mo p k) wr).mono ?_;rintro e w2 ⟨v2,rfl,ho2,hb2⟩;go_wp2
   go_ret;refine⟨v2,rfl,?_,hb.trans (hb2.mono hb.size)⟩;rw[HD.out,<- HK.out];exact AN ho2 hb.size
structure Fresh(w w':World)(v:Value)(l:List Int):Prop where
 sl:Sl w' v l
 bel:Bw w w'
 shape:∃ g cap,v=.slice (some ⟨g,0,none⟩) l.length cap/\w.heap.size<=g/\l.length<=cap
theorem Fresh.ofOwns{w':World}(h:w'.ownsRow w.heap.size 5 1 v l.length (l.map (Value.int .u8)))(hne:l≠[])(hl:l.length<=140737488351232)(hb:∀ x∈l,0<=x/\x<256)(bel:Bw w w'):Fresh w w' v l:=by
 obtain⟨g,cap,hv,h1,_,h2,_,_⟩:=Dv h hne;exact⟨Sl.ofOwns h hl hb,bel,g,cap,hv,h1,h2⟩
theorem Ez(h:l.length=n+1):l≠[]:=by
 intro e;rw[e]at h;simp at h
theorem co(v:Value)(l:List Int)(w:World)(h:Sl w v l)(hl:l.length<=2000)(ht:AA w) :
  Calls prog 182 #[v] w λe w'=>∃ v',e=.returned (.tuple #[v',.int .i64 0])/\Fresh w w' v' (dig l):=by
 have hs:=h;obtain⟨⟨a,cap,rfl,hc,hn,h1⟩,hla,hba⟩:=h;clear h1 hba;go_enter func182,ntmps182
 go_wp2_with fail
 refine(Et _ l w hs (by omega) ht).mono ?_;rintro e w1 ⟨v1,rfl,ho,hb⟩;go_wp2
 go_ret2
 exact⟨v1,rfl,Fresh.ofOwns ho (Ez (Ay l)) (by rw[Ay];omega) (CU l) hb⟩
def dif(la lb:List Int):Nat->Int
 | 0=>0
 | k+1=>bits .or .u8 (dif la lb k) (bits .xor .u8 (la.getD k 0) (lb.getD k 0))
theorem eG{a b:Nat}:a ||| b=0↔a=0/\b=0:=by
 constructor
 .intro h;have h1:∀ i,(a ||| b).testBit i=false:=by intro i;rw[h];simp
  constructor
  .apply jc;intro i;have:=h1 i;rw[Nat.testBit_or]at this;simp at this;simp[this.1]
  .apply jc;intro i;have:=h1 i;rw[Nat.testBit_or]at this;simp at this;simp[this.2]
 .rintro⟨rfl,rfl⟩;rfl
theorem eA{a b:Nat}:a ^^^ b=0↔a=b:=by
 constructor
 .intro h;have h1:∀ i,(a ^^^ b).testBit i=false:=by intro i;rw[h];simp
  apply jc;intro i;have:=h1 i;rw[Nat.testBit_xor]at this;simpa using this
 .rintro rfl;simp
theorem UB(ha:∀ x∈la,0<=x/\x<256)(hb:∀ x∈lb,0<=x/\x<256)(k:Nat) :
  0<=dif la lb k/\dif la lb k<256/\(dif la lb k=0↔∀ i,i<k->la.getD i 0=lb.getD i 0):=by
 induction k with
 | zero=>simp[dif]
 | succ k ih =>
  obtain⟨h1,h2,h3⟩:=ih;have hx:=Aj ha k;have hy:=Aj hb k;have e1:=u8_xor _ _ hx.1 hx.2 hy.1 hy.2;have hlt:(la.getD k 0).toNat ^^^ (lb.getD k 0).toNat<256:=iK (n:=8) (by omega) (by omega);have e2:=u8_or (dif la lb k) (((la.getD k 0).toNat ^^^ (lb.getD k 0).toNat:Nat):Int) h1 h2 (by omega) (by omega);have e3:dif la lb (k+1)=(((dif la lb k).toNat ||| ((la.getD k 0).toNat ^^^ (lb.getD k 0).toNat):Nat):Int):=by
   show bits .or .u8 (dif la lb k) (bits .xor .u8 (la.getD k 0) (lb.getD k 0))=_;rw[e1,e2];simp
  have hlt2:(dif la lb k).toNat ||| ((la.getD k 0).toNat ^^^ (lb.getD k 0).toNat)<256:=Nat.or_lt_two_pow (n:=8) (by omega) hlt;refine⟨by rw[e3];omega,by rw[e3];omega,?_⟩;have e4:dif la lb (k+1)=0↔dif la lb k=0/\la.getD k 0=lb.getD k 0:=by
   rw[e3];have:=@eG (dif la lb k).toNat ((la.getD k 0).toNat ^^^ (lb.getD k 0).toNat);have h5:=@eA (la.getD k 0).toNat (lb.getD k 0).toNat;rw[h5]at this
   constructor
   .intro h;have:=this.1 (by omega);omega
   .intro h;have:=this.2 (by omega);omega
  rw[e4,h3];constructor
  .intro h i hi;rcases gj i k with h'|h'
   .exact h.1 i h'
   .obtain rfl:i=k:=by omega
    exact h.2
  .intro h;exact⟨λi hi=>h i (by omega),h k (by omega)⟩
theorem X4(ha:∀ x∈la,0<=x/\x<256)(hb:∀ x∈lb,0<=x/\x<256)(hl:la.length=lb.length):(dif la lb lb.length==0)=decide (la=lb):=by
 rw[jy,decide_eq_true_iff,beq_iff_eq,(UB ha hb _).2.2];constructor
 .intro h;apply iE hl;intro i h1 h2;have:=h i h2
  rwa [AL h1,AL h2]at this
 .rintro rfl _ _;rfl
theorem Hb(va vb:Value)(la lb:List Int)(w:World)(ha:Sl w va la)(hb:Sl w vb lb) :
  Calls prog 157 #[va,vb] w λe w'=>e=.returned (.bool (decide (la=lb)))/\∃ n,w'=w.drewN n:=by
 obtain⟨⟨a,cap,rfl,hc,hn,h1⟩,hla,hba⟩:=ha;obtain⟨⟨b,cap',rfl,hc',hn',h1'⟩,hlb,hbb⟩:=hb;by_cases hl:la.length=lb.length
 .rcases h1 with rfl|⟨ba,oa,rfl,_,hca⟩
  .obtain rfl:lb=[]:=fw (by simpa using hl.symm);go_enter func157,ntmps157
   go_wp2
   refine wp_loop_rounds 1 ?_;rw[rounds_succ];go_wp2
   go_ret;exact⟨rfl,0,rfl⟩
  .rcases h1' with rfl|⟨bb,ob,rfl,_,hcb⟩
   .obtain rfl:la=[]:=fw (by simpa using hl);go_enter func157,ntmps157
    go_wp2
    refine wp_loop_rounds 1 ?_;rw[rounds_succ];go_wp2
    go_ret;exact⟨rfl,0,rfl⟩
   .have HD:Hid ((dif la lb lb.length==0)=decide (la=lb)):=X4 hba hbb hl;go_enter func157,ntmps157
    go_wp2
    go_loopw [5,14] (λd i wr=>∃ k n:Nat,k<=lb.length/\i=.int .i64 k/\d=.int .u8 (dif la lb k)/\wr=w.drewN n) (λ_ i _=>lb.length-(intOf i).toNat)
    case atStart=>exact⟨0,0,fP _,rfl,rfl,rfl⟩
    case round =>
     obtain⟨k,n,hk,rfl,rfl,rfl⟩:=hrel;by_cases hlt:k<lb.length
     .have hx:=hca k (by omega);have hy:=hcb k hlt;clear hca hcb hba hbb;have hka:k<la.length:=by omega
      go_wp2
      go_quiet (fail)
      go_wp2
      go_roundw
      case rel=>exact⟨k+1,_,by omega,by go_num,by simp only[dif,AL hka,AL hlt],rfl⟩
      case measure=>simp[intOf];omega
     .obtain rfl:k=lb.length:=by omega
      clear hca hcb;go_wp2
      go_ret;exact⟨Ac HD.out,n,rfl⟩
 .have hne:((la.length:Int)==(lb.length:Int))=false:=by simp;omega
  have hdd:decide (la=lb)=false:=D' (λe=>hl (by rw[e]));go_enter func157,ntmps157
  go_wp2
  go_ret;exact⟨Ac hdd.symm,0,rfl⟩
theorem LW(v:Value)(l:List Int)(w:World)(h:Sl w v l)(hl:l.length<=2000)(ht:AA w) :
  Calls prog 164 #[v] w λe w'=>∃ a c,e=.returned (.tuple #[.slice a 4 c,.int .i64 0])/\Sl w' (.slice a 4 c) ((dig l).take 4)/\Bw w w':=by
 go_enter func164,ntmps164
 go_wp2_with fail
 refine(co v l w h hl ht).mono ?_;rintro e w1 ⟨y,rfl,f1⟩;obtain⟨g,cap,hy,hg,hcap⟩:=f1.shape;rw[Ay]at hy hcap
 subst hy;obtain⟨a4,c4,r4,s4⟩:=f1.sl.upTo 4 (by rw[Ay];decide);have b1:=f1.bel;clear f1;have hcap4:(4:Int)<=(cap:Int):=by omega
 replace r4:∀ W,(Instr.slice 25 (.slice (some ⟨g,0,none⟩) 32 cap) none (some (.int .i64 4)) none).run prog W=.ok (.slice a4 4 c4) W:=r4;go_wp2
 go_ret2
 exact⟨a4,c4,rfl,s4,b1⟩
theorem KW(v:Value)(r:List Int)(w:World)(h:Sl w v r)(ht:AA w){u:World}(hu:Sl u v r) :
  Calls prog 139 #[v] w λe w'=>∃ a n c,e=.returned (.tuple #[.slice a n c,.bool (fbO r).isSome])/\Sl u (.slice a n c) ((fbO r).getD [])/\Bw w w':=by
 have hlen:=h.len;have hx:=Aj h.byte 0;obtain⟨ax,cp,rfl⟩:=h.shapeT;by_cases h0:r=[]
 .subst h0;have HO:Hid (fbO []=none):=if_pos rfl;rw[HO.out];go_enter func139,ntmps139
  go_wp2
  go_ret2
  exact⟨none,0,0,rfl,Sl.nil _ _,Below.refl _ _⟩
 .have hp:0<r.length:=by
   rcases Nat.eq_zero_or_pos r.length with g|g
   .exact absurd (fw g) h0
   .exact g
  obtain⟨bd,od,rfl,hbd,hc⟩:=h.spotO 0 hp;obtain⟨x,hx0⟩:∃ x:Nat,r.getD 0 0=(x:Int):=⟨(r.getD 0 0).toNat,by omega⟩;have hxn:(r.getD 0 0).toNat=x:=by rw[hx0];exact ib _
  rw[hx0]at hc hx
  obtain⟨M,hM⟩:∃ M,r.length=M:=⟨_,rfl⟩;have HM:Hid (r.length=M):=hM;have HX:Hid ((r.getD 0 0).toNat=x):=hxn;have hz:(0:Int)<(M:Int):=by omega
  have hne:((M:Int)==0)=false:=by simp;omega
  rw[hM]at h hu hlen hp ⊢
  have hx2:x<256:=by omega
  have H0:Hid (¬ r=[]):=h0;clear hM hx0 hxn hx h0;rw[ic]at hc
  by_cases h1:M<x+5
  .have HO:Hid (fbO r=none):=by
    unfold Hid fbO;rw[if_neg H0.out,HX.out,HM.out,if_pos h1]
   rw[HO.out];have h1i:(M:Int)<1+(x:Int)+4:=by omega
   clear H0 HX;go_enter func139,ntmps139
   go_wp2
   go_ret2
   exact⟨none,0,0,rfl,Sl.nil _ _,Below.refl _ _⟩
  .have h1i:¬ (M:Int)<1+(x:Int)+4:=by omega
   obtain⟨E,hE⟩:∃ E:Nat,E=x+1:=⟨_,rfl⟩;have HE:Hid (E=x+1):=hE;have hEi:1+(x:Int)=(E:Int):=by omega
   have hE2:E+4<=M:=by omega
   have hE3:E<=256:=by omega
   have hE4:1<=E:=by omega
   rw[hEi]at h1i
   obtain⟨au,cu,ru,su⟩:=h.upTo E (by rw[HM.out];omega);obtain⟨af,cf,rf,sf⟩:=h.cutT E (E+4) 4 (by omega) (by rw[HM.out];omega) (by omega) (E:Int) ((E:Int)+4) rfl (by omega);obtain⟨ab,cb,rb,sb⟩:=hu.cutT 1 E x hE4 (by rw[HM.out];omega) (by omega) 1 (E:Int) rfl rfl;have hl:(r.take E).length=E:=by rw[fx,HM.out];omega
   have HF:Hid ((r.take (E+4)).drop E=(r.drop E).take 4):=by unfold Hid;rw[List.drop_take,show E+4-E=4 by omega]
   rw[HF.out]at sf
   clear hE h1 hE4 HF;go_enter func139,ntmps139
   go_wp2_with fail
   refine(LW (.slice au E cu) (r.take E) w su (by omega) ht).mono ?_;rintro e w1 ⟨ag,cg,rfl,sg,b1⟩;have sf1:=sf.below b1;have sb1:=sb;clear su sf sb ru hc hbd hl;go_wp2_with fail
   refine(Hb (.slice ag 4 cg) (.slice af 4 cf) ((dig (r.take E)).take 4) ((r.drop E).take 4) w1 sg sf1).mono ?_;rintro e w2 ⟨rfl,n2,hw2⟩;have b2:Bw w1 w2:=by rw[hw2];exact An (Below.refl _ _) n2
   clear hw2;have d2:=b1.trans (b2.mono b1.size);have sb2:=sb1;clear b1 b2 sb1 sg sf1 rf;by_cases h2:(dig (r.take E)).take 4=(r.drop E).take 4
   .have HO:Hid (fbO r=some ((r.take E).drop 1)):=by
     unfold Hid fbO;have:=HE.out;rw[if_neg H0.out,HX.out,HM.out,if_neg (by omega),<- this,if_neg (λg=>g h2)]
    rw[I' h2];clear h2 H0 HX HE;go_wp2
    go_ret2
    rw[HO.out];exact⟨ab,x,cb,rfl,sb2,d2⟩
   .have HO:Hid (fbO r=none):=by
     unfold Hid fbO;have:=HE.out;rw[if_neg H0.out,HX.out,HM.out,if_neg (by omega),<- this,if_pos h2]
    rw[D' h2];clear h2 H0 HX HE sb2;go_wp2
    go_ret2
    rw[HO.out];exact⟨none,0,0,rfl,Sl.nil _ _,d2⟩
theorem MD(v:Value)(b:List Int)(w:World)(h:Sl w v b)(hb:b.length<=255)(ht:AA w) :
  Calls prog 160 #[v] w λe w'=>∃ y,e=.returned (.tuple #[y,.int .i64 0])/\w'.ownsRow w.heap.size 5 1 y (BH b).length ((BH b).map (Value.int .u8))/\Bw w w':=by
 obtain⟨ax,cp,rfl⟩:=h.shapeT;obtain⟨N,hN⟩:∃ N,b.length=N:=⟨_,rfl⟩;have HN:Hid (b.length=N):=hN;have HR:Hid (D9 b++(dig (D9 b)).take 4=BH b):=rfl;have HF:Hid ([(N:Int)]++b=D9 b):=by unfold Hid D9;rw[hN];rfl
 have HFB:Hid ((D9 b).length=N+1/\∀ x∈D9 b,0<=x/\x<256):=⟨by rw[GC,hN],JP h.byte hb⟩;rw[hN]at h hb ⊢
 have hwr:(N:Int)%256=(N:Int):=by omega
 have hll:[(N:Int)].length+b.length<=140737488355328:=by rw[hN];simp;omega
 clear hN;obtain⟨W1,hW1⟩:∃ W1,w.alloc (.cells #[.int .u8 (N:Int)] 5)=W1:=⟨_,rfl⟩;have b1:Bw w W1:=by rw[<- hW1];exact BD _ _
 have o1:W1.ownsRow w.heap.size 5 1 (.slice (some ⟨w.heap.size,0,none⟩) 1 1) [(N:Int)].length ([(N:Int)].map (Value.int .u8)):=by rw[<- hW1];exact In w N N 5 rfl (A' _) rfl
 have h1:=h.below b1;go_enter func160,ntmps160
 go_wp2_with (at_builtin;refine Aa _ rfl _ _ 25 rfl w.heap.size 5 underlying25 As _ _ rfl rfl [(N:Int)] b o1 h1 hll b1.size ?_)
 clear hW1;intro v2 w2 o2 g2;have hlt1:=o1.lt;have b2:Bw w w2:=b1.grown g2 b1.size (λk hk=>(hlt1 k hk).1);replace o2:w2.ownsRow w.heap.size 5 1 v2 ([(N:Int)]++b).length (([(N:Int)]++b).map (Value.int .u8)):=by simpa using o2
 rw[HF.out]at o2
 have s2:=Sl.ofOwns o2 (by rw[HFB.out.1];omega) HFB.out.2;have hfl:(D9 b).length<=2000:=by rw[HFB.out.1];omega
 have hfd:(D9 b).length+((dig (D9 b)).take 4).length<=140737488355328:=by rw[HFB.out.1,fx,Ay];omega
 clear o1 g2 hlt1 HF hll h1;generalize hFr:D9 b=F at o2 s2 hfl hfd HR;have HO2:Hid (w2.ownsRow w.heap.size 5 1 v2 F.length (F.map (Value.int .u8))):=o2;clear o2 hFr HFB;go_wp2_with fail
 refine(LW v2 F w2 s2 hfl (ht.below b2)).mono ?_;rintro e w3 ⟨a4,c4,rfl,s4,b3⟩;have d3:=b2.trans (b3.mono b2.size);have HO3:Hid (w3.ownsRow w.heap.size 5 1 v2 F.length (F.map (Value.int .u8))):=CL HO2.out (λk hk=>b3.block k (HO2.out.lt k hk).2);have hlt:=HO3.out.lt;generalize hD:(dig F).take 4=D at s4 HR hfd;clear HO2 b3 hD s2;have hz3:=d3.size;go_wp2_with (at_builtin;refine Aa _ rfl _ _ 25 rfl w.heap.size 5 underlying25 As _ _ rfl rfl F D HO3.out s4 hfd hz3 ?_)
 intro v5 w5 o5 g5;have d5:Bw w w5:=d3.grown g5 d3.size (λk hk=>(hlt k hk).1);have HO5:Hid (w5.ownsRow w.heap.size 5 1 v5 (BH b).length ((BH b).map (Value.int .u8))):=by
  unfold Hid;rw[<- HR.out];simpa using o5
 clear o5 g5 HO3 hlt s4;go_wp2
 go_ret2
 exact⟨_,rfl,HO5.out,d5⟩
end
section
variable{P:Program}{md:Region.Mode}{ops:Array Oper}{Q:Exit->Act->World->Prop}{S:World->Prop}
theorem Ta{i d:Nat}{o:Oper}{a:Act}{w:World}{K:Act->World->Prop}(ho:ops[i]?=some o)(hw:Region.wanted o (yielded ops a.tmps)=true)(hd:o.dst=some d)(s x:Operand)(t:TypeId)
  (hop:o.op=.call { callee:=.builtin .append,args:=#[s,x],argTypes:=#[t,t] })
  (base e:Nat)(ht:P.underlying t=some (.slice e))(hinfo:(P.info? e).map (λi=>(i.zero,i.size,i.bytes))=some (some (.int .u8 0),1,1))
  (v u:Value)(hs:a.eval s=v)(hx:a.eval x=u)(l m:List Int)(hown:w.ownsRow base e 1 v l.length (l.map (Value.int .u8)))(hu:Sl w u m)
  (hlen:l.length+m.length<=140737488355328)(hbase:base<=w.heap.size)
  (h:∀ v' w',w'.ownsRow base e 1 v' (l++m).length ((l++m).map (Value.int .u8))->w.grownBy w' v.ownBlock->K (a.put (some d) v') w'):wpOp P ops Q i K a w :=
 wpOp_step ho λK' hK=>by
  rw[if_pos hw];obtain⟨v',w',hrun,r1,r2⟩:=FX (P:=P) w base t o.type e ht hinfo v l hown u m hu hlen hbase;unfold Oper.wp execOp;simp only[hop,resolve,invoke,builtin,Sem.run_bind,Sem.run_pure,Result.andThen_ok,iD,fN,gy,hs,hx,hrun];exact hK _ _ (by rw[hd];exact h v' w' r1 r2)
end
theorem FO(x:Value)(d:List Int)(s:Int)(k:Nat)(hk:k<=1000)(w:World)(h:Sl w x d) :
  Calls prog 132 #[.agg (tpA x s),.int .i64 (k:Int)] w λe w'=>e=.returned (.int .i64 (Je d s k))/\Bw w w':=by
 have hlen:=h.len;obtain⟨ax,cp,rfl⟩:=h.shapeT;obtain⟨M,hM⟩:∃ M,d.length=M:=⟨_,rfl⟩;have HM:Hid (d.length=M):=hM;rw[hM]at h hlen ⊢
 clear hM;simp only[tpA];obtain⟨W0,hW0⟩:∃ W0,w.alloc (.cells #[.slice ax M cp,.int .i64 s] 93)=W0:=⟨_,rfl⟩;have r0_p:W0.heap[w.heap.size]?=some (.cells #[.slice ax M cp,.int .i64 s] 93):=by rw[<- hW0];exact D1 _ _
 have bb:Bw w W0:=by rw[<- hW0];exact BD _ _
 have l0_p:w.heap.size<W0.heap.size:=(G'.1 r0_p).1;have sl0_x:=h.below bb;go_enter func132,ntmps132
 go_wp2_with ((with_reducible (refine DT ?_));(refine wpList_load_row rfl 93 _ rfl w.heap.size rfl 93 _ (0,0) _ r0_p underlying93 rfl KB ?_))
 clear hW0;refine(Kc (.slice ax M cp) d s W0 sl0_x).mono ?_;rintro e w1 ⟨rfl,bw1⟩;have d1:=bb.trans (bw1.mono bb.size);have rw1_p:=(bw1.block _ l0_p).trans r0_p;have lw1_p:=Z' l0_p bw1.size;have sl1_x:=sl0_x.below bw1;clear l0_p r0_p sl0_x;clear bw1;by_cases h1:CR d s
 .rw[I' h1];have hM1:M<=100000:=by rw[<- HM.out];exact h1.1
  have d9:=d1;by_cases h2:100000<M+k
  .have h2i:(100000:Int)<(M:Int)+(k:Int):=by omega
   have HE:Hid (Je d s k=8):=by unfold Hid Je;rw[if_neg (λg=>g h1),HM.out,if_pos h2]
   clear h1 h2;have cc1_p0:w1.cell? ⟨w.heap.size,0,none⟩=some (.slice ax M cp):=cell_of_row _ _ 0 _ _ _ rw1_p;have cc1_p1:w1.cell? ⟨w.heap.size,1,none⟩=some (.int .i64 s):=cell_of_row _ _ 1 _ _ _ rw1_p;go_wp2
   go_ret;exact⟨by rw[HE.out];rfl,d9⟩
  .have h2i:¬ (100000:Int)<(M:Int)+(k:Int):=by omega
   have HE:Hid (Je d s k=0):=by unfold Hid Je;rw[if_neg (λg=>g h1),HM.out,if_neg h2]
   clear h1 h2;have cc1_p0:w1.cell? ⟨w.heap.size,0,none⟩=some (.slice ax M cp):=cell_of_row _ _ 0 _ _ _ rw1_p;have cc1_p1:w1.cell? ⟨w.heap.size,1,none⟩=some (.int .i64 s):=cell_of_row _ _ 1 _ _ _ rw1_p;go_wp2
   go_ret;exact⟨by rw[HE.out];rfl,d9⟩
 .rw[D' h1];have HE:Hid (Je d s k=5):=if_pos h1;clear h1;have d9:=d1;go_wp2
  go_ret;exact⟨by rw[HE.out];rfl,d9⟩
theorem KI(x:Value)(d:List Int)(s:Int)(v:Value)(b:List Int)(w:World)(h:Sl w x d)(hv:Sl w v b)(hb:b.length<=255)(hd:d.length<=100000)(ht:AA w) :
  Calls prog 133 #[.agg (tpA x s),v] w λe w'=>∃ y,e=.returned (.tuple #[.agg (tpA y s),.int .i64 0])/\w'.ownsRow w.heap.size 5 1 y (d++BH b).length ((d++BH b).map (Value.int .u8))/\Bw w w':=by
 have HD:Hid (∀ x∈d,0<=x/\x<256):=h.byte;have HRB:Hid (∀ x∈BH b,0<=x/\x<256):=Ku hv.byte hb;have hrl:(BH b).length<=260:=by rw[GZ];omega
 have hlen:=h.len;obtain⟨ax,cp,rfl⟩:=h.shapeT;obtain⟨M,hM⟩:∃ M,d.length=M:=⟨_,rfl⟩;have HM:Hid (d.length=M):=hM;rw[hM]at h hlen ⊢
 clear hM;simp only[tpA];rw[HM.out]at hd
 obtain⟨i0,hi0,hz0,hz1,hz2⟩:=info_parts As;obtain⟨W0,hW0⟩:∃ W0,(w.alloc (.cells #[.slice ax M cp,.int .i64 s] 93)).alloc (.cells #[.slice none 0 0,.int .i64 0] 93)=W0:=⟨_,rfl⟩;have r0_p:W0.heap[w.heap.size]?=some (.cells #[.slice ax M cp,.int .i64 s] 93):=by rw[<- hW0];exact QN _ _ _
 have r0_r:W0.heap[w.heap.size+1]?=some (.cells #[.slice none 0 0,.int .i64 0] 93):=by rw[<- hW0];exact QO _ _ _
 have bb:Bw w W0:=by rw[<- hW0];exact T6 _ _ _
 have l0_p:w.heap.size<W0.heap.size:=(G'.1 r0_p).1;have l0_r:(w.heap.size+1)<W0.heap.size:=(G'.1 r0_r).1;have t0_0:=ht.below bb;have sl0_x:=h.below bb;have sl0_v:=hv.below bb;go_enter func133,ntmps133
 go_wp2_with fail
 clear hW0;refine(MD v b W0 sl0_v hb t0_0).mono ?_;rintro e w1 ⟨y,rfl,oy,bw1⟩;obtain⟨R,hR⟩:∃ R,BH b=R:=⟨_,rfl⟩;rw[hR]at oy hrl HRB
 have HR:Hid (BH b=R):=hR;clear hR;have sy:=Sl.ofOwns oy (by omega) HRB.out;obtain⟨N,hN⟩:∃ N,R.length=N:=⟨_,rfl⟩;have HN:Hid (R.length=N):=hN;rw[hN]at oy hrl
 clear hN;obtain⟨ay,cy,rfl⟩:=DG oy;have d1:=bb.trans (bw1.mono bb.size);have tt1_0:=t0_0.below bw1;have rw1_p:=(bw1.block _ l0_p).trans r0_p;have lw1_p:=Z' l0_p bw1.size;have rw1_r:=(bw1.block _ l0_r).trans r0_r;have lw1_r:=Z' l0_r bw1.size;have sl1_x:=sl0_x.below bw1;have sl1_v:=sl0_v.below bw1;clear t0_0 l0_p r0_p l0_r r0_r sl0_x sl0_v;clear bw1;clear oy;have sy1:=sy;have hRB:w.heap.size+1<w1.heap.size:=lw1_r;have cc1_p0:w1.cell? ⟨w.heap.size,0,none⟩=some (.slice ax M cp):=cell_of_row _ _ 0 _ _ _ rw1_p;go_wp2_with (at_make;refine wpList_make_own _ rfl _ _ 25 rfl w1.heap.size 5 i0 (.int .u8 0) 1 underlying25 hi0 hz0 hz1 _ _ _ (M+N) rfl rfl (by omega) (by rw[hz2];omega) (by unfold maxLen;omega) (A' _) ?_)
 intro w2 o2 g2;have b2:Bw w1 w2:=(Below.refl _ _).grown g2 (A' _) (λk hk=>by cases hk);clear g2 cc1_p0;have z12:=b2.size;have b12:=b2;have d2:=d1.trans (b2.mono d1.size);have tt2_0:=tt1_0.below b2;have rw2_p:=(b2.block _ lw1_p).trans rw1_p;have lw2_p:=Z' lw1_p b2.size;have rw2_r:=(b2.block _ lw1_r).trans rw1_r;have lw2_r:=Z' lw1_r b2.size;have sl2_x:=sl1_x.below b2;have sl2_v:=sl1_v.below b2;clear tt1_0 lw1_p rw1_p lw1_r rw1_r sl1_x sl1_v;clear b2;have HO2:Hid (w2.ownsRow w1.heap.size 5 1 (.slice (some ⟨w1.heap.size,0,none⟩) 0 (M+N)) ([]:List Int).length (([]:List Int).map (Value.int .u8))):=o2;have hlt2:=o2.lt;have hll:([]:List Int).length+d.length<=140737488355328:=by rw[HM.out];simp;omega
 clear o2;have cc2_p0:w2.cell? ⟨w.heap.size,0,none⟩=some (.slice ax M cp):=cell_of_row _ _ 0 _ _ _ rw2_p;go_wp2_with (at_builtin;refine Aa _ rfl _ _ 25 rfl w1.heap.size 5 underlying25 As _ _ rfl rfl [] d HO2.out sl2_x hll (by omega) ?_)
 intro v3 w3 o3 g3;have b3:Below w1.heap.size w2 w3:=(Below.refl _ _).grown g3 (by omega) (λk hk=>(hlt2 k hk).1);have HO3:Hid (w3.ownsRow w1.heap.size 5 1 v3 d.length (d.map (Value.int .u8))):=by unfold Hid;simpa using o3
 have z23:=b3.size;have sy3:Sl w3 (.slice ay N cy) R:=sy1.below (show Bw w1 w3 from b12.trans b3);have rp3:=(b3.block w.heap.size (by omega)).trans rw2_p;have rr3:=(b3.block (w.heap.size+1) hRB).trans rw2_r;have d3:=d2.trans (b3.mono (show w.heap.size<=w1.heap.size by omega));have lr3:w.heap.size+1<w3.heap.size:=by omega
 have z13:w1.heap.size<=w3.heap.size:=by omega
 obtain⟨a3,c3,h3⟩:=DG HO3.out;rw[HM.out]at h3
 subst h3;have c1:w3.cell? ⟨w.heap.size,1,none⟩=some (.int .i64 s):=cell_of_row _ _ 1 _ _ _ rp3;obtain⟨T,hT⟩:∃ T,M+N=T:=⟨_,rfl⟩;have HT:Hid (M+N=T):=hT;clear hT;clear o3 g3 b3 hlt2 HO2 sl2_x cc2_p0;go_wp2_with fail
 apply WI (λg c Wz=>Wz.heap[w.heap.size+1]?=some (.cells #[.slice g T c,.int .i64 s] 93)/\Wz.ownsRow w1.heap.size 5 1 (.slice g T c) T ((d++R).map (Value.int .u8))/\Below (w.heap.size+1) w3 Wz)
 .intro K2 HK2;have ed0:Bw w3 w3.drew:=(Below.refl _ _).drew;refine wp_region_held (S:=λw'=>Below (w.heap.size+1) w3 w') (by kernel_rfl) ?_;have hS0:(λw'=>Below (w.heap.size+1) w3 w') w3.drew:=ed0.mono (ie lr3);refine Af (i:=0) 29 (v:=.slice a3 M c3) rfl rfl (by kernel_rfl) (by kernel_rfl) (by kernel_rfl) (λ_ _ _ h=>h) (ig ⟨by rfl,λ_ _=>by kernel_rfl⟩) hS0 ?_;simp only[Act.put,M',X',fu];refine Af (i:=1) 30 (v:=.slice ay N cy) rfl rfl (by kernel_rfl) (by kernel_rfl) (by kernel_rfl) (λ_ _ _ h=>h) (ig ⟨by rfl,λ_ _=>by kernel_rfl⟩) hS0 ?_;simp only[Act.put,M',X',fu];refine Af (i:=3) 32 (v:=.pointer (some ⟨w.heap.size,1,none⟩)) rfl rfl (by kernel_rfl) (by kernel_rfl) (by kernel_rfl) (λ_ _ _ h=>h) (ig ⟨by rfl,λ_ _=>by kernel_rfl⟩) hS0 ?_;simp only[Act.put,M',X',fu];refine Af (i:=4) 33 (v:=.int .i64 s) rfl rfl (by kernel_rfl) (by kernel_rfl) (by kernel_rfl) (λ_ _ _ h=>h) (FE (by rfl) 3 (.tmp 32) rfl _ underlying3 rfl ⟨w.heap.size,1,none⟩ rfl (.int .i64 s) (λw' hw'=>(hw'.cell (p:=⟨w.heap.size,1,none⟩) (show w.heap.size<w.heap.size+1 by omega)).trans c1)) hS0 ?_;simp only[Act.put,M',X',fu];have od:w3.drew.ownsRow w1.heap.size 5 1 (.slice a3 M c3) d.length (d.map (Value.int .u8)):=CL HO3.out (λk hk=>ed0.block k (HO3.out.lt k hk).2);have rd:=(ed0.block (w.heap.size+1) lr3).trans rr3;have hlt:=od.lt;have hlen2:d.length+R.length<=140737488355328:=by rw[HM.out,HN.out];omega
  refine Bz (i:=2) (by kernel_rfl) (Ta (i:=2) (d:=31) rfl (by kernel_rfl) rfl (.tmp 29) (.tmp 30) 25 rfl w1.heap.size 5 underlying25 As (.slice a3 M c3) (.slice ay N cy) (by kernel_rfl) (by kernel_rfl) d R od (sy3.below ed0) hlen2 (fy z13 ed0.size) ?_);intro v4 w4 o4 g4;have b4:Below (w.heap.size+1) w3 w4:=(ed0.mono (ie lr3)).grown g4 (fy (ie lr3) ed0.size) (λk hk=>fy (ie hRB) (hlt k hk).1);have r4:w4.heap[w.heap.size+1]?=some (.cells #[.slice none 0 0,.int .i64 0] 93):=(g4.block (w.heap.size+1) (Z' lr3 ed0.size) (λe=>K7 od rd (by decide) _ e.symm rfl)).trans rd;have hTT:(d++R).length=T:=by rw[N',HM.out,HN.out];exact HT.out
  rw[hTT]at o4
  obtain⟨a4,c4,h4⟩:=DG o4;subst h4;refine⟨b4,?_⟩;simp only[Act.put,M',X',fu];refine Af (i:=5) 34 (v:=.agg #[.slice a4 T c4,.int .i64 s]) rfl rfl (by kernel_rfl) (by kernel_rfl) (by kernel_rfl) (λ_ _ _ h=>h) (ig ⟨by rfl,λ_ _=>by kernel_rfl⟩) b4 ?_;simp only[Act.put,M',X',fu];have hone:=WR a4 T c4 s;have e7:Below (w.heap.size+1) w3 (w4.setRow (w.heap.size+1) #[.slice a4 T c4,.int .i64 s]):=Ci b4 (A' _) _;have q7:=setRow_heap w4 (w.heap.size+1) _ (#[.slice a4 T c4,.int .i64 s]) 93 _ r4;have o7:=T4 o4 r4 (by decide) (#[.slice a4 T c4,.int .i64 s]);refine Bz (i:=6) (by kernel_rfl) (GP (i:=6) rfl (by kernel_rfl) rfl 93 (.tmp 4) (.tmp 34) rfl (w.heap.size+1) #[.slice a4 T c4,.int .i64 s] (by kernel_rfl) (by kernel_rfl) 93 _ r4 KB rfl hone ⟨e7,?_⟩);refine Af (i:=7) 5 (v:=.int .i64 0) rfl rfl (by kernel_rfl) (by kernel_rfl) (by kernel_rfl) (λ_ _ _ h=>h) (ig ⟨by rfl,λ_ _=>by kernel_rfl⟩) e7 ?_;simp only[Act.put,M',X',fu];exact wpAnyH_done (by kernel_rfl) (HK2.out a4 c4 _ ⟨q7,o7,e7⟩) _
 rintro g c Wz ⟨qR,oR,eR⟩;have dR:=d3.trans (eR.mono (by omega));have HTL:Hid ((d++BH b).length=T):=by unfold Hid;rw[HR.out,N',HM.out,HN.out];exact HT.out
 clear rp3 rr3 c1 HO3;go_wp2
 refine bodyPost_ret (RI rfl _ _ (w.heap.size+1) 93 _ (0,0) _ rfl qR underlying93 rfl KB) rfl ?_;rw[HTL.out,HR.out];exact⟨_,rfl,ED oR (by omega),dR⟩
theorem MJ(b:Bal)(hb:Ad b)(w:World) :
  Calls prog 134 #[.agg (baA b)] w λe w'=>∃ y,e=.returned y/\w'.ownsRow w.heap.size 5 1 y 9 ((BA b).map (Value.int .u8))/\Bw w w':=by
 obtain⟨br,bn⟩:=b;have hb':=hb;unfold Ad at hb';simp only at hb';have HB:Hid (Ad ⟨br,bn⟩):=hb;clear hb;simp only[baA];obtain⟨W0,hW0⟩:∃ W0,w.alloc (.cells #[.int .i64 br,.int .i64 bn] 73)=W0:=⟨_,rfl⟩;have r0_p:W0.heap[w.heap.size]?=some (.cells #[.int .i64 br,.int .i64 bn] 73):=by rw[<- hW0];exact D1 _ _
 have bb:Bw w W0:=by rw[<- hW0];exact BD _ _
 have l0_p:w.heap.size<W0.heap.size:=(G'.1 r0_p).1;obtain⟨W1,hW1⟩:∃ W1,W0.alloc (.cells #[.int .u8 1] 5)=W1:=⟨_,rfl⟩;have b1:Bw W0 W1:=by rw[<- hW1];exact BD _ _
 have o1:W1.ownsRow W0.heap.size 5 1 (.slice (some ⟨W0.heap.size,0,none⟩) 1 1) [(1:Int)].length ([(1:Int)].map (Value.int .u8)):=by rw[<- hW1];exact In W0 1 1 5 rfl (A' _) rfl
 have d1:=bb.trans (b1.mono bb.size);have rw1_p:=(b1.block _ l0_p).trans r0_p;have lw1_p:=Z' l0_p b1.size;clear l0_p r0_p;have cc1_p0:W1.cell? ⟨w.heap.size,0,none⟩=some (.int .i64 br):=cell_of_row _ _ 0 _ _ _ rw1_p;have cc1_p1:W1.cell? ⟨w.heap.size,1,none⟩=some (.int .i64 bn):=cell_of_row _ _ 1 _ _ _ rw1_p;obtain⟨W2,hW2⟩:∃ W2,W1.alloc (.cells #[.int .i64 br,.int .i64 bn] 3)=W2:=⟨_,rfl⟩;have b2:Bw W1 W2:=by rw[<- hW2];exact BD _ _
 have rn:W2.heap[W1.heap.size]?=some (.cells ([br,bn].map (Value.int .i64)).toArray 3):=by rw[<- hW2];exact heap_alloc_new _ _
 have z1:W0.heap.size<=W2.heap.size:=fy b1.size b2.size;have d2:=d1.trans (b2.mono d1.size);have rw2_p:=(b2.block _ lw1_p).trans rw1_p;have lw2_p:=Z' lw1_p b2.size;have ow2_o:=CL o1 (λk hk=>b2.block k (o1.lt k hk).2);clear lw1_p rw1_p o1;go_enter func134,ntmps134
 go_wp2_with fail
 clear hW0 hW1 hW2 cc1_p0 cc1_p1;refine(Fi (.slice (some ⟨W0.heap.size,0,none⟩) 1 1) [1] [br,bn] W0.heap.size W1.heap.size W2 ow2_o z1 (by simp) (by simp) (by intro x hx;simp at hx;omega) rn).mono ?_;rintro e w3 ⟨v3,rfl,o3,b3⟩;have d3:=d2.trans (b3.mono bb.size);have HO:Hid (w3.ownsRow w.heap.size 5 1 v3 9 ((BA ⟨br,bn⟩).map (Value.int .u8))):=ED o3 bb.size;clear o3 b3 rn ow2_o;go_wp2
 go_ret;exact⟨_,rfl,HO.out,d3⟩
theorem ML(v:Vt)(hv:Am v)(x:Value)(w:World)(hx:Sl w x (H7 v.w.k v.w.c v.w.s v.w.n v.w.v)) :
  Calls prog 154 #[.agg (vtA v),x] w λe w'=>∃ y,e=.returned y/\w'.ownsRow w.heap.size 5 1 y 33 ((B1 v).map (Value.int .u8))/\Bw w w':=by
 obtain⟨vs,⟨vr,vn⟩,⟨vk,vc,vq,vm,vx⟩⟩:=v;have hv':=hv;unfold Am Ad at hv';simp only at hv' hx;obtain⟨hv1,hv2,-⟩:=hv';clear hv;simp only[vtA,vtC];obtain⟨W0,hW0⟩:∃ W0,w.alloc (.cells #[.int .i64 vs,.int .i64 vr,.int .i64 vn,.int .i64 vk,.int .i64 vc,.int .i64 vq,.int .i64 vm,.int .i64 vx] 138)=W0:=⟨_,rfl⟩;have r0_p:W0.heap[w.heap.size]?=some (.cells #[.int .i64 vs,.int .i64 vr,.int .i64 vn,.int .i64 vk,.int .i64 vc,.int .i64 vq,.int .i64 vm,.int .i64 vx] 138):=by rw[<- hW0];exact D1 _ _
 have bb:Bw w W0:=by rw[<- hW0];exact BD _ _
 have l0_p:w.heap.size<W0.heap.size:=(G'.1 r0_p).1;have sl0_x:=hx.below bb;obtain⟨W1,hW1⟩:∃ W1,W0.alloc (.cells #[.int .u8 2] 5)=W1:=⟨_,rfl⟩;have b1:Bw W0 W1:=by rw[<- hW1];exact BD _ _
 have o1:W1.ownsRow W0.heap.size 5 1 (.slice (some ⟨W0.heap.size,0,none⟩) 1 1) [(2:Int)].length ([(2:Int)].map (Value.int .u8)):=by rw[<- hW1];exact In W0 2 2 5 rfl (A' _) rfl
 have d1:=bb.trans (b1.mono bb.size);have rw1_p:=(b1.block _ l0_p).trans r0_p;have lw1_p:=Z' l0_p b1.size;have sl1_x:=sl0_x.below b1;clear l0_p r0_p sl0_x;have cc1_p0:W1.cell? ⟨w.heap.size,0,none⟩=some (.int .i64 vs):=cell_of_row _ _ 0 _ _ _ rw1_p;have cc1_p1:W1.cell? ⟨w.heap.size,1,none⟩=some (.int .i64 vr):=cell_of_row _ _ 1 _ _ _ rw1_p;have cc1_p2:W1.cell? ⟨w.heap.size,2,none⟩=some (.int .i64 vn):=cell_of_row _ _ 2 _ _ _ rw1_p;obtain⟨W2,hW2⟩:∃ W2,W1.alloc (.cells #[.int .i64 vs,.int .i64 vr,.int .i64 vn] 3)=W2:=⟨_,rfl⟩;have b2:Bw W1 W2:=by rw[<- hW2];exact BD _ _
 have rn:W2.heap[W1.heap.size]?=some (.cells ([vs,vr,vn].map (Value.int .i64)).toArray 3):=by rw[<- hW2];exact heap_alloc_new _ _
 have z1:W0.heap.size<=W2.heap.size:=fy b1.size b2.size;have d2:=d1.trans (b2.mono d1.size);have rw2_p:=(b2.block _ lw1_p).trans rw1_p;have lw2_p:=Z' lw1_p b2.size;have sl2_x:=sl1_x.below b2;have ow2_o:=CL o1 (λk hk=>b2.block k (o1.lt k hk).2);clear lw1_p rw1_p sl1_x o1;go_enter func154,ntmps154
 go_wp2_with fail
 clear hW0 hW1 hW2 cc1_p0 cc1_p1 cc1_p2;refine(Fi (.slice (some ⟨W0.heap.size,0,none⟩) 1 1) [2] [vs,vr,vn] W0.heap.size W1.heap.size W2 ow2_o z1 (by simp) (by simp) (by intro x hx;simp at hx;omega) rn).mono ?_;rintro e w3 ⟨v3,rfl,o3,b3⟩;have d3:=d2.trans (b3.mono bb.size);have sx3:=hx.below d3;have z3:W0.heap.size<=w3.heap.size:=fy z1 b3.size;have hlt:=o3.lt;have HB:Hid ([2]++Cn [vs,vr,vn]++H7 vk vc vq vm vx=B1 ⟨vs,⟨vr,vn⟩,⟨vk,vc,vq,vm,vx⟩⟩):=rfl;have hll:([(2:Int)]++Cn [vs,vr,vn]).length+(H7 vk vc vq vm vx).length<=140737488355328:=by show 33<=_;decide
 generalize hL:[(2:Int)]++Cn [vs,vr,vn]=L at o3 HB hll;generalize hC:H7 vk vc vq vm vx=C at sx3 HB hll;clear hL hC rn b3 ow2_o;go_wp2_with (at_builtin;refine Aa _ rfl _ _ 25 rfl W0.heap.size 5 underlying25 As _ _ rfl rfl L C o3 sx3 hll z3 ?_)
 intro v4 w4 o4 g4;have d4:Bw w w4:=d3.grown g4 (fy bb.size z3) (λk hk=>fy bb.size (hlt k hk).1);have HO:Hid (w4.ownsRow w.heap.size 5 1 v4 33 ((B1 ⟨vs,⟨vr,vn⟩,⟨vk,vc,vq,vm,vx⟩⟩).map (Value.int .u8))):=by
  have o4b:w4.ownsRow W0.heap.size 5 1 v4 (L++C).length ((L++C).map (Value.int .u8)):=by simpa using o4
  have:=ED o4b bb.size;rw[HB.out]at this
  exact this
 clear o4 g4 o3 hlt HB;go_wp2
 go_ret;exact⟨_,rfl,HO.out,d4⟩
end Go.Proofs.YtalbmmghmoggcabGreatDoor
