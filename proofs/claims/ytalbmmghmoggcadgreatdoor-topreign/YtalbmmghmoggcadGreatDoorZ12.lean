/- Part 12 of the walk. -/
import Derived.Deep.RegionWith
import Derived.Lib.SlBytesRow
import Derived.Lib.SmallJoins
import Derived.Test.YtalbmmghmoggcadGreatDoorZ5
set_option maxRecDepth 100000
set_option maxHeartbeats 4000000
open Go.Proofs.Tryz
namespace Go.Proofs.YtalbmmghmoggcadGreatDoor
open Go.RowKit
section
def lenOf:Value->Nat
 | .slice _ n _=>n
 | _=>0
variable{b cap g n off:Nat}{l:List Int}{v:Value}{w w':World}
theorem RQ{base e:Nat}{xs:List Value}(h:w.ownsRow base e 1 v n xs):lenOf v=n:=by
 rcases h.2 with⟨rfl,rfl⟩|⟨g,cap,cur,rfl,_⟩<;>rfl
theorem RU(v:Value)(l:List Int)(w:World)(h:Sl w v l)(hl:l.length<=100000) :
  Calls prog 98 #[v] w λe w'=>∃ v',e=.returned v'/\w'.ownsRow w.heap.size 5 1 v' (pad l).length ((pad l).map (Value.int .u8))/\Bw w w':=by
 have hs:=h;obtain⟨⟨a,cap,rfl,hc,hn,h1⟩,hla,hba⟩:=h;clear h1 hn hba;obtain⟨i0,hi,hz0,hz1,hz2⟩:=info_parts At;go_enter func98,ntmps98
 go_wp2_with (at_make;refine wpList_make_own _ rfl _ _ 28 rfl w.heap.size 5 i0 (.int .u8 0) 1 underlying28 hi hz0 hz1 _ _ _ (l.length+128) rfl rfl (by omega) (by rw[hz2];omega) (by unfold maxLen;omega) (A' _) ?_)
 intro w1 ho1 hg1;have hb1:Bw w w1:=(Below.refl _ _).grown hg1 (A' _) (by simp);have ho1':w1.ownsRow w.heap.size 5 1 (.slice (some ⟨w.heap.size,0,none⟩) 0 (l.length+128)) ([]:List Int).length (([]:List Int).map (Value.int .u8)):=ho1;clear ho1 hg1;go_wp2_with (at_builtin;refine Aa _ rfl _ _ 28 rfl w.heap.size 5 underlying28 At _ _ rfl rfl [] l ho1' (hs.below hb1) (by simp;omega) hb1.size ?_)
 intro v2 w2 ho2 hg2;have ho2':w2.ownsRow w.heap.size 5 1 v2 l.length (l.map (Value.int .u8)):=by simpa using ho2
 have hb2:Bw w w2:=hb1.grown hg2 hb1.size (by simp[Value.ownBlock]);have hlt2:=ho2'.lt;clear ho1' hg2 hb1 ho2;go_wp2_with (at_builtin;refine Aa _ rfl _ _ 28 rfl w.heap.size 5 underlying28 At _ _ rfl rfl l [128] (ho2'.alloc _) (Sl.one _ _ _ rfl (by omega)) (by simp;omega) (by have:=hb2.size;simp;omega) ?_)
 intro v3 w3 ho3 hg3;have ho3':w3.ownsRow w.heap.size 5 1 v3 (Cz l 0).length ((Cz l 0).map (Value.int .u8)):=by simpa[Cz]using ho3
 have hb3:Bw w w3:=(hb2.alloc hb2.size _).grown hg3 (by have:=hb2.size;simp;omega) (λk hk=>(hlt2 k hk).1);clear ho3 hg3 hb2 hlt2 ho2';go_wp2
 go_loopw [3] (λv wr=>∃ j:Nat,j<=EE l.length/\wr.ownsRow w.heap.size 5 1 v (Cz l j).length ((Cz l j).map (Value.int .u8))/\Bw w wr) (λv _=>EE l.length+l.length+1-lenOf v)
 case atStart=>exact⟨0,jf _,ho3',hb3⟩
 case round =>
  clear ho3' hb3;obtain⟨j,hj,hown,hb⟩:=hrel;obtain⟨g,cp,hv,hgB,hgs,hcp,hcell,hfr⟩:=DJ hown (by simp[Cz]);rw[CQ]at hv
  subst hv;clear hcell hfr hcp;have hz:EE l.length<=63:=by unfold EE;omega
  have hlt:=hown.lt;by_cases hjz:j<EE l.length
  .have hne:¬ ((l.length+1+j)%64=56):=by unfold EE at hjz;omega
   go_wp2_with (at_builtin;refine Aa _ rfl _ _ 28 rfl w.heap.size 5 underlying28 At _ _ rfl rfl (Cz l j) [0] (hown.alloc _) (Sl.one _ _ _ rfl (by omega)) (by rw[CQ];simp;omega) (by have:=hb.size;simp;omega) ?_)
   intro v4 w4 ho4 hg4;have ho4':w4.ownsRow w.heap.size 5 1 v4 (Cz l (j+1)).length ((Cz l (j+1)).map (Value.int .u8)):=by rw[<- RS];simpa using ho4
   have hb4:Bw w w4:=(hb.alloc hb.size _).grown hg4 (by have:=hb.size;simp;omega) (λk hk=>(hlt k hk).1);have hl4:=RQ ho4';rw[CQ]at hl4
   have HL:Hid (lenOf v4=l.length+1+(j+1)):=hl4;clear hl4 ho4 hg4 hown hlt hb;go_wp2
   go_roundw
   case rel=>exact⟨j+1,hjz,ho4',hb4⟩
   case measure =>
    have hl4:=HL.out;show EE l.length+l.length+1-lenOf v4<EE l.length+l.length+1-(l.length+1+j);rw[hl4];omega
  .have heq:(l.length+1+j)%64=56:=by unfold EE at hjz hj;omega
   have H56:Hid ((l.length+1+j)%64=56):=heq;have h56:(((l.length:Int)+1+j)%64 != 56)=false:=by simp;omega
   have ejz:j=EE l.length:=by omega
   have EJ:Hid (j=EE l.length):=ejz;clear heq ejz;go_wp2_with fail
   go_loopw [3,5] (λv s wr=>∃ k:Nat,k<=8/\s=.int .i64 (56-8*(k:Int))/\wr.ownsRow w.heap.size 5 1 v (Cz l j++(Cx l.length).take k).length ((Cz l j++(Cx l.length).take k).map (Value.int .u8))/\Bw w wr) (λ_ s _=>(intOf s+8).toNat)
   case atStart=>exact⟨0,by omega,rfl,by simpa using hown,hb⟩
   case round =>
    clear hown hb hlt hgs;obtain⟨k,hk,rfl,hown,hb⟩:=hrel;have hlt:=hown.lt;by_cases hk8:k<8
    .go_wp2_with (at_builtin;refine Aa _ rfl _ _ 28 rfl w.heap.size 5 underlying28 At _ _ rfl rfl _ _ (hown.alloc _) (Sl.one _ _ _ rfl ?_) (by rw[G',CQ,iO];simp;omega) (by have:=hb.size;simp;omega) ?_)
     .omega
     intro v5 w5 ho5 hg5;have ho5':w5.ownsRow w.heap.size 5 1 v5 (Cz l j++(Cx l.length).take (k+1)).length ((Cz l j++(Cx l.length).take (k+1)).map (Value.int .u8)):=by
      rw[Mm _ _ hk8];simpa using ho5
     have hb5:Bw w w5:=(hb.alloc hb.size _).grown hg5 (by have:=hb.size;simp;omega) (λk hk=>(hlt k hk).1);clear ho5 hg5 hown hlt hb;go_wp2
     go_roundw
     case rel=>exact⟨k+1,by omega,by go_num,ho5',hb5⟩
     case measure=>simp[intOf];omega
    .obtain rfl:k=8:=by omega
     go_wp2
     go_ret;refine⟨u3,rfl,?_,hb⟩;unfold pad;rw[<- EJ.out];exact hown
theorem Q4(s:St)(w:World) :
  Calls prog 101 #[.agg s.cells] w λe w'=>∃ v',e=.returned v'/\w'.ownsRow w.heap.size 5 1 v' (NK s).length ((NK s).map (Value.int .u8))/\Bw w w':=by
 obtain⟨i0,hi,hz0,hz1,hz2⟩:=info_parts At;unfold St.cells;go_enter func101,ntmps101
 go_wp2_with (at_make;refine wpList_make_own _ rfl _ _ 28 rfl w.heap.size 5 i0 (.int .u8 0) 1 underlying28 hi hz0 hz1 _ _ _ 32 rfl rfl (by omega) (by rw[hz2];omega) (by unfold maxLen;omega) (by simp) ?_)
 intro w1 ho1 hg1;have hb1:Bw w w1:=((Below.refl _ _).alloc (A' _) _).grown hg1 (by simp) (by simp);have hrow:w1.heap[w.heap.size]?=some (.cells #[.int .u32 (uw s.a),.int .u32 (uw s.b),.int .u32 (uw s.c),.int .u32 (uw s.d),.int .u32 (uw s.e),.int .u32 (uw s.f),.int .u32 (uw s.g),.int .u32 (uw s.h)] 177 (0,0)):=by
  rw[hg1.block w.heap.size (by simp) (by simp)];exact heap_alloc_new _ _
 have ho1':w1.ownsRow w.heap.size 5 1 (.slice (some ⟨w.heap.size+1,0,none⟩) 0 32) (Cr (s.list.take 0)).length ((Cr (s.list.take 0)).map (Value.int .u8)):=ho1;clear ho1 hg1;go_wp2_with (refine wpList_load_row rfl 177 _ rfl w.heap.size rfl 177 _ (0,0) _ hrow underlying177 rfl (by kernel_rfl) ?_)
 go_loopw [3,8] (λv i wr=>∃ k:Nat,k<=8/\i=.int .i64 k/\wr.ownsRow w.heap.size 5 1 v (Cr (s.list.take k)).length ((Cr (s.list.take k)).map (Value.int .u8))/\Bw w wr) (λ_ i _=>8-(intOf i).toNat)
 case atStart=>exact⟨0,by omega,rfl,ho1',hb1⟩
 case round =>
  clear ho1' hb1 hrow;obtain⟨k,hk,rfl,hown,hb⟩:=hrel;have hlt:=hown.lt;by_cases hk8:k<8
  .have hix:=WW s k hk8;have hlen:=Gz (s.list.take k);have HT:Hid (s.list.take (k+1)=s.list.take k++[s.list.getD k 0#32]):=by
    unfold Hid;rw[iW (by simpa[St.list]using hk8)];simp[List.getD,List.getElem?_eq_getElem (show k<s.list.length by simpa[St.list]using hk8)]
   have hkl:(s.list.take k).length<=8:=by rw[iO];omega
   generalize s.list.take k=pre at hown hlen HT hkl;generalize s.list.getD k 0#32=x at hix HT;have nx:=Dx x;go_wp2_with (at_builtin;refine Aa _ rfl _ _ 28 rfl w.heap.size 5 underlying28 At _ _ rfl rfl (Cr pre) (EI x) (hown.alloc _) ?_ (by rw[hlen];simp[EI];omega) (by have:=hb.size;simp;omega) ?_)
   .exact Sl.built wr (EI x) 5 rfl (by simp[EI]) (Jg x)
   intro v' w' ho hg;have ho':w'.ownsRow w.heap.size 5 1 v' (Cr (pre++[x])).length ((Cr (pre++[x])).map (Value.int .u8)):=by
    rw[OM];simpa[Gz]using ho
   have hb':Bw w w':=(hb.alloc hb.size _).grown hg (by have:=hb.size;simp;omega) (λk hk=>(hlt k hk).1);clear ho hg hown hlt hb;go_wp2
   go_roundw
   case rel=>exact⟨k+1,by omega,by go_num,by rw[HT.out];exact ho',hb'⟩
   case measure=>simp[intOf];omega
  .have HK:Hid (k=8):=by unfold Hid;omega
   go_wp2
   go_ret;refine⟨u3,rfl,?_,hb⟩;rw[HK.out]at hown
   exact hown
theorem gJ(w:World):(Go.sizeOf 5).run prog w=.ok 1 w:=by
 obtain⟨i,hi,_,hsz,_⟩:=info_parts At;simp[sizeOf,typeInfo,hi,hsz]
theorem bE(g n cp k:Nat)(hk:64*k+64<=64*n)(hcp:64*n<=cp):∀ W,(Instr.slice 28 (.slice (some ⟨g,0,none⟩) (64*n) cp) (some (.int .i64 (64*(k:Int)))) (some (.int .i64 (64*(k:Int)+64))) none).run prog W=.ok (.slice (some ⟨g,64*k,none⟩) 64 (cp-64*k)) W:=by
 intro W;have:=Lib.run_slice_window (P:=prog) W 28 5 underlying28 gJ g 0 (64*n) cp (64*k) (64*k+64) (by omega) (by omega);rw[show 64*k+64-64*k=64 by omega,jm]at this
 rw[<- this];rfl
theorem eS{old:Array Value}(s:St)(hg:w.heap[g]?=some (.cells old 177 (0,0)))(ho:old.size=8):(storeCells ⟨g,0,none⟩ s.cells.toList).run prog w=.ok () (w.setRow g s.cells):=by
 have:=run_storeCells_from (P:=prog) g 177 s.cells.toList 0 old w hg (by simp[St.cells];omega) (λv hv=>by simp[St.cells]at hv;rcases hv with rfl|rfl|rfl|rfl|rfl|rfl|rfl|rfl<;>rfl);simpa using this
theorem Sl.setRowNe(h:Sl w (.slice (some ⟨b,off,none⟩) n cap) l)(hg:g<b)(cs:Array Value):Sl (w.setRow g cs) (.slice (some ⟨b,off,none⟩) n cap) l:=by
 obtain⟨⟨a,cap',e,hc,hn,h1⟩,h2,h3⟩:=h;refine⟨⟨a,cap',e,hc,hn,?_⟩,h2,h3⟩;simp only[Value.slice.injEq]at e;obtain⟨rfl,_,_⟩:=e;rcases h1 with h1|⟨b',off',e',hbs,hcell⟩
 .exact .inl h1
 .simp only[X',Addr.mk.injEq,and_true]at e';obtain⟨rfl,rfl⟩:=e';refine .inr ⟨b,off,rfl,by simpa using hbs,λi hi=>?_⟩;rw[<- hcell i hi];exact World.cell?_of_block (w:=w) (setRow_other w g b cs (by omega))
theorem dq(l:List Int)(k:Nat)(hk:64*k+64<=l.length):((l.drop (64*k)).take 64).length=64:=by
 rw[iO,iQ];omega
theorem EN(v:Value)(l:List Int)(w:World)(h:Sl w v l)(hl:l.length<=100000)(ht:AE w) :
  Calls prog 60 #[v] w λe w'=>∃ v',e=.returned v'/\w'.ownsRow w.heap.size 5 1 v' (dig l).length ((dig l).map (Value.int .u8))/\Bw w w':=by
 go_enter func60,ntmps60
 go_wp2_with fail
 generalize hW0:w.alloc _=W0;have hb0:Bw w W0:=by rw[<- hW0];exact(Below.refl _ _).alloc (A' _) _
 have hr0:W0.heap[w.heap.size]?=some (.cells (Av start.list) 177 (0,0)):=by rw[<- hW0];exact heap_alloc_new _ _
 have hs0:W0.heap.size=w.heap.size+1:=by rw[<- hW0];simp
 clear hW0;refine(RU v l W0 (h.below hb0) hl).mono ?_;rintro e w1 ⟨vp,rfl,hop,hb1⟩;have hp:=RT l;have hpb:=XM h.byte;have sp:Sl w1 vp (pad l):=Sl.ofOwns hop (by omega) hpb;obtain⟨g,cp,hv,hgB,hgs,hcp,_,_⟩:=DJ hop (by intro e;rw[e]at hp;simp at hp);subst hv;have hB1:Bw w w1:=hb0.trans (hb1.mono hb0.size);have hr1:w1.heap[w.heap.size]?=some (.cells (Av start.list) 177 (0,0)):=(hb1.block _ (by omega)).trans hr0;have HD:Hid (dig l=NK (NT (pad l) ((pad l).length/64))):=rfl;have hgne:w.heap.size<g:=by omega
 clear hb0 hr0 hop hb1 hgB hgs hs0;generalize pad l=p at HD sp hp hpb hcp ⊢;obtain⟨n,hn⟩:∃ n,p.length=64*n:=⟨p.length/64,by omega⟩;have HN:Hid (p.length/64=n):=by unfold Hid;omega
 rw[HN.out]at HD
 rw[hn]at sp hcp ⊢
 have hpn:n<=2000:=by omega
 have HP:Hid (p.length=64*n):=hn;clear hn hp;go_wp2_with fail
 go_loopw [5] (λi wr=>∃ k:Nat,k<=n/\i=.int .i64 (64*(k:Int))/\wr.heap[w.heap.size]?=some (.cells (Av (NT p k).list) 177 (0,0))/\Sl wr (.slice (some ⟨g,0,none⟩) (64*n) cp) p/\Bw w wr) (λi _=>64*n-(intOf i).toNat)
 case atStart=>exact⟨0,by omega,rfl,hr1,sp,hB1⟩
 case round =>
  clear hr1 sp hB1;obtain⟨k,hk,rfl,hrow,sp,hb⟩:=hrel;by_cases hkn:k<n
  .have hblk:=dq p k (by rw[HP.out];omega);have HS:Hid (NT p (k+1)=X1 (NT p k) (Ns ((p.drop (64*k)).take 64))):=rfl;have ssl:Sl wr (.slice (some ⟨g,64*k,none⟩) 64 (cp-64*k)) ((p.drop (64*k)).take 64):=by
    have q1:=Sl.drop (n:=64*n) (off:=0) sp (64*k) (by rw[HP.out];omega) (cp-64*k) (by rw[HP.out];omega);rw[jm]at q1
    exact q1.take 64 (by rw[iQ,HP.out];omega)
   generalize (p.drop (64*k)).take 64=bl at hblk HS ssl;generalize NT p k=S at HS hrow;have c0:=cell_of_row wr _ 0 _ _ _ hrow;have c1:=cell_of_row wr _ 1 _ _ _ hrow;have c2:=cell_of_row wr _ 2 _ _ _ hrow;have c3:=cell_of_row wr _ 3 _ _ _ hrow;have c4:=cell_of_row wr _ 4 _ _ _ hrow;have c5:=cell_of_row wr _ 5 _ _ _ hrow;have c6:=cell_of_row wr _ 6 _ _ _ hrow;have c7:=cell_of_row wr _ 7 _ _ _ hrow;simp only[Av,St.list,ji,jX,jF,jT,lz]at c0 c1 c2 c3 c4 c5 c6 c7;have hBlt:w.heap.size<wr.heap.size:=(H'.1 hrow).1;have ht1:AE wr:=ht.below hb;have hfz:∀ i,wr.frozen? ⟨w.heap.size,i,none⟩=false:=λi=>frozen_of_row wr _ i _ _ hrow;have HR:Hid _:=hrow;have HB:Hid (Bw w wr):=hb;clear hrow hb;have hw64:IntKind.i64.wrap (64*(k:Int)+64)=64*(k:Int)+64:=by simp only[IntKind.wrap,IntKind.bits,IntKind.signed];simp;omega
   have hsl:=bE g n cp k (by omega) hcp;go_wp2_with fail
   go_region_with (first
    | (go_at_call 100;refine(O0 _ bl _ (ssl.below ((Below.refl _ _).drew)) hblk).mono ?_;rintro e w2 ⟨rfl,hb2⟩;have hz2:w.heap.size<w2.heap.size:=Z' hBlt hb2.size;have d0:=(hb2.cell (p:=⟨w.heap.size,0,none⟩) hBlt).trans c0;have d1:=(hb2.cell (p:=⟨w.heap.size,1,none⟩) hBlt).trans c1;have d2:=(hb2.cell (p:=⟨w.heap.size,2,none⟩) hBlt).trans c2;have d3:=(hb2.cell (p:=⟨w.heap.size,3,none⟩) hBlt).trans c3;have d4:=(hb2.cell (p:=⟨w.heap.size,4,none⟩) hBlt).trans c4;have d5:=(hb2.cell (p:=⟨w.heap.size,5,none⟩) hBlt).trans c5;have d6:=(hb2.cell (p:=⟨w.heap.size,6,none⟩) hBlt).trans c6;have d7:=(hb2.cell (p:=⟨w.heap.size,7,none⟩) hBlt).trans c7)
    | (go_at_call 99;refine(UC S (Ns bl) _ (Oz bl) (ht1.below ((Below.refl _ _).drew.trans hb2))).mono ?_;rintro e w3 ⟨rfl,hb3⟩;have hz3:w.heap.size<w3.heap.size:=Z' hz2 hb3.size;have hst:=eS (X1 S (Ns bl)) (((hb3.block _ hz2).trans (hb2.block _ hBlt)).trans HR.out) (by rfl)))
   all_goals
    clear c0 c1 c2 c3 c4 c5 c6 c7 d0 d1 d2 d3 d4 d5 d6 d7 hst;have b23:Bw wr w3:=((Below.refl wr.heap.size wr).drew.trans hb2).trans (hb3.mono hb2.size);go_wp2
    go_roundw
    case rel =>
     refine⟨k+1,by omega,by go_num,?_,(sp.below b23).setRowNe hgne _,BC (HB.out.trans (b23.mono HB.out.size)) (A' _) _⟩;rw[HS.out];exact setRow_heap w3 _ _ _ 177 _ ((b23.block _ hBlt).trans HR.out)
    case measure=>simp[intOf];omega
  .have HK:Hid (k=n):=by unfold Hid;omega
   have HR:Hid _:=hrow;have hsz:(prog.info? 177).map (·.size)=some (Av (NT p k).list).size:=by kernel_rfl
   go_wp2_with (refine wpList_load_row rfl 177 _ rfl w.heap.size rfl 177 _ (0,0) _ hrow underlying177 rfl hsz ?_)
   refine(Q4 (NT p k) wr).mono ?_;rintro e w2 ⟨v2,rfl,ho2,hb2⟩;go_wp2
   go_ret;refine⟨v2,rfl,?_,hb.trans (hb2.mono hb.size)⟩;rw[HD.out,<- HK.out];exact AV ho2 hb.size
structure Fresh(w w':World)(v:Value)(l:List Int):Prop where
 sl:Sl w' v l
 bel:Bw w w'
 shape:∃ g cap,v=.slice (some ⟨g,0,none⟩) l.length cap/\w.heap.size<=g/\l.length<=cap
theorem Fresh.ofOwns(h:w'.ownsRow w.heap.size 5 1 v l.length (l.map (Value.int .u8)))(hne:l≠[])(hl:l.length<=140737488351232)(hb:∀ x∈l,0<=x/\x<256)(bel:Bw w w'):Fresh w w' v l:=by
 obtain⟨g,cap,hv,h1,_,h2,_,_⟩:=DJ h hne;exact⟨Sl.ofOwns h hl hb,bel,g,cap,hv,h1,h2⟩
theorem EU(h:l.length=n+1):l≠[]:=by
 intro e;rw[e]at h;simp at h
def F9(l:List Int)(n:Nat):List Int:=l++List.replicate (n-l.length) 0
def Hv(l:List Int):List Int:=if 64<l.length then dig l else l
def fk(l:List Int):List Int:=F9 (Hv l) 64
def Bh(k:List Int)(m:Int):List Int:=k.map λx=>bits .xor .u8 x m
def DR(key b:List Int):List Int:=dig (Bh (fk key) 92++dig (Bh (fk key) 54++b))
theorem Mh(l:List Int)(n:Nat)(h:l.length<=n):(F9 l n).length=n:=by simp[F9];omega
theorem Pl(h:∀ x∈l,0<=x/\x<256)(n:Nat):∀ x∈F9 l n,0<=x/\x<256:=by
 intro x hx;rcases V'.1 hx with h1|h1
 .exact h x h1
 .rw[List.eq_of_mem_replicate h1];omega
theorem Oa(l:List Int):(Hv l).length<=64:=by
 unfold Hv;split
 .rw[Ax];omega
 .omega
theorem R2(h:∀ x∈l,0<=x/\x<256):∀ x∈Hv l,0<=x/\x<256:=by
 unfold Hv;split
 .exact Dn l
 .exact h
theorem E5(l:List Int):(fk l).length=64:=Mh _ _ (Oa l)
theorem ZF(h:∀ x∈l,0<=x/\x<256):∀ x∈fk l,0<=x/\x<256:=Pl (R2 h) 64
theorem ER(l:List Int)(m:Int):(Bh l m).length=l.length:=by simp[Bh]
theorem KY(h:∀ x∈l,0<=x/\x<256){m:Int}(hm:0<=m/\m<256):∀ x∈Bh l m,0<=x/\x<256:=by
 intro x hx;obtain⟨y,hy,rfl⟩:=ju.1 hx;have hb:=h y hy;rw[u8_xor _ _ hb.1 hb.2 hm.1 hm.2];have:y.toNat ^^^ m.toNat<256:=lu (n:=8) (by omega) (by omega);omega
theorem Dr(k b:List Int):(DR k b).length=32:=rfl
theorem Nc(k b:List Int):∀ x∈DR k b,0<=x/\x<256:=Dn _
theorem MW:(prog.info? 5).map (·.size)=some 1:=by kernel_rfl
theorem J6(l:List Int):splice ((List.replicate 64 (0:Int)).map (Value.int .u8)) 0 (l.map (Value.int .u8))=(F9 l 64).map (Value.int .u8):=by
 have e:(List.replicate 64 (0:Int)).map (Value.int .u8)=List.replicate 64 (Value.int .u8 0):=lw;rw[e];simp only[splice,F9,jY,j5,jc,jm,List.drop_replicate,iS,lw]
theorem Ix{P:Program}{ops:Array Oper}{rest:List Oper}{o:Oper}{a:Act}{Q:Exit->Act->World->Prop}(hgd:o.guard=none)(ty:TypeId)(x y:Operand)(ho:o.op=.store ty x y)(g:Nat)(cells:Array Value)(hx:a.eval x=.pointer (some ⟨g,0,none⟩))(hy:a.eval y=.agg cells)(t:TypeId)(old:Array Value)(hg:w.heap[g]?=some (.cells old t (0,0)))(hi:(P.info? ty).map (·.size)=some cells.size)(hold:old.size=cells.size)(h1:cells.all (·.oneCell')=true)(B:Nat)(w0:World)(hb:Below B w0 w)(hBg:B<=g)(h:∀ w',w'.heap[g]?=some (.cells cells t (0,0))->Below B w0 w'->wpList P ops Q rest (a.put o.dst undef) w'):wpList P ops Q (o::rest) a w :=
 wpList_store_row hgd ty x y ho g cells hx hy t old hg hi hold h1 (h _ (setRow_heap w g _ _ t _ hg) (BC hb hBg _))
theorem Sl.copySrc{sp:Option Addr}{c:Nat}(h:Sl w (.slice sp n c) l)(hp:0<l.length):∃ ad,sp=some ad/\∀ (j:Nat) (v:Value),(l.map (Value.int .u8))[j]?=some v->w.cell? (ad.add j)=some v:=by
 obtain⟨⟨a,cap,e,hc,hn,h1⟩,hla,hba⟩:=h;simp only[Value.slice.injEq]at e;obtain⟨rfl,rfl,rfl⟩:=e;rcases h1 with rfl|⟨b,off,rfl,_,hcell⟩
 .simp at hp
 .refine⟨_,rfl,λj v hj=>?_⟩;have hjl:j<l.length:=by
   have:=(Q'.1 hj).1;simpa using this
  have hadd:(⟨b,off,none⟩:Addr).add j=⟨b,off+j,none⟩:=by unfold Addr.add;split<;>simp_all
  rw[hadd,hcell j hjl];simp[List.getElem?_eq_getElem hjl]at hj
  rw[AR hjl,hj]
theorem Po(v:Value)(l:List Int)(w:World)(h:Sl w v l)(hl:l.length<=100000)(ht:AE w) :
  Calls prog 59 #[v] w λe w'=>e=.returned (.agg (AO (fk l)))/\Bw w w':=by
 have hs:=h;obtain⟨⟨a,cap,rfl,hc,hn,h1⟩,hla,hba⟩:=h;have H1:Hid _:=h1;have hsz:(prog.info? 133).map (·.size)=some (AO (fk l)).size:=by rw[AA,E5];kernel_rfl
 clear h1 hba;by_cases hk:64<l.length
 .have ek:Hv l=dig l:=by unfold Hv;rw[if_pos hk]
  have EK:Hid (fk l=F9 (dig l) 64):=by unfold Hid fk;rw[ek]
  clear ek;go_enter func59,ntmps59
  go_wp2_with fail
  generalize hW0:w.alloc _=W0;have hb0:Bw w W0:=by rw[<- hW0];exact(Below.refl _ _).alloc (A' _) _
  have hr0:W0.heap[w.heap.size]?=some (.cells (AO (List.replicate 64 0)) 133 (0,0)):=by rw[<- hW0];exact heap_alloc_new _ _
  have hs0:W0.heap.size=w.heap.size+1:=by rw[<- hW0];simp
  clear hW0;refine(EN _ l W0 (hs.below hb0) hl (ht.below hb0)).mono ?_;rintro e w1 ⟨v1,rfl,ho1,hb1⟩;obtain⟨g1,c1,hv,hgB,hgs,hcp,hcell,_⟩:=DJ ho1 (EU (Ax l));subst hv;have hr1:w1.heap[w.heap.size]?=some (.cells (AO (List.replicate 64 0)) 133 (0,0)):=(hb1.block _ (by omega)).trans hr0;have hB1:Bw w w1:=hb0.trans (hb1.mono hb0.size);have hz1:w.heap.size<w1.heap.size:=(H'.1 hr1).1;have s1:Sl w1 (.slice (some ⟨g1,0,none⟩) (dig l).length c1) (dig l):=Sl.ofOwns ho1 (by rw[Ax];omega) (Dn l);go_wp2_with (refine wpList_copy_splice rfl _ _ 28 28 rfl 5 underlying28 MW _ _ _ _ _ _ rfl rfl w1.heap.size 0 ((List.replicate 64 (0:Int)).map (Value.int .u8)) 133 (heap_alloc_new _ _) ((dig l).map (Value.int .u8)) (by rw[jc,Ax];rfl) (λ_=>⟨rfl,(s1.below ((Below.refl _ _).alloc (A' _) _)).copySrc (by rw[Ax];omega)⟩) (by rw[jc,Ax];simp) (E6 _) w1.heap.size _ (Below.refl _ _) (A' _) ?_)
  intro w2 H2 hb2;have hr2:w2.heap[w1.heap.size]?=some (.cells (AO (fk l)) 133 (0,0)):=by
   have h3:w2.heap[w1.heap.size]?=some (.cells (splice ((List.replicate 64 (0:Int)).map (Value.int .u8)) 0 ((dig l).map (Value.int .u8))).toArray 133 (0,0)):=H2.out;rw[J6]at h3
   rw[EK.out];exact h3
  have hB2:Bw w w2:=(hB1.alloc hB1.size _).trans (hb2.mono (by omega));have hq2:w2.heap[w.heap.size]?=some (.cells (AO (List.replicate 64 0)) 133 (0,0)):=by
   rw[hb2.block _ hz1,heap_alloc_old _ _ hz1];exact hr1
  clear H2 hb2 hr1 hr0 hs0 hb0 hb1 hcell ho1 s1 hgs hgB;go_wp2_with (first|(refine wpList_load_row rfl 133 _ rfl w1.heap.size rfl 133 _ (0,0) _ hr2 underlying133 rfl hsz ?_)|(refine wpList_store_row rfl 133 _ _ rfl w.heap.size _ rfl rfl 133 _ hq2 hsz (by rw[AA,AA,E5];rfl) (Kv _) ?_))
  refine bodyPost_ret (v:=.agg (AO (fk l))) (results_cell_row rfl _ _ w.heap.size 133 _ (0,0) _ rfl (setRow_heap w2 w.heap.size _ _ 133 _ hq2) underlying133 rfl hsz) rfl ⟨rfl,BC hB2 (A' _) _⟩
 .have ek:Hv l=l:=by unfold Hv;rw[if_neg hk]
  have EK:Hid (fk l=F9 l 64):=by unfold Hid fk;rw[ek]
  clear ek;go_enter func59,ntmps59
  go_wp2_with (refine wpList_copy_splice rfl _ _ 28 28 rfl 5 underlying28 MW _ _ _ _ _ _ rfl rfl (w.heap.size+1) 0 ((List.replicate 64 (0:Int)).map (Value.int .u8)) 133 (heap_alloc2_new _ _ _) (l.map (Value.int .u8)) (by rw[jc];exact(jR (show l.length<=64 by omega)).symm) (λhp=>⟨rfl,(hs.below (((Below.refl _ _).alloc (A' _) _).alloc (by simp) _)).copySrc (by simpa using hp)⟩) (by rw[jc,jc,j4];omega) (E6 _) (w.heap.size+1) _ (Below.refl _ _) (A' _) ?_)
  intro w2 H2 hb2;have hr2:w2.heap[w.heap.size+1]?=some (.cells (AO (fk l)) 133 (0,0)):=by
   have h3:w2.heap[w.heap.size+1]?=some (.cells (splice ((List.replicate 64 (0:Int)).map (Value.int .u8)) 0 (l.map (Value.int .u8))).toArray 133 (0,0)):=H2.out;rw[J6]at h3
   rw[EK.out];exact h3
  have hB2:Bw w w2:=(((Below.refl _ _).alloc (A' _) _).alloc (by simp) _).trans (hb2.mono (by omega));have hq2:w2.heap[w.heap.size]?=some (.cells (AO (List.replicate 64 0)) 133 (0,0)):=by
   rw[hb2.block _ (by omega)];exact heap_alloc2_old _ _ _
  clear H2 hb2;go_wp2_with (first|(refine wpList_load_row rfl 133 _ rfl (w.heap.size+1) rfl 133 _ (0,0) _ hr2 underlying133 rfl hsz ?_)|(refine wpList_store_row rfl 133 _ _ rfl w.heap.size _ rfl rfl 133 _ hq2 hsz (by rw[AA,AA,E5];rfl) (Kv _) ?_))
  refine bodyPost_ret (v:=.agg (AO (fk l))) (results_cell_row rfl _ _ w.heap.size 133 _ (0,0) _ rfl (setRow_heap w2 w.heap.size _ _ 133 _ hq2) underlying133 rfl hsz) rfl ⟨rfl,BC hB2 (A' _) _⟩
theorem ZU(l:List Int)(hl:l.length=64)(j:Nat)(hj:j<64):∀ w,(Instr.index 133 (.agg (AO l)) (.int .i64 (j:Int))).run prog w=.ok (.int .u8 (l.getD j 0)) w:=by
 intro w;have hg:(AO l)[j]?=some (.int .u8 (l.getD j 0)):=by
  simp[AO,List.getElem?_eq_getElem (show j<l.length by omega),List.getD]
 have h0:(0:Int)<=j/\(j:Int)<64:=by omega
 simp[Instr.index,run_underlying underlying133,asIntOf,h0,part,hg];intro h;omega
theorem KZ(k:List Int)(m:Int)(w:World)(hk:k.length=64)(hm:0<=m/\m<256)(hb:∀ x∈k,0<=x/\x<256) :
  Calls prog 61 #[.agg (AO k),.int .u8 m] w λe w'=>∃ v',e=.returned v'/\w'.ownsRow w.heap.size 5 1 v' (Bh k m).length ((Bh k m).map (Value.int .u8))/\Bw w w':=by
 obtain⟨i0,hi,hz0,hz1,hz2⟩:=info_parts At;have hsz:(prog.info? 133).map (·.size)=some (AO k).size:=by rw[AA,hk];kernel_rfl
 have HK:Hid (k.length=64):=hk;clear hk;go_enter func61,ntmps61
 go_wp2_with (at_make;refine wpList_make_own _ rfl _ _ 28 rfl w.heap.size 5 i0 (.int .u8 0) 1 underlying28 hi hz0 hz1 _ _ _ 64 rfl rfl (by omega) (by rw[hz2];omega) (by unfold maxLen;omega) (by simp) ?_)
 intro w1 ho1 hg1;have hb1:Bw w w1:=((Below.refl _ _).alloc (A' _) _).grown hg1 (by simp) (by simp);have hrow:w1.heap[w.heap.size]?=some (.cells (AO k) 133 (0,0)):=by
  rw[hg1.block w.heap.size (by simp) (by simp)];exact heap_alloc_new _ _
 have ho1':w1.ownsRow w.heap.size 5 1 (.slice (some ⟨w.heap.size+1,0,none⟩) 0 64) (Bh (k.take 0) m).length ((Bh (k.take 0) m).map (Value.int .u8)):=ho1;clear ho1 hg1;go_wp2_with (refine wpList_load_row rfl 133 _ rfl w.heap.size rfl 133 _ (0,0) _ hrow underlying133 rfl hsz ?_)
 go_loopw [5,10] (λv i wr=>∃ j:Nat,j<=64/\i=.int .i64 j/\wr.ownsRow w.heap.size 5 1 v (Bh (k.take j) m).length ((Bh (k.take j) m).map (Value.int .u8))/\Bw w wr) (λ_ i _=>64-(intOf i).toNat)
 case atStart=>exact⟨0,by omega,rfl,ho1',hb1⟩
 case round =>
  clear ho1' hb1 hrow;obtain⟨j,hj,rfl,hown,hbw⟩:=hrel;have hlt:=hown.lt;by_cases hj64:j<64
  .have hix:=ZU k HK.out j hj64;have hlen:(Bh (k.take j) m).length<=64:=by rw[ER,iO];omega
   have HT:Hid (Bh (k.take (j+1)) m=Bh (k.take j) m++[bits .xor .u8 (k.getD j 0) m]):=by
    unfold Hid;have hjl:j<k.length:=by rw[HK.out];exact hj64
    rw[iW hjl,AR hjl,Bh,iS];rfl
   have hxb:=Al hb j;have hyb:0<=bits .xor .u8 (k.getD j 0) m/\bits .xor .u8 (k.getD j 0) m<256:=by
    rw[u8_xor _ _ hxb.1 hxb.2 hm.1 hm.2];have:(k.getD j 0).toNat ^^^ m.toNat<256:=lu (n:=8) (by omega) (by omega);omega
   have HY:Hid (0<=bits .xor .u8 (k.getD j 0) m/\bits .xor .u8 (k.getD j 0) m<256):=hyb;generalize Bh (k.take j) m=pre at hown HT hlen;generalize k.getD j 0=x at hix HT hxb hyb HY;clear hyb hxb;go_wp2_with (at_builtin;refine Aa _ rfl _ _ 28 rfl w.heap.size 5 underlying28 At _ _ rfl rfl pre _ (hown.alloc _) (Sl.one _ _ _ rfl HY.out) (by simp;omega) (by have:=hbw.size;simp;omega) ?_)
   intro v' w' ho hg;have ho':w'.ownsRow w.heap.size 5 1 v' (pre++[bits .xor .u8 x m]).length ((pre++[bits .xor .u8 x m]).map (Value.int .u8)):=by simpa using ho
   have hb':Bw w w':=(hbw.alloc hbw.size _).grown hg (by have:=hbw.size;simp;omega) (λk hk=>(hlt k hk).1);clear ho hg hown hlt hbw;go_wp2
   go_roundw
   case rel=>exact⟨j+1,by omega,by go_num,by rw[HT.out];exact ho',hb'⟩
   case measure=>simp[intOf];omega
  .have HJ:Hid (k.take j=k):=by unfold Hid;exact iU (by rw[HK.out];omega)
   go_wp2
   go_ret;refine⟨u5,rfl,?_,hbw⟩;rw[HJ.out]at hown
   exact hown
theorem Og(vk vb:Value)(k b:List Int)(w:World)(hk:Sl w vk k)(hb:Sl w vb b)(hkl:k.length<=100000)(hbl:b.length<=90000)(ht:AE w) :
  Calls prog 35 #[vk,vb] w λe w'=>∃ v',e=.returned v'/\Fresh w w' v' (DR k b):=by
 have hsz:(prog.info? 133).map (·.size)=some (AO (fk k)).size:=by rw[AA,E5];kernel_rfl
 have hfb:=ZF hk.byte;have hfl:=E5 k;have HF:Hid (DR k b=dig (Bh (fk k) 92++dig (Bh (fk k) 54++b))):=rfl;go_enter func35,ntmps35
 go_wp2_with fail
 refine(Po vk k w hk hkl ht).mono ?_;rintro e w1 ⟨rfl,hb1⟩;generalize fk k=K at hsz hfb hfl HF ⊢;go_wp2_with (refine Ix rfl 133 _ _ rfl w1.heap.size _ rfl rfl 133 _ (heap_alloc_new _ _) hsz (by rw[AA,hfl];rfl) (Kv _) w.heap.size w (hb1.alloc hb1.size _) hb1.size ?_)
 intro w2 hrow hb2;have hz:w1.heap.size<w2.heap.size:=(H'.1 hrow).1;go_wp2_with (refine wpList_load_row rfl 133 _ rfl w1.heap.size rfl 133 _ (0,0) _ hrow underlying133 rfl hsz ?_)
 refine(KZ K 54 w2 hfl (by omega) hfb).mono ?_;rintro e w3 ⟨v3,rfl,ho3,hb3⟩;have hB3:Bw w w3:=hb2.trans (hb3.mono hb2.size);have hlt3:=ho3.lt;have lm54:(Bh K 54).length=64:=by rw[ER,hfl]
 have lm92:(Bh K 92).length=64:=by rw[ER,hfl]
 have bm54:=KY hfb (m:=54) (by omega);have bm92:=KY hfb (m:=92) (by omega);go_wp2_with (at_builtin;refine Aa _ rfl _ _ 28 rfl w2.heap.size 5 underlying28 At _ _ rfl rfl (Bh K 54) b ho3 (hb.below hB3) (by omega) hb3.size ?_)
 intro v4 w4 ho4 hg4;have hb4:Bw w2 w4:=hb3.grown hg4 hb3.size (λk hk=>(hlt3 k hk).1);have hB4:Bw w w4:=hb2.trans (hb4.mono hb2.size);have ho4':w4.ownsRow w2.heap.size 5 1 v4 (Bh K 54++b).length ((Bh K 54++b).map (Value.int .u8)):=by simpa[lm54]using ho4
 have by4:∀ x∈Bh K 54++b,0<=x/\x<256:=λx hx=>by
  rcases V'.1 hx with h|h
  .exact bm54 x h
  .exact hb.byte x h
 have ly4:(Bh K 54++b).length<=91000:=by rw[G',lm54];omega
 clear ho4 hg4 ho3 hlt3;generalize Bh K 54++b=L4 at ho4' by4 ly4 HF;go_wp2_with fail
 refine(EN v4 L4 w4 (Sl.ofOwns ho4' (by omega) by4) (by omega) (ht.below hB4)).mono ?_;rintro e w5 ⟨v5,rfl,ho5,hb5⟩;have hb5':Bw w2 w5:=hb4.trans (hb5.mono hb4.size);have s5:Sl w5 v5 (dig L4):=Sl.ofOwns ho5 (by rw[Ax];omega) (Dn L4);have l5:=Ax L4;have y5:=Dn L4;generalize dig L4=D at s5 HF l5 y5;have hrow5:w5.heap[w1.heap.size]?=some (.cells (AO K) 133 (0,0)):=(hb5'.block _ hz).trans hrow;clear ho4' ho5;go_wp2_with (refine wpList_load_row rfl 133 _ rfl w1.heap.size rfl 133 _ (0,0) _ hrow5 underlying133 rfl hsz ?_)
 refine(KZ K 92 w5 hfl (by omega) hfb).mono ?_;rintro e w6 ⟨v6,rfl,ho6,hb6⟩;have hlt6:=ho6.lt;go_wp2_with (at_builtin;refine Aa _ rfl _ _ 28 rfl w5.heap.size 5 underlying28 At _ _ rfl rfl (Bh K 92) D ho6 (s5.below hb6) (by omega) hb6.size ?_)
 intro v7 w7 ho7 hg7;have hb7:Bw w5 w7:=hb6.grown hg7 hb6.size (λk hk=>(hlt6 k hk).1);have hB5:Bw w w5:=hb2.trans (hb5'.mono hb2.size);have hB7:Bw w w7:=hB5.trans (hb7.mono hB5.size);have ho7':w7.ownsRow w5.heap.size 5 1 v7 (Bh K 92++D).length ((Bh K 92++D).map (Value.int .u8)):=by simpa[lm92,l5]using ho7
 have by7:∀ x∈Bh K 92++D,0<=x/\x<256:=λx hx=>by
  rcases V'.1 hx with h|h
  .exact bm92 x h
  .exact y5 x h
 have ly7:(Bh K 92++D).length<=96:=by rw[G',lm92];omega
 clear ho7 hg7 ho6 hlt6;generalize Bh K 92++D=L7 at ho7' by7 ly7 HF;go_wp2_with fail
 refine(EN v7 L7 w7 (Sl.ofOwns ho7' (by omega) by7) (by omega) (ht.below hB7)).mono ?_;rintro e w8 ⟨v8,rfl,ho8,hb8⟩;go_wp2
 go_ret;refine⟨v8,rfl,?_⟩;rw[HF.out];exact Fresh.ofOwns (AV ho8 hB7.size) (EU (Ax L7)) (by rw[Ax];omega) (Dn L7) (hB7.trans (hb8.mono hB7.size))
theorem cW(vk vb:Value)(k b:List Int)(w:World)(hk:Sl w vk k)(hb:Sl w vb b)(hkl:k.length<=256)(hbl:b.length<=2000)(ht:AE w) :
  Calls prog 33 #[vk,vb] w λe w'=>∃ v',e=.returned (.tuple #[v',.int .i64 0])/\Fresh w w' v' (DR k b):=by
 have hs:=hk;have hs2:=hb;obtain⟨⟨a,cap,rfl,_,_,_⟩,hla,hba⟩:=hk;obtain⟨⟨a2,cap2,rfl,_,_,_⟩,hla2,hba2⟩:=hb;clear hba hba2;go_enter func33,ntmps33
 go_wp2_with fail
 refine(Og _ _ k b w hs hs2 (by omega) (by omega) ht).mono ?_;rintro e w1 ⟨v1,rfl,hf⟩;go_wp2
 go_ret2
 exact⟨v1,rfl,hf⟩
theorem Ol(va vi:Value)(a i:List Int)(c:Int)(w:World)(ha:Sl w va a)(hi:Sl w vi i)(hal:a.length<=1000)(hil:i.length<=1000)(hc:0<=c/\c<256) :
  Calls prog 58 #[va,vi,.int .u8 c] w λe w'=>∃ v',e=.returned v'/\w'.ownsRow w.heap.size 5 1 v' (a++i++[c]).length ((a++i++[c]).map (Value.int .u8))/\Bw w w':=by
 obtain⟨i0,hi0,hz0,hz1,hz2⟩:=info_parts At;have hs:=ha;have hs2:=hi;obtain⟨⟨aa,cap,rfl,_,_,_⟩,hla,hba⟩:=ha;obtain⟨⟨a2,cap2,rfl,_,_,_⟩,hla2,hba2⟩:=hi;clear hba hba2;go_enter func58,ntmps58
 go_wp2_with (at_make;refine wpList_make_own _ rfl _ _ 28 rfl w.heap.size 5 i0 (.int .u8 0) 1 underlying28 hi0 hz0 hz1 _ _ _ (a.length+i.length+1) rfl rfl (by omega) (by rw[hz2];omega) (by unfold maxLen;omega) (A' _) ?_)
 intro w1 ho1 hg1;have hb1:Bw w w1:=(Below.refl _ _).grown hg1 (A' _) (by simp);have ho1':w1.ownsRow w.heap.size 5 1 (.slice (some ⟨w.heap.size,0,none⟩) 0 (a.length+i.length+1)) ([]:List Int).length (([]:List Int).map (Value.int .u8)):=ho1;clear ho1 hg1;go_wp2_with (at_builtin;refine Aa _ rfl _ _ 28 rfl w.heap.size 5 underlying28 At _ _ rfl rfl [] a ho1' (hs.below hb1) (by simp;omega) hb1.size ?_)
 intro v2 w2 ho2 hg2;have ho2':w2.ownsRow w.heap.size 5 1 v2 a.length (a.map (Value.int .u8)):=by simpa using ho2
 have hb2:Bw w w2:=hb1.grown hg2 hb1.size (by simp[Value.ownBlock]);have hlt2:=ho2'.lt;clear ho1' hg2 hb1 ho2;go_wp2_with (at_builtin;refine Aa _ rfl _ _ 28 rfl w.heap.size 5 underlying28 At _ _ rfl rfl a i ho2' (hs2.below hb2) (by omega) hb2.size ?_)
 intro v3 w3 ho3 hg3;have ho3':w3.ownsRow w.heap.size 5 1 v3 (a++i).length ((a++i).map (Value.int .u8)):=by simpa using ho3
 have hb3:Bw w w3:=hb2.grown hg3 hb2.size (λk hk=>(hlt2 k hk).1);have hlt3:=ho3'.lt;clear ho2' hg3 hb2 ho3 hlt2;go_wp2_with (at_builtin;refine Aa _ rfl _ _ 28 rfl w.heap.size 5 underlying28 At _ _ rfl rfl (a++i) [c] (ho3'.alloc _) (Sl.one _ _ _ rfl hc) (by simp;omega) (by have:=hb3.size;simp;omega) ?_)
 intro v4 w4 ho4 hg4;have ho4':w4.ownsRow w.heap.size 5 1 v4 (a++i++[c]).length ((a++i++[c]).map (Value.int .u8)):=by simpa using ho4
 have hb4:Bw w w4:=(hb3.alloc hb3.size _).grown hg4 (by have:=hb3.size;simp;omega) (λk hk=>(hlt3 k hk).1);clear ho3' hg4 hb3 ho4 hlt3;go_wp2
 go_ret;exact⟨v4,rfl,ho4',hb4⟩
theorem Sl.grown{row:Option Nat}(h:Sl w (.slice (some ⟨b,off,none⟩) n cap) l)(hg:w.grownBy w' row)(hne:some b≠row):Sl w' (.slice (some ⟨b,off,none⟩) n cap) l:=by
 obtain⟨⟨a,cap',e,hc,hn,h1⟩,h2,h3⟩:=h;refine⟨⟨a,cap',e,hc,hn,?_⟩,h2,h3⟩;simp only[Value.slice.injEq]at e;obtain⟨rfl,_,_⟩:=e;rcases h1 with h1|⟨b',off',e',hbs,hcell⟩
 .exact .inl h1
 .simp only[X',Addr.mk.injEq,and_true]at e';obtain⟨rfl,rfl⟩:=e';refine .inr ⟨b,off,rfl,Z' hbs hg.size,λi hi=>?_⟩;rw[<- hcell i hi];exact World.cell?_of_block (w:=w) (hg.block b hbs hne)
def blk(key info:List Int):Nat->List Int
 | 0=>[]
 | i+1=>DR key (blk key info i++info++[(i:Int)+1])
def Bb(key info:List Int):Nat->List Int
 | 0=>[]
 | i+1=>Bb key info i++blk key info (i+1)
def F7(key info:List Int)(n:Nat):List Int:=(Bb key info 16).take n
theorem GF(key info:List Int)(i:Nat):(blk key info (i+1)).length=32:=Dr _ _
theorem VO(key info:List Int)(i:Nat):∀ x∈blk key info i,0<=x/\x<256:=by
 cases i with
 | zero=>intro x hx;cases hx
 | succ i=>exact Nc _ _
theorem dp(key info:List Int)(i:Nat):(blk key info i).length<=32:=by
 cases i with
 | zero=>simp[blk]
 | succ i=>rw[GF];omega
theorem C6(key info:List Int)(i:Nat):(Bb key info i).length=32*i:=by
 induction i with
 | zero=>rfl
 | succ i ih=>rw[Bb,G',ih,GF];omega
theorem Qn(key info:List Int)(i:Nat):∀ x∈Bb key info i,0<=x/\x<256:=by
 induction i with
 | zero=>intro x hx;cases hx
 | succ i ih =>
  intro x hx;rcases V'.1 hx with h|h
  .exact ih x h
  .exact VO key info (i+1) x h
theorem Qo(key info:List Int)(n i j:Nat)(hn:n<=32*i):(Bb key info (i+j)).take n=(Bb key info i).take n:=by
 induction j with
 | zero=>rfl
 | succ j ih=>rw[<- jI,Bb,jk (by rw[C6];omega),ih]
theorem Uf(key info:List Int)(n i:Nat):(Bb key info (i+1)).take n=(Bb key info i).take n++(blk key info (i+1)).take (n-32*i):=by
 rw[Bb,List.take_append,C6]
theorem Rh(vk vi:Value)(k i:List Int)(n:Nat)(w:World)(hk:Sl w vk k)(hi:Sl w vi i)(hkl:k.length<=1000)(hil:i.length<=900)(hn:n<=512)(ht:AE w) :
  Calls prog 34 #[vk,vi,.int .i64 n] w λe w'=>∃ v',e=.returned v'/\w'.ownsRow w.heap.size 5 1 v' (F7 k i n).length ((F7 k i n).map (Value.int .u8))/\Bw w w':=by
 obtain⟨i0,hi0,hz0,hz1,hz2⟩:=info_parts At;go_enter func34,ntmps34
 go_wp2_with (at_make;refine wpList_make_own _ rfl _ _ 28 rfl w.heap.size 5 i0 (.int .u8 0) 1 underlying28 hi0 hz0 hz1 _ _ _ n rfl rfl (by omega) (by rw[hz2];omega) (by unfold maxLen;omega) (A' _) ?_)
 intro w1 ho1 hg1;have hb1:Bw w w1:=(Below.refl _ _).grown hg1 (A' _) (by simp);have ho1':w1.ownsRow w.heap.size 5 1 (.slice (some ⟨w.heap.size,0,none⟩) 0 n) ((Bb k i 0).take n).length (((Bb k i 0).take n).map (Value.int .u8)):=by simpa[Bb]using ho1
 clear ho1 hg1;go_wp2_with fail
 go_loopw [7,8,9] (λv b c wr=>∃ j:Nat,j<=16/\c=.int .u8 ((j:Int)+1)/\(∃ m cap,v=.slice (some ⟨m,0,none⟩) (min (32*j) n) cap)/\Sl wr b (blk k i j)/\wr.ownsRow w.heap.size 5 1 v ((Bb k i j).take n).length (((Bb k i j).take n).map (Value.int .u8))/\Bw w wr) (λ_ _ c _=>(17-intOf c).toNat)
 case atStart=>exact⟨0,by omega,rfl,⟨w.heap.size,n,by simp⟩,Sl.nil _ _,ho1',hb1⟩
 case round =>
  clear ho1' hb1;obtain⟨j,hj,rfl,⟨m,cap,rfl⟩,sb,hown,hb⟩:=hrel;have hlt:=hown.lt;by_cases hc:32*j<n
  .have hmin:min (32*j) n=32*j:=by omega
   rw[hmin]at hown hlt ⊢
   have hmw:m<wr.heap.size:=(hlt m rfl).2;have hlen:((Bb k i j).take n).length=32*j:=by rw[iO,C6];omega
   have hbl:=dp k i j;have hj15:j<=15:=by omega
   have HB:Hid (blk k i (j+1)=DR k (blk k i j++i++[(j:Int)+1])):=rfl;have HS:=Uf k i n j;have HSS:Hid _:=HS;have yb:∀ x∈blk k i j++i++[(j:Int)+1],0<=x/\x<256:=λx hx=>by
    rcases V'.1 hx with h|h
    .rcases V'.1 h with h|h
     .exact sb.byte x h
     .exact hi.byte x h
    .obtain rfl:x=(j:Int)+1:=by simpa using h
     omega
   clear HS hmin;go_wp2_with fail
   refine(Ol _ vi (blk k i j) i ((j:Int)+1) wr sb (hi.below hb) (by omega) (by omega) (by omega)).mono ?_;rintro e w2 ⟨v2,rfl,ho2,hb2⟩;have hB2:Bw w w2:=hb.trans (hb2.mono hb.size);have l2:(blk k i j++i++[(j:Int)+1]).length<=2000:=by simp;omega
   have s2:=Sl.ofOwns ho2 (by omega) yb;go_wp2_with fail
   refine(Og vk v2 k _ w2 (hk.below hB2) s2 (by omega) (by omega) (ht.below hB2)).mono ?_;rintro e w3 ⟨v3,rfl,f3⟩;rw[<- HB.out]at f3
   obtain⟨g3,c3,hv3,_,hc3⟩:=f3.shape;have s3:=f3.sl;have hb3:=f3.bel;have l3:=GF k i j;rw[l3]at hv3 hc3
   subst hv3;clear HB f3 s2 ho2 l2 yb sb;have ho3:=hown;have hown3:w3.ownsRow w.heap.size 5 1 (.slice (some ⟨m,0,none⟩) (32*j) cap) ((Bb k i j).take n).length (((Bb k i j).take n).map (Value.int .u8)):=by
    refine hown.kept (row:=none) ⟨(hb2.trans (hb3.mono hb2.size)).os,(hb2.trans (hb3.mono hb2.size)).tape,(hb2.trans (hb3.mono hb2.size)).output,(hb2.trans (hb3.mono hb2.size)).size,λq hq _=>(hb2.trans (hb3.mono hb2.size)).block q hq⟩ (.inr (by simp[Value.ownBlock]))
   have hB3:Bw w w3:=hB2.trans (hb3.mono hB2.size);have hlt3:=hown3.lt;have HL:Hid ((Bb k i (j+1)).take n=(Bb k i j).take n++(blk k i (j+1)).take (n-32*j)):=HSS.out;clear HSS ho3 hown hlt;have hM:((blk k i (j+1)).take (n-32*j)).length=min (n-32*j) 32:=by rw[iO,l3]
   have sM:Sl w3 (.slice (some ⟨g3,0,none⟩) (min (n-32*j) 32) c3) ((blk k i (j+1)).take (n-32*j)):=by
    by_cases hq:n-32*j<=32
    .rw[jR hq];exact s3.take (n-32*j) (by omega)
    .rw[Nat.min_eq_right (by omega),iU (by omega)];exact s3
   have HN:=s3;have hlt2:((Bb k i (j+1)).take n).length=min (32*(j+1)) n:=by rw[iO,C6];omega
   have HL2:Hid (((Bb k i (j+1)).take n).length=min (32*(j+1)) n):=hlt2;clear HN hlt2;generalize (blk k i (j+1)).take (n-32*j)=M at sM hM HL;generalize (Bb k i j).take n=P at hown3 hlt3 hlen HL;have SB:Sl w3 (.slice (some ⟨g3,0,none⟩) 32 c3) (blk k i (j+1)):=s3;clear s3;have hmin:(min (32:Int) ((n:Int)-32*(j:Int))).toNat=min (n-32*j) 32:=by omega
   have sM':Sl w3 (.slice (some ⟨g3,0,none⟩) (min (32:Int) ((n:Int)-32*(j:Int))).toNat c3) M:=by rw[hmin];exact sM
   have hmlt:m<w2.heap.size:=Z' hmw hb2.size;clear hmin sM;go_wp2_with (at_builtin;refine Aa _ rfl _ _ 28 rfl w.heap.size 5 underlying28 At _ _ rfl rfl P M hown3 sM' (by omega) hB3.size ?_)
   intro v4 w4 ho4 hg4;have ho4':w4.ownsRow w.heap.size 5 1 v4 (P++M).length ((P++M).map (Value.int .u8)):=by simpa[hlen,hM]using ho4
   have hb4:Bw w w4:=hB3.grown hg4 hB3.size (λk hk=>(hlt3 k hk).1);have SB4:Sl w4 (.slice (some ⟨g3,0,none⟩) 32 c3) (blk k i (j+1)):=SB.grown hg4 (by simp[Value.ownBlock];omega);obtain⟨g4,c4,hv4,_,_,_,_,_⟩:=DJ ho4' (by intro e;have:=congrArg List.length e;rw[G',hlen,hM]at this;simp at this;omega);have hPM:(P++M).length=min (32*(j+1)) n:=by rw[<- HL.out];exact HL2.out
   rw[<- HL.out]at ho4'
   rw[hPM]at hv4
   subst hv4;clear ho4 hg4 hown3 hlt3 hB3 SB sM' hM HL HL2 hPM hlen;go_wp2
   go_roundw
   case rel=>exact⟨j+1,by omega,by go_num,⟨g4,c4,rfl⟩,SB4,ho4',hb4⟩
   case measure=>simp[intOf];omega
  .have hmin:min (32*j) n=n:=by omega
   rw[hmin]at hown ⊢
   have HQ:Hid (F7 k i n=(Bb k i j).take n):=by
    unfold Hid F7;have:=Qo k i n j (16-j) (by omega);rw[show j+(16-j)=16 by omega]at this
    exact this
   go_wp2
   go_ret;refine⟨_,rfl,?_,hb⟩;rw[HQ.out];exact hown
theorem Ho(k i:List Int)(n:Nat)(h:n<=512):(F7 k i n).length=n:=by
 unfold F7;rw[iO,C6];omega
theorem KD(k i:List Int)(n:Nat):∀ x∈F7 k i n,0<=x/\x<256:=λx hx=>Qn k i 16 x (jb hx)
theorem S9(v0 v1 v2:Value)(l0 l1 l2:List Int)(n:Nat)(w:World)(h0:Sl w v0 l0)(h1:Sl w v1 l1)(h2:Sl w v2 l2)(hl0:l0.length<=256)(hl1:l1.length<=256)(hl2:l2.length<=256)(hn:n<=512)(ht:AE w) :
  Calls prog 21 #[v0,v1,v2,.int .i64 n] w λe w'=>∃ v',e=.returned (.tuple #[v',.int .i64 0])/\w'.ownsRow w.heap.size 5 1 v' (F7 (DR l1 l0) l2 n).length ((F7 (DR l1 l0) l2 n).map (Value.int .u8))/\Bw w w':=by
 have s0:=h0;have s1:=h1;have s2:=h2;obtain⟨⟨a0,c0,rfl,_,_,_⟩,_,_⟩:=h0;obtain⟨⟨a1,c1,rfl,_,_,_⟩,_,_⟩:=h1;obtain⟨⟨a2,c2,rfl,_,_,_⟩,_,_⟩:=h2;have d0:decide ((256:Int)<(l0.length:Int))=false:=by simp;omega
 have d1:decide ((256:Int)<(l1.length:Int))=false:=by simp;omega
 have d2:decide ((256:Int)<(l2.length:Int))=false:=by simp;omega
 have d3:decide ((n:Int)<0)=false:=by simp
 have d4:decide ((512:Int)<(n:Int))=false:=by simp;omega
 go_enter func21,ntmps21
 go_wp2_with fail
 refine(Og _ _ l1 l0 w s1 s0 (by omega) (by omega) ht).mono ?_;rintro e w1 ⟨v1,rfl,f1⟩;have lm:=Dr l1 l0;go_wp2_with fail
 refine(Rh v1 _ (DR l1 l0) l2 n w1 f1.sl (s2.below f1.bel) (by omega) (by omega) hn (ht.below f1.bel)).mono ?_;rintro e w2 ⟨v2,rfl,ho2,hb2⟩;go_wp2
 go_ret2
 exact⟨v2,rfl,AV ho2 f1.bel.size,f1.bel.trans (hb2.mono f1.bel.size)⟩
def Gr(c:Int):List Int:=F7 (DR [99,108,105,101,110,116] [c]) [] 32
def Gq:List Int:=F7 (DR [105,115,115,117,101,114] [255]) [] 32
theorem FB(c:Int):(Gr c).length=32:=Ho _ _ 32 (by omega)
theorem Jo:Gq.length=32:=Ho _ _ 32 (by omega)
theorem U6(c:Int):∀ x∈Gr c,0<=x/\x<256:=KD _ _ _
theorem Uy:∀ x∈Gq,0<=x/\x<256:=KD _ _ _
theorem Sl.sixM(w:World)(l:List Int)(e:TypeId)(fr:Nat × Nat)(hg:g=w.heap.size)(hl:l.length=6)(hb:∀ x∈l,0<=x/\x<256):Sl (w.alloc (.cells (l.map (Value.int .u8)).toArray e fr)) (.slice (some ⟨g,0,none⟩) 6 6) l:=by
 subst hg;refine⟨⟨_,6,by rw[hl],by omega,by simp,.inr ⟨w.heap.size,0,rfl,by simp,λi hi=>?_⟩⟩,by omega,hb⟩;rw[cell_of_row _ _ (0+i) _ _ _ (heap_alloc_new w _)];simp[List.getElem?_eq_getElem hi,List.getD]
end
end Go.Proofs.YtalbmmghmoggcadGreatDoor
