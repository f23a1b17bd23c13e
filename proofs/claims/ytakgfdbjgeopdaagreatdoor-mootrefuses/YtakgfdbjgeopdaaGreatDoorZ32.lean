/- Part 32 of the walk: what the functions of the program do, one by one. -/
import Derived.Lib.SmallJoins
import Derived.Deep.OwnRows
import Derived.Test.YtakgfdbjgeopdaaGreatDoorZ31
set_option maxRecDepth 100000
set_option maxHeartbeats 4000000
open Go.Proofs.Tryz
namespace Go.Proofs.YtakgfdbjgeopdaaGreatDoor
open Go.RowKit
theorem Mp(va vi:Value)(a i:List Int)(c:Int)(w:World)(ha:Sl w va a)(hi:Sl w vi i)(hal:a.length≤1000)(hil:i.length≤1000)(hc:0≤c∧c<256) :
  Calls prog 129 #[va,vi,.int .u8 c] w fun e w'=>∃ v',e=.returned v'∧w'.ownsRow w.heap.size 5 1 v' (a++i++[c]).length ((a++i++[c]).map (Value.int .u8))∧Below w.heap.size w w':=by
 obtain⟨i0,hi0,hz0,hz1,hz2⟩:=info_parts AB;have hs:=ha;have hs2:=hi;obtain⟨⟨aa,cap,rfl,_,_,_⟩,hla,hba⟩:=ha;obtain⟨⟨a2,cap2,rfl,_,_,_⟩,hla2,hba2⟩:=hi;clear hba hba2;go_enter func129,ntmps129
 go_wp2_with (at_make;refine wpList_make_own _ rfl _ _ 26 rfl w.heap.size 5 i0 (.int .u8 0) 1 underlying26 hi0 hz0 hz1 _ _ _ (a.length+i.length+1) rfl rfl (by omega) (by rw[hz2];omega) (by unfold maxLen;omega) (Nat.le_refl _) ?_)
 intro w1 ho1 hg1;have hb1:Below w.heap.size w w1:=(Below.refl _ _).grown hg1 (Nat.le_refl _) (by simp);have ho1':w1.ownsRow w.heap.size 5 1 (.slice (some ⟨w.heap.size,0,none⟩) 0 (a.length+i.length+1)) ([]:List Int).length (([]:List Int).map (Value.int .u8)):=ho1;clear ho1 hg1;go_wp2_with (at_builtin;refine Aa _ rfl _ _ 26 rfl w.heap.size 5 underlying26 AB _ _ rfl rfl [] a ho1' (hs.below hb1) (by simp;omega) hb1.size ?_)
 intro v2 w2 ho2 hg2;have ho2':w2.ownsRow w.heap.size 5 1 v2 a.length (a.map (Value.int .u8)):=by simpa using ho2
 have hb2:Below w.heap.size w w2:=hb1.grown hg2 hb1.size (by simp[Value.ownBlock]);have hlt2:=ho2'.lt;clear ho1' hg2 hb1 ho2;go_wp2_with (at_builtin;refine Aa _ rfl _ _ 26 rfl w.heap.size 5 underlying26 AB _ _ rfl rfl a i ho2' (hs2.below hb2) (by omega) hb2.size ?_)
 intro v3 w3 ho3 hg3;have ho3':w3.ownsRow w.heap.size 5 1 v3 (a++i).length ((a++i).map (Value.int .u8)):=by simpa using ho3
 have hb3:Below w.heap.size w w3:=hb2.grown hg3 hb2.size (fun k hk=>(hlt2 k hk).1);have hlt3:=ho3'.lt;clear ho2' hg3 hb2 ho3 hlt2;go_wp2_with (at_builtin;refine Aa _ rfl _ _ 26 rfl w.heap.size 5 underlying26 AB _ _ rfl rfl (a++i) [c] (ho3'.alloc _) (Sl.one _ _ _ rfl hc) (by simp;omega) (by have:=hb3.size;simp;omega) ?_)
 intro v4 w4 ho4 hg4;have ho4':w4.ownsRow w.heap.size 5 1 v4 (a++i++[c]).length ((a++i++[c]).map (Value.int .u8)):=by simpa using ho4
 have hb4:Below w.heap.size w w4:=(hb3.alloc hb3.size _).grown hg4 (by have:=hb3.size;simp;omega) (fun k hk=>(hlt3 k hk).1);clear ho3' hg4 hb3 ho4 hlt3;go_wp2
 go_ret;exact⟨v4,rfl,ho4',hb4⟩
theorem Sl.grown{w w':World}{b off n cap:Nat}{l:List Int}{row:Option Nat}(h:Sl w (.slice (some ⟨b,off,none⟩) n cap) l)(hg:w.grownBy w' row)(hne:some b≠row):Sl w' (.slice (some ⟨b,off,none⟩) n cap) l:=by
 obtain⟨⟨a,cap',e,hc,hn,h1⟩,h2,h3⟩:=h;refine⟨⟨a,cap',e,hc,hn,?_⟩,h2,h3⟩;simp only[Value.slice.injEq]at e;obtain⟨rfl,_,_⟩:=e;rcases h1 with h1|⟨b',off',e',hbs,hcell⟩
 ·exact .inl h1
 ·simp only[Option.some.injEq,Addr.mk.injEq,and_true]at e';obtain⟨rfl,rfl⟩:=e';refine .inr ⟨b,off,rfl,Nat.lt_of_lt_of_le hbs hg.size,fun i hi=>?_⟩;rw[← hcell i hi];exact World.cell?_of_block (w:=w) (hg.block b hbs hne)
def blk(key info:List Int):Nat→List Int
 | 0=>[]
 | i+1=>EQ key (blk key info i++info++[(i:Int)+1])
def AR(key info:List Int):Nat→List Int
 | 0=>[]
 | i+1=>AR key info i++blk key info (i+1)
def EL(key info:List Int)(n:Nat):List Int:=(AR key info 16).take n
theorem FN(key info:List Int)(i:Nat):(blk key info (i+1)).length=32:=D7 _ _
theorem Tf(key info:List Int)(i:Nat):∀ x∈blk key info i,0≤x∧x<256:=by
 cases i with
 | zero=>intro x hx;cases hx
 | succ i=>exact RQ _ _
theorem XY(key info:List Int)(i:Nat):(blk key info i).length≤32:=by
 cases i with
 | zero=>simp[blk]
 | succ i=>rw[FN];omega
theorem Cc(key info:List Int)(i:Nat):(AR key info i).length=32*i:=by
 induction i with
 | zero=>rfl
 | succ i ih=>rw[AR,List.length_append,ih,FN];omega
theorem Ox(key info:List Int)(i:Nat):∀ x∈AR key info i,0≤x∧x<256:=by
 induction i with
 | zero=>intro x hx;cases hx
 | succ i ih =>
  intro x hx;rcases List.mem_append.1 hx with h|h
  ·exact ih x h
  ·exact Tf key info (i+1) x h
theorem Oy(key info:List Int)(n i j:Nat)(hn:n≤32*i):(AR key info (i+j)).take n=(AR key info i).take n:=by
 induction j with
 | zero=>rfl
 | succ j ih=>rw[← Nat.add_assoc,AR,List.take_append_of_le_length (by rw[Cc];omega),ih]
theorem R4(key info:List Int)(n i:Nat):(AR key info (i+1)).take n=(AR key info i).take n++(blk key info (i+1)).take (n-32*i):=by
 rw[AR,List.take_append,Cc]
theorem Pf(vk vi:Value)(k i:List Int)(n:Nat)(w:World)(hk:Sl w vk k)(hi:Sl w vi i)(hkl:k.length≤1000)(hil:i.length≤900)(hn:n≤512)(ht:AI w) :
  Calls prog 82 #[vk,vi,.int .i64 n] w fun e w'=>∃ v',e=.returned v'∧w'.ownsRow w.heap.size 5 1 v' (EL k i n).length ((EL k i n).map (Value.int .u8))∧Below w.heap.size w w':=by
 obtain⟨i0,hi0,hz0,hz1,hz2⟩:=info_parts AB;go_enter func82,ntmps82
 go_wp2_with (at_make;refine wpList_make_own _ rfl _ _ 26 rfl w.heap.size 5 i0 (.int .u8 0) 1 underlying26 hi0 hz0 hz1 _ _ _ n rfl rfl (by omega) (by rw[hz2];omega) (by unfold maxLen;omega) (Nat.le_refl _) ?_)
 intro w1 ho1 hg1;have hb1:Below w.heap.size w w1:=(Below.refl _ _).grown hg1 (Nat.le_refl _) (by simp);have ho1':w1.ownsRow w.heap.size 5 1 (.slice (some ⟨w.heap.size,0,none⟩) 0 n) ((AR k i 0).take n).length (((AR k i 0).take n).map (Value.int .u8)):=by simpa[AR]using ho1
 clear ho1 hg1;go_wp2_with fail
 go_loopw [7,8,9] (fun v b c wr=>∃ j:Nat,j≤16∧c=.int .u8 ((j:Int)+1)∧(∃ m cap,v=.slice (some ⟨m,0,none⟩) (min (32*j) n) cap)∧Sl wr b (blk k i j)∧wr.ownsRow w.heap.size 5 1 v ((AR k i j).take n).length (((AR k i j).take n).map (Value.int .u8))∧Below w.heap.size w wr) (fun _ _ c _=>(17-intOf c).toNat)
 case atStart=>exact⟨0,by omega,rfl,⟨w.heap.size,n,by simp⟩,Sl.nil _ _,ho1',hb1⟩
 case round =>
  clear ho1' hb1;obtain⟨j,hj,rfl,⟨m,cap,rfl⟩,sb,hown,hb⟩:=hrel;have hlt:=hown.lt;by_cases hc:32*j<n
  ·have hmin:min (32*j) n=32*j:=by omega
   rw[hmin]at hown hlt ⊢
   have hmw:m<wr.heap.size:=(hlt m rfl).2;have hlen:((AR k i j).take n).length=32*j:=by rw[List.length_take,Cc];omega
   have hbl:=XY k i j;have hj15:j≤15:=by omega
   have HB:Hid (blk k i (j+1)=EQ k (blk k i j++i++[(j:Int)+1])):=rfl;have HS:=R4 k i n j;have HSS:Hid _:=HS;have yb:∀ x∈blk k i j++i++[(j:Int)+1],0≤x∧x<256:=fun x hx=>by
    rcases List.mem_append.1 hx with h|h
    ·rcases List.mem_append.1 h with h|h
     ·exact sb.byte x h
     ·exact hi.byte x h
    ·obtain rfl:x=(j:Int)+1:=by simpa using h
     omega
   clear HS hmin;go_wp2_with fail
   refine(Mp _ vi (blk k i j) i ((j:Int)+1) wr sb (hi.below hb) (by omega) (by omega) (by omega)).mono ?_;rintro e w2 ⟨v2,rfl,ho2,hb2⟩;have hB2:Below w.heap.size w w2:=hb.trans (hb2.mono hb.size);have l2:(blk k i j++i++[(j:Int)+1]).length≤2000:=by simp;omega
   have s2:=Sl.ofOwns ho2 (by omega) yb;go_wp2_with fail
   refine(Ml vk v2 k _ w2 (hk.below hB2) s2 (by omega) (by omega) (ht.below hB2)).mono ?_;rintro e w3 ⟨v3,rfl,f3⟩;rw[← HB.out]at f3
   obtain⟨g3,c3,hv3,_,hc3⟩:=f3.shape;have s3:=f3.sl;have hb3:=f3.bel;have l3:=FN k i j;rw[l3]at hv3 hc3
   subst hv3;clear HB f3 s2 ho2 l2 yb sb;have ho3:=hown;have hown3:w3.ownsRow w.heap.size 5 1 (.slice (some ⟨m,0,none⟩) (32*j) cap) ((AR k i j).take n).length (((AR k i j).take n).map (Value.int .u8)):=by
    refine hown.kept (row:=none) ⟨(hb2.trans (hb3.mono hb2.size)).os,(hb2.trans (hb3.mono hb2.size)).tape,(hb2.trans (hb3.mono hb2.size)).output,(hb2.trans (hb3.mono hb2.size)).size,fun q hq _=>(hb2.trans (hb3.mono hb2.size)).block q hq⟩ (.inr (by simp[Value.ownBlock]))
   have hB3:Below w.heap.size w w3:=hB2.trans (hb3.mono hB2.size);have hlt3:=hown3.lt;have HL:Hid ((AR k i (j+1)).take n=(AR k i j).take n++(blk k i (j+1)).take (n-32*j)):=HSS.out;clear HSS ho3 hown hlt;have hM:((blk k i (j+1)).take (n-32*j)).length=min (n-32*j) 32:=by rw[List.length_take,l3]
   have sM:Sl w3 (.slice (some ⟨g3,0,none⟩) (min (n-32*j) 32) c3) ((blk k i (j+1)).take (n-32*j)):=by
    by_cases hq:n-32*j≤32
    ·rw[Nat.min_eq_left hq];exact s3.take (n-32*j) (by omega)
    ·rw[Nat.min_eq_right (by omega),List.take_of_length_le (by omega)];exact s3
   have HN:=s3;have hlt2:((AR k i (j+1)).take n).length=min (32*(j+1)) n:=by rw[List.length_take,Cc];omega
   have HL2:Hid (((AR k i (j+1)).take n).length=min (32*(j+1)) n):=hlt2;clear HN hlt2;generalize (blk k i (j+1)).take (n-32*j)=M at sM hM HL;generalize (AR k i j).take n=P at hown3 hlt3 hlen HL;have SB:Sl w3 (.slice (some ⟨g3,0,none⟩) 32 c3) (blk k i (j+1)):=s3;clear s3;have hmin:(min (32:Int) ((n:Int)-32*(j:Int))).toNat=min (n-32*j) 32:=by omega
   have sM':Sl w3 (.slice (some ⟨g3,0,none⟩) (min (32:Int) ((n:Int)-32*(j:Int))).toNat c3) M:=by rw[hmin];exact sM
   have hmlt:m<w2.heap.size:=Nat.lt_of_lt_of_le hmw hb2.size;clear hmin sM;go_wp2_with (at_builtin;refine Aa _ rfl _ _ 26 rfl w.heap.size 5 underlying26 AB _ _ rfl rfl P M hown3 sM' (by omega) hB3.size ?_)
   intro v4 w4 ho4 hg4;have ho4':w4.ownsRow w.heap.size 5 1 v4 (P++M).length ((P++M).map (Value.int .u8)):=by simpa[hlen,hM]using ho4
   have hb4:Below w.heap.size w w4:=hB3.grown hg4 hB3.size (fun k hk=>(hlt3 k hk).1);have SB4:Sl w4 (.slice (some ⟨g3,0,none⟩) 32 c3) (blk k i (j+1)):=SB.grown hg4 (by simp[Value.ownBlock];omega);obtain⟨g4,c4,hv4,_,_,_,_,_⟩:=Ds ho4' (by intro e;have:=congrArg List.length e;rw[List.length_append,hlen,hM]at this;simp at this;omega);have hPM:(P++M).length=min (32*(j+1)) n:=by rw[← HL.out];exact HL2.out
   rw[← HL.out]at ho4'
   rw[hPM]at hv4
   subst hv4;clear ho4 hg4 hown3 hlt3 hB3 SB sM' hM HL HL2 hPM hlen;go_wp2
   go_roundw
   case rel=>exact⟨j+1,by omega,by go_num,⟨g4,c4,rfl⟩,SB4,ho4',hb4⟩
   case measure=>simp[intOf];omega
  ·have hmin:min (32*j) n=n:=by omega
   rw[hmin]at hown ⊢
   have HQ:Hid (EL k i n=(AR k i j).take n):=by
    unfold Hid EL;have:=Oy k i n j (16-j) (by omega);rw[show j+(16-j)=16 by omega]at this
    exact this
   go_wp2
   go_ret;refine⟨_,rfl,?_,hb⟩;rw[HQ.out];exact hown
theorem Gr(k i:List Int)(n:Nat)(h:n≤512):(EL k i n).length=n:=by
 unfold EL;rw[List.length_take,Cc];omega
theorem Jq(k i:List Int)(n:Nat):∀ x∈EL k i n,0≤x∧x<256:=fun x hx=>Ox k i 16 x (List.mem_of_mem_take hx)
theorem Qr(v0 v1 v2:Value)(l0 l1 l2:List Int)(n:Nat)(w:World)(h0:Sl w v0 l0)(h1:Sl w v1 l1)(h2:Sl w v2 l2)(hl0:l0.length≤256)(hl1:l1.length≤256)(hl2:l2.length≤256)(hn:n≤512)(ht:AI w) :
  Calls prog 43 #[v0,v1,v2,.int .i64 n] w fun e w'=>∃ v',e=.returned (.tuple #[v',.int .i64 0])∧w'.ownsRow w.heap.size 5 1 v' (EL (EQ l1 l0) l2 n).length ((EL (EQ l1 l0) l2 n).map (Value.int .u8))∧Below w.heap.size w w':=by
 have s0:=h0;have s1:=h1;have s2:=h2;obtain⟨⟨a0,c0,rfl,_,_,_⟩,_,_⟩:=h0;obtain⟨⟨a1,c1,rfl,_,_,_⟩,_,_⟩:=h1;obtain⟨⟨a2,c2,rfl,_,_,_⟩,_,_⟩:=h2;have d0:decide ((256:Int)<(l0.length:Int))=false:=by simp;omega
 have d1:decide ((256:Int)<(l1.length:Int))=false:=by simp;omega
 have d2:decide ((256:Int)<(l2.length:Int))=false:=by simp;omega
 have d3:decide ((n:Int)<0)=false:=by simp
 have d4:decide ((512:Int)<(n:Int))=false:=by simp;omega
 go_enter func43,ntmps43
 go_wp2_with fail
 refine(Ml _ _ l1 l0 w s1 s0 (by omega) (by omega) ht).mono ?_;rintro e w1 ⟨v1,rfl,f1⟩;have lm:=D7 l1 l0;go_wp2_with fail
 refine(Pf v1 _ (EQ l1 l0) l2 n w1 f1.sl (s2.below f1.bel) (by omega) (by omega) hn (ht.below f1.bel)).mono ?_;rintro e w2 ⟨v2,rfl,ho2,hb2⟩;go_wp2
 go_ret2
 exact⟨v2,rfl,B1 ho2 f1.bel.size,f1.bel.trans (hb2.mono f1.bel.size)⟩
def K3(c:Int):List Int:=EL (EQ [99,108,105,101,110,116] [c]) [] 32
def Mh:List Int:=EL (EQ [105,115,115,117,101,114] [255]) [] 32
theorem It(c:Int):(K3 c).length=32:=Gr _ _ 32 (by omega)
theorem Ns:Mh.length=32:=Gr _ _ 32 (by omega)
theorem RJ(c:Int):∀ x∈K3 c,0≤x∧x<256:=Jq _ _ _
theorem RG:∀ x∈Mh,0≤x∧x<256:=Jq _ _ _
theorem Sl.sixM(w:World)(l:List Int)(e:TypeId)(fr:Nat × Nat){g:Nat}(hg:g=w.heap.size)(hl:l.length=6)(hb:∀ x∈l,0≤x∧x<256):Sl (w.alloc (.cells (l.map (Value.int .u8)).toArray e fr)) (.slice (some ⟨g,0,none⟩) 6 6) l:=by
 subst hg;refine⟨⟨_,6,by rw[hl],by omega,by simp,.inr ⟨w.heap.size,0,rfl,by simp,fun i hi=>?_⟩⟩,by omega,hb⟩;rw[cell_of_row _ _ (0+i) _ _ _ (heap_alloc_new w _)];simp[List.getElem?_eq_getElem hi,List.getD]
def Fo(t:Nat)(x:Int):Int:=if t%4=3 then x%16 else if t%4=0∧0<t then x/4*4 else x
def CR(l:List Int):List Int:=(List.range 16).map fun t=>Fo t (l.getD t 0)
theorem Kv(l:List Int):(CR l).length=16:=by simp[CR]
theorem OP(l:List Int)(t:Nat)(h:t<16):(CR l).getD t 0=Fo t (l.getD t 0):=by
 simp[CR,List.getD,List.getElem?_map,List.getElem?_range h]
theorem LW(t:Nat){x:Int}(h:0≤x∧x<256):0≤Fo t x∧Fo t x<256:=by
 unfold Fo;split
 ·omega
 ·split<;>omega
theorem MV{l:List Int}(h:∀ x∈l,0≤x∧x<256):∀ x∈CR l,0≤x∧x<256:=by
 intro x hx;obtain⟨t,_,rfl⟩:=List.mem_map.1 hx;exact LW t (Ak h t)
theorem Pd{l m:List Int}(h:l.length=m.length)(hg:∀ t,t<l.length→l.getD t 0=m.getD t 0):l=m:=by
 apply List.ext_getElem h;intro t h1 h2;have:=hg t h1
 rwa [AG h1,AG h2]at this
theorem Zu(x:Int)(h0:0≤x)(h1:x<256):bits .and .u8 x 15=x%16:=by
 obtain⟨n,rfl⟩:=Int.eq_ofNat_of_zero_le h0;rw[show(15:Int)=((15:Nat):Int)from rfl,u8_and_nat _ _ (by omega) (by omega),show(15:Nat)=2^4-1 from rfl,Nat.and_two_pow_sub_one_eq_mod];omega
theorem OD:∀ n:Fin 256,n.val &&& 252=n.val/4*4:=by decide +kernel
theorem XS(x:Int)(h0:0≤x)(h1:x<256):bits .and .u8 x 252=x/4*4:=by
 obtain⟨n,rfl⟩:=Int.eq_ofNat_of_zero_le h0;have e:n &&& 252=n/4*4:=OD ⟨n,by omega⟩;rw[show(252:Int)=((252:Nat):Int)from rfl,u8_and_nat _ _ (by omega) (by omega),e];omega
structure Upper(l m:List Int)(j:Nat):Prop where
 len:m.length=16
 at_:∀ t,m.getD t 0=if t%4=3∧t<3+4*j then l.getD t 0%16 else l.getD t 0
theorem Upper.zero{l:List Int}(h:l.length=16):Upper l l 0:=by
 refine⟨h,fun t=>?_⟩;rw[if_neg (by omega)]
theorem Upper.succ{l m:List Int}{j:Nat}(h:Upper l m j)(hj:j<4):Upper l (m.set (3+4*j) (m.getD (3+4*j) 0%16)) (j+1):=by
 refine⟨by simpa using h.len,fun t=>?_⟩;by_cases e:3+4*j=t
 ·subst e;rw[AH (by rw[h.len];omega),h.at_,if_neg (by omega),if_pos (by omega)]
 ·rw[Ax e,h.at_];by_cases c:t%4=3∧t<3+4*j
  ·rw[if_pos c,if_pos (by omega)]
  ·rw[if_neg c,if_neg (by omega)]
structure Lower(l m:List Int)(j:Nat):Prop where
 len:m.length=16
 at_:∀ t,t<16→m.getD t 0=if t%4=3 then l.getD t 0%16 else if t%4=0∧0<t∧t<4+4*j then l.getD t 0/4*4 else l.getD t 0
theorem Upper.lower{l m:List Int}(h:Upper l m 4):Lower l m 0:=by
 refine⟨h.len,fun t ht=>?_⟩;rw[h.at_];by_cases c:t%4=3
 ·rw[if_pos (by omega),if_pos c]
 ·rw[if_neg (by omega),if_neg c,if_neg (by omega)]
theorem Lower.succ{l m:List Int}{j:Nat}(h:Lower l m j)(hj:j<3):Lower l (m.set (4+4*j) (m.getD (4+4*j) 0/4*4)) (j+1):=by
 refine⟨by simpa using h.len,fun t ht=>?_⟩;by_cases e:4+4*j=t
 ·subst e;rw[AH (by rw[h.len];omega),h.at_ _ ht,if_neg (by omega),if_neg (by omega),if_neg (by omega),if_pos (by omega)]
 ·rw[Ax e,h.at_ _ ht];by_cases c:t%4=3
  ·rw[if_pos c,if_pos c]
  ·rw[if_neg c,if_neg c];by_cases d:t%4=0∧0<t∧t<4+4*j
   ·rw[if_pos d,if_pos (by omega)]
   ·rw[if_neg d,if_neg (by omega)]
theorem Lower.clamp{l m:List Int}(h:Lower l m 3):m=CR l:=by
 refine Pd (by rw[h.len,Kv]) (fun t ht=>?_);rw[h.len]at ht
 rw[h.at_ t ht,OP l t ht,Fo];by_cases c:t%4=3
 ·rw[if_pos c,if_pos c]
 ·rw[if_neg c,if_neg c];by_cases d:t%4=0∧0<t
  ·rw[if_pos d,if_pos (by omega)]
  ·rw[if_neg d,if_neg (by omega)]
theorem Upper.byte{l m:List Int}{j:Nat}(h:Upper l m j)(hl:∀ x∈l,0≤x∧x<256)(t:Nat):0≤m.getD t 0∧m.getD t 0<256:=by
 have:=Ak hl t;rw[h.at_];split<;>omega
theorem Lower.byte{l m:List Int}{j:Nat}(h:Lower l m j)(hl:∀ x∈l,0≤x∧x<256)(t:Nat)(ht:t<16):0≤m.getD t 0∧m.getD t 0<256:=by
 have:=Ak hl t;rw[h.at_ t ht];split
 ·omega
 ·split<;>omega
theorem Pg(v:Value)(l:List Int)(w:World)(h:Sl w v l)(hl:l.length=16) :
  Calls prog 224 #[v] w fun e w'=>∃ r,e=.returned (.agg (Ai r))∧Lim 67108864 r∧val r%pp=leN (CR l)%pp∧Below w.heap.size w w':=by
 have hs:=h;obtain⟨⟨a,cap,rfl,hc,hn,h1⟩,hla,hba⟩:=h;have HBY:Hid (∀ x∈l,0≤x∧x<256):=hba;clear h1 hba hn hla;have HL:Hid (l.length=16):=hl;go_enter func224,ntmps224
 go_wp2_with (refine wpList_copy_splice rfl _ _ 26 26 rfl 5 underlying26 TZ _ _ _ _ _ _ rfl rfl (w.heap.size+1) 0 ((List.replicate 16 (0:Int)).map (Value.int .u8)) 294 (heap_alloc2_new _ _ _) (l.map (Value.int .u8)) (by rw[List.length_map];exact(Nat.min_eq_left (show l.length≤16 by omega)).symm) (fun hp=>⟨rfl,(hs.below (((Below.refl _ _).alloc (Nat.le_refl _) _).alloc (by simp) _)).src (by simpa using hp)⟩) (by rw[List.length_map,List.length_map,List.length_replicate];omega) (DT _) (w.heap.size+1) _ (Below.refl _ _) (Nat.le_refl _) ?_)
 intro w2 H2 hb2;have hr2:w2.heap[w.heap.size+1]?=some (.cells (byA l) 294 (0,0)):=by
  have h3:w2.heap[w.heap.size+1]?=some (.cells (splice ((List.replicate 16 (0:Int)).map (Value.int .u8)) 0 (l.map (Value.int .u8))).toArray 294 (0,0)):=H2.out;rw[GO,hl]at h3
  simpa[byA]using h3
 have hB2:Below w.heap.size w w2:=(((Below.refl _ _).alloc (Nat.le_refl _) _).alloc (by simp) _).trans (hb2.mono (by omega));have hq2:w2.heap[w.heap.size]?=some (.cells (Ai [0,0,0,0,0]) 273 (0,0)):=by
  rw[hb2.block _ (by omega)];exact heap_alloc2_old _ _ _
 clear H2 hb2 hs;go_wp2_with fail
 go_loopw [4] (fun i wr=>∃ (j:Nat) (m:List Int),j≤4∧i=.int .i64 (3+4*(j:Int))∧Upper l m j∧wr.heap[w.heap.size]?=some (.cells (Ai [0,0,0,0,0]) 273 (0,0))∧wr.heap[w.heap.size+1]?=some (.cells (byA m) 294 (0,0))∧Below w.heap.size w wr) (fun i _=>20-(intOf i).toNat)
 case atStart=>exact⟨0,l,by omega,rfl,Upper.zero HL.out,hq2,hr2,hB2⟩
 case round =>
  clear hq2 hr2 hB2;obtain⟨j,m,hj,rfl,hu,hq,hr,hb⟩:=hrel;have hm:=hu.len;by_cases hj4:j<4
  ·have hji:3+4*(j:Int)<16:=by omega
   have cl:=(cell_of_row _ _ (3+4*j) _ _ _ hr).trans (Gl m (3+4*j) (by omega));have fl:=frozen_of_row _ _ (3+4*j) _ _ hr;have hby:=hu.byte HBY.out (3+4*j);have HS:Hid (Upper l (m.set (3+4*j) (m.getD (3+4*j) 0%16)) (j+1)):=hu.succ hj4;have hand:=Zu (m.getD (3+4*j) 0) hby.1 hby.2;generalize m.getD (3+4*j) 0=x at cl HS hby hand;clear hu;go_wp2
   go_roundw
   case rel =>
    refine⟨j+1,_,by omega,by go_num,HS.out,?_,Fl hr _ _,?_⟩
    ·exact(heap_setCell_other _ _ _ _ (by simp)).trans hq
    ·exact hb.setCell (p:=⟨w.heap.size+1,3+4*j,none⟩) (by simp) _
   case measure=>simp[intOf];omega
  ·have HJ:Hid (j=4):=by unfold Hid;omega
   have hji:¬ 3+4*(j:Int)<16:=by omega
   have hlo:Lower l m 0:=by have:=HJ.out;subst this;exact hu.lower
   clear hu;go_wp2_with fail
   go_loopw [5] (fun i wr=>∃ (j:Nat) (m:List Int),j≤3∧i=.int .i64 (4+4*(j:Int))∧Lower l m j∧wr.heap[w.heap.size]?=some (.cells (Ai [0,0,0,0,0]) 273 (0,0))∧wr.heap[w.heap.size+1]?=some (.cells (byA m) 294 (0,0))∧Below w.heap.size w wr) (fun i _=>20-(intOf i).toNat)
   case atStart=>exact⟨0,m,by omega,rfl,hlo,hq,hr,hb⟩
   case round =>
    clear hq hr hb hlo hm;obtain⟨k,m,hk,rfl,hu,hq,hr,hb⟩:=hrel;have hm:=hu.len;by_cases hk3:k<3
    ·have hki:4+4*(k:Int)<16:=by omega
     have cl:=(cell_of_row _ _ (4+4*k) _ _ _ hr).trans (Gl m (4+4*k) (by omega));have fl:=frozen_of_row _ _ (4+4*k) _ _ hr;have hby:=hu.byte HBY.out (4+4*k) (by omega);have HS:Hid (Lower l (m.set (4+4*k) (m.getD (4+4*k) 0/4*4)) (k+1)):=hu.succ hk3;have hand:=XS (m.getD (4+4*k) 0) hby.1 hby.2;generalize m.getD (4+4*k) 0=x at cl HS hby hand;clear hu;go_wp2
     go_roundw
     case rel =>
      refine⟨k+1,_,by omega,by go_num,HS.out,?_,Fl hr _ _,?_⟩
      ·exact(heap_setCell_other _ _ _ _ (by simp)).trans hq
      ·exact hb.setCell (p:=⟨w.heap.size+1,4+4*k,none⟩) (by simp) _
     case measure=>simp[intOf];omega
    ·have hki:¬ 4+4*(k:Int)<16:=by omega
     have HK:Hid (k=3):=by unfold Hid;omega
     have hmc:m=CR l:=by have:=HK.out;subst this;exact hu.clamp
     have s3:Sl wr (.slice (some ⟨w.heap.size+1,0,none⟩) 16 16) m:=by
      refine Sl.rowOf hr hm (by omega) ?_;rw[hmc];exact MV HBY.out
     have HM:Hid (m=CR l):=hmc;have HS3:Hid _:=s3;have hzz:w.heap.size<wr.heap.size:=(Array.getElem?_eq_some_iff.1 hq).1;clear hu s3 hmc hr;go_wp2_with fail
     refine(Oj _ m _ HS3.out (by omega)).mono ?_;rintro e w4 ⟨r,rfl,lr,vr,hb4⟩;have hq4:=(hb4.block w.heap.size hzz).trans hq;have hB4:Below w.heap.size w w4:=hb.trans (hb4.mono hb.size);have hsz2:=Ci lr.1;go_wp2_with ((with_reducible (refine Ap ?_));(refine wpList_store_row rfl 273 _ _ rfl (w.heap.size) _ rfl rfl 273 _ hq4 hsz2 (by rw[Al,Al,lr.1];rfl) (Bg r) ?_))
     exact bodyPost_ret (v:=.agg (Ai r)) (results_cell_row rfl _ _ (w.heap.size) 273 _ (0,0) _ rfl (setRow_heap w4 (w.heap.size) _ _ 273 _ hq4) underlying273 rfl hsz2) rfl ⟨r,rfl,lr,by rw[vr,HM.out],AO hB4 (Nat.le_refl _) _⟩
def AF(v:Int)(i:Nat):Int:=v/256^i%256
theorem EE(v:Int)(i:Nat):0≤AF v i∧AF v i<256:=by unfold AF;omega
def leB(n:Nat)(v:Int):List Int:=(List.range n).map (AF v)
theorem Dm(n:Nat)(v:Int):(leB n v).length=n:=by simp[leB]
theorem J5(n:Nat)(v:Int):∀ x∈leB n v,0≤x∧x<256:=by
 intro x hx;obtain⟨j,_,rfl⟩:=List.mem_map.1 hx;exact EE v j
def E4(S:Nat→Int):Nat→Int
 | 0=>0
 | k+1=>E4 S k+S k*256^k
def Gm(S:Nat→Int)(k:Nat):Int:=E4 S k/256^k
theorem JG(k:Nat):(0:Int)<256^k:=Int.pow_pos (by omega)
theorem KR(S:Nat→Int):Gm S 0=0:=by simp[Gm,E4]
theorem KQ(S:Nat→Int)(k:Nat):Gm S (k+1)=(Gm S k+S k)/256:=by
 have hp:=JG k;unfold Gm;rw[E4,Int.pow_succ,← Int.ediv_ediv_of_nonneg (Int.le_of_lt hp),Int.add_mul_ediv_right _ _ (Int.ne_of_gt hp)]
theorem OH(S:Nat→Int)(h:∀ j,0≤S j∧S j<1000)(k:Nat):0≤Gm S k∧Gm S k<256:=by
 induction k with
 | zero=>rw[KR];omega
 | succ k ih=>rw[KQ];have:=h k;omega
theorem S8(S:Nat→Int)(k d:Nat):∃ Z,E4 S (k+d)=E4 S k+256^k*Z:=by
 induction d with
 | zero=>exact⟨0,by simp⟩
 | succ d ih =>
  obtain⟨Z,hZ⟩:=ih;refine⟨Z+S (k+d)*256^d,?_⟩;rw[← Nat.add_assoc,E4,hZ,Int.pow_add]
  grind
theorem Jf(v Z:Int)(n k:Nat)(h:k<n):AF (v+256^n*Z) k=AF v k:=by
 have hp:=JG k;obtain⟨d,rfl⟩:∃ d,n=k+(1+d):=⟨n-k-1,by omega⟩;unfold AF;rw[Int.pow_add,Int.pow_add,show(256:Int)^k*(256^1*256^d)*Z=256^k*(256*(256^d*Z))by grind,Int.add_mul_ediv_left _ _ (Int.ne_of_gt hp)];omega
theorem Ri(S:Nat→Int)(n k:Nat)(h:k<n):(Gm S k+S k)%256=AF (E4 S n) k:=by
 have hp:=JG k;obtain⟨d,rfl⟩:∃ d,n=(k+1)+d:=⟨n-(k+1),by omega⟩;obtain⟨Z,hZ⟩:=S8 S (k+1) d;rw[hZ,Jf _ _ _ _ (by omega),AF,E4,Int.add_mul_ediv_right _ _ (Int.ne_of_gt hp)];rfl
theorem Vm(S T:Nat→Int)(k:Nat):E4 (fun j=>S j+T j) k=E4 S k+E4 T k:=by
 induction k with
 | zero=>rfl
 | succ k ih=>simp only[E4,ih];grind
theorem Vn(l:List Int)(k:Nat):E4 (fun j=>l.getD j 0) k=leP l k:=by
 induction k with
 | zero=>rfl
 | succ k ih=>simp only[E4,leP,ih]
theorem Qf(v:Int)(n:Nat):∃ Z,v=E4 (AF v) n+256^n*Z∧Z=v/256^n:=by
 induction n with
 | zero=>exact⟨v,by simp[E4],by simp⟩
 | succ n ih =>
  obtain⟨Z,h1,h2⟩:=ih;refine⟨Z/256,?_,?_⟩
  ·rw[E4,AF,← h2,Int.pow_succ];have:Z=Z%256+256*(Z/256):=by omega
   grind
  ·rw[h2,Int.pow_succ,Int.ediv_ediv_of_nonneg (Int.le_of_lt (JG n))]
theorem Tl(v:Int)(s:List Int)(k:Nat)(hk:k<16)(hs:s.length≤16) :
  (Gm (fun j=>AF v j+s.getD j 0) k+(AF v k+s.getD k 0))%256=AF (v+leN s) k:=by
 rw[Ri (fun j=>AF v j+s.getD j 0) 16 k hk,Vm (AF v) (fun j=>s.getD j 0),Vn,Un 16 hs];obtain⟨Z,h1,_⟩:=Qf v 16;have e:v+leN s=E4 (AF v) 16+leN s+256^16*Z:=by omega
 rw[e,Jf _ _ _ _ hk]
def GR(v:Int)(k:Nat):List Int:=(List.range 16).map fun j=>if j<k then AF v j else 0
theorem O0(v:Int)(k:Nat):(GR v k).length=16:=by simp[GR]
theorem SF(v:Int):GR v 0=List.replicate 16 0:=rfl
theorem Vv(v:Int):GR v 16=leB 16 v:=by
 unfold GR leB;refine List.map_congr_left fun j hj=>?_;rw[if_pos (List.mem_range.1 hj)]
theorem SE(v:Int)(k:Nat)(_hk:k<16):(GR v k).set k (AF v k)=GR v (k+1):=by
 apply List.ext_getElem (by simp[GR]);intro j h1 h2;rw[List.getElem_set];simp only[GR,List.getElem_map,List.getElem_range];by_cases e:k=j
 ·subst e;rw[if_pos rfl,if_pos (by omega)]
 ·rw[if_neg e];by_cases c:j<k
  ·rw[if_pos c,if_pos (by omega)]
  ·rw[if_neg c,if_neg (by omega)]
theorem PH(a b:Int)(k:Nat)(m:Int)(hm:m=2^k)(ha:0≤a)(ha2:a<m)(hb:0≤b)(hs:a+b*m<18446744073709551616):bits .or .u64 a (b*m)=a+b*m:=by
 obtain⟨x,rfl⟩:=Int.eq_ofNat_of_zero_le ha;obtain⟨y,rfl⟩:=Int.eq_ofNat_of_zero_le hb;have e:(y:Int)*m=((2^k*y:Nat):Int):=by rw[hm,Int.natCast_mul,Int.natCast_pow,Int.mul_comm];rfl
 rw[e]at hs ⊢
 have hx:x<2^k:=by
  have:((x:Nat):Int)<((2^k:Nat):Int):=by rw[Int.natCast_pow];rw[hm]at ha2;exact ha2
  omega
 have h1:=Nat.two_pow_add_eq_or_of_lt hx y;rw[u64_or_nat _ _ (by omega) (by omega),Nat.or_comm,← h1];omega
theorem YN{a b:Int}(h:a=b):Ending.returned (.int .u8 a)=.returned (.int .u8 b):=by rw[h]
theorem OG(n:List Int)(i:Nat)(w:World)(hn:Lim 67108864 n)(hi:i<16) :
  Calls prog 244 #[.agg (Ai n),.int .i64 i] w fun e w'=>e=.returned (.int .u8 (AF (val n) i))∧Below w.heap.size w w':=by
 obtain⟨a,b,c,d,e,rfl,⟨a1,a2⟩,⟨b1,b2⟩,⟨c1,c2⟩,⟨d1,d2⟩,⟨e1,e2⟩⟩:=hn.split;have hs:(w.alloc (.cells (Ai [a,b,c,d,e]) 273 (0,0))).heap[w.heap.size]?=some (.cells (Ai [a,b,c,d,e]) 273 (0,0)):=heap_alloc_new _ _;have k0:=(cell_of_row _ _ 0 _ _ _ hs).trans (Ar _ 0 (by simp));have k1:=(cell_of_row _ _ 1 _ _ _ hs).trans (Ar _ 1 (by simp));have k2:=(cell_of_row _ _ 2 _ _ _ hs).trans (Ar _ 2 (by simp));have k3:=(cell_of_row _ _ 3 _ _ _ hs).trans (Ar _ 3 (by simp));have k4:=(cell_of_row _ _ 4 _ _ _ hs).trans (Ar _ 4 (by simp));simp only[List.getD_cons_zero,List.getD_cons_succ]at k0 k1 k2 k3 k4;have HV:Hid (val [a,b,c,d,e]=a+67108864*b+4503599627370496*c+302231454903657293676544*d+20282409603651670423947251286016*e):=Cz a b c d e;generalize Ai [a,b,c,d,e]=arr at k0 k1 k2 k3 k4 ⊢;generalize val [a,b,c,d,e]=V at HV ⊢;clear hn hs;obtain rfl|rfl|rfl|rfl|rfl|rfl|rfl|rfl|rfl|rfl|rfl|rfl|rfl|rfl|rfl|rfl:i=0∨i=1∨i=2∨i=3∨i=4∨i=5∨i=6∨i=7∨i=8∨i=9∨i=10∨i=11∨i=12∨i=13∨i=14∨i=15:=by omega
 all_goals
  go_enter func244,ntmps244
  go_wp2
  go_ret;refine⟨YN ?_,(Below.refl _ _).alloc (Nat.le_refl _) _⟩;have hV:=HV.out;clear HV k0 k1 k2 k3 k4;unfold AF
  first
   | rw[PH _ _ 2 4 rfl (by omega) (by omega) (by omega) (by omega)]
   | rw[PH _ _ 4 16 rfl (by omega) (by omega) (by omega) (by omega)]
   | rw[PH _ _ 6 64 rfl (by omega) (by omega) (by omega) (by omega)]
   | skip
  subst hV;simp only[Int.reducePow];omega
theorem KD{P:Program}{id:Nat}{ops:Array Oper}{K:Act→World→Prop}{Q:Exit→Act→World→Prop}{a:Act}{w:World}(R:World→Prop){A:Act}
  (hreg:∀ K':Act→World→Prop,Hid (∀ W2,R W2→K' A W2)→(Code.region id ops true).wp P (Exit.then K' Q) a w)(hrest:∀ W2,R W2→K A W2):(Code.region id ops true).wp P (Exit.then K Q) a w:=hreg K hrest
theorem MC(nl:List Int)(v:Value)(s:List Int)(w:World)(h:Sl w v s)(hl:s.length=16)(hn:Lim 67108864 nl) :
  Calls prog 222 #[.agg (Ai nl),v] w fun e w'=>∃ v',e=.returned v'∧Sl w' v' (leB 16 (val nl+leN s))∧Below w.heap.size w w':=by
 obtain⟨⟨a,cap,rfl,hc,hn0,h1⟩,hla,hba⟩:=h;rcases h1 with rfl|⟨B,off,rfl,hB,hcell⟩
 ·simp at hl
 have HC:Hid (∀ i,i<16→w.cell? ⟨B,off+i,none⟩=some (.int .u8 (s.getD i 0))):=fun i hi=>hcell i (by omega);have HBY:Hid (∀ x∈s,0≤x∧x<256):=hba;have HS16:Hid (s.length=16):=hl;rw[hl]at hc ⊢
 clear hcell hba hn0 hla;obtain⟨n0,n1,n2,n3,n4,rfl,_⟩:=hn.split;obtain⟨V,hV⟩:∃ V,val [n0,n1,n2,n3,n4]=V:=⟨_,rfl⟩;have HV:Hid (val [n0,n1,n2,n3,n4]=V):=hV;rw[hV];clear hV;obtain⟨i0,hi0,hz0,hz1,hz2⟩:=info_parts AB;go_enter func222,ntmps222
 go_wp2_with (at_make;refine wpList_make_row _ rfl _ _ 26 rfl 5 i0 (.int .u8 0) underlying26 hi0 hz0 hz1 rfl _ _ 16 rfl rfl (by rw[hz2];omega) (by omega) ?_)
 clear hi0 hz0 hz1 hz2
 go_loopw [6,11] (fun cv i wr=>∃ (k:Nat),k≤16∧i=.int .i64 k∧cv=.int .i64 (Gm (fun j=>AF V j+s.getD j 0) k)∧wr.heap[w.heap.size]?=some (.cells (Ai [n0,n1,n2,n3,n4]) 273 (0,0))∧wr.heap[w.heap.size+1]?=some (.cells (byA (GR (V+leN s) k)) 5 (0,0))∧Below w.heap.size w wr) (fun _ i _=>16-(intOf i).toNat)
 case atStart =>
  refine⟨0,by omega,rfl,by rw[KR],?_,?_,?_⟩
  ·exact heap_alloc2_old _ _ _
  ·have e:madeCells #[Value.int .u8 0] 16=byA (GR (V+leN s) 0):=by rw[SF];kernel_rfl
   rw[e];exact heap_alloc2_new _ _ _
  ·exact((Below.refl _ _).alloc (Nat.le_refl _) _).alloc (by simp) _
 case round =>
  obtain⟨k,hk,rfl,rfl,hr,ht,hb⟩:=hrel;by_cases hk16:k<16
  ·have hki:(k:Int)<16:=by omega
   have kn0:=(cell_of_row _ _ 0 _ _ _ hr).trans (Ar _ 0 (by simp));have kn1:=(cell_of_row _ _ 1 _ _ _ hr).trans (Ar _ 1 (by simp));have kn2:=(cell_of_row _ _ 2 _ _ _ hr).trans (Ar _ 2 (by simp));have kn3:=(cell_of_row _ _ 3 _ _ _ hr).trans (Ar _ 3 (by simp));have kn4:=(cell_of_row _ _ 4 _ _ _ hr).trans (Ar _ 4 (by simp));simp only[List.getD_cons_zero,List.getD_cons_succ]at kn0 kn1 kn2 kn3 kn4;have hzr:w.heap.size+1<wr.heap.size:=(Array.getElem?_eq_some_iff.1 ht).1;have hBr:B<wr.heap.size:=by omega
   have ch:=(hb.cell (p:=⟨B,off+k,none⟩) hB).trans (HC.out k hk16);have hby:∀ j,0≤AF V j+s.getD j 0∧AF V j+s.getD j 0<1000:=fun j=>by
    have b1:=EE V j;have b2:=Ak HBY.out j;omega
   have hcr:=OH (fun j=>AF V j+s.getD j 0) hby k;have HCS:Hid (Gm (fun j=>AF V j+s.getD j 0) (k+1)=(Gm (fun j=>AF V j+s.getD j 0) k+(AF V k+s.getD k 0))/256):=KQ _ k;have HCB:Hid ((Gm (fun j=>AF V j+s.getD j 0) k+(AF V k+s.getD k 0))%256=AF (V+leN s) k):=Tl V s k hk16 (by rw[HS16.out];omega);have b1:=EE V k;have b2:=Ak HBY.out k;have hat:=OG [n0,n1,n2,n3,n4] k;rw[HV.out]at hat
   have HAT:Hid (∀ W,Calls prog 244 #[.agg (Ai [n0,n1,n2,n3,n4]),.int .i64 k] W fun e w'=>e=.returned (.int .u8 (AF V k))∧Below W.heap.size W w'):=fun W=>hat W hn hk16;have HT:Hid _:=ht;have HR:Hid _:=hr;have HB:Hid _:=hb;clear hat hby ht hr hb;have htl:=O0 (V+leN s) k;have HTS:Hid ((GR (V+leN s) k).set k (AF (V+leN s) k)=GR (V+leN s) (k+1)):=SE _ k hk16;generalize Gm (fun j=>AF V j+s.getD j 0) k=cy at HCS HCB hcr;generalize AF V k=x at HCS HCB b1 HAT;generalize s.getD k 0=y at HCS HCB b2 ch;obtain⟨x1,x2⟩:=b1;obtain⟨y1,y2⟩:=b2;obtain⟨z1,z2⟩:=hcr;go_wp2_with fail
   apply KD (fun W=>Below wr.heap.size wr W)
   ·intro K2 HK2
    go_region_with (go_at_call 244;refine(HAT.out _).mono ?_;rintro e w2 ⟨rfl,hb2⟩;have ch2:=(hb2.cell (p:=⟨B,off+k,none⟩) hBr).trans ch)
    all_goals exact HK2.out _ ((Below.refl _ _).drew.trans hb2)
   intro W hW;have ht:=(hW.block _ hzr).trans HT.out;have hr:=(hW.block _ (by omega)).trans HR.out;have ct:=(cell_of_row _ _ k _ _ _ ht).trans (Gl _ k (by omega));have ft:=frozen_of_row _ _ k _ _ ht;have hB2:Below w.heap.size w W:=HB.out.trans (hW.mono HB.out.size);clear kn0 kn1 kn2 kn3 kn4 ch;generalize (GR (V+leN s) k).getD k 0=c0 at ct;go_wp2
   go_roundw
   case rel =>
    refine⟨k+1,by omega,by go_num,?_,?_,?_,?_⟩
    ·rw[HCS.out]
    ·exact(heap_setCell_other _ _ _ _ (by simp)).trans hr
    ·have h1:=Fl ht k (AF (V+leN s) k);rw[HTS.out,← HCB.out]at h1
     exact h1
    ·exact hB2.setCell (p:=⟨w.heap.size+1,k,none⟩) (by simp) _
   case measure=>simp[intOf];omega
  ·have hki:¬ (k:Int)<16:=by omega
   have HK:Hid (k=16):=by unfold Hid;omega
   go_wp2
   go_ret;have hK:=HK.out;subst hK;rw[Vv]at ht
   exact⟨_,rfl,Sl.rowOf ht (Dm _ _) (by rw[Dm];omega) (J5 _ _),hb⟩
end Go.Proofs.YtakgfdbjgeopdaaGreatDoor
