/- Part 16 of the walk. -/
import Derived.Test.YtfhbkoflaekhpadGreatDoorZ15
import Derived.Test.YtfhbkoflaekhpadGreatDoorZ13
set_option maxRecDepth 100000
set_option maxHeartbeats 4000000
open Go.Proofs.Tryz
set_option linter.unusedVariables false
namespace Go.Proofs.YtfhbkoflaekhpadGreatDoor
section
open Go.RowKit
structure Bt(w:World)(g:Nat)(c r u:Int):Prop where
 lt:g<w.heap.size
 row:w.heap[g]?=some (.cells (tkA c r u) 58)
theorem Bt.made(w:World)(c r u:Int):Bt (w.alloc (.cells (tkA c r u) 58)) w.heap.size c r u:=⟨by simp,heap_alloc_new _ _⟩
theorem Bt.below{w w':World}{g:Nat}{c r u:Int}(h:Bt w g c r u)(hb:Bw w w'):Bt w' g c r u :=
 ⟨Nat.lt_of_lt_of_le h.lt hb.size,(hb.block g h.lt).trans h.row⟩
theorem Il(c r u:Int):(prog.info? 58).map (·.size)=some (tkA c r u).size:=by show _=some 3;kernel_rfl
theorem IL{w:World}{g:Nat}{c r u:Int}{ty:TypeId}{fr:Nat × Nat}(h:w.heap[g]?=some (.cells (tkA c r u) ty fr)) :
  w.cell? ⟨g,0,none⟩=some (.int .i64 c)∧w.cell? ⟨g,1,none⟩=some (.int .i64 r)∧w.cell? ⟨g,2,none⟩=some (.int .i64 u) :=
 ⟨cell_of_row _ _ 0 _ _ _ h,cell_of_row _ _ 1 _ _ _ h,cell_of_row _ _ 2 _ _ _ h⟩
theorem I5(c r u:Int)(w:World) :
  Calls prog 71 #[.agg (tkA c r u)] w fun e w'=>e=.returned (.bool (decide (CS c r u)))∧Bw w w':=by
 have bb:Bw w (w.alloc (.cells (tkA c r u) 58)):=(Below.refl _ _).alloc (Nat.le_refl _) _;have bt:=Bt.made w c r u;generalize hW:w.alloc (.cells (tkA c r u) 58)=W at bb bt;obtain⟨c0,c1,c2⟩:=IL bt.row;clear bt;go_enter func71,ntmps71
 go_wp2_with fail
 clear hW;refine(E6 c 7 _).mono ?_;rintro e w1 ⟨rfl,rfl⟩;by_cases h1:0≤c∧c≤7
 ·rw[decide_eq_true h1];go_wp2_with fail
  refine(E6 r 7 _).mono ?_;rintro e w1 ⟨rfl,rfl⟩;by_cases h2:0≤r∧r≤7
  ·rw[decide_eq_true h2];go_wp2_with fail
   refine(E6 u 1048576 _).mono ?_;rintro e w1 ⟨rfl,rfl⟩;by_cases h3:0≤u∧u≤1048576
   ·rw[decide_eq_true h3];have HB:Hid (true=decide (CS c r u)):=(decide_eq_true ⟨h1,h2,h3⟩).symm;go_wp2
    go_ret;exact⟨Ae HB.out,bb⟩
   ·rw[decide_eq_false h3];have HB:Hid (false=decide (CS c r u)):=(decide_eq_false (fun g=>h3 g.2.2)).symm;go_wp2
    go_ret;exact⟨Ae HB.out,bb⟩
  ·rw[decide_eq_false h2];have HB:Hid (false=decide (CS c r u)):=(decide_eq_false (fun g=>h2 g.2.1)).symm;go_wp2
   go_ret;exact⟨Ae HB.out,bb⟩
 ·rw[decide_eq_false h1];have HB:Hid (false=decide (CS c r u)):=(decide_eq_false (fun g=>h1 g.1)).symm;go_wp2
  go_ret;exact⟨Ae HB.out,bb⟩
def JJ(key:List Int)(c r u:Int):List Int:=JI c r u++(DL key (JI c r u)).take 16
theorem Mc(key b:List Int):((DL key b).take 16).length=16:=by rw[List.length_take,Dl];rfl
theorem Eb(key:List Int)(c r u:Int):(JJ key c r u).length=22:=by unfold JJ;rw[List.length_append,Mc,Ea]
theorem PN(key b:List Int):∀ x∈(DL key b).take 16,0≤x∧x<256:=fun x hx=>MB key b x (List.mem_of_mem_take hx)
theorem UR(key:List Int){c r u:Int}(h:CS c r u):∀ x∈JJ key c r u,0≤x∧x<256:=by
 intro x hx;rcases List.mem_append.1 hx with hx|hx
 ·exact MX h x hx
 ·exact PN _ _ x hx
def LN(key:List Int)(c r u:Int):Int:=if key.length≠32 then 1 else Md c r u
def ON(key:List Int)(c r u:Int):List Int:=if LN key c r u=0 then JJ key c r u else[]
theorem TD{key:List Int}{c r u:Int}(h:¬ key.length=32):LN key c r u=1:=if_pos h
theorem OM{key:List Int}{c r u:Int}(h:key.length=32):LN key c r u=Md c r u:=if_neg (fun g=>g h)
theorem Ze{key:List Int}{c r u:Int}(h:LN key c r u=0):ON key c r u=JJ key c r u:=if_pos h
theorem Su{key:List Int}{c r u:Int}(h:¬ LN key c r u=0):ON key c r u=[]:=if_neg h
theorem QH(c r u:Int)(w:World)(h:CS c r u) :
  Calls prog 72 #[.agg (tkA c r u)] w fun e w'=>∃ v',e=.returned v'∧w'.ownsRow w.heap.size 5 1 v' (JI c r u).length ((JI c r u).map (Value.int .u8))∧Bw w w':=by
 have bb:Bw w (w.alloc (.cells (tkA c r u) 58)):=(Below.refl _ _).alloc (Nat.le_refl _) _;have bt:=Bt.made w c r u;generalize hW:w.alloc (.cells (tkA c r u) 58)=W at bb bt;obtain⟨c0,c1,c2⟩:=IL bt.row;have lt:=bt.lt;clear bt;obtain⟨⟨hc0,hc1⟩,⟨hr0,hr1⟩,hu0,hu1⟩:=h;have m1:c%256=c:=by omega
 have m2:r%256=r:=by omega
 have HT:Hid (JI c r u=[c,r]++Ac u):=rfl;have b1:Bw W (W.alloc (.cells #[.int .u8 c,.int .u8 r] 5)):=(Below.refl _ _).alloc (Nat.le_refl _) _;have o1:(W.alloc (.cells #[.int .u8 c,.int .u8 r] 5)).ownsRow W.heap.size 5 1 (.slice (some ⟨W.heap.size,0,none⟩) 2 2) ([c,r]:List Int).length (([c,r]:List Int).map (Value.int .u8)) :=
  ⟨rfl,.inr ⟨W.heap.size,2,#[.int .u8 c,.int .u8 r],rfl,Nat.le_refl _,heap_alloc_new _ _,by simp,by simp[maxLen],rfl,rfl⟩⟩
 have O1:Hid ((W.alloc (.cells #[.int .u8 c,.int .u8 r] 5)).ownsRow W.heap.size 5 1 (.slice (some ⟨W.heap.size,0,none⟩) 2 2) ([c,r]:List Int).length (([c,r]:List Int).map (Value.int .u8))):=o1;clear o1;generalize hW1:W.alloc (.cells #[.int .u8 c,.int .u8 r] 5)=W1 at b1 O1;have d2:W1.cell? ⟨w.heap.size,2,none⟩=some (.int .i64 u):=(b1.cell (p:=⟨w.heap.size,2,none⟩) lt).trans c2;have d1:=bb.trans (b1.mono bb.size);have hz:=b1.size;go_enter func72,ntmps72
 go_wp2_with fail
 clear hW hW1;refine(G0 _ [c,r] u W.heap.size W1 O1.out hz (by simp) hu0 (by omega)).mono ?_;rintro e w2 ⟨v2,rfl,o2,b2⟩;have hwW:=bb.size;go_wp2
 go_ret;exact⟨_,rfl,AP o2 hwW,d1.trans (b2.mono hwW)⟩
theorem PL(vk vb:Value)(key b:List Int)(w:World)(hk:Sl w vk key)(hb:Sl w vb b)(lk:key.length≤256)(lb:b.length≤2000)(ht:AD w) :
  Calls prog 73 #[vk,vb] w fun e w'=>∃ v',e=.returned (.tuple #[v',.int .i64 0])∧Sl w' v' ((DL key b).take 16)∧Bw w w':=by
 go_enter func73,ntmps73
 go_wp2_with fail
 refine(bW vk vb key b w hk hb lk lb ht).mono ?_;rintro e w1 ⟨v1,rfl,f1⟩;obtain⟨s1,b1,g,cp,rfl,_,_⟩:=f1;obtain⟨a2,c2,r2',s2⟩:=s1.upTo 16 (by rw[Dl];omega);rw[Dl]at r2' ⊢
 have r2:∀ W,(Instr.slice 25 (.slice (some ⟨g,0,none⟩) 32 cp) none (some (.int .i64 16)) none).run prog W=.ok (.slice a2 16 c2) W:=r2';clear r2' s1;go_wp2
 go_ret2
 exact⟨_,rfl,s2,b1⟩
theorem TE(vk:Value)(key:List Int)(c r u:Int)(w:World)(hk:Sl w vk key)(ht:AD w) :
  Calls prog 35 #[vk,.agg (tkA c r u)] w fun e w'=>∃ v',e=.returned (.tuple #[v',.int .i64 (LN key c r u)])∧w'.ownsRow w.heap.size 5 1 v' (ON key c r u).length ((ON key c r u).map (Value.int .u8))∧Bw w w':=by
 have bb:Bw w (w.alloc (.cells (tkA c r u) 58)):=(Below.refl _ _).alloc (Nat.le_refl _) _;have bt:=Bt.made w c r u;have hi:=Il c r u;have hlen:=hk.len;obtain⟨ak,ck,rfl⟩:=hk.shape;generalize hW:w.alloc (.cells (tkA c r u) 58)=W at bb bt;by_cases h1:key.length=32
 ·have HE:=OM (key:=key) (c:=c) (r:=r) (u:=u) h1;have HK:Hid (key.length=32):=h1;rw[h1]at hk ⊢
  clear h1 hlen;go_enter func35,ntmps35
  go_wp2_with (refine wpList_load_row rfl 58 _ rfl w.heap.size rfl 58 _ (0,0) _ bt.row underlying58 rfl hi ?_)
  clear hW;refine(I5 c r u W).mono ?_;rintro e w1 ⟨rfl,b1⟩;have d1:=bb.trans (b1.mono bb.size);replace bt:=bt.below b1;clear b1 bb;by_cases h2:CS c r u
  ·have HZ:Hid (LN key c r u=0):=HE.trans (JU h2);have HL:Hid (ON key c r u=JJ key c r u):=Ze HZ.out;rw[decide_eq_true h2];clear HE;go_wp2_with (refine wpList_load_row rfl 58 _ rfl w.heap.size rfl 58 _ (0,0) _ bt.row underlying58 rfl hi ?_)
   refine(QH c r u w1 h2).mono ?_;rintro e w2 ⟨v2,rfl,o2,b2⟩;have d2:=d1.trans (b2.mono d1.size);have s2:=Sl.ofOwns o2 (by rw[Ea];omega) (MX h2);have z2:=b2.size;go_wp2_with fail
   refine(PL _ v2 key (JI c r u) w2 (hk.below d2) s2 (by rw[HK.out];omega) (by rw[Ea];omega) (ht.below d2)).mono ?_;rintro e w3 ⟨v3,rfl,s3,b3⟩;have o3:=Ji o2 b3;have d3':Bw w1 w3:=b2.trans (b3.mono z2);have z3:w1.heap.size≤w3.heap.size:=Nat.le_trans z2 b3.size;have hlt:=o3.lt;have hy:=s3.len;have HT:Hid (JJ key c r u=JI c r u++(DL key (JI c r u)).take 16):=rfl;have hx:=Ea c r u;clear o2 b3 d2 s2;generalize (DL key (JI c r u)).take 16=Y at s3 HT hy;generalize JI c r u=X at o3 HT hx;go_wp2_with (at_builtin;refine Aa _ rfl _ _ 25 rfl w1.heap.size 5 underlying25 At _ _ rfl rfl X Y o3 s3 (by omega) z3 ?_)
   intro v4 w4 o4 g4;have d4:Bw w1 w4:=d3'.grown g4 z3 (fun k hk=>(hlt k hk).1);have HO:Hid (w4.ownsRow w1.heap.size 5 1 v4 (JJ key c r u).length ((JJ key c r u).map (Value.int .u8))):=by unfold Hid;rw[HT.out];simpa[hx]using o4
   clear o4 g4;go_wp2
   go_ret2
   rw[HL.out,HZ.out];exact⟨_,rfl,AP HO.out d1.size,d1.trans (d4.mono d1.size)⟩
  ·have HZ:Hid (LN key c r u=2):=HE.trans (ST h2);have HL:Hid (ON key c r u=[]):=Su (by rw[HZ.out];omega);rw[decide_eq_false h2];go_wp2
   go_ret2
   rw[HL.out,HZ.out];exact⟨_,rfl,World.ownsRow_nil _ _ _ _,d1⟩
 ·have h1':¬ (key.length:Int)=32:=by omega
  have HZ:Hid (LN key c r u=1):=TD h1;have HL:Hid (ON key c r u=[]):=Su (by rw[HZ.out];omega);go_enter func35,ntmps35
  go_wp2
  go_ret2
  rw[HL.out,HZ.out];exact⟨_,rfl,World.ownsRow_nil _ _ _ _,bb⟩
theorem Sl.fourAt{w:World}{a:Option Addr}{n cap:Nat}{l:List Int}(h:Sl w (.slice a n cap) l)(lo:Nat)(hhi:lo+4≤l.length)(li hj:Int)(hli:li=(lo:Int))(hhj:hj=(lo:Int)+4) :
  ∃ a' c',(∀ W,(Instr.slice 25 (.slice a n cap) (some (.int .i64 li)) (some (.int .i64 hj)) none).run prog W=.ok (.slice a' 4 c') W)∧Sl w (.slice a' 4 c') ((l.take (lo+4)).drop lo):=by
 subst hli;subst hhj;have hw:=h.window lo (lo+4) (by omega) hhi;obtain⟨⟨a',cap',e,hc,hn,h1⟩,hla,hba⟩:=h;simp only[Value.slice.injEq]at e;obtain⟨rfl,rfl,rfl⟩:=e;have e4:lo+4-lo=4:=by omega
 unfold sliced at hw;rw[e4]at hw
 refine⟨_,_,fun W=>?_,hw⟩;rw[run_slice_lh (P:=prog) W 25 a _ cap underlying25 .i64 .i64 _ _ (by omega) (by omega) (by omega)];have e:prog.elem 25=5:=by kernel_rfl
 rw[e,GV,show((lo:Int)+4).toNat=lo+4 by omega,Int.toNat_natCast];simp[Result.andThen,sliced]
theorem Pm(x b:Int)(hx:0≤x∧x<36028797018963968)(hb:0≤b∧b<256):bits .or .i64 (x*256) b=x*256+b:=by
 obtain⟨x,rfl⟩:=Int.eq_ofNat_of_zero_le hx.1;obtain⟨y,rfl⟩:=Int.eq_ofNat_of_zero_le hb.1;have e:(x:Int)*256=((x*256:Nat):Int):=by omega
 have key:(BitVec.ofInt 64 ((x*256:Nat):Int) ||| BitVec.ofInt 64 (y:Int)).toNat=x*256+y:=by
  rw[BitVec.toNat_or,BitVec.toNat_ofInt,BitVec.toNat_ofInt];have h1:((y:Int)%((2^64:Nat):Int)).toNat=y:=by omega
  have h2:(((x*256:Nat):Int)%((2^64:Nat):Int)).toNat=2^8*x:=by omega
  rw[h1,h2,← Nat.two_pow_add_eq_or_of_lt (by omega:y<2^8)];omega
 rw[e];show IntKind.i64.wrap ((BitVec.ofInt 64 ((x*256:Nat):Int) ||| BitVec.ofInt 64 (y:Int)).toNat:Nat)=_;rw[key,IntKind.wrap_i64];omega
def Cy(h:List Int):Nat→Int
 | 0=>0
 | k+1=>Cy h k*256+h.getD k 0
theorem Jf{h:List Int}(hb:∀ x∈h,0≤x∧x<256)(k:Nat):0≤Cy h k∧Cy h k<256^k:=by
 induction k with
 | zero=>simp[Cy]
 | succ k ih =>
  have:=Ak hb k;rw[Cy,Int.pow_succ];omega
theorem KM(l:List Int)(lo:Nat)(h:lo+4≤l.length):Cy ((l.take (lo+4)).drop lo) 4=Ab l lo:=by
 show(((0*256+((l.take (lo+4)).drop lo).getD 0 0)*256+((l.take (lo+4)).drop lo).getD 1 0)*256+((l.take (lo+4)).drop lo).getD 2 0)*256+((l.take (lo+4)).drop lo).getD 3 0=_;rw[CG,CG,CG,CG,Bh _ _ _ (by omega),Bh _ _ _ (by omega),Bh _ _ _ (by omega),Bh _ _ _ (by omega)];unfold Ab;rw[Nat.add_zero];omega
theorem Hw(v:Value)(l:List Int)(lo:Nat)(w:World)(h:Sl w v l)(hl:lo+4≤l.length)(li:Int)(hli:li=(lo:Int)) :
  Calls prog 161 #[v,.int .i64 li] w fun e w'=>e=.returned (.int .i64 (Ab l lo))∧w'=w:=by
 have HN:Hid (Cy ((l.take (lo+4)).drop lo) 4=Ab l lo):=KM l lo hl;have hlen:=h.len;have i0:0≤li:=by omega
 have i1:li≤140737488351232:=by omega
 obtain⟨a,c,rfl⟩:=h.shape;obtain⟨a2,c2,hr,hs⟩:=h.fourAt lo hl li (li+4) hli (by omega);have HB:Hid (∀ x∈(l.take (lo+4)).drop lo,0≤x∧x<256):=hs.byte;have HS:Hid (((l.take (lo+4)).drop lo).length=4):=by unfold Hid;rw[List.length_drop,List.length_take];omega
 generalize (l.take (lo+4)).drop lo=L at HN hs HB HS;generalize l.length=N at hr hlen ⊢;clear h hl hli hlen;go_enter func161,ntmps161
 go_wp2_with fail
 go_loopw [5,14] (fun v iv wr=>∃ j:Nat,j≤4∧iv=.int .i64 (j:Int)∧v=.int .i64 (Cy L j)∧wr=w) (fun _ iv _=>(4-intOf iv).toNat)
 case atStart=>exact⟨0,by omega,rfl,rfl,rfl⟩
 case round =>
  obtain⟨j,hj,rfl,rfl,rfl⟩:=hrel;by_cases hj4:j<4
  ·have hii:(j:Int)<4:=by omega
   have hx:=Jf HB.out j;have hx2:Cy L j<16777216:=by
    have:(256:Int)^j≤256^3:=by
     rcases(by omega:j=0∨j=1∨j=2∨j=3)with rfl|rfl|rfl|rfl<;>decide
    omega
   have hb:=Ak HB.out j;obtain⟨bd,od,rfl,hbd,hc⟩:=hs.spotO j (by have:=HS.out;omega);have hor:=Pm (Cy L j) (L.getD j 0) ⟨hx.1,by omega⟩ hb;have HK:Hid (Cy L j*256+L.getD j 0=Cy L (j+1)):=rfl;have hx1:=hx.1;clear hx hs hr;generalize Cy L j=X at hx1 hx2 hor HK;generalize L.getD j 0=B at hb hc hor HK;go_wp2
   go_roundw
   case rel=>exact⟨j+1,by omega,by go_num,by rw[← HK.out],trivial⟩
   case measure=>simp[intOf];omega
  ·obtain rfl:j=4:=by omega
   rw[show((4:Nat):Int)=4 from rfl,HN.out];go_wp2
   go_ret;exact⟨rfl,rfl⟩
def Qy(l:List Int)(j:Nat):List Int:=(List.range 5).map fun i=>if i<j then Ab l (4*i)else 0
def rowOf(m:List Int):Array Value:=(m.map (Value.int .i64)).toArray
theorem VC(l:List Int)(j:Nat)(hj:j<5):(rowOf (Qy l j)).setIfInBounds j (.int .i64 (Ab l (4*j)))=rowOf (Qy l (j+1)):=by
 rcases(by omega:j=0∨j=1∨j=2∨j=3∨j=4)with rfl|rfl|rfl|rfl|rfl
 all_goals rfl
theorem Ko(v:Value)(l:List Int)(w:World)(h:Sl w v l)(ht:NTab w) :
  Calls prog 127 #[v] w fun e w'=>e=.returned (.tuple #[.agg (J1 l),.int .i64 (BX l)])∧Bw w w':=by
 have hlen:=h.len;obtain⟨a,cp,rfl⟩:=h.shape;by_cases h1:l.length=20
 ·have HE:Hid (BX l=AZ (Ab l 0) (Ab l 4) (Ab l 8) (Ab l 12) (Ab l 16)):=if_neg (fun g=>g h1);have hs:=h;have HL:Hid (l.length=20):=h1;rw[h1]at hs ⊢
  clear h h1 hlen;have b0:Bw w (w.alloc (.cells (cmA 0 0 0 0 0) 41)):=(Below.refl _ _).alloc (Nat.le_refl _) _;have z0:(w.alloc (.cells (cmA 0 0 0 0 0) 41)).heap.size=w.heap.size+1:=by simp
  have r0:=heap_alloc_new w (.cells (cmA 0 0 0 0 0) 41);have b1:Below (w.heap.size+1) (w.alloc (.cells (cmA 0 0 0 0 0) 41)) ((w.alloc (.cells (cmA 0 0 0 0 0) 41)).alloc (.cells (cmA 0 0 0 0 0) 41)):=(Below.refl _ _).alloc (by omega) _;have r1:=heap_alloc_new (w.alloc (.cells (cmA 0 0 0 0 0) 41)) (.cells (cmA 0 0 0 0 0) 41);rw[z0]at r1
  replace r0:=(b1.block w.heap.size (by omega)).trans r0;have d1:=b0.trans (b1.mono (Nat.le_succ _));have z1:((w.alloc (.cells (cmA 0 0 0 0 0) 41)).alloc (.cells (cmA 0 0 0 0 0) 41)).heap.size=w.heap.size+1+1:=by simp
  have hW:(w.alloc (.cells zV5 41)).alloc (.cells zV5 41)=(w.alloc (.cells (cmA 0 0 0 0 0) 41)).alloc (.cells (cmA 0 0 0 0 0) 41):=rfl;clear b0 b1 z0;generalize (w.alloc (.cells (cmA 0 0 0 0 0) 41)).alloc (.cells (cmA 0 0 0 0 0) 41)=W at r0 r1 d1 z1 hW;go_enter func127,ntmps127
  go_wp2_with fail
  clear hW;refine(Gy (w.heap.size+1) W).mono ?_;rintro e w2 ⟨rfl,b2⟩;replace r0:=(b2.block w.heap.size (by omega)).trans r0;replace r1:=(b2.block (w.heap.size+1) (by omega)).trans r1;have d2:=d1.trans (b2.mono d1.size);have HR0:Hid _:=r0;have HR1:Hid (w2.heap[w.heap.size+1]?=some (.cells (rowOf (Qy l 0)) 41)):=r1;clear r0 r1 b2 d1 z1;have hix:=Pt (w.heap.size+1);go_wp2_with fail
  go_loopw [13] (fun iv wr=>∃ j:Nat,j≤5∧iv=.int .i64 (j:Int)∧wr.heap[w.heap.size]?=some (.cells (cmA 0 0 0 0 0) 41)∧wr.heap[w.heap.size+1]?=some (.cells (rowOf (Qy l j)) 41)∧Bw w wr) (fun iv _=>(5-intOf iv).toNat)
  case atStart=>exact⟨0,by omega,rfl,HR0.out,HR1.out,d2⟩
  case round =>
   obtain⟨j,hj,rfl,hr0,hr1,hbel⟩:=hrel;clear HR0 HR1;by_cases hj5:j<5
   ·have hji:(j:Int)<5:=by omega
    have hij:=hix j hj5;have hcell:∃ x,wr.cell? ⟨w.heap.size+1,j,none⟩=some (.int .i64 x):=⟨(Qy l j).getD j 0,(cell_of_row _ _ j _ _ _ hr1).trans (by simp[rowOf,Qy,hj5])⟩;obtain⟨x,hx⟩:=hcell;have hfz:=frozen_of_row wr _ j _ _ hr1;have HR0:Hid _:=hr0;have HR1:Hid _:=hr1;have HS:=VC l j hj5;clear hix hr0 hr1;go_wp2_with fail
    refine(Hw (.slice a 20 cp) l (4*j) wr (hs.below hbel) (by rw[HL.out];omega) _ (by omega)).mono ?_;rintro e w5 ⟨rfl,rfl⟩;have q0:(w5.setCell ⟨w.heap.size+1,j,none⟩ (.int .i64 (Ab l (4*j)))).heap[w.heap.size]?=some (.cells (cmA 0 0 0 0 0) 41):=(heap_setCell_other _ _ _ _ (by simp)).trans HR0.out;have q1:(w5.setCell ⟨w.heap.size+1,j,none⟩ (.int .i64 (Ab l (4*j)))).heap[w.heap.size+1]?=some (.cells (rowOf (Qy l (j+1))) 41):=by
     rw[heap_setCell_same _ _ _ _ _ _ HR1.out,HS]
    have q2:Bw w (w5.setCell ⟨w.heap.size+1,j,none⟩ (.int .i64 (Ab l (4*j)))):=hbel.setCell (p:=⟨w.heap.size+1,j,none⟩) (Nat.le_succ _) _;have Q0:Hid _:=q0;have Q1:Hid _:=q1;clear HS q0 q1 HR0 HR1;generalize Ab l (4*j)=X at Q0 Q1 q2 ⊢;go_wp2
    go_roundw
    case rel=>exact⟨j+1,by omega,by go_num,Q0.out,Q1.out,q2⟩
    case measure=>simp[intOf];omega
   ·obtain rfl:j=5:=by omega
    rw[show((5:Nat):Int)=5 from rfl];have hr1':wr.heap[w.heap.size+1]?=some (.cells (cmA (Ab l 0) (Ab l 4) (Ab l 8) (Ab l 12) (Ab l 16)) 41):=hr1;clear hr1 hix;have HV0:Hid (BX l=0→J1 l=cmA (Ab l 0) (Ab l 4) (Ab l 8) (Ab l 12) (Ab l 16)):=fun h=>if_pos h;have HV1:Hid (¬ BX l=0→J1 l=cmA 0 0 0 0 0):=fun h=>if_neg h;have hT:=ht.below hbel;generalize Ab l 0=k at HE HV0 hr1';generalize Ab l 4=c at HE HV0 hr1';generalize Ab l 8=s at HE HV0 hr1';generalize Ab l 12=n at HE HV0 hr1';generalize Ab l 16=v at HE HV0 hr1';have hi:=FX k c s n v;have hi0:=FX 0 0 0 0 0;have lt1:=(Array.getElem?_eq_some_iff.1 hr1').1;go_wp2_with (refine wpList_load_row rfl 41 _ rfl (w.heap.size+1) rfl 41 _ (0,0) _ hr1' underlying41 rfl hi ?_)
    refine(DB k c s n v wr hT).mono ?_;rintro e w6 ⟨rfl,b6⟩;have d6:=hbel.trans (b6.mono hbel.size);have q0:=(b6.block w.heap.size (by omega)).trans hr0;have q1:=(b6.block (w.heap.size+1) lt1).trans hr1';clear hr0 hr1' b6 hT hbel;by_cases h2:AZ k c s n v=0
    ·have HZ:Hid (BX l=0):=HE.out.trans h2;have HV:Hid (J1 l=cmA k c s n v):=HV0.out HZ.out;rw[h2];clear h2 HE HV0 HV1;go_wp2_with (first|(refine wpList_load_row rfl 41 _ rfl (w.heap.size+1) rfl 41 _ (0,0) _ q1 underlying41 rfl hi ?_)|(refine wpList_store_row rfl 41 (.tmp 2) (.tmp 30) rfl w.heap.size (cmA k c s n v) rfl rfl 41 _ q0 hi rfl (Sc k c s n v) ?_))
     have r2:=setRow_heap w6 w.heap.size _ (cmA k c s n v) 41 _ q0;refine bodyPost_ret (Jg rfl _ _ w.heap.size 41 _ (0,0) _ rfl r2 underlying41 rfl hi) rfl ?_;rw[HZ.out,HV.out];exact⟨rfl,BU d6 (Nat.le_refl _) _⟩
    ·have HZ:Hid (BX l=AZ k c s n v):=HE.out;have HV:Hid (J1 l=cmA 0 0 0 0 0):=HV1.out (by rw[HE.out];exact h2);clear HE HV0 HV1;go_wp2_with (refine wpList_store_row rfl 41 (.tmp 2) (.tmp 28) rfl w.heap.size (cmA 0 0 0 0 0) rfl rfl 41 _ q0 hi0 rfl (Sc 0 0 0 0 0) ?_)
     have r2:=setRow_heap w6 w.heap.size _ (cmA 0 0 0 0 0) 41 _ q0;refine bodyPost_ret (Jg rfl _ _ w.heap.size 41 _ (0,0) _ rfl r2 underlying41 rfl hi0) rfl ?_;rw[HZ.out,HV.out];exact⟨rfl,BU d6 (Nat.le_refl _) _⟩
 ·have h1':¬ (l.length:Int)=20:=by omega
  have HE:Hid (BX l=1):=if_pos h1;have HV:Hid (J1 l=cmA 0 0 0 0 0):=if_neg (by rw[HE.out];omega);have bb:Bw w (w.alloc (.cells (cmA 0 0 0 0 0) 41)):=(Below.refl _ _).alloc (Nat.le_refl _) _;have bc:=Bc.made w 0 0 0 0 0;go_enter func127,ntmps127
  go_wp2
  refine bodyPost_ret (Jg rfl _ _ w.heap.size 41 _ (0,0) _ rfl (heap_alloc_new _ _) underlying41 rfl (FX 0 0 0 0 0)) rfl ?_;rw[HE.out,HV.out];exact⟨rfl,bb⟩
theorem Ik(c r u:Int):(tkA c r u).all (·.oneCell')=true:=by simp[tkA,Value.oneCell']
theorem PQ(v:Value)(l:List Int)(w:World)(h:Sl w v l)(hl:6≤l.length) :
  Calls prog 160 #[v] w fun e w'=>e=.returned (.agg (tkA (l.getD 0 0) (l.getD 1 0) (Ab l 2)))∧Bw w w':=by
 have hlen:=h.len;obtain⟨a,cp,rfl⟩:=h.shape;have bb:Bw w (w.alloc (.cells (tkA 0 0 0) 58)):=(Below.refl _ _).alloc (Nat.le_refl _) _;have rr:=heap_alloc_new w (.cells (tkA 0 0 0) 58);have hs:=h.below bb;have hW:w.alloc (.cells #[.int .i64 0,.int .i64 0,.int .i64 0] 58)=w.alloc (.cells (tkA 0 0 0) 58):=rfl;generalize w.alloc (.cells (tkA 0 0 0) 58)=W0 at bb rr hs hW;obtain⟨bd,od,rfl,hbd,x0⟩:=hs.spotO 0 (by omega);obtain⟨bd1,od1,e1,_,x1⟩:=hs.spotO 1 (by omega);simp only[Option.some.injEq,Addr.mk.injEq,and_true]at e1;obtain⟨rfl,rfl⟩:=e1;rw[Nat.add_zero]at x0
 have y0:=Ak h.byte 0;have y1:=Ak h.byte 1;have i0:(0:Int)<(l.length:Int):=by omega
 have i1:(1:Int)<(l.length:Int):=by omega
 have hN:Calls prog 161 #[.slice (some ⟨bd,od,none⟩) l.length cp,.int .i64 2] W0.drew fun e w'=>e=.returned (.int .i64 (Ab l 2))∧w'=W0.drew :=
  Hw _ l 2 _ (hs.below (Below.refl _ _).drew) (by omega) 2 rfl
 have HN:Hid _:=hN;clear hN;generalize l.getD 0 0=b0 at x0 y0;generalize l.getD 1 0=b1 at x1 y1;generalize Ab l 2=b2 at HN;generalize l.length=N at hlen hl i0 i1 HN ⊢;clear h hs;have hi:=Il b0 b1 b2;go_enter func160,ntmps160
 go_wp2_with fail
 refine Ar 11 (by kernel_rfl) (by kernel_rfl) ?_;simp only[List.take_succ_cons,List.take_zero,List.drop_succ_cons,List.drop_zero]
 repeat (go_big_quiet_step (fail))
 go_big_quiet_want
 go_big_quiet_op
 refine⟨_,HN.out,?_⟩
 go_big_quiet_on
 repeat (go_big_quiet_step (fail))
 refine wpQuiet_nil ?_;clear hW;have rr':W0.drew.heap[w.heap.size]?=some (.cells (tkA 0 0 0) 58):=rr;have bb':Bw w W0.drew:=bb.drew;clear rr bb x0 x1 HN;generalize W0.drew=W at rr' bb' ⊢;go_wp2_with (refine wpList_store_row rfl 58 (.tmp 2) (.tmp 13) rfl w.heap.size (tkA b0 b1 b2) rfl rfl 58 _ rr' hi rfl (Ik b0 b1 b2) ?_)
 have r2:=setRow_heap W w.heap.size _ (tkA b0 b1 b2) 58 _ rr';exact bodyPost_ret (v:=.agg (tkA b0 b1 b2)) (results_cell_row rfl _ _ w.heap.size 58 _ (0,0) _ rfl r2 underlying58 rfl hi) rfl ⟨rfl,BU bb' (Nat.le_refl _) _⟩
def DN(key l:List Int):Int :=
 if key.length≠32∨l.length≠22 then 1
 else if(DL key (l.take 6)).take 16≠l.drop 6 then 6
 else Md (l.getD 0 0) (l.getD 1 0) (Ab l 2)
def LU(key l:List Int):Array Value:=if DN key l=0 then tkA (l.getD 0 0) (l.getD 1 0) (Ab l 2)else tkA 0 0 0
theorem MI{key l:List Int}(h:key.length≠32∨l.length≠22):DN key l=1:=if_pos h
theorem Xt{key l:List Int}(h1:key.length=32)(h2:l.length=22)(h:¬ (DL key (l.take 6)).take 16=l.drop 6):DN key l=6:=by
 unfold DN;rw[if_neg (by omega),if_pos h]
theorem Xu{key l:List Int}(h1:key.length=32)(h2:l.length=22)(h:(DL key (l.take 6)).take 16=l.drop 6):DN key l=Md (l.getD 0 0) (l.getD 1 0) (Ab l 2):=by
 unfold DN;rw[if_neg (by omega),if_neg (fun g=>g h)]
theorem SH{key l:List Int}(h:DN key l=0):LU key l=tkA (l.getD 0 0) (l.getD 1 0) (Ab l 2):=if_pos h
theorem H6{key l:List Int}(h:¬ DN key l=0):LU key l=tkA 0 0 0:=if_neg h
theorem Re(l:List Int):Ab (l.take 6) 2=Ab l 2:=by
 unfold Ab;rw[Bh _ _ _ (by omega),Bh _ _ _ (by omega),Bh _ _ _ (by omega),Bh _ _ _ (by omega)]
theorem Us(vk vb:Value)(key l:List Int)(w:World)(hk:Sl w vk key)(hb:Sl w vb l)(ht:AD w) :
  Calls prog 126 #[vk,vb] w fun e w'=>e=.returned (.tuple #[.agg (LU key l),.int .i64 (DN key l)])∧Bw w w':=by
 have lk:=hk.len;have ll:=hb.len;obtain⟨ak,ck,rfl⟩:=hk.shape;obtain⟨ab,cb,rfl⟩:=hb.shape;have bb:Bw w (w.alloc (.cells (tkA 0 0 0) 58)):=(Below.refl _ _).alloc (Nat.le_refl _) _;have rr:=heap_alloc_new w (.cells (tkA 0 0 0) 58);have hi0:=Il 0 0 0;by_cases h1:key.length=32
 ·by_cases h2:l.length=22
  ·have H1:Hid (key.length=32):=h1;have H2:Hid (l.length=22):=h2;rw[h1]at hk ⊢
   rw[h2]at hb ⊢
   clear lk ll h1 h2;have hW:w.alloc (.cells #[.int .i64 0,.int .i64 0,.int .i64 0] 58)=w.alloc (.cells (tkA 0 0 0) 58):=rfl;generalize w.alloc (.cells (tkA 0 0 0) 58)=W at bb rr hW;obtain⟨a6,c6,r6',s6⟩:=hb.upTo 6 (by have:=H2.out;omega);have r6:∀ W,(Instr.slice 25 (.slice ab 22 cb) none (some (.int .i64 6)) none).run prog W=.ok (.slice a6 6 c6) W:=r6';obtain⟨a7,c7,r7',s7⟩:=hb.from 6 (by have:=H2.out;omega);have r7:∀ W,(Instr.slice 25 (.slice ab 22 cb) (some (.int .i64 6)) none none).run prog W=.ok (.slice a7 16 c7) W:=r7';clear r6' r7';have L6:Hid ((l.take 6).length=6):=by unfold Hid;rw[List.length_take,H2.out];rfl
   go_enter func126,ntmps126
   go_wp2_with fail
   clear hW;refine(PL _ _ key (l.take 6) W (hk.below bb) (s6.below bb) (by rw[H1.out];omega) (by rw[L6.out];omega) (ht.below bb)).mono ?_;rintro e w1 ⟨v1,rfl,s1,b1⟩;have d1:=bb.trans (b1.mono bb.size);have q1:=(b1.block w.heap.size (Array.getElem?_eq_some_iff.1 rr).1).trans rr;have s71:=s7.below d1;clear b1 bb rr;go_wp2_with fail
   refine(Ia v1 (.slice a7 16 c7) _ _ w1 s1 s71).mono ?_;rintro e w2 ⟨rfl,m,rfl⟩;have d2:Bw w (w1.drewN m):=An d1 m;have q2:(w1.drewN m).heap[w.heap.size]?=some (.cells (tkA 0 0 0) 58):=q1;clear q1 d1 s1 s71;generalize w1.drewN m=W2 at d2 q2 ⊢;by_cases h3:(DL key (l.take 6)).take 16=l.drop 6
   ·have HE:=Xu H1.out H2.out h3;have HV0:Hid (DN key l=0→LU key l=tkA (l.getD 0 0) (l.getD 1 0) (Ab l 2)):=SH;have HV1:Hid (¬ DN key l=0→LU key l=tkA 0 0 0):=H6;have HX:Hid ((l.take 6).getD 0 0=l.getD 0 0∧(l.take 6).getD 1 0=l.getD 1 0∧Ab (l.take 6) 2=Ab l 2):=⟨Bh _ _ _ (by omega),Bh _ _ _ (by omega),Re l⟩;rw[decide_eq_true h3];clear h3;go_wp2_with fail
    refine(PQ (.slice a6 6 c6) (l.take 6) W2 (s6.below d2) (by rw[L6.out];omega)).mono ?_;rintro e w3 ⟨rfl,b3⟩;rw[HX.out.1,HX.out.2.1,HX.out.2.2];have d3:=d2.trans (b3.mono d2.size);have q3:=(b3.block w.heap.size (Array.getElem?_eq_some_iff.1 q2).1).trans q2;clear b3 q2 d2 HX;generalize l.getD 0 0=c at HE HV0 ⊢;generalize l.getD 1 0=r at HE HV0 ⊢;generalize Ab l 2=u at HE HV0 ⊢;have hi:=Il c r u;have b4:Bw w3 (w3.alloc (.cells (tkA 0 0 0) 58)):=(Below.refl _ _).alloc (Nat.le_refl _) _;have r4:=heap_alloc_new w3 (.cells (tkA 0 0 0) 58);have hW:w3.alloc (.cells #[.int .i64 0,.int .i64 0,.int .i64 0] 58)=w3.alloc (.cells (tkA 0 0 0) 58):=rfl;generalize w3.alloc (.cells (tkA 0 0 0) 58)=W4 at b4 r4 hW;have lt3:w.heap.size<w3.heap.size:=(Array.getElem?_eq_some_iff.1 q3).1
    go_upto_region 10 with(refine wpList_store_row rfl 58 (.tmp 9) (.tmp 38) rfl w3.heap.size (tkA c r u) rfl rfl 58 _ r4 hi rfl (Ik c r u) ?_)
    clear hW;have q4:=setRow_heap W4 w3.heap.size _ (tkA c r u) 58 _ r4;replace q3:=((b4.block w.heap.size lt3).trans q3);replace q3:=(setRow_other W4 w3.heap.size w.heap.size (tkA c r u) (by omega)).trans q3;have d4:=BU (d3.trans (b4.mono d3.size)) (show w.heap.size≤w3.heap.size by omega) (tkA c r u);generalize W4.setRow w3.heap.size (tkA c r u)=W5 at q3 q4 d4 ⊢;clear r4 b4 d3;generalize w3.heap.size=G at q4 lt3 ⊢;go_wp2_with (refine wpList_load_row rfl 58 _ rfl G rfl 58 _ (0,0) _ q4 underlying58 rfl hi ?_)
    refine(I5 c r u W5).mono ?_;rintro e w6 ⟨rfl,b6⟩;have d6:=d4.trans (b6.mono d4.size);replace q3:=(b6.block w.heap.size (Array.getElem?_eq_some_iff.1 q3).1).trans q3;replace q4:=(b6.block G (Array.getElem?_eq_some_iff.1 q4).1).trans q4;clear b6 d4;by_cases h4:CS c r u
    ·have HZ:Hid (DN key l=0):=HE.trans (JU h4);have HV:Hid (LU key l=tkA c r u):=HV0.out HZ.out;rw[decide_eq_true h4];clear HE HV0 HV1 h4;go_wp2_with (first|(refine wpList_load_row rfl 58 _ rfl G rfl 58 _ (0,0) _ q4 underlying58 rfl hi ?_)|(refine wpList_store_row rfl 58 (.tmp 4) (.tmp 43) rfl w.heap.size (tkA c r u) rfl rfl 58 _ q3 hi rfl (Ik c r u) ?_))
     have r2:=setRow_heap w6 w.heap.size _ (tkA c r u) 58 _ q3;refine bodyPost_ret (Jg rfl _ _ w.heap.size 58 _ (0,0) _ rfl r2 underlying58 rfl hi) rfl ?_;rw[HZ.out,HV.out];exact⟨rfl,BU d6 (Nat.le_refl _) _⟩
    ·have HZ:Hid (DN key l=2):=HE.trans (ST h4);have HV:Hid (LU key l=tkA 0 0 0):=HV1.out (by rw[HZ.out];omega);rw[decide_eq_false h4];clear HE HV0 HV1 h4;go_wp2_with (refine wpList_store_row rfl 58 (.tmp 4) (.tmp 42) rfl w.heap.size (tkA 0 0 0) rfl rfl 58 _ q3 hi0 rfl (Ik 0 0 0) ?_)
     have r2:=setRow_heap w6 w.heap.size _ (tkA 0 0 0) 58 _ q3;refine bodyPost_ret (Jg rfl _ _ w.heap.size 58 _ (0,0) _ rfl r2 underlying58 rfl hi0) rfl ?_;rw[HZ.out,HV.out];exact⟨rfl,BU d6 (Nat.le_refl _) _⟩
   ·have HZ:Hid (DN key l=6):=Xt H1.out H2.out h3;have HV:Hid (LU key l=tkA 0 0 0):=H6 (by rw[HZ.out];omega);rw[decide_eq_false h3];clear h3;go_wp2_with (refine wpList_store_row rfl 58 (.tmp 4) (.tmp 36) rfl w.heap.size (tkA 0 0 0) rfl rfl 58 _ q2 hi0 rfl (Ik 0 0 0) ?_)
    have r2:=setRow_heap W2 w.heap.size _ (tkA 0 0 0) 58 _ q2;refine bodyPost_ret (Jg rfl _ _ w.heap.size 58 _ (0,0) _ rfl r2 underlying58 rfl hi0) rfl ?_;rw[HZ.out,HV.out];exact⟨rfl,BU d2 (Nat.le_refl _) _⟩
  ·have h2':¬ (l.length:Int)=22:=by omega
   have HZ:Hid (DN key l=1):=MI (.inr h2);have HV:Hid (LU key l=tkA 0 0 0):=H6 (by rw[HZ.out];omega);rw[h1]at hk ⊢
   clear h1;go_enter func126,ntmps126
   go_wp2
   refine bodyPost_ret (Jg rfl _ _ w.heap.size 58 _ (0,0) _ rfl (heap_alloc_new _ _) underlying58 rfl hi0) rfl ?_;rw[HZ.out,HV.out];exact⟨rfl,bb⟩
 ·have h1':¬ (key.length:Int)=32:=by omega
  have HZ:Hid (DN key l=1):=MI (.inl h1);have HV:Hid (LU key l=tkA 0 0 0):=H6 (by rw[HZ.out];omega);go_enter func126,ntmps126
  go_wp2
  refine bodyPost_ret (Jg rfl _ _ w.heap.size 58 _ (0,0) _ rfl (heap_alloc_new _ _) underlying58 rfl hi0) rfl ?_;rw[HZ.out,HV.out];exact⟨rfl,bb⟩
end
section
def Pj(l:List Int):Int:=if l=[]then 13 else if 7<l.getD 0 0 then 2 else Cd (Gn (l.getD 0 0)) 0 0 noB (l.drop 1)
def NG(l:List Int):List Int:=if Pj l=0 then Jt (Gn (l.getD 0 0)) (l.drop 1)else[]
def unT(l:List Int):List Int:=(NG l).take 22
def unQ(l:List Int):List Int:=(NG l).drop 22
def unB(l:List Int):Prop:=Pj l=0∧(NG l).length=42∧DN Gm (unT l)=0
instance (l:List Int):Decidable (unB l):=by unfold unB;exact inferInstance
def unE(l:List Int):Int:=if Pj l≠0 then Pj l else if(NG l).length≠42 then 3 else if DN Gm (unT l)≠0 then DN Gm (unT l)else BX (unQ l)
theorem Yh{l:List Int}(h:unE l=0):unB l∧BX (unQ l)=0:=by
 unfold unE at h;split at h
 ·rename_i g;exact absurd h g
 ·rename_i g1
  split at h
  ·cases h
  ·rename_i g2
   split at h
   ·rename_i g;exact absurd h g
   ·rename_i g3
    exact⟨⟨Decidable.not_not.1 g1,Decidable.not_not.1 g2,Decidable.not_not.1 g3⟩,h⟩
theorem gv{l:List Int}(h:unE l=0):0<l.length:=by
 obtain⟨⟨h1,_⟩,_⟩:=Yh h;cases l with
 | nil=>cases h1
 | cons x r=>simp
def opE(l:List Int)(now:Int):Int :=
 if unE l≠0 then unE l
 else if Ab (unQ l) 0≠0∧Ab (unQ l) 4≠l.getD 0 0 then 11
 else Er ((unT l).getD 0 0) ((unT l).getD 1 0) (Ab (unT l) 2) (Ab (unQ l) 0) (Ab (unQ l) 4) (Ab (unQ l) 8) (Ab (unQ l) 12) (Ab (unQ l) 16) now
def opA(l:List Int)(now:Int):Array Value:=if opE l now=0 then cmA (Ab (unQ l) 0) (Ab (unQ l) 4) (Ab (unQ l) 8) (Ab (unQ l) 12) (Ab (unQ l) 16)else cmA 0 0 0 0 0
theorem NF{l:List Int}{now:Int}(h:opE l now≠0):opA l now=cmA 0 0 0 0 0:=if_neg h
theorem Xb{l:List Int}{now:Int}(h:opE l now=0):opA l now=cmA (Ab (unQ l) 0) (Ab (unQ l) 4) (Ab (unQ l) 8) (Ab (unQ l) 12) (Ab (unQ l) 16):=if_pos h
def Nod.askd(p:Nod)(i:Nat):Nod × List Let :=
 if(CQ p.vo.p p.asked (p.wants.take 40)).1=[]then({ p with asked:=(CQ p.vo.p p.asked (p.wants.take 40)).2 },[])
 else if p.vo.p.n=(i:Int)then(Nod.enqueue { p with asked:=(CQ p.vo.p p.asked (p.wants.take 40)).2 } (CQ p.vo.p p.asked (p.wants.take 40)).1,[])
 else({ p with asked:=(CQ p.vo.p p.asked (p.wants.take 40)).2 },[{ Cn 6 with slot:=p.agreed.length,what:=(CQ p.vo.p p.asked (p.wants.take 40)).1,src:=i,dst:=p.vo.p.n.toNat }])
noncomputable def doP(i:Nat):List Cmd→Nod→List Tol→Nod × List Tol
 | [],p,ts=>(p,ts)
 | c::l,p,ts =>
  if doE p.sto c≠0 then(p,ts)
  else doP i l (Nod.unwant { p with sto:=doS p.sto c,done:=p.done+1 } c) (if(p.asked c).isSome=true then ts++[⟨i,c.c,c.s,doC p.sto c,doA p.sto c⟩]else ts)
def Nod.syncd(p:Nod)(i:Nat)(ls:List Let):Nod × List Let:=if p.sy<(p.d.length:Int)∧CN p.d p.sy≠0 then(p,ls)else doneP i p.pend { p.syn with pend:=[] } ls
def Nod.taught(p:Nod)(i:Nat)(ls:List Let):Nod × List Let:=if p.leads then(GZ p i 5,ls++Dw p i 5)else(p,ls)
noncomputable def Nod.piece(p:Nod)(i:Nat)(ls:List Let)(ts:List Tol):Nod × List Let × List Tol :=
 let a:=doP i (p.agreed.drop p.done) p ts
 let b:=a.1.askd i
 let c:=b.1.propose.syncd i (ls++b.2)
 let d:=c.1.taught i c.2
 (d.1,d.2,a.2)
noncomputable def Nod.sub0(p:Nod)(i:Nat)(e:Int)(c:Cmd)(ts:List Tol):Nod × List Tol :=
 if p.up=false then(p,ts)
 else if e≠0 then({ p with bad:=p.bad+1 },ts)
 else if c∈p.agreed.take p.done then(p,ts++[⟨i,c.c,c.s,doC p.sto c,doA p.sto c⟩])
 else(p.want c,ts)
def J9(l:List Int)(now:Int):Cmd:=if opE l now=0 then⟨Ab (unQ l) 0,Ab (unQ l) 4,Ab (unQ l) 8,Ab (unQ l) 12,Ab (unQ l) 16⟩else Ts
theorem dH(l:List Int)(now:Int):opA l now=cmC (J9 l now):=by unfold opA J9;split<;>rfl
noncomputable def Nod.subm(p:Nod)(i:Nat)(d:List Int)(ts:List Tol):Nod × List Tol:=p.sub0 i (opE d (p.done:Int)) (J9 d (p.done:Int)) ts
def Meet.set(M:Meet)(i:Nat)(p:Nod)(ls:List Let)(ts:List Tol):Meet:=⟨upN M.node i p,ls,ts⟩
noncomputable def Meet.act(M:Meet)(x:Lac):Meet :=
 let i:=x.n.toNat
 if x.k=1 then M.set i ((M.node i).subm i x.d M.told).1 M.lets ((M.node i).subm i x.d M.told).2
 else if x.k=2 then M.set i (if(M.node i).up then(M.node i).lead i else M.node i) M.lets M.told
 else if x.k=3 then M.set i (if(M.node i).up then((M.node i).piece i M.lets M.told).1 else M.node i) (if(M.node i).up then((M.node i).piece i M.lets M.told).2.1 else M.lets) (if(M.node i).up then((M.node i).piece i M.lets M.told).2.2 else M.told)
 else if x.k=4∨x.k=5∨x.k=6 then M.move x.k x.a.toNat
 else if x.k=7 then M.comeAll
 else if x.k=8 then M.set i (if(M.node i).up then(M.node i).crash x.p else M.node i) M.lets M.told
 else if x.k=9 then M.set i (if(M.node i).up then M.node i else(M.node i).start) M.lets M.told
 else M
noncomputable def Meet.acts(M:Meet)(l:List Lac):Meet:=l.foldl Meet.act M
theorem ZW(r:List Int):AQ (DO r).2.p∧Bz (DO r).2.vs:=by
 have h:∀ k,AQ (itR r k).2.p∧Bz (itR r k).2.vs:=by
  intro k;induction k with
  | zero=>exact⟨.inr ⟨rfl,rfl⟩,Bz.nil⟩
  | succ k ih =>
   rw[itR];unfold Jd;split
   ·exact ih
   ·rename_i c m hs
    have hd:∃ b,Dj (itR r k).2 b=some c:=by
     unfold B2 at hs;split at hs
     ·cases hs
     ·split at hs
      ·cases hs
      ·split at hs
       ·cases hs
       ·obtain⟨x,hx,e⟩:=Option.map_eq_some_iff.1 hs;injection e with e1 e2
        subst e1;exact⟨_,hx⟩
    obtain⟨b,hb⟩:=hd;unfold Dj at hb;split at hb
    ·split at hb
     ·rename_i h1
      injection hb with hb;subst hb
      exact⟨.inl (Ge h1).2.1,ih.2⟩
     ·cases hb
    ·split at hb
     ·split at hb
      ·split at hb
       ·rename_i h1
        injection hb with hb;subst hb
        exact⟨.inl (BK h1).2.1.2.1,F1 ih.2 (BK h1).2.1⟩
       ·cases hb
      ·cases hb
     ·cases hb
 exact h r.length
theorem ZV(d:List Int)(s:Int):AQ (FE d s).p∧Bz (FE d s).vs:=by
 unfold FE;split
 ·exact ZW d
 ·exact⟨.inr ⟨rfl,rfl⟩,Bz.nil⟩
theorem D2{i:Nat}{l m:Let}{k:Nat}(h:m∈BO i l k):∃ to,to<k∧m={ l with src:=i,dst:=to }:=by
 unfold BO at h;obtain⟨to,h1,rfl⟩:=List.mem_map.1 h;exact⟨to,List.mem_range.1 (List.mem_filter.1 h1).1,rfl⟩
theorem IB{i:Nat}(hi:i<5)(l:Let):(BO i l 5).length≤4:=by
 unfold BO;rw[List.length_map];rcases five hi with rfl|rfl|rfl|rfl|rfl<;>decide
section
variable{n i:Nat}{p:Nod}
theorem NOk.runP(h:NOk n p)(hi:i<5){q:Pend}(hq:POk p.agreed.length q):NOk n (p.runP i q)∧(p.runP i q).pend=p.pend∧p.agreed.length≤(p.runP i q).agreed.length∧PY p i q∧(∀ m∈p.sentP i q,LOk m)∧(p.sentP i q).length≤q.wt:=by
 have ha:=h.ag;have one:∀ {l:Let},LOk l→∀ m∈[l],LOk m:=fun hl m hm=>by rw[List.mem_singleton.1 hm];exact hl
 cases q with
 | began b vs =>
  unfold Nod.runP Nod.sentP;refine⟨?_,?_,?_,Nat.lt_of_le_of_lt (h.he i).len (by decide),?_,?_⟩
  ·simp only;split
   ·exact h
   ·exact h.hear i hq
  ·simp only;split<;>rfl
  ·simp only;split<;>exact Nat.le_refl _
  ·simp only;split
   ·exact fun m hm=>by cases hm
   ·rename_i h1
    intro m hm;obtain⟨to,h2,rfl⟩:=D2 hm;exact⟨by show 0<7;decide,hi,h2,by show AQ b;rw[← Decidable.byContradiction h1];exact h.vp,Bz.nil,by show 0≤40;decide,fun h=>by cases h⟩
  ·simp only;split
   ·exact Nat.zero_le _
   ·exact IB hi _
 | prom to b vs=>exact⟨h,rfl,Nat.le_refl _,trivial,one ⟨by show 1<7;decide,hi,hq.1,hq.2.1,hq.2.2,ha,fun h=>by cases h⟩,Nat.le_refl _⟩
 | voted to v=>exact⟨h,rfl,Nat.le_refl _,trivial,one ⟨by show 4<7;decide,hi,hq,AQ.b0,Bz.nil,by show 0≤40;decide,fun h=>by cases h⟩,Nat.le_refl _⟩
 | refuse to b=>exact⟨h,rfl,Nat.le_refl _,trivial,one ⟨by show 2<7;decide,hi,hq.1,hq.2,Bz.nil,by show 0≤40;decide,fun h=>by cases h⟩,Nat.le_refl _⟩
 | prop v =>
  have hc:=h.count i v;refine⟨hc.1,hc.2.1,hc.2.2,ha,fun m hm=>?_,IB hi _⟩;obtain⟨to,h2,rfl⟩:=D2 hm;exact⟨by show 3<7;decide,hi,h2,AQ.b0,Bz.nil,by show 0≤40;decide,fun h=>by cases h⟩
 | askNews to=>exact⟨h,rfl,Nat.le_refl _,trivial,one ⟨by show 6<7;decide,hi,hq,AQ.b0,Bz.nil,by show 0≤40;decide,fun h=>by cases h⟩,Nat.le_refl _⟩
 | start =>
  refine⟨h,rfl,Nat.le_refl _,trivial,fun m hm=>?_,IB hi _⟩;obtain⟨to,h2,rfl⟩:=D2 hm;exact⟨by show 6<7;decide,hi,h2,AQ.b0,Bz.nil,by show 0≤40;decide,fun h=>by cases h⟩
 | tell to slot=>exact⟨h,rfl,Nat.le_refl _,hq.2,one ⟨by show 5<7;decide,hi,hq.1,AQ.b0,Bz.nil,by show(p.agreed.drop slot).length≤40;rw[List.length_drop];omega,fun _=>by show slot+(p.agreed.drop slot).length≤40;rw[List.length_drop];have:=hq.2;omega⟩,Nat.le_refl _⟩
theorem VI(hi:i<5)(l:List Pend)(p:Nod)(ls:List Let)(h:NOk n p)(hq:∀ q∈l,POk p.agreed.length q)(hb:ls.length+Au l<90000000)(hl:∀ m∈ls,LOk m) :
  NOk n (doneP i l p ls).1∧(doneP i l p ls).1.pend=p.pend∧(∀ m∈(doneP i l p ls).2,LOk m)∧(doneP i l p ls).2.length≤ls.length+Au l∧FT i l p ls:=by
 induction l generalizing p ls with
 | nil=>exact⟨h,rfl,hl,Nat.le_refl _,trivial⟩
 | cons q l ih =>
  obtain⟨h1,h2,h3,h4,h5,h6⟩:=h.runP hi (hq q List.mem_cons_self);have hw:Au (q::l)=q.wt+Au l:=rfl;obtain⟨k1,k2,k3,k4,k5⟩:=ih (p.runP i q) (ls++p.sentP i q) h1 (fun r hr=>(hq r (List.mem_cons_of_mem _ hr)).mono h3) (by rw[List.length_append];omega) (fun m hm=>by
   rcases List.mem_append.1 hm with h|h
   ·exact hl m h
   ·exact h5 m h)
  refine⟨k1,k2.trans h2,k3,?_,h4,by omega,k5⟩;show(doneP i l (p.runP i q) (ls++p.sentP i q)).2.length≤_;rw[List.length_append]at k4;omega
theorem NOk.syn(h:NOk n p):NOk n { p.syn with pend:=[] }:=by
 unfold Nod.syn;split
 ·exact{ h with pe:=fun q hq=>by cases hq }
 ·exact{ h with pe:=fun q hq=>by cases hq }
theorem RI(p:Nod):p.syn.agreed=p.agreed:=by unfold Nod.syn;split<;>rfl
theorem NOk.syncd(h:NOk n p)(hi:i<5){ls:List Let}(hb:ls.length+Au p.pend<90000000)(hl:∀ m∈ls,LOk m) :
  NOk n (p.syncd i ls).1∧(∀ m∈(p.syncd i ls).2,LOk m)∧(p.syncd i ls).2.length+Au (p.syncd i ls).1.pend≤ls.length+Au p.pend∧FT i p.pend { p.syn with pend:=[] } ls:=by
 have hd:=VI hi p.pend { p.syn with pend:=[] } ls h.syn (fun q hq=>by show POk p.syn.agreed.length q;rw[RI];exact h.pe q hq) hb hl;unfold Nod.syncd;split
 ·exact⟨h,hl,Nat.le_refl _,hd.2.2.2.2⟩
 ·exact⟨hd.1,hd.2.2.1,by rw[hd.2.1];exact hd.2.2.2.1,hd.2.2.2.2⟩
theorem Vl(b:Bal)(f:Cmd→Option Bal)(l:List Cmd):(CQ b f l).1.length≤l.length:=by
 induction l generalizing f with
 | nil=>exact Nat.le_refl _
 | cons c l ih =>
  rw[CQ];split
  ·have:=ih (Eo f c (some b));simp only[List.length_cons];omega
  ·have:=ih f;simp only[List.length_cons];omega
theorem Tm(b:Bal)(f:Cmd→Option Bal)(l:List Cmd)(c:Cmd)(h:((CQ b f l).2 c).isSome=true):(f c).isSome=true∨c∈l:=by
 induction l generalizing f with
 | nil=>exact .inl h
 | cons d l ih =>
  rw[CQ]at h
  split at h
  ·rcases ih _ h with h1|h1
   ·unfold Eo at h1;split at h1
    ·rename_i e;exact .inr (e▸List.mem_cons_self)
    ·exact .inl h1
   ·exact .inr (List.mem_cons_of_mem _ h1)
  ·rcases ih _ h with h1|h1
   ·exact .inl h1
   ·exact .inr (List.mem_cons_of_mem _ h1)
theorem NOk.asks(h:NOk n p):NOk n { p with asked:=(CQ p.vo.p p.asked (p.wants.take 40)).2 } :=
 { h with ask:=fun c hc=>(Tm _ _ _ c hc).elim (h.ask c) List.mem_of_mem_take }
theorem NOk.askd(h:NOk n p)(hi:i<5):NOk n (p.askd i).1∧(p.askd i).1.pend=p.pend∧(p.askd i).1.agreed=p.agreed∧(∀ m∈(p.askd i).2,LOk m)∧(p.askd i).2.length≤1:=by
 have hL:(CQ p.vo.p p.asked (p.wants.take 40)).1.length≤40:=Nat.le_trans (Vl _ _ _) (by rw[List.length_take];omega);unfold Nod.askd;split
 ·exact⟨h.asks,rfl,rfl,fun m hm=>(by cases hm),Nat.zero_le _⟩
 ·split
  ·have:=h.asks.enqueue (CQ p.vo.p p.asked (p.wants.take 40)).1;exact⟨this.1,this.2.1,this.2.2,fun m hm=>(by cases hm),Nat.zero_le _⟩
  ·have hr:=h.vp.rng;refine⟨h.asks,rfl,rfl,fun m hm=>?_,Nat.le_refl _⟩;rw[List.mem_singleton.1 hm];exact⟨by show 6<7;decide,hi,by show p.vo.p.n.toNat<5;omega,AQ.b0,Bz.nil,hL,fun h=>by cases h⟩
theorem NOk.propose(h:NOk n p):NOk n p.propose∧Au p.propose.pend≤Au p.pend+4∧p.propose.agreed=p.agreed:=by
 unfold Nod.propose;split
 ·exact⟨h,by omega,rfl⟩
 ·split
  ·exact⟨h,by omega,rfl⟩
  ·rename_i c _
   split
   ·exact⟨h,by omega,rfl⟩
   ·have hv:=h.vote ⟨(p.agreed.length:Int),p.rnd.bal,c⟩;have h1:NOk n { (p.vote ⟨(p.agreed.length:Int),p.rnd.bal,c⟩).1 with rnd:={ p.rnd with next:=p.agreed.length+1 } }:={ hv.1 with qu:=h.qu,he:=h.he };refine⟨h1.wait trivial,?_,hv.2.2.1⟩;show Au ((p.vote ⟨(p.agreed.length:Int),p.rnd.bal,c⟩).1.pend++[_])≤_;rw[ER,hv.2.1];exact Nat.le_refl _
theorem NOk.taught(h:NOk n p)(hi:i<5)(ls:List Let)(hl:∀ m∈ls,LOk m):NOk n (p.taught i ls).1∧(p.taught i ls).1.pend=p.pend∧(∀ m∈(p.taught i ls).2,LOk m)∧(p.taught i ls).2.length≤ls.length+5:=by
 have ha:=h.ag;have ht:∀ k,k≤5→∀ m∈Dw p i k,LOk m:=by
  intro k;induction k with
  | zero=>exact fun _ m hm=>by cases hm
  | succ k ih =>
   intro hk m hm;rw[Dw]at hm
   rcases List.mem_append.1 hm with h1|h1
   ·exact ih (by omega) m h1
   ·split at h1
    ·rename_i hb
     have hb:=of_decide_eq_true hb;rw[List.mem_singleton.1 h1];exact⟨by show 5<7;decide,hi,by show k<5;omega,AQ.b0,Bz.nil,by show(p.agreed.drop _).length≤40;rw[List.length_drop];omega,fun _=>by show p.rnd.taught k+(p.agreed.drop _).length≤40;rw[List.length_drop];omega⟩
    ·cases h1
 unfold Nod.taught;split
 ·refine⟨{ h with qu:=h.qu,he:=h.he },rfl,fun m hm=>?_,by show(ls++Dw p i 5).length≤_;rw[List.length_append];have:=SR p i 5;omega⟩;rcases List.mem_append.1 hm with h1|h1
  ·exact hl m h1
  ·exact ht 5 (Nat.le_refl _) m h1
 ·exact⟨h,rfl,hl,Nat.le_add_right _ _⟩
theorem NOk.unwant(h:NOk n p)(c:Cmd):NOk n (p.unwant c)∧(p.unwant c).wants.length+(if(p.asked c).isSome=true then 1 else 0)≤p.wants.length:=by
 unfold Nod.unwant;split
 ·rename_i h1
  have hm:=h.ask c h1;have hl:(p.wants.erase c).length=p.wants.length-1:=List.length_erase_of_mem hm;have hp:0<p.wants.length:=List.length_pos_of_mem hm;refine⟨{ h with wa:=?_,ask:=fun d hd=>?_ },by show(p.wants.erase c).length+1≤_;omega⟩
  ·show(p.wants.erase c).length≤n;have:=h.wa;omega
  ·unfold Eo at hd;simp only at hd;split at hd
   ·cases hd
   ·rename_i hne;exact(List.mem_erase_of_ne hne).2 (h.ask d hd)
 ·exact⟨h,Nat.le_refl _⟩
theorem FO(p:Nod)(c:Cmd):(p.unwant c).up=p.up∧(p.unwant c).pend=p.pend∧(p.unwant c).agreed=p.agreed∧(p.unwant c).done=p.done∧(p.unwant c).sto=p.sto:=by
 unfold Nod.unwant;split<;>exact⟨rfl,rfl,rfl,rfl,rfl⟩
theorem VF(i:Nat)(l:List Cmd)(p:Nod)(ts:List Tol)(h:NOk n p)(hl:p.done+l.length≤p.agreed.length) :
  NOk n (doP i l p ts).1∧(doP i l p ts).1.pend=p.pend∧(doP i l p ts).1.agreed=p.agreed∧(doP i l p ts).2.length+(doP i l p ts).1.wants.length≤ts.length+p.wants.length:=by
 induction l generalizing p ts with
 | nil=>exact⟨h,rfl,rfl,Nat.le_refl _⟩
 | cons c l ih =>
  rw[doP];split
  ·exact⟨h,rfl,rfl,Nat.le_refl _⟩
  ·rw[List.length_cons]at hl
   have h1:NOk n { p with sto:=doS p.sto c,done:=p.done+1 }:={ h with dn:=by show p.done+1≤p.agreed.length;omega };have h2:=h1.unwant c;have hs:=FO { p with sto:=doS p.sto c,done:=p.done+1 } c;obtain⟨k1,k2,k3,k4⟩:=ih (Nod.unwant { p with sto:=doS p.sto c,done:=p.done+1 } c) (if(p.asked c).isSome=true then ts++[⟨i,c.c,c.s,doC p.sto c,doA p.sto c⟩]else ts) h2.1 (by rw[hs.2.2.2.1,hs.2.2.1];show p.done+1+l.length≤p.agreed.length;omega);refine⟨k1,k2.trans hs.2.1,k3.trans hs.2.2.1,Nat.le_trans k4 ?_⟩;have h3:=h2.2;simp only at h3;by_cases hx:(p.asked c).isSome=true
   ·rw[if_pos hx]at h3 ⊢
    rw[List.length_append];show ts.length+1+_≤_;omega
   ·rw[if_neg hx]at h3 ⊢;omega
theorem NOk.piece(h:NOk n p)(hi:i<5){ls:List Let}{ts:List Tol}(hb:ls.length+Au p.pend<80000000)(hl:∀ m∈ls,LOk m) :
  NOk n (p.piece i ls ts).1∧(∀ m∈(p.piece i ls ts).2.1,LOk m)∧(p.piece i ls ts).2.1.length+Au (p.piece i ls ts).1.pend≤ls.length+Au p.pend+10∧(p.piece i ls ts).2.2.length+(doP i (p.agreed.drop p.done) p ts).1.wants.length≤ts.length+p.wants.length:=by
 have h1:=VF i (p.agreed.drop p.done) p ts h (by rw[List.length_drop];have:=h.dn;omega);have h2:=h1.1.askd hi;have h3:=h2.1.propose;have h4:=h3.1.syncd hi (ls:=ls++((doP i (p.agreed.drop p.done) p ts).1.askd i).2) (by rw[List.length_append];have:=h3.2.1;have:=h2.2.2.2.2;rw[h2.2.1,h1.2.1]at *;omega) (fun m hm=>by
  rcases List.mem_append.1 hm with h|h
  ·exact hl m h
  ·exact h2.2.2.2.1 m h)
 have h5:=h4.1.taught hi _ h4.2.1;refine⟨h5.1,h5.2.2.1,?_,h1.2.2.2⟩;have e1:=h5.2.2.2;have e2:=h4.2.2.1;have e3:=h3.2.1;have e4:=h2.2.2.2.2;rw[h2.2.1,h1.2.1]at e3
 rw[List.length_append]at e2
 show(Nod.taught _ i _).2.length+Au (Nod.taught _ i _).1.pend≤_;rw[h5.2.1];omega
end
end
section
open Go.RowKit
theorem RO{g:Gh}{w:World}(hg:∀ b,w.heap.size≤b→g.t b=.z∧g.k b=0) :
  Calls prog 23 #[] w fun e w'=>∃ (b:Nat) (g':Gh),e=.returned (.map (some b))∧TkAt g' w' b 7∧Iq g' w'∧Cg w.heap.size [.n 70 0] g w g' w':=by
 refine gI (fn:=f23) [.n 70 0] g func23 hg ?_;refine qR [] 6 [] fun s1 g1 w1 c1=>?_;refine fB 0 (by kernel_rfl) (by kernel_rfl) ?_;intro tb g2 w2 htb A0 cc2 n2;have c2:=cc2 w.heap.size [];refine GD 1 (b:=tb) A0 (by decide) (by kernel_rfl) (by kernel_rfl) (by kernel_rfl) ?_;intro w4 A1 cc4;have c4:=cc4 w.heap.size [.n 70 0] (List.mem_singleton.2 rfl);refine GD 2 (b:=tb) A1 (by decide) (by kernel_rfl) (by kernel_rfl) (by kernel_rfl) ?_;intro w6 A2 cc6;have c6:=cc6 w.heap.size [.n 70 0] (List.mem_singleton.2 rfl);refine GD 3 (b:=tb) A2 (by decide) (by kernel_rfl) (by kernel_rfl) (by kernel_rfl) ?_;intro w8 A3 cc8;have c8:=cc8 w.heap.size [.n 70 0] (List.mem_singleton.2 rfl);refine GD 4 (b:=tb) A3 (by decide) (by kernel_rfl) (by kernel_rfl) (by kernel_rfl) ?_;intro w10 A4 cc10;have c10:=cc10 w.heap.size [.n 70 0] (List.mem_singleton.2 rfl);refine GD 5 (b:=tb) A4 (by decide) (by kernel_rfl) (by kernel_rfl) (by kernel_rfl) ?_;intro w12 A5 cc12;have c12:=cc12 w.heap.size [.n 70 0] (List.mem_singleton.2 rfl);refine GD 6 (b:=tb) A5 (by decide) (by kernel_rfl) (by kernel_rfl) (by kernel_rfl) ?_;intro w14 A6 cc14;have c14:=cc14 w.heap.size [.n 70 0] (List.mem_singleton.2 rfl);refine GD 7 (b:=tb) A6 (by decide) (by kernel_rfl) (by kernel_rfl) (by kernel_rfl) ?_;intro w16 A7 cc16;have c16:=cc16 w.heap.size [.n 70 0] (List.mem_singleton.2 rfl);refine qR [] 3 [] fun s17 g17 w17 c17=>?_;exact qE (.map (some tb)) fun K=>⟨tb,_,rfl,(A7.ch c17),K.new,((((((((((c1.nil [.n 70 0]).n c2).trans c4).trans c6).trans c8).trans c10).trans c12).trans c14).trans c16).n c17)⟩
theorem Kk{g:Gh}{w:World}{mb tb ob:Nat}{nb:Nat→Nat}{M:Meet}(h:MS mb tb ob nb g w M){w0:World}(hB:Base w0 g w)(hT:Tabs w0)(lb:Nat)(l:Let)(hl:Cj g w lb l)(hlo:LOk l){n:Nat}(hok:NOk n (M.node l.dst))(hpb:(M.node l.dst).pend.length<100000000) :
  Calls prog 66 #[pt mb 0,pt lb 0] w (MP mb tb ob nb g w (.tuple #[]) (M.come l)):=by
 have hLL:=hl;obtain⟨kd,src,dst,bal,vote,votes,slot,what⟩:=l;have hs:src<5:=hlo.src;have hd:dst<5:=hlo.dst;have hkd:kd<7:=hlo.kd;have hwl:what.length≤40:=hlo.wh;simp only at hok hpb;obtain⟨x,hN⟩:=h.node dst hd;have hag:=hok.ag;refine gI (fn:=f66) TM g func66 h.new ?_;refine BM ⟨mb,_,.z,false⟩ (fun _=>⟨h.box.r,h.box.z,fun h=>(by cases h),fun h=>absurd rfl h⟩) (by kernel_rfl) ?_;obtain⟨vs,wh,hl1,hl2,hl3⟩:=hl;refine BM ⟨lb,.cells (EG (Let.mk kd src dst bal vote votes slot what) vs wh) 141,.z,false⟩ (fun _=>⟨hl1.r,hl1.z,fun h=>(by cases h),fun h=>absurd rfl h⟩) (by kernel_rfl) ?_;refine qR [] 9 [10,0,2,4,6,8,1,10,12] fun s1 g1 w1 c1=>?_;refine OK 7 (pt mb dst) false (fun W hW=>(by rcases five hd with rfl|rfl|rfl|rfl|rfl<;>kernel_rfl)) (by kernel_rfl) ?_;refine qU 8 (pt (nb dst) 0) (fun W hW=>(CX underlying69 rfl (S8 (AM.at (hW rfl) 0 mb (.cells (mtA nb ob tb) 72) .z (by kernel_rfl)) hd))) ?_;refine qR [] 7 [18] fun s3 g3 w3 c3=>?_;have hN1:=hN.ch (c1.trans c3);refine qN hN1 ?_;refine qR [] 2 [2] fun s4 g4 w4 c4=>?_;by_cases h1:(M.node dst).up=true
 ·refine qI ((M.node dst).up) true h1 ?_;have hk1:=h.tk.ch ((c1.trans c3).trans c4) (by simp);refine Hl tb _ 70 0 hk1.row hk1.t hk1.k (by kernel_rfl) ?_;rw[show M.come (Let.mk kd src dst bal vote votes slot what)=M.set dst ((M.node dst).take (Let.mk kd src dst bal vote votes slot what)) M.lets M.told from if_pos h1];refine qR [] 9 [11,0,2,4,6,0,8,10,12,14,1] fun s5 g5 w5 c5=>?_;refine qU 8 (tkV kd) (fun W hW=>(rTk (AM.at (hW rfl) 3 tb (.map (tkL 7).toArray 7) (.n 70 0) (by kernel_rfl)) hkd)) ?_;refine qR [] 2 [18,20] fun s6 g6 w6 c6=>?_;rcases XK hkd with rfl|rfl|rfl|rfl|rfl|rfl|rfl
  ·refine Af fun K=>?_;have N7:MS mb tb ob nb g6 w6 M:=(h.ch0 ((((c1.trans c3).trans c4).trans c5).trans c6) K.new);refine qG 11 TM [true,true,false,false] ((N7).call hd (Ii ((N7).ns hd) (hB.ch (((((c1.nil TM).n c3).n c4).n c5).n c6) E9) hT lb _ (hLL.ch ((((c1.trans c3).trans c4).trans c5).trans c6) (by simp)) rfl hpb)) ?_;rintro e' w7 ⟨g7,rfl,M7,c7⟩;refine⟨_,g7,rfl,c7,M7.new,?_⟩;replace c7:=c7.ret (B:=w.heap.size);refine qR [] 1 [] fun s8 g8 w8 c8=>?_;refine qE (.tuple #[]) fun K=>?_;exact⟨_,rfl,(M7.ch0 c8 K.new),(((((((c1.nil TM).n c3).n c4).n c5).n c6).trans (c7)).n c8)⟩
  ·refine Af fun K=>?_;have N9:MS mb tb ob nb g6 w6 M:=(h.ch0 ((((c1.trans c3).trans c4).trans c5).trans c6) K.new);refine qG 11 TM [true,true,false,false] ((N9).call hd (JF ((N9).ns hd) (hB.ch (((((c1.nil TM).n c3).n c4).n c5).n c6) E9) hT lb _ (hLL.ch ((((c1.trans c3).trans c4).trans c5).trans c6) (by simp)) rfl hs (by show((M.node dst).agreed++what.drop ((M.node dst).agreed.length-0)).length≤40;rw[List.length_append,List.length_drop];omega) hwl (Nat.lt_of_le_of_lt (hok.he src).len (by decide)))) ?_;rintro e' w9 ⟨g9,rfl,M9,c9⟩;refine⟨_,g9,rfl,c9,M9.new,?_⟩;replace c9:=c9.ret (B:=w.heap.size);refine qR [] 1 [] fun s10 g10 w10 c10=>?_;refine qE (.tuple #[]) fun K=>?_;exact⟨_,rfl,(M9.ch0 c10 K.new),(((((((c1.nil TM).n c3).n c4).n c5).n c6).trans (c9)).n c10)⟩
  ·refine Af fun K=>?_;have N11:MS mb tb ob nb g6 w6 M:=(h.ch0 ((((c1.trans c3).trans c4).trans c5).trans c6) K.new);refine qG 11 TM [true,true,false,false] ((N11).call hd (JG ((N11).ns hd) lb _ (hLL.ch ((((c1.trans c3).trans c4).trans c5).trans c6) (by simp)))) ?_;rintro e' w11 ⟨g11,rfl,M11,c11⟩;refine⟨_,g11,rfl,c11,M11.new,?_⟩;replace c11:=c11.ret (B:=w.heap.size);refine qR [] 1 [] fun s12 g12 w12 c12=>?_;refine qE (.tuple #[]) fun K=>?_;exact⟨_,rfl,(M11.ch0 c12 K.new),(((((((c1.nil TM).n c3).n c4).n c5).n c6).trans (c11)).n c12)⟩
  ·refine Af fun K=>?_;have N13:MS mb tb ob nb g6 w6 M:=(h.ch0 ((((c1.trans c3).trans c4).trans c5).trans c6) K.new);refine qG 11 TM [true,true,false,false] ((N13).call hd (IK ((N13).ns hd) (hB.ch (((((c1.nil TM).n c3).n c4).n c5).n c6) E9) hT lb _ (hLL.ch ((((c1.trans c3).trans c4).trans c5).trans c6) (by simp)) rfl hpb (by have:=hok.vs.len;omega))) ?_;rintro e' w13 ⟨g13,rfl,M13,c13⟩;refine⟨_,g13,rfl,c13,M13.new,?_⟩;replace c13:=c13.ret (B:=w.heap.size);refine qR [] 1 [] fun s14 g14 w14 c14=>?_;refine qE (.tuple #[]) fun K=>?_;exact⟨_,rfl,(M13.ch0 c14 K.new),(((((((c1.nil TM).n c3).n c4).n c5).n c6).trans (c13)).n c14)⟩
  ·refine Af fun K=>?_;have N15:MS mb tb ob nb g6 w6 M:=(h.ch0 ((((c1.trans c3).trans c4).trans c5).trans c6) K.new);refine qG 11 TM [true,true,false,false] ((N15).call hd (NY ((N15).ns hd) (hB.ch (((((c1.nil TM).n c3).n c4).n c5).n c6) E9) hT lb _ (hLL.ch ((((c1.trans c3).trans c4).trans c5).trans c6) (by simp)) hs hag)) ?_;rintro e' w15 ⟨g15,rfl,M15,c15⟩;refine⟨_,g15,rfl,c15,M15.new,?_⟩;replace c15:=c15.ret (B:=w.heap.size);refine qR [] 1 [] fun s16 g16 w16 c16=>?_;refine qE (.tuple #[]) fun K=>?_;exact⟨_,rfl,(M15.ch0 c16 K.new),(((((((c1.nil TM).n c3).n c4).n c5).n c6).trans (c15)).n c16)⟩
  ·refine Af fun K=>?_;have N17:MS mb tb ob nb g6 w6 M:=(h.ch0 ((((c1.trans c3).trans c4).trans c5).trans c6) K.new);refine qG 11 TM [true,true,false,false] ((N17).call hd (NW ((N17).ns hd) lb _ (hLL.ch ((((c1.trans c3).trans c4).trans c5).trans c6) (by simp)) rfl hpb (by omega) (by show what.length<_;omega))) ?_;rintro e' w17 ⟨g17,rfl,M17,c17⟩;refine⟨_,g17,rfl,c17,M17.new,?_⟩;replace c17:=c17.ret (B:=w.heap.size);refine qR [] 1 [] fun s18 g18 w18 c18=>?_;refine qE (.tuple #[]) fun K=>?_;exact⟨_,rfl,(M17.ch0 c18 K.new),(((((((c1.nil TM).n c3).n c4).n c5).n c6).trans (c17)).n c18)⟩
  ·refine Af fun K=>?_;have N19:MS mb tb ob nb g6 w6 M:=(h.ch0 ((((c1.trans c3).trans c4).trans c5).trans c6) K.new);refine qG 11 TM [true,true,false,false] ((N19).call hd (Lo ((N19).ns hd) lb _ (hLL.ch ((((c1.trans c3).trans c4).trans c5).trans c6) (by simp)) rfl hpb (by show what.length<_;omega) hok.qu)) ?_;rintro e' w19 ⟨g19,rfl,M19,c19⟩;refine⟨_,g19,rfl,c19,M19.new,?_⟩;replace c19:=c19.ret (B:=w.heap.size);refine qR [] 1 [] fun s20 g20 w20 c20=>?_;refine qE (.tuple #[]) fun K=>?_;exact⟨_,rfl,(M19.ch0 c20 K.new),(((((((c1.nil TM).n c3).n c4).n c5).n c6).trans (c19)).n c20)⟩
 ·refine qI ((M.node dst).up) false (by simpa using h1) ?_;refine qR [] 1 [] fun s21 g21 w21 c21=>?_;refine qE (.tuple #[]) fun K=>?_;rw[show M.come (Let.mk kd src dst bal vote votes slot what)=M from if_neg h1];exact⟨_,rfl,(h.ch0 (((c1.trans c3).trans c4).trans c21) K.new),((((c1.nil TM).n c3).n c4).n c21)⟩
end
end Go.Proofs.YtfhbkoflaekhpadGreatDoor
