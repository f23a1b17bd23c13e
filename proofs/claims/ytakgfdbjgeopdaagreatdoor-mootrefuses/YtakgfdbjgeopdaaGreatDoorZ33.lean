/- Part 33 of the walk: what the functions of the program do, one by one. -/
import Derived.Laws.OwnMore
import Derived.Maps.AppendAt
import Derived.Test.YtakgfdbjgeopdaaGreatDoorZ32
import Derived.Test.YtakgfdbjgeopdaaGreatDoorZ28
set_option maxRecDepth 100000
set_option maxHeartbeats 4000000
open Go.Proofs.Tryz
namespace Go.Proofs.YtakgfdbjgeopdaaGreatDoor
open Go.RowKit
def Xm(key data:List Int):List Int:=leB 16 (XP (leN (CR (key.take 16))) data+leN (key.drop 16))
theorem Sl.aShape{w:World}{v:Value}{l:List Int}(h:Sl w v l):∃ a c,v=.slice a l.length c:=by
 obtain⟨⟨a,cap,e,_⟩,_⟩:=h;exact⟨a,cap,e⟩
theorem Zd(vk vd:Value)(key data:List Int)(w:World)(hk:Sl w vk key)(hd:Sl w vd data)(lk:key.length=32)(ld:data.length≤4000) :
  Calls prog 183 #[vk,vd] w fun e w'=>∃ v',e=.returned (.tuple #[v',.int .i64 0])∧Sl w' v' (Xm key data)∧Below w.heap.size w w':=by
 obtain⟨ak,ck,rfl⟩:=hk.aShape;obtain⟨ad,cd,rfl⟩:=hd.aShape;rw[lk]at hk ⊢
 obtain⟨a1,c1,hc1',s1⟩:=hk.upTo 16 (by omega);obtain⟨a2,c2,hc2',s2⟩:=hk.from 16 (by omega);have hc1:∀ W,(Instr.slice 26 (.slice ak 32 ck) none (some (.int .i64 16)) none).run prog W=.ok (.slice a1 16 c1) W:=hc1';have hc2:∀ W,(Instr.slice 26 (.slice ak 32 ck) (some (.int .i64 16)) none none).run prog W=.ok (.slice a2 16 c2) W:=hc2';clear hc1' hc2';have lt:(key.take 16).length=16:=by rw[List.length_take];omega
 have lr:(key.drop 16).length=16:=by rw[List.length_drop];omega
 have ldi:¬ (4000:Int)<(data.length:Int):=by omega
 have HT:Hid (Xm key data=leB 16 (XP (leN (CR (key.take 16))) data+leN (key.drop 16))):=rfl;generalize key.take 16=K1 at s1 lt HT;generalize key.drop 16=K2 at s2 lr HT;clear hk lk;have hdl:Hid (data.length≤4000):=ld;go_enter func183,ntmps183
 go_wp2_with fail
 go_region_with (first
  | (go_at_call 224;refine(Pg _ K1 _ (s1.below ((Below.refl _ _).drew)) lt).mono ?_;rintro e w2 ⟨r1,rfl,l1,v1,hb2⟩)
  | (go_at_call 223;refine(Me r1 (leN (CR K1)) _ data _ (hd.below ((Below.refl _ _).drew.trans hb2)) hdl.out l1 v1).mono ?_;rintro e w3 ⟨n1,rfl,l3,v3,hb3⟩)
  | (go_at_call 222;refine(MC n1 _ K2 _ (s2.below (((Below.refl _ _).drew.trans hb2).trans (hb3.mono hb2.size))) lr l3).mono ?_;rintro e w4 ⟨v4,rfl,s4,hb4⟩))
 all_goals
  go_wp2
  go_ret2
  refine⟨v4,rfl,?_,?_⟩
  ·rw[HT.out,← v3];exact s4
  ·have b3:Below w.heap.size w w3:=((Below.refl _ _).drew.trans hb2).trans (hb3.mono hb2.size);exact b3.trans (hb4.mono b3.size)
def gap(n:Nat):Nat:=(16-n%16)%16
def D1(l:List Int):List Int:=l++List.replicate (gap l.length) 0
theorem DB(l:List Int):(D1 l).length=l.length+gap l.length:=by rw[D1,List.length_append,List.length_replicate]
theorem FR(n:Nat):gap n<16:=by unfold gap;omega
theorem Q8(n:Nat):(n+gap n)%16=0:=by unfold gap;omega
theorem RB(n j:Nat)(h:j<gap n):¬ (n+j)%16=0:=by unfold gap at h;omega
theorem Wn(n m:Nat)(h:n%16=0):gap (n+m)=gap m:=by unfold gap;omega
theorem Lt{l:List Int}(h:∀ x∈l,0≤x∧x<256):∀ x∈D1 l,0≤x∧x<256:=by
 intro x hx;rcases List.mem_append.1 hx with h1|h1
 ·exact h x h1
 ·rw[(List.mem_replicate.1 h1).2];omega
theorem UH(a s:List Int):D1 (D1 a++s)=D1 a++D1 s:=by
 have h:(D1 a).length%16=0:=by rw[DB];exact Q8 _
 rw[D1,List.length_append,Wn _ _ h,List.append_assoc];rfl
theorem Um(k:Nat)(v:Int):leB (k+1) v=leB k v++[AF v k]:=by
 simp[leB,List.range_succ]
def EP(a s:List Int):List Int:=D1 a++D1 s++leB 8 (a.length:Int)++leB 8 (s.length:Int)
theorem G1(a s:List Int):(EP a s).length=a.length+gap a.length+(s.length+gap s.length)+8+8:=by
 simp only[EP,List.length_append,DB,Dm]
theorem Pu{a s:List Int}(ha:∀ x∈a,0≤x∧x<256)(hs:∀ x∈s,0≤x∧x<256):∀ x∈EP a s,0≤x∧x<256:=by
 intro x hx;rcases List.mem_append.1 hx with hx|hx
 ·rcases List.mem_append.1 hx with hx|hx
  ·rcases List.mem_append.1 hx with hx|hx
   ·exact Lt ha x hx
   ·exact Lt hs x hx
  ·exact J5 _ _ x hx
 ·exact J5 _ _ x hx
def FI(key nonce a s:List Int):List Int:=Xm ((BU (Bz key (BitVec.ofNat 32 0) nonce)).take 32) (EP a s)
def JU(key nonce p:List Int):List Int:=Nz (Bz key (BitVec.ofNat 32 1) nonce) p
theorem My(key nonce p:List Int):(JU key nonce p).length=p.length:=N1 _ _
theorem I3(v:Value)(l:List Int)(B:Nat)(w:World)(ho:w.ownsRow B 5 1 v l.length (l.map (Value.int .u8)))(hB:B≤w.heap.size)(hl:l.length≤100000) :
  Calls prog 225 #[v] w fun e w'=>∃ v',e=.returned v'∧w'.ownsRow B 5 1 v' (D1 l).length ((D1 l).map (Value.int .u8))∧Below B w w':=by
 have HF:Hid (D1 l=l++List.replicate (gap l.length) 0):=rfl;have hg:=FR l.length;have HS:Hid (∀ j,j<gap l.length→¬ (l.length+j)%16=0):=fun j hj=>RB _ _ hj;have HE:Hid ((l.length+gap l.length)%16=0):=Q8 _;obtain⟨a0,c0,rfl⟩:=DA ho;generalize gap l.length=G at HF hg HS HE;go_enter func225,ntmps225
 go_wp2_with fail
 go_loopw [0] (fun v wr=>∃ (j:Nat) (a:Option Addr) (cap:Nat),j≤G∧v=.slice a (l.length+j) cap∧wr.ownsRow B 5 1 v (l++List.replicate j 0).length ((l++List.replicate j 0).map (Value.int .u8))∧Below B w wr) (fun v _=>l.length+G-Uq v)
 case atStart=>exact⟨0,a0,c0,by omega,rfl,by simpa using ho,Below.refl _ _⟩
 case round =>
  clear ho;obtain⟨j,a,cap,hj,rfl,hown,hb⟩:=hrel;have hlt:=hown.lt;by_cases hjn:j<G
  ·have h1:=HS.out j hjn;have h2:¬ ((l.length:Int)+j)%16=0:=by omega
   go_wp2_with (at_builtin;refine Aa _ rfl _ _ 26 rfl B 5 underlying26 AB _ _ rfl rfl (l++List.replicate j 0) [0] (hown.alloc _) (Sl.one _ _ _ rfl (by omega)) (by simp;omega) (by have:=hb.size;simp;omega) ?_)
   intro v2 w2 ho2 hg2;have ho2':w2.ownsRow B 5 1 v2 (l++List.replicate (j+1) 0).length ((l++List.replicate (j+1) 0).map (Value.int .u8)):=by rw[← JO];simpa using ho2
   have hb2:Below B w w2:=(hb.alloc (Nat.le_trans hB hb.size) _).grown hg2 (by have:=hb.size;simp;omega) (fun k hk=>(hlt k hk).1);obtain⟨a2,c2,hv2⟩:=DA ho2';rw[List.length_append,List.length_replicate]at hv2
   subst hv2;clear ho2 hg2 hown hlt hb h1 h2;go_wp2
   go_roundw
   case rel=>exact⟨j+1,a2,c2,by omega,rfl,ho2',hb2⟩
   case measure=>simp[Uq];omega
  ·have HJ:Hid (G=j):=by unfold Hid;omega
   have h0:=HE.out;have h1:((l.length:Int)+j)%16=0:=by have:=HJ.out;omega
   have h2:(((l.length:Int)+j)%16 != 0)=false:=by simp;omega
   clear h0;go_wp2
   go_ret;refine⟨_,rfl,?_,hb⟩;rw[HF.out,HJ.out];exact hown
theorem Fh(v:Value)(l:List Int)(n:Nat)(B:Nat)(w:World)(ho:w.ownsRow B 5 1 v l.length (l.map (Value.int .u8)))(hB:B≤w.heap.size)(hl:l.length≤100000)(hn:n≤100000) :
  Calls prog 226 #[v,.int .i64 n] w fun e w'=>∃ v',e=.returned v'∧w'.ownsRow B 5 1 v' (l++leB 8 (n:Int)).length ((l++leB 8 (n:Int)).map (Value.int .u8))∧Below B w w':=by
 go_enter func226,ntmps226
 go_wp2_with fail
 go_loopw [0,1,5] (fun v s i wr=>∃ k:Nat,k≤8∧i=.int .i64 k∧s=.int .i64 ((n:Int)/256^k)∧wr.ownsRow B 5 1 v (l++leB k (n:Int)).length ((l++leB k (n:Int)).map (Value.int .u8))∧Below B w wr) (fun _ _ i _=>8-(intOf i).toNat)
 case atStart=>exact⟨0,by omega,rfl,by simp,by simpa[leB]using ho,Below.refl _ _⟩
 case round =>
  clear ho;obtain⟨k,hk,rfl,rfl,hown,hb⟩:=hrel;have hlt:=hown.lt;by_cases hk8:k<8
  ·have hki:(k:Int)<8:=by omega
   obtain⟨x,hx⟩:∃ x:Int,(n:Int)/256^k=x:=⟨_,rfl⟩;have hp:(0:Int)<256^k:=JG k;have hx0:0≤x:=by rw[← hx];exact Int.ediv_nonneg (by omega) (by omega)
   have hx1:x≤100000:=by rw[← hx];have:=Int.ediv_le_self (256^k) (show(0:Int)≤n by omega);omega
   have HX:Hid ((n:Int)/256^(k+1)=x/256):=by unfold Hid;rw[Int.pow_succ,← Int.ediv_ediv_of_nonneg (Int.le_of_lt hp),hx]
   have HBY:Hid (x%256=AF n k):=by unfold Hid AF;rw[hx]
   have hlk:=Dm k (n:Int);have HS:Hid (leB (k+1) (n:Int)=leB k n++[AF n k]):=Um k _;rw[hx];clear hx hp;generalize leB k (n:Int)=pre at hown HS hlk;generalize AF (n:Int) k=y at HBY HS;go_wp2_with (at_builtin;refine Aa _ rfl _ _ 26 rfl B 5 underlying26 AB _ _ rfl rfl (l++pre) [y] (hown.alloc _) (Sl.one2 _ _ _ _ rfl ?_ ?_) (by simp;omega) (by have:=hb.size;simp;omega) ?_)
   ·have:=HBY.out;omega
   ·have:=HBY.out;omega
   intro v2 w2 ho2 hg2;have ho2':w2.ownsRow B 5 1 v2 (l++(pre++[y])).length ((l++(pre++[y])).map (Value.int .u8)):=by rw[← List.append_assoc];simpa[hlk]using ho2
   have hb2:Below B w w2:=(hb.alloc (Nat.le_trans hB hb.size) _).grown hg2 (by have:=hb.size;simp;omega) (fun k hk=>(hlt k hk).1);clear ho2 hg2 hown hlt hb;go_wp2
   go_roundw
   case rel=>exact⟨k+1,by omega,by go_num,by rw[HX.out],by rw[HS.out];exact ho2',hb2⟩
   case measure=>simp[intOf];omega
  ·obtain rfl:k=8:=by omega
   go_wp2
   go_ret;exact⟨_,rfl,hown,hb⟩
theorem Uh(va vs:Value)(a s:List Int)(w:World)(ha:Sl w va a)(hs:Sl w vs s)(la:a.length≤10000)(ls:s.length≤10000) :
  Calls prog 184 #[va,vs] w fun e w'=>∃ v',e=.returned v'∧Sl w' v' (EP a s)∧Below w.heap.size w w':=by
 have HL:Hid (EP a s=D1 (D1 a++s)++leB 8 (a.length:Int)++leB 8 (s.length:Int)):=by unfold Hid;rw[UH];rfl
 have HY:Hid (∀ x∈EP a s,0≤x∧x<256):=Pu ha.byte hs.byte;have HN:Hid ((EP a s).length≤30000):=by unfold Hid;rw[G1];have:=FR a.length;have:=FR s.length;omega
 have hpa:(D1 a).length≤11000:=by rw[DB];have:=FR a.length;omega
 have hpp:(D1 (D1 a++s)).length≤30000:=by rw[DB,List.length_append];have:=FR ((D1 a).length+s.length);omega
 obtain⟨aa,ca,rfl⟩:=ha.shape;obtain⟨as0,cs,rfl⟩:=hs.shape;generalize hn:a.length=n at la HL ha ⊢;generalize hm:s.length=m at ls HL hs ⊢;have HNA:Hid (a.length=n):=hn;have HMS:Hid (s.length=m):=hm;clear hn hm;go_enter func184,ntmps184
 go_wp2_with (at_builtin;refine Aa _ rfl _ _ 26 rfl w.heap.size 5 underlying26 AB _ _ rfl rfl [] a (World.ownsRow_nil _ _ _ _) ha (by have:=HNA.out;simp;omega) (Nat.le_refl _) ?_)
 intro v1 w1 ho1 hg1;have b1:Below w.heap.size w w1:=(Below.refl _ _).grown hg1 (Nat.le_refl _) (by simp[Value.ownBlock]);replace ho1:w1.ownsRow w.heap.size 5 1 v1 a.length (a.map (Value.int .u8)):=by simpa using ho1
 clear hg1;go_wp2_with fail
 refine(I3 v1 a w.heap.size w1 ho1 b1.size (by have:=HNA.out;omega)).mono ?_;rintro e w2 ⟨v2,rfl,ho2,b2⟩;replace b2:=b1.trans b2;clear ho1 b1;have hs2:=hs.below b2;have hlt:=ho2.lt;generalize D1 a=A at HL hpa hpp ho2;go_wp2_with (at_builtin;refine Aa _ rfl _ _ 26 rfl w.heap.size 5 underlying26 AB _ _ rfl rfl A s ho2 hs2 (by have:=HMS.out;omega) b2.size ?_)
 intro v3 w3 ho3 hg3;have b3:Below w.heap.size w w3:=b2.grown hg3 b2.size (fun k hk=>(hlt k hk).1);clear hg3 hlt ho2 b2 hs2;replace ho3:w3.ownsRow w.heap.size 5 1 v3 (A++s).length ((A++s).map (Value.int .u8)):=by simpa using ho3
 have hAs:(A++s).length≤21000:=by rw[List.length_append];have:=HMS.out;omega
 generalize A++s=AS at HL hpp ho3 hAs;go_wp2_with fail
 refine(I3 v3 AS w.heap.size w3 ho3 b3.size (by omega)).mono ?_;rintro e w4 ⟨v4,rfl,ho4,b4⟩;replace b4:=b3.trans b4;clear ho3 b3;generalize D1 AS=X at HL hpp ho4;go_wp2_with fail
 refine(Fh v4 X n w.heap.size w4 ho4 b4.size (by omega) (by omega)).mono ?_;rintro e w5 ⟨v5,rfl,ho5,b5⟩;replace b5:=b4.trans b5;have hX5:(X++leB 8 (n:Int)).length≤30008:=by rw[List.length_append,Dm];omega
 clear ho4 b4;generalize X++leB 8 (n:Int)=X5 at HL hX5 ho5;go_wp2_with fail
 refine(Fh v5 X5 m w.heap.size w5 ho5 b5.size (by omega) (by omega)).mono ?_;rintro e w6 ⟨v6,rfl,ho6,b6⟩;replace b6:=b5.trans b6;rw[← HL.out]at ho6
 go_wp2
 go_ret;exact⟨_,rfl,Sl.ofOwns ho6 (by have:=HN.out;omega) HY.out,b6⟩
def IE(key nonce a:List Int):Bool:=decide (key.length=32)&&decide (nonce.length=12)&&decide (a.length≤256)
theorem Gt(vk vn va:Value)(key nonce a:List Int)(w:World)(hk:Sl w vk key)(hn:Sl w vn nonce)(ha:Sl w va a) :
  Calls prog 136 #[vk,vn,va] w fun e w'=>e=.returned (.bool (IE key nonce a))∧w'=w:=by
 have h1:=hk.len;have h2:=hn.len;have h3:=ha.len;obtain⟨ak,ck,rfl⟩:=hk.shape;obtain⟨an,cn,rfl⟩:=hn.shape;obtain⟨aa,ca,rfl⟩:=ha.shape;unfold IE;generalize key.length=n1 at h1 hk ⊢;generalize nonce.length=n2 at h2 hn ⊢;generalize a.length=n3 at h3 ha ⊢;clear hk hn ha;by_cases c1:(n1:Int)=32
 ·by_cases c2:(n2:Int)=12
  ·by_cases c3:(n3:Int)≤256
   ·go_enter func136,ntmps136
    go_wp2
    go_ret;refine⟨Ab ?_,rfl⟩;simp;omega
   ·go_enter func136,ntmps136
    go_wp2
    go_ret;refine⟨Ab ?_,rfl⟩;simp;omega
  ·go_enter func136,ntmps136
   go_wp2
   go_ret;refine⟨Ab ?_,rfl⟩;simp;omega
 ·go_enter func136,ntmps136
  go_wp2
  go_ret;refine⟨Ab ?_,rfl⟩;simp;omega
theorem Th(vk vn:Value)(key nonce:List Int)(x:Int)(c:Nat)(hx:x=(c:Int))(w:World)(hk:Sl w vk key)(hn:Sl w vn nonce)(lk:key.length=32)(ln:nonce.length=12)(hc:c≤1073741824)(ht:C1 w) :
  Calls prog 182 #[vk,.int .i64 x,vn] w fun e w'=>∃ v',e=.returned (.tuple #[v',.int .i64 0])∧Got w w' v' (BU (Bz key (BitVec.ofNat 32 c) nonce)):=by
 subst hx;exact Ti vk vn key nonce c w hk hn lk ln hc ht
theorem QP(vk vn va vs:Value)(key nonce a s:List Int)(w:World)(hk:Sl w vk key)(hn:Sl w vn nonce)(ha:Sl w va a)(hs:Sl w vs s)(lk:key.length=32)(ln:nonce.length=12)(la:a.length≤256)(ls:s.length≤2000)(ht:C1 w) :
  Calls prog 138 #[vk,vn,va,vs] w fun e w'=>∃ v',e=.returned (.tuple #[v',.int .i64 0])∧Sl w' v' (FI key nonce a s)∧Below w.heap.size w w':=by
 have HT:Hid (FI key nonce a s=Xm ((BU (Bz key (BitVec.ofNat 32 0) nonce)).take 32) (EP a s)):=rfl;have hll:(EP a s).length≤4000:=by rw[G1];have:=FR a.length;have:=FR s.length;omega
 go_enter func138,ntmps138
 go_wp2_with fail
 refine(Th vk vn key nonce 0 0 rfl w hk hn lk ln (by omega) ht).mono ?_;rintro e w1 ⟨vb,rfl,g1⟩;have sb:=g1.sl;have b1:=g1.bel;clear g1;have hbl:=DE (Bz key (BitVec.ofNat 32 0) nonce);generalize BU (Bz key (BitVec.ofNat 32 0) nonce)=bs at HT sb hbl;obtain⟨ab,cb,rfl⟩:=sb.shape;rw[hbl]at sb ⊢
 obtain⟨a1,c1,hc1',s1⟩:=sb.upTo 32 (by omega);have hc1:∀ W,(Instr.slice 26 (.slice ab 64 cb) none (some (.int .i64 32)) none).run prog W=.ok (.slice a1 32 c1) W:=hc1';have lt:(bs.take 32).length=32:=by rw[List.length_take];omega
 generalize bs.take 32=K at HT s1 lt;have ha1:=ha.below b1;have hs1:=hs.below b1;clear hc1' sb hbl;have la2:a.length≤10000:=by omega
 have ls2:s.length≤10000:=by omega
 have HLA:Hid (a.length≤10000):=la2;have HLS:Hid (s.length≤10000):=ls2;have HLL:Hid ((EP a s).length≤4000):=hll;clear la ls la2 ls2 hll hk hn ha hs lk ln;go_wp2_with fail
 go_region_with (first
  | (go_at_call 184;refine(Uh _ _ a s _ (ha1.below ((Below.refl _ _).drew)) (hs1.below ((Below.refl _ _).drew)) HLA.out HLS.out).mono ?_;rintro e w2 ⟨v2,rfl,s2,hb2⟩)
  | (go_at_call 183;refine(Zd _ _ K _ _ (s1.below ((Below.refl _ _).drew.trans hb2)) s2 lt HLL.out).mono ?_;rintro e w3 ⟨v3,rfl,s3,hb3⟩))
 all_goals
  go_wp2
  go_ret2
  refine⟨v3,rfl,?_,?_⟩
  ·rw[HT.out];exact s3
  ·have b2:Below w.heap.size w w2:=b1.trans (((Below.refl _ _).drew.trans hb2).mono b1.size);exact b2.trans (hb3.mono b2.size)
theorem Ut(vk vn vd:Value)(key nonce d:List Int)(w:World)(hk:Sl w vk key)(hn:Sl w vn nonce)(hd:Sl w vd d)(lk:key.length=32)(ln:nonce.length=12)(ld:d.length≤2000)(ht:C1 w) :
  Calls prog 137 #[vk,.int .i64 1,vn,vd] w fun e w'=>∃ v',e=.returned (.tuple #[v',.int .i64 0])∧w'.ownsRow w.heap.size 5 1 v' (JU key nonce d).length ((JU key nonce d).map (Value.int .u8))∧Below w.heap.size w w' :=
 WF vk vn vd key nonce d 1 w hk hn hd lk ln (by omega) ld ht
theorem KZ{key nonce a:List Int}(h:IE key nonce a=true):key.length=32∧nonce.length=12∧a.length≤256:=by
 unfold IE at h;simp at h;omega
def Dr(key nonce a d:List Int):Int :=
 if IE key nonce a=true∧d.length≤2016 then(if d.length<16 then 13 else if FI key nonce a (d.take (d.length-16))=d.drop (d.length-16)then 0 else 6)else 1
def NL(key nonce a d:List Int):List Int:=if Dr key nonce a d=0 then JU key nonce (d.take (d.length-16))else[]
theorem WP(vk vn va vd:Value)(key nonce a d:List Int)(w:World)(hk:Sl w vk key)(hn:Sl w vn nonce)(ha:Sl w va a)(hd:Sl w vd d)(hno:IE key nonce a=false∨2016<d.length) :
  Calls prog 198 #[vk,vn,va,vd] w fun e w'=>e=.returned (.tuple #[.slice none 0 0,.int .i64 1])∧w'=w:=by
 have h1:=hd.len;obtain⟨ap,cp,rfl⟩:=hd.shape;by_cases hf:IE key nonce a=true
 ·have hpl:(2016:Int)<(d.length:Int):=by
   rcases hno with h|h
   ·rw[hf]at h;cases h
   ·omega
  go_enter func198,ntmps198
  go_wp2_with fail
  refine(Gt vk vn va key nonce a w hk hn ha).mono ?_;rintro e w0 ⟨rfl,rfl⟩;rw[hf];go_wp2
  go_ret2
  exact⟨rfl,rfl⟩
 ·rw[Bool.not_eq_true]at hf
  go_enter func198,ntmps198
  go_wp2_with fail
  refine(Gt vk vn va key nonce a w hk hn ha).mono ?_;rintro e w0 ⟨rfl,rfl⟩;rw[hf];go_wp2
  go_ret2
  exact⟨rfl,rfl⟩
theorem PG(vk vn va vd:Value)(key nonce a d:List Int)(w:World)(hk:Sl w vk key)(hn:Sl w vn nonce)(ha:Sl w va a)(hd:Sl w vd d)(hf:IE key nonce a=true)(hs:d.length<16) :
  Calls prog 198 #[vk,vn,va,vd] w fun e w'=>e=.returned (.tuple #[.slice none 0 0,.int .i64 13])∧w'=w:=by
 obtain⟨ap,cp,rfl⟩:=hd.shape;have hpl:(d.length:Int)<16:=by omega
 go_enter func198,ntmps198
 go_wp2_with fail
 refine(Gt vk vn va key nonce a w hk hn ha).mono ?_;rintro e w0 ⟨rfl,rfl⟩;rw[hf];go_wp2
 go_ret2
 exact⟨rfl,rfl⟩
theorem UD(vk vn va vd:Value)(key nonce a d:List Int)(w:World)(hk:Sl w vk key)(hn:Sl w vn nonce)(ha:Sl w va a)(hd:Sl w vd d)(hf:IE key nonce a=true)(m:Nat)(hm:d.length=m+16)(hl:m≤2000)(ht:C1 w)(hq:FI key nonce a (d.take m)≠d.drop m) :
  Calls prog 198 #[vk,vn,va,vd] w fun e w'=>e=.returned (.tuple #[.slice none 0 0,.int .i64 6])∧Below w.heap.size w w':=by
 obtain⟨lk,ln,la⟩:=KZ hf;have hpos:=ht.pos;have hyd:=hd.byte;obtain⟨ad,cd,rfl⟩:=hd.shape;rw[hm]at hd ⊢
 obtain⟨a1,c1,hc1,s1⟩:=hd.upTo m (by omega);obtain⟨a2,c2,hc2,s2⟩:=hd.from m (by omega);rw[Nat.add_sub_cancel_left]at hc2 s2
 have l1:(d.take m).length=m:=by rw[List.length_take];omega
 have y1:∀ x∈d.take m,0≤x∧x<256:=fun x hx=>hyd x (List.mem_of_mem_take hx);have HQ:Hid (FI key nonce a (d.take m)≠d.drop m):=hq;clear hq;generalize d.take m=D at s1 l1 y1 HQ ⊢;generalize d.drop m=L at s2 HQ;have HL1:Hid (D.length=m):=l1;clear hd hm hyd l1;go_enter func198,ntmps198
 go_wp2_with fail
 refine(Gt vk vn va key nonce a w hk hn ha).mono ?_;rintro e w0 ⟨rfl,rfl⟩;rw[hf];go_wp2_with fail
 go_quiet (fail)
 have e1:Below w0.heap.size w0 (w0.drewN nq):=Ag (Below.refl _ _) nq;generalize w0.drewN nq=w1 at e1 ⊢;replace hk:=hk.below e1;replace hn:=hn.below e1;replace ha:=ha.below e1;replace s1:=s1.below e1;replace s2:=s2.below e1;replace ht:=ht.below hpos e1;clear hc1 hc2;go_wp2_with fail
 refine(QP vk vn va _ key nonce a D w1 hk hn ha s1 lk ln la (by have:=HL1.out;omega) ht).mono ?_;rintro e w2 ⟨vt,rfl,st,b2⟩;go_wp2_with fail
 refine(GN vt _ (FI key nonce a D) L w2 st (s2.below b2)).mono ?_;rintro e w3 ⟨rfl,n3,rfl⟩;have e2:Below w2.heap.size w2 (w2.drewN n3):=Ag (Below.refl _ _) n3;have e3:Below w0.heap.size w0 (w2.drewN n3):=e1.trans ((b2.trans (e2.mono b2.size)).mono e1.size);rw[decide_eq_false HQ.out];go_wp2
 go_ret2
 exact⟨rfl,e3⟩
theorem WQ(vk vn va vd:Value)(key nonce a d:List Int)(w:World)(hk:Sl w vk key)(hn:Sl w vn nonce)(ha:Sl w va a)(hd:Sl w vd d)(hf:IE key nonce a=true)(m:Nat)(hm:d.length=m+16)(hl:m≤2000)(ht:C1 w)(hq:FI key nonce a (d.take m)=d.drop m) :
  Calls prog 198 #[vk,vn,va,vd] w fun e w'=>∃ v',e=.returned (.tuple #[v',.int .i64 0])∧Sl w' v' (JU key nonce (d.take m))∧Below w.heap.size w w':=by
 obtain⟨lk,ln,la⟩:=KZ hf;have hpos:=ht.pos;have hyd:=hd.byte;obtain⟨ad,cd,rfl⟩:=hd.shape;rw[hm]at hd ⊢
 obtain⟨a1,c1,hc1,s1⟩:=hd.upTo m (by omega);obtain⟨a2,c2,hc2,s2⟩:=hd.from m (by omega);rw[Nat.add_sub_cancel_left]at hc2 s2
 have l1:(d.take m).length=m:=by rw[List.length_take];omega
 have y1:∀ x∈d.take m,0≤x∧x<256:=fun x hx=>hyd x (List.mem_of_mem_take hx);have HQ:Hid (FI key nonce a (d.take m)=d.drop m):=hq;clear hq;generalize d.take m=D at s1 l1 y1 HQ ⊢;generalize d.drop m=L at s2 HQ;have HL1:Hid (D.length=m):=l1;clear hd hm hyd l1;go_enter func198,ntmps198
 go_wp2_with fail
 refine(Gt vk vn va key nonce a w hk hn ha).mono ?_;rintro e w0 ⟨rfl,rfl⟩;rw[hf];go_wp2_with fail
 go_quiet (fail)
 have e1:Below w0.heap.size w0 (w0.drewN nq):=Ag (Below.refl _ _) nq;generalize w0.drewN nq=w1 at e1 ⊢;replace hk:=hk.below e1;replace hn:=hn.below e1;replace ha:=ha.below e1;replace s1:=s1.below e1;replace s2:=s2.below e1;replace ht:=ht.below hpos e1;clear hc1 hc2;go_wp2_with fail
 refine(QP vk vn va _ key nonce a D w1 hk hn ha s1 lk ln la (by have:=HL1.out;omega) ht).mono ?_;rintro e w2 ⟨vt,rfl,st,b2⟩;go_wp2_with fail
 refine(GN vt _ (FI key nonce a D) L w2 st (s2.below b2)).mono ?_;rintro e w3 ⟨rfl,n3,rfl⟩;have e2:Below w2.heap.size w2 (w2.drewN n3):=Ag (Below.refl _ _) n3;have e3:Below w0.heap.size w0 (w2.drewN n3):=e1.trans ((b2.trans (e2.mono b2.size)).mono e1.size);rw[decide_eq_true HQ.out];have hB:Below w1.heap.size w1 (w2.drewN n3):=b2.trans (e2.mono b2.size);replace hk:=hk.below hB;replace hn:=hn.below hB;replace s1:=s1.below hB;replace ht:=ht.below (Nat.lt_of_lt_of_le hpos e1.size) hB;have hxl:=My key nonce D;have hxb:∀ x∈JU key nonce D,0≤x∧x<256:=RT _ y1;clear s2 st ha e2 b2;generalize w2.drewN n3=w3 at hk hn s1 ht e3 hB ⊢;go_wp2_with fail
 refine(Ut vk vn _ key nonce D w3 hk hn s1 lk ln (by have:=HL1.out;omega) ht).mono ?_;rintro e w4 ⟨vx,rfl,o4,b4⟩;have s4:Sl w4 vx (JU key nonce D):=Sl.ofOwns o4 (by have:=HL1.out;omega) hxb;have e4:Below w0.heap.size w0 w4:=e3.trans (b4.mono e3.size);clear o4 hxb;go_wp2
 go_ret2
 exact⟨vx,rfl,s4,e4⟩
theorem UC(vk vn va vd:Value)(key nonce a d:List Int)(w:World)(hk:Sl w vk key)(hn:Sl w vn nonce)(ha:Sl w va a)(hd:Sl w vd d)(ht:C1 w) :
  Calls prog 198 #[vk,vn,va,vd] w fun e w'=>∃ v',e=.returned (.tuple #[v',.int .i64 (Dr key nonce a d)])∧Sl w' v' (NL key nonce a d)∧Below w.heap.size w w':=by
 unfold NL;by_cases h:IE key nonce a=true∧d.length≤2016
 ·by_cases h16:d.length<16
  ·have hE:Dr key nonce a d=13:=by unfold Dr;rw[if_pos h,if_pos h16]
   rw[hE,if_neg (by omega)];refine(PG vk vn va vd key nonce a d w hk hn ha hd h.1 h16).mono ?_;rintro e w1 ⟨rfl,rfl⟩;exact⟨_,rfl,Sl.nil _ _,Below.refl _ _⟩
  ·by_cases hq:FI key nonce a (d.take (d.length-16))=d.drop (d.length-16)
   ·have hE:Dr key nonce a d=0:=by unfold Dr;rw[if_pos h,if_neg h16,if_pos hq]
    rw[hE,if_pos rfl];exact WQ vk vn va vd key nonce a d w hk hn ha hd h.1 (d.length-16) (by omega) (by omega) ht hq
   ·have hE:Dr key nonce a d=6:=by unfold Dr;rw[if_pos h,if_neg h16,if_neg hq]
    rw[hE,if_neg (by omega)];refine(UD vk vn va vd key nonce a d w hk hn ha hd h.1 (d.length-16) (by omega) (by omega) ht hq).mono ?_;rintro e w1 ⟨rfl,b⟩;exact⟨_,rfl,Sl.nil _ _,b⟩
 ·have hE:Dr key nonce a d=1:=by unfold Dr;rw[if_neg h]
  rw[hE,if_neg (by omega)];refine(WP vk vn va vd key nonce a d w hk hn ha hd ?_).mono ?_
  ·by_cases hf:IE key nonce a=true
   ·exact .inr (by have:¬ d.length≤2016:=fun hp=>h ⟨hf,hp⟩;omega)
   ·exact .inl (by simpa using hf)
  ·rintro e w1 ⟨rfl,rfl⟩;exact⟨_,rfl,Sl.nil _ _,Below.refl _ _⟩
end Go.Proofs.YtakgfdbjgeopdaaGreatDoor
namespace Go.Proofs.YtakgfdbjgeopdaaGreatDoor
def BS(key:List Int)(s t:Int)(l:List Bool)(r:List Int):Int :=
 if ¬ OkC key s t l then 5 else if 2020<r.length then 1 else if r.length<20 then 13 else if 1073741824≤Ep (r.take 4)then 2 else if FX t l (Ep (r.take 4))=true then 7
 else Dr key (BL (r.take 4)) (r.take 4) (r.drop 4)
def I6(key:List Int)(r:List Int):List Int:=NL key (BL (r.take 4)) (r.take 4) (r.drop 4)
end Go.Proofs.YtakgfdbjgeopdaaGreatDoor
set_option linter.unusedVariables false
namespace Go.Proofs.YtakgfdbjgeopdaaGreatDoor
open Go.RowKit
structure Bt(w:World)(g:Nat)(c r u:Int):Prop where
 lt:g<w.heap.size
 row:w.heap[g]?=some (.cells (tkA c r u) 23)
theorem Bt.made(w:World)(c r u:Int):Bt (w.alloc (.cells (tkA c r u) 23)) w.heap.size c r u:=⟨by simp,heap_alloc_new _ _⟩
theorem Bt.below{w w':World}{g:Nat}{c r u:Int}(h:Bt w g c r u)(hb:Below w.heap.size w w'):Bt w' g c r u :=
 ⟨Nat.lt_of_lt_of_le h.lt hb.size,(hb.block g h.lt).trans h.row⟩
theorem IW(c r u:Int):(prog.info? 23).map (·.size)=some (tkA c r u).size:=by show _=some 3;kernel_rfl
theorem LF{w:World}{g:Nat}{c r u:Int}{ty:TypeId}{fr:Nat × Nat}(h:w.heap[g]?=some (.cells (tkA c r u) ty fr)) :
  w.cell? ⟨g,0,none⟩=some (.int .i64 c)∧w.cell? ⟨g,1,none⟩=some (.int .i64 r)∧w.cell? ⟨g,2,none⟩=some (.int .i64 u) :=
 ⟨cell_of_row _ _ 0 _ _ _ h,cell_of_row _ _ 1 _ _ _ h,cell_of_row _ _ 2 _ _ _ h⟩
theorem Ln(c r u:Int)(w:World) :
  Calls prog 40 #[.agg (tkA c r u)] w fun e w'=>e=.returned (.bool (decide (Ec c r u)))∧Below w.heap.size w w':=by
 have bb:Below w.heap.size w (w.alloc (.cells (tkA c r u) 23)):=(Below.refl _ _).alloc (Nat.le_refl _) _;have bt:=Bt.made w c r u;generalize hW:w.alloc (.cells (tkA c r u) 23)=W at bb bt;obtain⟨c0,c1,c2⟩:=LF bt.row;clear bt;go_enter func40,ntmps40
 go_wp2_with fail
 clear hW;refine(DX c 7 _).mono ?_;rintro e w1 ⟨rfl,rfl⟩;by_cases h1:0≤c∧c≤7
 ·rw[decide_eq_true h1];go_wp2_with fail
  refine(DX r 7 _).mono ?_;rintro e w1 ⟨rfl,rfl⟩;by_cases h2:0≤r∧r≤7
  ·rw[decide_eq_true h2];go_wp2_with fail
   refine(DX u 1048576 _).mono ?_;rintro e w1 ⟨rfl,rfl⟩;by_cases h3:0≤u∧u≤1048576
   ·rw[decide_eq_true h3];have HB:Hid (true=decide (Ec c r u)):=(decide_eq_true ⟨h1,h2,h3⟩).symm;go_wp2
    go_ret;exact⟨Ab HB.out,bb⟩
   ·rw[decide_eq_false h3];have HB:Hid (false=decide (Ec c r u)):=(decide_eq_false (fun g=>h3 g.2.2)).symm;go_wp2
    go_ret;exact⟨Ab HB.out,bb⟩
  ·rw[decide_eq_false h2];have HB:Hid (false=decide (Ec c r u)):=(decide_eq_false (fun g=>h2 g.2.1)).symm;go_wp2
   go_ret;exact⟨Ab HB.out,bb⟩
 ·rw[decide_eq_false h1];have HB:Hid (false=decide (Ec c r u)):=(decide_eq_false (fun g=>h1 g.1)).symm;go_wp2
  go_ret;exact⟨Ab HB.out,bb⟩
theorem Vu(vk vb:Value)(key b:List Int)(w:World)(hk:Sl w vk key)(hb:Sl w vb b)(lk:key.length≤256)(lb:b.length≤2000)(ht:AI w) :
  Calls prog 42 #[vk,vb] w fun e w'=>∃ v',e=.returned (.tuple #[v',.int .i64 0])∧Sl w' v' ((EQ key b).take 16)∧Below w.heap.size w w':=by
 go_enter func42,ntmps42
 go_wp2_with fail
 refine(XO vk vb key b w hk hb lk lb ht).mono ?_;rintro e w1 ⟨v1,rfl,f1⟩;obtain⟨s1,b1,g,cp,rfl,_,_⟩:=f1;obtain⟨a2,c2,r2',s2⟩:=s1.upTo 16 (by rw[D7];omega);rw[D7]at r2' ⊢
 have r2:∀ W,(Instr.slice 26 (.slice (some ⟨g,0,none⟩) 32 cp) none (some (.int .i64 16)) none).run prog W=.ok (.slice a2 16 c2) W:=r2';clear r2' s1;go_wp2
 go_ret2
 exact⟨_,rfl,s2,b1⟩
theorem Sl.fourAt{w:World}{a:Option Addr}{n cap:Nat}{l:List Int}(h:Sl w (.slice a n cap) l)(lo:Nat)(hhi:lo+4≤l.length)(li hj:Int)(hli:li=(lo:Int))(hhj:hj=(lo:Int)+4) :
  ∃ a' c',(∀ W,(Instr.slice 26 (.slice a n cap) (some (.int .i64 li)) (some (.int .i64 hj)) none).run prog W=.ok (.slice a' 4 c') W)∧Sl w (.slice a' 4 c') ((l.take (lo+4)).drop lo):=by
 subst hli;subst hhj;have hw:=h.window lo (lo+4) (by omega) hhi;obtain⟨⟨a',cap',e,hc,hn,h1⟩,hla,hba⟩:=h;simp only[Value.slice.injEq]at e;obtain⟨rfl,rfl,rfl⟩:=e;have e4:lo+4-lo=4:=by omega
 unfold sliced at hw;rw[e4]at hw
 refine⟨_,_,fun W=>?_,hw⟩;rw[run_slice_lh (P:=prog) W 26 a _ cap underlying26 .i64 .i64 _ _ (by omega) (by omega) (by omega)];have e:prog.elem 26=5:=by kernel_rfl
 rw[e,JS,show((lo:Int)+4).toNat=lo+4 by omega,Int.toNat_natCast];simp[Result.andThen,sliced]
theorem NN(x b:Int)(hx:0≤x∧x<36028797018963968)(hb:0≤b∧b<256):bits .or .i64 (x*256) b=x*256+b:=by
 obtain⟨x,rfl⟩:=Int.eq_ofNat_of_zero_le hx.1;obtain⟨y,rfl⟩:=Int.eq_ofNat_of_zero_le hb.1;have e:(x:Int)*256=((x*256:Nat):Int):=by omega
 have key:(BitVec.ofInt 64 ((x*256:Nat):Int) ||| BitVec.ofInt 64 (y:Int)).toNat=x*256+y:=by
  rw[BitVec.toNat_or,BitVec.toNat_ofInt,BitVec.toNat_ofInt];have h1:((y:Int)%((2^64:Nat):Int)).toNat=y:=by omega
  have h2:(((x*256:Nat):Int)%((2^64:Nat):Int)).toNat=2^8*x:=by omega
  rw[h1,h2,← Nat.two_pow_add_eq_or_of_lt (by omega:y<2^8)];omega
 rw[e];show IntKind.i64.wrap ((BitVec.ofInt 64 ((x*256:Nat):Int) ||| BitVec.ofInt 64 (y:Int)).toNat:Nat)=_;rw[key,IntKind.wrap_i64];omega
def Cj(h:List Int):Nat→Int
 | 0=>0
 | k+1=>Cj h k*256+h.getD k 0
theorem Iu{h:List Int}(hb:∀ x∈h,0≤x∧x<256)(k:Nat):0≤Cj h k∧Cj h k<256^k:=by
 induction k with
 | zero=>simp[Cj]
 | succ k ih =>
  have:=Ak hb k;rw[Cj,Int.pow_succ];omega
theorem JD(l:List Int)(lo:Nat)(h:lo+4≤l.length):Cj ((l.take (lo+4)).drop lo) 4=Ad l lo:=by
 show(((0*256+((l.take (lo+4)).drop lo).getD 0 0)*256+((l.take (lo+4)).drop lo).getD 1 0)*256+((l.take (lo+4)).drop lo).getD 2 0)*256+((l.take (lo+4)).drop lo).getD 3 0=_;rw[Ct,Ct,Ct,Ct,AY _ _ _ (by omega),AY _ _ _ (by omega),AY _ _ _ (by omega),AY _ _ _ (by omega)];unfold Ad;rw[Nat.add_zero];omega
theorem GC(v:Value)(l:List Int)(lo:Nat)(w:World)(h:Sl w v l)(hl:lo+4≤l.length)(li:Int)(hli:li=(lo:Int)) :
  Calls prog 99 #[v,.int .i64 li] w fun e w'=>e=.returned (.int .i64 (Ad l lo))∧w'=w:=by
 have HN:Hid (Cj ((l.take (lo+4)).drop lo) 4=Ad l lo):=JD l lo hl;have hlen:=h.len;have i0:0≤li:=by omega
 have i1:li≤140737488351232:=by omega
 obtain⟨a,c,rfl⟩:=h.shape;obtain⟨a2,c2,hr,hs⟩:=h.fourAt lo hl li (li+4) hli (by omega);have HB:Hid (∀ x∈(l.take (lo+4)).drop lo,0≤x∧x<256):=hs.byte;have HS:Hid (((l.take (lo+4)).drop lo).length=4):=by unfold Hid;rw[List.length_drop,List.length_take];omega
 generalize (l.take (lo+4)).drop lo=L at HN hs HB HS;generalize l.length=N at hr hlen ⊢;clear h hl hli hlen;go_enter func99,ntmps99
 go_wp2_with fail
 go_loopw [5,14] (fun v iv wr=>∃ j:Nat,j≤4∧iv=.int .i64 (j:Int)∧v=.int .i64 (Cj L j)∧wr=w) (fun _ iv _=>(4-intOf iv).toNat)
 case atStart=>exact⟨0,by omega,rfl,rfl,rfl⟩
 case round =>
  obtain⟨j,hj,rfl,rfl,rfl⟩:=hrel;by_cases hj4:j<4
  ·have hii:(j:Int)<4:=by omega
   have hx:=Iu HB.out j;have hx2:Cj L j<16777216:=by
    have:(256:Int)^j≤256^3:=by
     rcases(by omega:j=0∨j=1∨j=2∨j=3)with rfl|rfl|rfl|rfl<;>decide
    omega
   have hb:=Ak HB.out j;obtain⟨bd,od,rfl,hbd,hc⟩:=hs.spotO j (by have:=HS.out;omega);have hor:=NN (Cj L j) (L.getD j 0) ⟨hx.1,by omega⟩ hb;have HK:Hid (Cj L j*256+L.getD j 0=Cj L (j+1)):=rfl;have hx1:=hx.1;clear hx hs hr;generalize Cj L j=X at hx1 hx2 hor HK;generalize L.getD j 0=B at hb hc hor HK;go_wp2
   go_roundw
   case rel=>exact⟨j+1,by omega,by go_num,by rw[← HK.out],trivial⟩
   case measure=>simp[intOf];omega
  ·obtain rfl:j=4:=by omega
   rw[show((4:Nat):Int)=4 from rfl,HN.out];go_wp2
   go_ret;exact⟨rfl,rfl⟩
end Go.Proofs.YtakgfdbjgeopdaaGreatDoor
