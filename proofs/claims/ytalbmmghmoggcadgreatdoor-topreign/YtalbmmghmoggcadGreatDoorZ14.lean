/- Part 14 of the walk. -/
import Derived.Laws.OwnMore
import Derived.Maps.AppendAt
import Derived.StillTailTactics
import Derived.Test.YtalbmmghmoggcadGreatDoorZ13
import Derived.Test.YtalbmmghmoggcadGreatDoorZ9
import Derived.Test.YtalbmmghmoggcadGreatDoorZ12
set_option maxRecDepth 100000
set_option maxHeartbeats 4000000
open Go.Proofs.Tryz
set_option linter.unusedVariables false
namespace Go.Proofs.YtalbmmghmoggcadGreatDoor
section
open Go.RowKit
section
theorem VP(vk vn:Value)(key nonce:List Int)(x:Int)(c:Nat)(hx:x=(c:Int))(w:World)(hk:Sl w vk key)(hn:Sl w vn nonce)(lk:key.length=32)(ln:nonce.length=12)(hc:c<=1073741824)(ht:CB w) :
  Calls prog 106 #[vk,.int .i64 x,vn] w λe w'=>∃ v',e=.returned (.tuple #[v',.int .i64 0])/\Got w w' v' (Cq (BH key (BitVec.ofNat 32 c) nonce)):=by
 subst hx;exact VQ vk vn key nonce c w hk hn lk ln hc ht
theorem O3(vk vn va vs:Value)(key nonce a s:List Int)(w:World)(hk:Sl w vk key)(hn:Sl w vn nonce)(ha:Sl w va a)(hs:Sl w vs s)(lk:key.length=32)(ln:nonce.length=12)(la:a.length<=256)(ls:s.length<=2000)(ht:CB w) :
  Calls prog 67 #[vk,vn,va,vs] w λe w'=>∃ v',e=.returned (.tuple #[v',.int .i64 0])/\Sl w' v' (DO key nonce a s)/\Bw w w':=by
 have HT:Hid (DO key nonce a s=Vn ((Cq (BH key (BitVec.ofNat 32 0) nonce)).take 32) (FC a s)):=rfl;have hll:(FC a s).length<=4000:=by rw[Hy];have:=GL a.length;have:=GL s.length;omega
 go_enter func67,ntmps67
 go_wp2_with fail
 refine(VP vk vn key nonce 0 0 rfl w hk hn lk ln (by omega) ht).mono ?_;rintro e w1 ⟨vb,rfl,g1⟩;have sb:=g1.sl;have b1:=g1.bel;clear g1;have hbl:=Ek (BH key (BitVec.ofNat 32 0) nonce);generalize Cq (BH key (BitVec.ofNat 32 0) nonce)=bs at HT sb hbl;obtain⟨ab,cb,rfl⟩:=sb.shape;rw[hbl]at sb ⊢
 obtain⟨a1,c1,hc1',s1⟩:=sb.upTo 32 (by omega);have hc1:∀ W,(Instr.slice 28 (.slice ab 64 cb) none (some (.int .i64 32)) none).run prog W=.ok (.slice a1 32 c1) W:=hc1';have lt:(bs.take 32).length=32:=by rw[iO];omega
 generalize bs.take 32=K at HT s1 lt;have ha1:=ha.below b1;have hs1:=hs.below b1;clear hc1' sb hbl;have la2:a.length<=10000:=by omega
 have ls2:s.length<=10000:=by omega
 have HLA:Hid (a.length<=10000):=la2;have HLS:Hid (s.length<=10000):=ls2;have HLL:Hid ((FC a s).length<=4000):=hll;clear la ls la2 ls2 hll hk hn ha hs lk ln;go_wp2_with fail
 go_region_with (first
  | (go_at_call 108;refine(Xl _ _ a s _ (ha1.below ((Below.refl _ _).drew)) (hs1.below ((Below.refl _ _).drew)) HLA.out HLS.out).mono ?_;rintro e w2 ⟨v2,rfl,s2,hb2⟩)
  | (go_at_call 107;refine(eZ _ _ K _ _ (s1.below ((Below.refl _ _).drew.trans hb2)) s2 lt HLL.out).mono ?_;rintro e w3 ⟨v3,rfl,s3,hb3⟩))
 all_goals
  go_wp2
  go_ret2
  refine⟨v3,rfl,?_,?_⟩
  .rw[HT.out];exact s3
  .have b2:Bw w w2:=b1.trans (((Below.refl _ _).drew.trans hb2).mono b1.size);exact b2.trans (hb3.mono b2.size)
theorem PA(vk vn vd:Value)(key nonce d:List Int)(w:World)(hk:Sl w vk key)(hn:Sl w vn nonce)(hd:Sl w vd d)(lk:key.length=32)(ln:nonce.length=12)(ld:d.length<=2000)(ht:CB w) :
  Calls prog 66 #[vk,.int .i64 1,vn,vd] w λe w'=>∃ v',e=.returned (.tuple #[v',.int .i64 0])/\w'.ownsRow w.heap.size 5 1 v' (Ec key nonce d).length ((Ec key nonce d).map (Value.int .u8))/\Bw w w' :=
 ao vk vn vd key nonce d 1 w hk hn hd lk ln (by omega) ld ht
theorem EZ{w w':World}{base e:Nat}{v:Value}{n:Nat}{xs:List Value}(h:w.ownsRow base e 1 v n xs)(hb:Bw w w'):w'.ownsRow base e 1 v n xs :=
 E8 h λk hk=>hb.block k (h.lt k hk).2
variable{a key la lb nonce p:List Int}
theorem I9(h:Gp key nonce a=true):key.length=32/\nonce.length=12/\a.length<=256:=by
 unfold Gp at h;simp at h;omega
theorem bB(vk vn va vp:Value)(key nonce a p:List Int)(w:World)(hk:Sl w vk key)(hn:Sl w vn nonce)(ha:Sl w va a)(hp:Sl w vp p)(hf:Gp key nonce a=true)(lp:p.length<=2000)(ht:CB w) :
  Calls prog 41 #[vk,vn,va,vp] w λe w'=>∃ v',e=.returned (.tuple #[v',.int .i64 0])/\Sl w' v' (J3 key nonce a p)/\Bw w w':=by
 obtain⟨lk,ln,la⟩:=I9 hf;have hpos:=ht.pos;have HS:Hid (J3 key nonce a p=Ec key nonce p++DO key nonce a (Ec key nonce p)):=rfl;have hxl:=Ff key nonce p;have hxb:∀ x∈Ec key nonce p,0<=x/\x<256:=IH _ hp.byte;have hpl:¬ (2000:Int)<(p.length:Int):=by omega
 obtain⟨ap,cp,rfl⟩:=hp.shape;go_enter func41,ntmps41
 go_wp2_with fail
 refine(Gf vk vn va key nonce a w hk hn ha).mono ?_;rintro e w0 ⟨rfl,rfl⟩;rw[hf];go_wp2_with fail
 refine(PA vk vn _ key nonce p w0 hk hn hp lk ln lp ht).mono ?_;rintro e w1 ⟨vx,rfl,o1,b1⟩;generalize Ec key nonce p=X at HS hxl hxb o1;have s1:Sl w1 vx X:=Sl.ofOwns o1 (by omega) hxb;go_wp2_with fail
 refine(O3 vk vn va vx key nonce a X w1 (hk.below b1) (hn.below b1) (ha.below b1) s1 lk ln la (by omega) (ht.below hpos b1)).mono ?_;rintro e w2 ⟨vt,rfl,s2,b2⟩;have o2:=EZ o1 b2;have hlt:=o2.lt;have hB2:Bw w0 w2:=b1.trans (b2.mono b1.size);have htl:=Im key nonce a X;have htb:=L5 key nonce a X;generalize DO key nonce a X=T at HS s2 htl htb;have hX2:X.length<=2000:=by omega
 clear hxl o1 s1 b1 b2 hk hn ha hp;go_wp2_with (at_builtin;refine Aa _ rfl _ _ 28 rfl w0.heap.size 5 underlying28 At _ _ rfl rfl X T o2 s2 (by omega) hB2.size ?_)
 intro v3 w3 ho3 hg3;replace ho3:w3.ownsRow w0.heap.size 5 1 v3 (X++T).length ((X++T).map (Value.int .u8)):=by simpa[htl]using ho3
 have b3:Bw w0 w3:=hB2.grown hg3 hB2.size (λk hk=>(hlt k hk).1);go_wp2
 go_ret2
 refine⟨v3,rfl,?_,b3⟩;rw[HS.out];refine Sl.ofOwns ho3 (by rw[G'];omega) ?_;intro x hx;rcases V'.1 hx with h|h
 .exact hxb x h
 .exact htb x h
def dif(la lb:List Int):Nat->Int
 | 0=>0
 | k+1=>bits .or .u8 (dif la lb k) (bits .xor .u8 (la.getD k 0) (lb.getD k 0))
theorem im{a b:Nat}:a ||| b=0↔a=0/\b=0:=by
 constructor
 .intro h;have h1:∀ i,(a ||| b).testBit i=false:=by intro i;rw[h];simp
  constructor
  .apply lU;intro i;have:=h1 i;rw[Nat.testBit_or]at this;simp at this;simp[this.1]
  .apply lU;intro i;have:=h1 i;rw[Nat.testBit_or]at this;simp at this;simp[this.2]
 .rintro⟨rfl,rfl⟩;rfl
theorem hY{a b:Nat}:a ^^^ b=0↔a=b:=by
 constructor
 .intro h;have h1:∀ i,(a ^^^ b).testBit i=false:=by intro i;rw[h];simp
  apply lU;intro i;have:=h1 i;rw[Nat.testBit_xor]at this;simpa using this
 .rintro rfl;simp
theorem Wm(ha:∀ x∈la,0<=x/\x<256)(hb:∀ x∈lb,0<=x/\x<256)(k:Nat) :
  0<=dif la lb k/\dif la lb k<256/\(dif la lb k=0↔∀ i,i<k->la.getD i 0=lb.getD i 0):=by
 induction k with
 | zero=>simp[dif]
 | succ k ih =>
  obtain⟨h1,h2,h3⟩:=ih;have hx:=Al ha k;have hy:=Al hb k;have e1:=u8_xor _ _ hx.1 hx.2 hy.1 hy.2;have hlt:(la.getD k 0).toNat ^^^ (lb.getD k 0).toNat<256:=lu (n:=8) (by omega) (by omega);have e2:=u8_or (dif la lb k) (((la.getD k 0).toNat ^^^ (lb.getD k 0).toNat:Nat):Int) h1 h2 (by omega) (by omega);have e3:dif la lb (k+1)=(((dif la lb k).toNat ||| ((la.getD k 0).toNat ^^^ (lb.getD k 0).toNat):Nat):Int):=by
   show bits .or .u8 (dif la lb k) (bits .xor .u8 (la.getD k 0) (lb.getD k 0))=_;rw[e1,e2];simp
  have hlt2:(dif la lb k).toNat ||| ((la.getD k 0).toNat ^^^ (lb.getD k 0).toNat)<256:=Nat.or_lt_two_pow (n:=8) (by omega) hlt;refine⟨by rw[e3];omega,by rw[e3];omega,?_⟩;have e4:dif la lb (k+1)=0↔dif la lb k=0/\la.getD k 0=lb.getD k 0:=by
   rw[e3];have:=@im (dif la lb k).toNat ((la.getD k 0).toNat ^^^ (lb.getD k 0).toNat);have h5:=@hY (la.getD k 0).toNat (lb.getD k 0).toNat;rw[h5]at this
   constructor
   .intro h;have:=this.1 (by omega);omega
   .intro h;have:=this.2 (by omega);omega
  rw[e4,h3];constructor
  .intro h i hi;rcases jt i k with h'|h'
   .exact h.1 i h'
   .obtain rfl:i=k:=by omega
    exact h.2
  .intro h;exact⟨λi hi=>h i (by omega),h k (by omega)⟩
theorem Zu(ha:∀ x∈la,0<=x/\x<256)(hb:∀ x∈lb,0<=x/\x<256)(hl:la.length=lb.length):(dif la lb lb.length==0)=decide (la=lb):=by
 rw[my,decide_eq_true_iff,beq_iff_eq,(Wm ha hb _).2.2];constructor
 .intro h;apply kU hl;intro i h1 h2;have:=h i h2
  rwa [AR h1,AR h2]at this
 .rintro rfl _ _;rfl
theorem Ih(va vb:Value)(la lb:List Int)(w:World)(ha:Sl w va la)(hb:Sl w vb lb) :
  Calls prog 182 #[va,vb] w λe w'=>e=.returned (.bool (decide (la=lb)))/\∃ n,w'=w.drewN n:=by
 obtain⟨⟨a,cap,rfl,hc,hn,h1⟩,hla,hba⟩:=ha;obtain⟨⟨b,cap',rfl,hc',hn',h1'⟩,hlb,hbb⟩:=hb;by_cases hl:la.length=lb.length
 .rcases h1 with rfl|⟨ba,oa,rfl,_,hca⟩
  .obtain rfl:lb=[]:=iN (by simpa using hl.symm);go_enter func182,ntmps182
   go_wp2
   refine wp_loop_rounds 1 ?_;rw[rounds_succ];go_wp2
   go_ret;exact⟨rfl,0,rfl⟩
  .rcases h1' with rfl|⟨bb,ob,rfl,_,hcb⟩
   .obtain rfl:la=[]:=iN (by simpa using hl);go_enter func182,ntmps182
    go_wp2
    refine wp_loop_rounds 1 ?_;rw[rounds_succ];go_wp2
    go_ret;exact⟨rfl,0,rfl⟩
   .have HD:Hid ((dif la lb lb.length==0)=decide (la=lb)):=Zu hba hbb hl;go_enter func182,ntmps182
    go_wp2
    go_loopw [5,14] (λd i wr=>∃ k n:Nat,k<=lb.length/\i=.int .i64 k/\d=.int .u8 (dif la lb k)/\wr=w.drewN n) (λ_ i _=>lb.length-(intOf i).toNat)
    case atStart=>exact⟨0,0,jf _,rfl,rfl,rfl⟩
    case round =>
     obtain⟨k,n,hk,rfl,rfl,rfl⟩:=hrel;by_cases hlt:k<lb.length
     .have hx:=hca k (by omega);have hy:=hcb k hlt;clear hca hcb hba hbb;have hka:k<la.length:=by omega
      go_wp2
      go_quiet (fail)
      go_wp2
      go_roundw
      case rel=>exact⟨k+1,_,by omega,by go_num,by simp only[dif,AR hka,AR hlt],rfl⟩
      case measure=>simp[intOf];omega
     .obtain rfl:k=lb.length:=by omega
      clear hca hcb;go_wp2
      go_ret;exact⟨Ae HD.out,n,rfl⟩
 .have hne:((la.length:Int)==(lb.length:Int))=false:=by simp;omega
  have hdd:decide (la=lb)=false:=D' (λe=>hl (by rw[e]));go_enter func182,ntmps182
  go_wp2
  go_ret;exact⟨Ae hdd.symm,0,rfl⟩
def DI(key nonce a d:List Int):Int :=
 if Gp key nonce a=true/\d.length<=2016 then(if d.length<16 then 13 else if DO key nonce a (d.take (d.length-16))=d.drop (d.length-16)then 0 else 6)else 1
def PN(key nonce a d:List Int):List Int:=if DI key nonce a d=0 then Ec key nonce (d.take (d.length-16))else[]
theorem aG(vk vn va vd:Value)(key nonce a d:List Int)(w:World)(hk:Sl w vk key)(hn:Sl w vn nonce)(ha:Sl w va a)(hd:Sl w vd d)(hno:Gp key nonce a=false\/2016<d.length) :
  Calls prog 204 #[vk,vn,va,vd] w λe w'=>e=.returned (.tuple #[.slice none 0 0,.int .i64 1])/\w'=w:=by
 have h1:=hd.len;obtain⟨ap,cp,rfl⟩:=hd.shape;by_cases hf:Gp key nonce a=true
 .have hpl:(2016:Int)<(d.length:Int):=by
   rcases hno with h|h
   .rw[hf]at h;cases h
   .omega
  go_enter func204,ntmps204
  go_wp2_with fail
  refine(Gf vk vn va key nonce a w hk hn ha).mono ?_;rintro e w0 ⟨rfl,rfl⟩;rw[hf];go_wp2
  go_ret2
  exact⟨rfl,rfl⟩
 .rw[Bool.not_eq_true]at hf
  go_enter func204,ntmps204
  go_wp2_with fail
  refine(Gf vk vn va key nonce a w hk hn ha).mono ?_;rintro e w0 ⟨rfl,rfl⟩;rw[hf];go_wp2
  go_ret2
  exact⟨rfl,rfl⟩
theorem RL(vk vn va vd:Value)(key nonce a d:List Int)(w:World)(hk:Sl w vk key)(hn:Sl w vn nonce)(ha:Sl w va a)(hd:Sl w vd d)(hf:Gp key nonce a=true)(hs:d.length<16) :
  Calls prog 204 #[vk,vn,va,vd] w λe w'=>e=.returned (.tuple #[.slice none 0 0,.int .i64 13])/\w'=w:=by
 obtain⟨ap,cp,rfl⟩:=hd.shape;have hpl:(d.length:Int)<16:=by omega
 go_enter func204,ntmps204
 go_wp2_with fail
 refine(Gf vk vn va key nonce a w hk hn ha).mono ?_;rintro e w0 ⟨rfl,rfl⟩;rw[hf];go_wp2
 go_ret2
 exact⟨rfl,rfl⟩
theorem XG(vk vn va vd:Value)(key nonce a d:List Int)(w:World)(hk:Sl w vk key)(hn:Sl w vn nonce)(ha:Sl w va a)(hd:Sl w vd d)(hf:Gp key nonce a=true)(m:Nat)(hm:d.length=m+16)(hl:m<=2000)(ht:CB w)(hq:DO key nonce a (d.take m)≠d.drop m) :
  Calls prog 204 #[vk,vn,va,vd] w λe w'=>e=.returned (.tuple #[.slice none 0 0,.int .i64 6])/\Bw w w':=by
 obtain⟨lk,ln,la⟩:=I9 hf;have hpos:=ht.pos;have hyd:=hd.byte;obtain⟨ad,cd,rfl⟩:=hd.shape;rw[hm]at hd ⊢
 obtain⟨a1,c1,hc1,s1⟩:=hd.upTo m (by omega);obtain⟨a2,c2,hc2,s2⟩:=hd.from m (by omega);rw[Nat.add_sub_cancel_left]at hc2 s2
 have l1:(d.take m).length=m:=by rw[iO];omega
 have y1:∀ x∈d.take m,0<=x/\x<256:=λx hx=>hyd x (jb hx);have HQ:Hid (DO key nonce a (d.take m)≠d.drop m):=hq;clear hq;generalize d.take m=D at s1 l1 y1 HQ ⊢;generalize d.drop m=L at s2 HQ;have HL1:Hid (D.length=m):=l1;clear hd hm hyd l1;go_enter func204,ntmps204
 go_wp2_with fail
 refine(Gf vk vn va key nonce a w hk hn ha).mono ?_;rintro e w0 ⟨rfl,rfl⟩;rw[hf];go_wp2_with fail
 go_quiet (fail)
 have e1:Bw w0 (w0.drewN nq):=Ao (Below.refl _ _) nq;generalize w0.drewN nq=w1 at e1 ⊢;replace hk:=hk.below e1;replace hn:=hn.below e1;replace ha:=ha.below e1;replace s1:=s1.below e1;replace s2:=s2.below e1;replace ht:=ht.below hpos e1;clear hc1 hc2;go_wp2_with fail
 refine(O3 vk vn va _ key nonce a D w1 hk hn ha s1 lk ln la (by have:=HL1.out;omega) ht).mono ?_;rintro e w2 ⟨vt,rfl,st,b2⟩;go_wp2_with fail
 refine(Ih vt _ (DO key nonce a D) L w2 st (s2.below b2)).mono ?_;rintro e w3 ⟨rfl,n3,rfl⟩;have e2:Bw w2 (w2.drewN n3):=Ao (Below.refl _ _) n3;have e3:Bw w0 (w2.drewN n3):=e1.trans ((b2.trans (e2.mono b2.size)).mono e1.size);rw[D' HQ.out];go_wp2
 go_ret2
 exact⟨rfl,e3⟩
theorem aH(vk vn va vd:Value)(key nonce a d:List Int)(w:World)(hk:Sl w vk key)(hn:Sl w vn nonce)(ha:Sl w va a)(hd:Sl w vd d)(hf:Gp key nonce a=true)(m:Nat)(hm:d.length=m+16)(hl:m<=2000)(ht:CB w)(hq:DO key nonce a (d.take m)=d.drop m) :
  Calls prog 204 #[vk,vn,va,vd] w λe w'=>∃ v',e=.returned (.tuple #[v',.int .i64 0])/\Sl w' v' (Ec key nonce (d.take m))/\Bw w w':=by
 obtain⟨lk,ln,la⟩:=I9 hf;have hpos:=ht.pos;have hyd:=hd.byte;obtain⟨ad,cd,rfl⟩:=hd.shape;rw[hm]at hd ⊢
 obtain⟨a1,c1,hc1,s1⟩:=hd.upTo m (by omega);obtain⟨a2,c2,hc2,s2⟩:=hd.from m (by omega);rw[Nat.add_sub_cancel_left]at hc2 s2
 have l1:(d.take m).length=m:=by rw[iO];omega
 have y1:∀ x∈d.take m,0<=x/\x<256:=λx hx=>hyd x (jb hx);have HQ:Hid (DO key nonce a (d.take m)=d.drop m):=hq;clear hq;generalize d.take m=D at s1 l1 y1 HQ ⊢;generalize d.drop m=L at s2 HQ;have HL1:Hid (D.length=m):=l1;clear hd hm hyd l1;go_enter func204,ntmps204
 go_wp2_with fail
 refine(Gf vk vn va key nonce a w hk hn ha).mono ?_;rintro e w0 ⟨rfl,rfl⟩;rw[hf];go_wp2_with fail
 go_quiet (fail)
 have e1:Bw w0 (w0.drewN nq):=Ao (Below.refl _ _) nq;generalize w0.drewN nq=w1 at e1 ⊢;replace hk:=hk.below e1;replace hn:=hn.below e1;replace ha:=ha.below e1;replace s1:=s1.below e1;replace s2:=s2.below e1;replace ht:=ht.below hpos e1;clear hc1 hc2;go_wp2_with fail
 refine(O3 vk vn va _ key nonce a D w1 hk hn ha s1 lk ln la (by have:=HL1.out;omega) ht).mono ?_;rintro e w2 ⟨vt,rfl,st,b2⟩;go_wp2_with fail
 refine(Ih vt _ (DO key nonce a D) L w2 st (s2.below b2)).mono ?_;rintro e w3 ⟨rfl,n3,rfl⟩;have e2:Bw w2 (w2.drewN n3):=Ao (Below.refl _ _) n3;have e3:Bw w0 (w2.drewN n3):=e1.trans ((b2.trans (e2.mono b2.size)).mono e1.size);rw[I' HQ.out];have hB:Bw w1 (w2.drewN n3):=b2.trans (e2.mono b2.size);replace hk:=hk.below hB;replace hn:=hn.below hB;replace s1:=s1.below hB;replace ht:=ht.below (Z' hpos e1.size) hB;have hxl:=Ff key nonce D;have hxb:∀ x∈Ec key nonce D,0<=x/\x<256:=IH _ y1;clear s2 st ha e2 b2;generalize w2.drewN n3=w3 at hk hn s1 ht e3 hB ⊢;go_wp2_with fail
 refine(PA vk vn _ key nonce D w3 hk hn s1 lk ln (by have:=HL1.out;omega) ht).mono ?_;rintro e w4 ⟨vx,rfl,o4,b4⟩;have s4:Sl w4 vx (Ec key nonce D):=Sl.ofOwns o4 (by have:=HL1.out;omega) hxb;have e4:Bw w0 w4:=e3.trans (b4.mono e3.size);clear o4 hxb;go_wp2
 go_ret2
 exact⟨vx,rfl,s4,e4⟩
theorem XF(vk vn va vd:Value)(key nonce a d:List Int)(w:World)(hk:Sl w vk key)(hn:Sl w vn nonce)(ha:Sl w va a)(hd:Sl w vd d)(ht:CB w) :
  Calls prog 204 #[vk,vn,va,vd] w λe w'=>∃ v',e=.returned (.tuple #[v',.int .i64 (DI key nonce a d)])/\Sl w' v' (PN key nonce a d)/\Bw w w':=by
 unfold PN;by_cases h:Gp key nonce a=true/\d.length<=2016
 .by_cases h16:d.length<16
  .have hE:DI key nonce a d=13:=by unfold DI;rw[if_pos h,if_pos h16]
   rw[hE,if_neg (by omega)];refine(RL vk vn va vd key nonce a d w hk hn ha hd h.1 h16).mono ?_;rintro e w1 ⟨rfl,rfl⟩;exact⟨_,rfl,Sl.nil _ _,Below.refl _ _⟩
  .by_cases hq:DO key nonce a (d.take (d.length-16))=d.drop (d.length-16)
   .have hE:DI key nonce a d=0:=by unfold DI;rw[if_pos h,if_neg h16,if_pos hq]
    rw[hE,if_pos rfl];exact aH vk vn va vd key nonce a d w hk hn ha hd h.1 (d.length-16) (by omega) (by omega) ht hq
   .have hE:DI key nonce a d=6:=by unfold DI;rw[if_pos h,if_neg h16,if_neg hq]
    rw[hE,if_neg (by omega)];refine(XG vk vn va vd key nonce a d w hk hn ha hd h.1 (d.length-16) (by omega) (by omega) ht hq).mono ?_;rintro e w1 ⟨rfl,b⟩;exact⟨_,rfl,Sl.nil _ _,b⟩
 .have hE:DI key nonce a d=1:=by unfold DI;rw[if_neg h]
  rw[hE,if_neg (by omega)];refine(aG vk vn va vd key nonce a d w hk hn ha hd ?_).mono ?_
  .by_cases hf:Gp key nonce a=true
   .exact .inr (by have:¬ d.length<=2016:=λhp=>h ⟨hf,hp⟩;omega)
   .exact .inl (by simpa using hf)
  .rintro e w1 ⟨rfl,rfl⟩;exact⟨_,rfl,Sl.nil _ _,Below.refl _ _⟩
theorem Sn(key nonce:List Int)(hp:∀ x∈p,0<=x/\x<256):∀ x∈Ec key nonce p,0<=x/\x<256:=IH _ hp
theorem Si(key nonce a:List Int)(hp:∀ x∈p,0<=x/\x<256):∀ x∈J3 key nonce a p,0<=x/\x<256:=by
 intro x hx;rcases V'.1 hx with h|h
 .exact Sn key nonce hp x h
 .exact L5 _ _ _ _ x h
theorem ZE(lk:key.length=32)(ln:nonce.length=12)(la:a.length<=256):Gp key nonce a=true:=by
 unfold Gp;simp;omega
end
end
section
def JO(key:List Int)(n:Int)(p:List Int):List Int:=Ad n++J3 key (Bm (Ad n)) (Ad n) p
theorem FK(key:List Int)(n:Int)(p:List Int):(JO key n p).length=p.length+20:=by
 rw[JO,G',Cm,Ii];omega
theorem UY(key:List Int)(n:Int){p:List Int}(hp:∀ x∈p,0<=x/\x<256):∀ x∈JO key n p,0<=x/\x<256:=by
 intro x hx;rcases V'.1 hx with h|h
 .exact AU n x h
 .exact Si _ _ _ hp x h
def DM(key:List Int)(s t:Int)(l:List Bool)(p:List Int):Int:=if ¬ OkC key s t l then 5 else if 2000<p.length then 1 else if s=1073741824 then 8 else 0
def Co(key:List Int)(s t:Int)(l:List Bool)(r:List Int):Int :=
 if ¬ OkC key s t l then 5 else if 2020<r.length then 1 else if r.length<20 then 13 else if 1073741824<=EW (r.take 4)then 2 else if GQ t l (EW (r.take 4))=true then 7
 else DI key (Bm (r.take 4)) (r.take 4) (r.drop 4)
def J8(key:List Int)(r:List Int):List Int:=PN key (Bm (r.take 4)) (r.take 4) (r.drop 4)
end
section
open Go.RowKit
section
structure Bt(w:World)(g:Nat)(c r u:Int):Prop where
 lt:g<w.heap.size
 row:w.heap[g]?=some (.cells (tkA c r u) 33)
theorem Bt.made(w:World)(c r u:Int):Bt (w.alloc (.cells (tkA c r u) 33)) w.heap.size c r u:=⟨by simp,heap_alloc_new _ _⟩
variable{base e g n:Nat}{c k r s u v:Int}{key:List Int}{ty:TypeId}{w w':World}{xs:List Value}
theorem Bt.below(h:Bt w g c r u)(hb:Bw w w'):Bt w' g c r u :=
 ⟨Z' h.lt hb.size,(hb.block g h.lt).trans h.row⟩
theorem It(c r u:Int):(prog.info? 33).map (·.size)=some (tkA c r u).size:=by show _=some 3;kernel_rfl
theorem IW{fr:Nat × Nat}(h:w.heap[g]?=some (.cells (tkA c r u) ty fr)) :
  w.cell? ⟨g,0,none⟩=some (.int .i64 c)/\w.cell? ⟨g,1,none⟩=some (.int .i64 r)/\w.cell? ⟨g,2,none⟩=some (.int .i64 u) :=
 ⟨cell_of_row _ _ 0 _ _ _ h,cell_of_row _ _ 1 _ _ _ h,cell_of_row _ _ 2 _ _ _ h⟩
theorem IG(c r u:Int)(w:World) :
  Calls prog 18 #[.agg (tkA c r u)] w λe w'=>e=.returned (.bool (decide (Dk c r u)))/\Bw w w':=by
 have bb:Bw w (w.alloc (.cells (tkA c r u) 33)):=(Below.refl _ _).alloc (A' _) _;have bt:=Bt.made w c r u;generalize hW:w.alloc (.cells (tkA c r u) 33)=W at bb bt;obtain⟨c0,c1,c2⟩:=IW bt.row;clear bt;go_enter func18,ntmps18
 go_wp2_with fail
 clear hW;refine(EC c 7 _).mono ?_;rintro e w1 ⟨rfl,rfl⟩;by_cases h1:0<=c/\c<=7
 .rw[I' h1];go_wp2_with fail
  refine(EC r 7 _).mono ?_;rintro e w1 ⟨rfl,rfl⟩;by_cases h2:0<=r/\r<=7
  .rw[I' h2];go_wp2_with fail
   refine(EC u 1048576 _).mono ?_;rintro e w1 ⟨rfl,rfl⟩;by_cases h3:0<=u/\u<=1048576
   .rw[I' h3];have HB:Hid (true=decide (Dk c r u)):=(I' ⟨h1,h2,h3⟩).symm;go_wp2
    go_ret;exact⟨Ae HB.out,bb⟩
   .rw[D' h3];have HB:Hid (false=decide (Dk c r u)):=(D' (λg=>h3 g.2.2)).symm;go_wp2
    go_ret;exact⟨Ae HB.out,bb⟩
  .rw[D' h2];have HB:Hid (false=decide (Dk c r u)):=(D' (λg=>h2 g.2.1)).symm;go_wp2
   go_ret;exact⟨Ae HB.out,bb⟩
 .rw[D' h1];have HB:Hid (false=decide (Dk c r u)):=(D' (λg=>h1 g.1)).symm;go_wp2
  go_ret;exact⟨Ae HB.out,bb⟩
theorem Ce{B:Nat}{a:World}(h:Below B a w)(hg:B<=g)(cs:Array Value):Below B a (w.setRow g cs) :=
 h.trans ⟨rfl,rfl,rfl,by simp,λk hk=>setRow_other w g k cs (by omega)⟩
def ptA(g:Nat):Array Value:=#[.pointer (some ⟨g,0,none⟩),.pointer (some ⟨g,1,none⟩),.pointer (some ⟨g,2,none⟩),.pointer (some ⟨g,3,none⟩),.pointer (some ⟨g,4,none⟩)]
theorem aP(g:Nat):(ptA g).all (·.oneCell')=true:=by simp[ptA,Value.oneCell']
def RB:Array Value:=#[.pointer none,.pointer none,.pointer none,.pointer none,.pointer none]
theorem et(g:Nat):(prog.info? 67).map (·.size)=some (ptA g).size:=by show _=some 5;kernel_rfl
theorem PV(g:Nat)(j:Nat)(hj:j<5):∀ W,(Instr.index 67 (.agg (ptA g)) (.int .i64 (j:Int))).run prog W=.ok (.pointer (some ⟨g,j,none⟩)) W:=by
 intro W;rcases(by omega:j=0\/j=1\/j=2\/j=3\/j=4)with rfl|rfl|rfl|rfl|rfl
 all_goals kernel_rfl
theorem G4(g:Nat)(w:World) :
  Calls prog 23 #[.pointer (some ⟨g,0,none⟩)] w λe w'=>e=.returned (.agg (ptA g))/\Bw w w':=by
 have bb:Bw w (w.alloc (.cells RB 67)):=(Below.refl _ _).alloc (A' _) _;have rr:=heap_alloc_new w (.cells RB 67);have hi:=et g;go_enter func23,ntmps23
 go_wp2_with fail
 refine Ar 16 (by kernel_rfl) (by kernel_rfl) ?_;simp only[jQ,jY,jV,kh]
 repeat (go_big_quiet_step (fail))
 refine wpQuiet_nil ?_;have rr':(w.alloc (.cells RB 67)).drew.heap[w.heap.size]?=some (.cells RB 67):=rr;have bb':Bw w (w.alloc (.cells RB 67)).drew:=bb.drew;have hn:RB=#[.pointer none,.pointer none,.pointer none,.pointer none,.pointer none]:=rfl;rw[<- hn];generalize (w.alloc (.cells RB 67)).drew=W at rr' bb';go_wp2_with (refine wpList_store_row rfl 67 (.tmp 2) (.tmp 18) rfl w.heap.size (ptA g) rfl rfl 67 _ rr' hi rfl (aP g) ?_)
 have r2:=setRow_heap W w.heap.size _ (ptA g) 67 _ rr';exact bodyPost_ret (v:=.agg (ptA g)) (results_cell_row rfl _ _ w.heap.size 67 _ (0,0) _ rfl r2 underlying67 rfl hi) rfl ⟨rfl,Ce bb' (A' _) _⟩
theorem Sl.one2O(w:World)(b b':Int)(e:TypeId)(hg:g=w.heap.size)(hb:0<=b/\b<256)(he:b'=b):Sl (w.alloc (.cells #[.int .u8 b'] e)) (.slice (some ⟨g,0,none⟩) 1 1) [b]:=by
 subst he;exact Sl.one w b' e hg hb
theorem aR(l:List Int)(n:Int)(j:Nat)(hl:l.length<=100000):(l++(Ad n).take j).length+1<=140737488355328:=by
 have:((Ad n).take j).length<=4:=by rw[iO];exact Nat.min_le_right _ _
 rw[G'];omega
theorem G8(v:Value)(l:List Int)(n:Int)(B:Nat)(w:World)(ho:w.ownsRow B 5 1 v l.length (l.map (Value.int .u8)))(hB:B<=w.heap.size)(hl:l.length<=100000)(n0:0<=n)(n1:n<2147483648) :
  Calls prog 24 #[v,.int .i64 n] w λe w'=>∃ v',e=.returned v'/\w'.ownsRow B 5 1 v' (l++Ad n).length ((l++Ad n).map (Value.int .u8))/\Below B w w':=by
 have HO0:Hid (w.ownsRow B 5 1 v (l++(Ad n).take 0).length ((l++(Ad n).take 0).map (Value.int .u8))):=by unfold Hid;simpa using ho
 clear ho;go_enter func24,ntmps24
 go_wp2_with fail
 go_loopw [0,5] (λv iv wr=>∃ j:Nat,j<=4/\iv=.int .i64 (3-(j:Int))/\wr.ownsRow B 5 1 v (l++(Ad n).take j).length ((l++(Ad n).take j).map (Value.int .u8))/\Below B w wr) (λ_ iv _=>(intOf iv+1).toNat)
 case atStart=>exact⟨0,by omega,rfl,HO0.out,Below.refl _ _⟩
 case round =>
  obtain⟨j,hj,rfl,hown,hbel⟩:=hrel;clear HO0;have hlt:=hown.lt;have hz:B<=wr.heap.size:=iP hB hbel.size;have HL:=aR l n;by_cases hj4:j<4
  .rcases(by omega:j=0\/j=1\/j=2\/j=3)with rfl|rfl|rfl|rfl
   .rw[show(3:Int)-((0:Nat):Int)=3 from rfl];have hx:Hid (l++(Ad n).take 1=l++(Ad n).take 0++[n/16777216%256]):=by unfold Hid;rw[iR];rfl
    have hLL:=HL 0 hl;clear HL;generalize l++(Ad n).take 0=L at hown hx hLL;go_wp2_with (at_builtin;refine Aa _ rfl _ _ 28 rfl B 5 underlying28 At _ _ rfl rfl L [n/16777216%256] (hown.alloc _) (Sl.one2O _ (n/16777216%256) _ _ rfl (by omega) (by omega)) hLL (by simp;omega) ?_)
    intro v2 w2 ho2 hg2;have hb2:Below B w w2:=(hbel.alloc hz _).grown hg2 (by simp;omega) (λk hk=>(hlt k hk).1);have HO2:Hid (w2.ownsRow B 5 1 v2 (l++(Ad n).take 1).length ((l++(Ad n).take 1).map (Value.int .u8))):=by
     unfold Hid;rw[hx.out];simpa using ho2
    clear ho2 hg2 hown hlt hbel hLL hx;go_wp2
    go_roundw
    case rel=>exact⟨1,by omega,rfl,HO2.out,hb2⟩
    case measure=>simp[intOf]
   .rw[show(3:Int)-((1:Nat):Int)=2 from rfl];have hx:Hid (l++(Ad n).take 2=l++(Ad n).take 1++[n/65536%256]):=by unfold Hid;rw[iR];rfl
    have hLL:=HL 1 hl;clear HL;generalize l++(Ad n).take 1=L at hown hx hLL;go_wp2_with (at_builtin;refine Aa _ rfl _ _ 28 rfl B 5 underlying28 At _ _ rfl rfl L [n/65536%256] (hown.alloc _) (Sl.one2O _ (n/65536%256) _ _ rfl (by omega) (by omega)) hLL (by simp;omega) ?_)
    intro v2 w2 ho2 hg2;have hb2:Below B w w2:=(hbel.alloc hz _).grown hg2 (by simp;omega) (λk hk=>(hlt k hk).1);have HO2:Hid (w2.ownsRow B 5 1 v2 (l++(Ad n).take 2).length ((l++(Ad n).take 2).map (Value.int .u8))):=by
     unfold Hid;rw[hx.out];simpa using ho2
    clear ho2 hg2 hown hlt hbel hLL hx;go_wp2
    go_roundw
    case rel=>exact⟨2,by omega,rfl,HO2.out,hb2⟩
    case measure=>simp[intOf]
   .rw[show(3:Int)-((2:Nat):Int)=1 from rfl];have hx:Hid (l++(Ad n).take 3=l++(Ad n).take 2++[n/256%256]):=by unfold Hid;rw[iR];rfl
    have hLL:=HL 2 hl;clear HL;generalize l++(Ad n).take 2=L at hown hx hLL;go_wp2_with (at_builtin;refine Aa _ rfl _ _ 28 rfl B 5 underlying28 At _ _ rfl rfl L [n/256%256] (hown.alloc _) (Sl.one2O _ (n/256%256) _ _ rfl (by omega) (by omega)) hLL (by simp;omega) ?_)
    intro v2 w2 ho2 hg2;have hb2:Below B w w2:=(hbel.alloc hz _).grown hg2 (by simp;omega) (λk hk=>(hlt k hk).1);have HO2:Hid (w2.ownsRow B 5 1 v2 (l++(Ad n).take 3).length ((l++(Ad n).take 3).map (Value.int .u8))):=by
     unfold Hid;rw[hx.out];simpa using ho2
    clear ho2 hg2 hown hlt hbel hLL hx;go_wp2
    go_roundw
    case rel=>exact⟨3,by omega,rfl,HO2.out,hb2⟩
    case measure=>simp[intOf]
   .rw[show(3:Int)-((3:Nat):Int)=0 from rfl];have hx:Hid (l++(Ad n).take 4=l++(Ad n).take 3++[n%256]):=by unfold Hid;rw[iR];rfl
    have hLL:=HL 3 hl;clear HL;generalize l++(Ad n).take 3=L at hown hx hLL;go_wp2_with (at_builtin;refine Aa _ rfl _ _ 28 rfl B 5 underlying28 At _ _ rfl rfl L [n%256] (hown.alloc _) (Sl.one2O _ (n%256) _ _ rfl (by omega) (by omega)) hLL (by simp;omega) ?_)
    intro v2 w2 ho2 hg2;have hb2:Below B w w2:=(hbel.alloc hz _).grown hg2 (by simp;omega) (λk hk=>(hlt k hk).1);have HO2:Hid (w2.ownsRow B 5 1 v2 (l++(Ad n).take 4).length ((l++(Ad n).take 4).map (Value.int .u8))):=by
     unfold Hid;rw[hx.out];simpa using ho2
    clear ho2 hg2 hown hlt hbel hLL hx;go_wp2
    go_roundw
    case rel=>exact⟨4,by omega,rfl,HO2.out,hb2⟩
    case measure=>simp[intOf]
  .obtain rfl:j=4:=by omega
   rw[show(3:Int)-((4:Nat):Int)=-1 from rfl];have HO:Hid _:=hown;clear hown hlt HL;go_wp2
   go_ret;exact⟨_,rfl,HO.out,hbel⟩
theorem Sl.spotO{a:Option Addr}{cap:Nat}{l:List Int}(h:Sl w (.slice a n cap) l)(k:Nat)(hk:k<l.length):∃ bd od,a=some ⟨bd,od,none⟩/\bd<w.heap.size/\w.cell? ⟨bd,od+k,none⟩=some (.int .u8 (l.getD k 0)):=by
 obtain⟨⟨a',cap',e,hc,hn,h1⟩,hla,hba⟩:=h;simp only[Value.slice.injEq]at e;obtain⟨rfl,rfl,rfl⟩:=e;rcases h1 with rfl|⟨b,off,rfl,hb,hcell⟩
 .simp at hk
 .exact⟨b,off,rfl,hb,hcell k hk⟩
def I8(l:List Int)(j:Nat):List Int:=(l.take j).flatMap Ad
theorem Uh(l:List Int)(j:Nat)(h:j<l.length):I8 l (j+1)=I8 l j++Ad (l.getD j 0):=by
 unfold I8;rw[iW h,List.flatMap_append,AR h];simp
theorem Ph(l:List Int)(j:Nat):(I8 l j).length<=4*j:=by
 unfold I8;induction l generalizing j with
 | nil=>simp
 | cons x l ih =>
  cases j with
  | zero=>simp
  | succ j =>
   have:=ih j;rw[jQ,kq,G',Cm];omega
theorem Ug(k c s n v:Int):I8 [k,c,s,n,v] 5=Dy k c s n v:=rfl
def Ui(k c s n v:Int):List Int:=if Bf k c s n v=0 then Dy k c s n v else[]
theorem SO{n:Int}(h:Bf k c s n v=0):Ui k c s n v=Dy k c s n v:=if_pos h
theorem Zy{n:Int}(h:¬ Bf k c s n v=0):Ui k c s n v=[]:=if_neg h
def NF:Array Value:=(List.replicate 20 (Value.int .u8 0)).toArray
theorem dZ(w:World):(Instr.makeSlice 28 (.int .i64 0) (.int .i64 20)).run prog w=.ok (.slice (some ⟨w.heap.size,0,none⟩) 0 20) (w.alloc (.cells NF 5)):=by
 obtain⟨i,hi,hz,hsz,hby⟩:=info_parts At;rw[run_makeSlice (P:=prog) w 28 5 i (.int .u8 0) underlying28 hi hz .i64 .i64 0 20 (by omega) (by omega) (by rw[hsz];decide) (by rw[hby];decide) (by omega),hsz];have e:madeCells (Value.int .u8 0).cells ((20:Int).toNat*1)=NF:=by kernel_rfl
 rw[e];rfl
theorem Bc.num{n:Int}(h:Bc w g k c s n v)(j:Nat)(hj:j<5):w.cell? ⟨g,j,none⟩=some (.int .i64 ([k,c,s,n,v].getD j 0)):=by
 obtain⟨c0,c1,c2,c3,c4⟩:=E3 h.row;rcases(by omega:j=0\/j=1\/j=2\/j=3\/j=4)with rfl|rfl|rfl|rfl|rfl
 .exact c0
 .exact c1
 .exact c2
 .exact c3
 .exact c4
theorem RP{v:Value}(h:w.ownsRow base e 1 v n xs)(hk:∀ k,v.ownBlock=some k->w'.heap[k]?=w.heap[k]?):w'.ownsRow base e 1 v n xs:=by
 refine⟨h.1,?_⟩;rcases h.2 with h2|⟨g,cap,cur,hv,hb,hg,hr⟩
 .exact .inl h2
 .exact .inr ⟨g,cap,cur,hv,hb,(hk g (by rw[hv];rfl)).trans hg,hr⟩
theorem Ju{v:Value}(h:w.ownsRow base e 1 v n xs)(hb:Bw w w'):w'.ownsRow base e 1 v n xs :=
 RP h λk hk=>hb.block k (h.lt k hk).2
theorem Ra(k c s n v:Int)(w:World)(ht:NTab w) :
  Calls prog 13 #[.agg (cmA k c s n v)] w λe w'=>∃ v',e=.returned (.tuple #[v',.int .i64 (Bf k c s n v)])/\w'.ownsRow w.heap.size 5 1 v' (Ui k c s n v).length ((Ui k c s n v).map (Value.int .u8))/\Bw w w':=by
 have bb:Bw w (w.alloc (.cells (cmA k c s n v) 25)):=(Below.refl _ _).alloc (A' _) _;have bc:=Bc.made w k c s n v;have hT:=ht.below bb;have hi:=Gc k c s n v;generalize hW:w.alloc (.cells (cmA k c s n v) 25)=W at bb bc hT;clear ht;go_enter func13,ntmps13
 go_wp2_with (refine wpList_load_row rfl 25 _ rfl w.heap.size rfl 25 _ (0,0) _ bc.row underlying25 rfl hi ?_)
 clear hW;refine(DH k c s n v W hT).mono ?_;rintro e w1 ⟨rfl,b1⟩;have d1:Bw w w1:=bb.trans (b1.mono bb.size);replace bc:=bc.below b1;clear b1 bb hT;by_cases h1:Bf k c s n v=0
 .have HE:Hid (Ui k c s n v=I8 [k,c,s,n,v] 5):=(SO h1).trans (Ug k c s n v).symm;have hz:=E4 h1;have HS:Hid (∀ j,j<5->0<=[k,c,s,n,v].getD j 0/\[k,c,s,n,v].getD j 0<2147483648):=by
   unfold Hid;obtain⟨hk,hc⟩:=hz;unfold InC at hc;intro j hj;rcases(by omega:j=0\/j=1\/j=2\/j=3\/j=4)with rfl|rfl|rfl|rfl|rfl
   .show 0<=k/\k<2147483648;omega
   .show 0<=c/\c<2147483648;omega
   .show 0<=s/\s<2147483648;omega
   .show 0<=n/\n<2147483648;omega
   .show 0<=v/\v<2147483648;omega
  have HL:Hid ([k,c,s,n,v].length=5):=rfl;have HZ:Hid (Bf k c s n v=0):=h1;rw[h1];clear hz h1;have hmk:=dZ w1;have b2:Below w1.heap.size w1 (w1.alloc (.cells NF 5)):=(Below.refl _ _).alloc (A' _) _;have ho0:(w1.alloc (.cells NF 5)).ownsRow w1.heap.size 5 1 (.slice (some ⟨w1.heap.size,0,none⟩) 0 20) ([]:List Int).length (([]:List Int).map (Value.int .u8)) :=
   ⟨rfl,.inr ⟨w1.heap.size,20,NF,rfl,A' _,heap_alloc_new _ _,by decide,by simp[maxLen],rfl,rfl⟩⟩
  have HO0:Hid _:=ho0;clear ho0;generalize w1.alloc (.cells NF 5)=W2 at hmk b2 HO0;go_wp2_with fail
  refine(G4 w.heap.size W2).mono ?_;rintro e w3 ⟨rfl,b3⟩;have HO3:Hid (w3.ownsRow w1.heap.size 5 1 (.slice (some ⟨w1.heap.size,0,none⟩) 0 20) ([]:List Int).length (([]:List Int).map (Value.int .u8))):=Ju HO0.out b3;have d3:Below w1.heap.size w1 w3:=b2.trans (b3.mono b2.size);have z3:=d3.size;clear HO0 b2 b3 hmk;have hlt:=bc.lt;have hN:∀ wr,Below w1.heap.size w1 wr->∀ j,j<5->wr.cell? ⟨w.heap.size,j,none⟩=some (.int .i64 ([k,c,s,n,v].getD j 0)):=λwr hb j hj=>(bc.below hb).num j hj;have HN:Hid _:=hN;clear bc hN;generalize [k,c,s,n,v]=L at HE HS HN HL;have hBz:w1.heap.size<=w1.heap.size:=A' _;have hwB:w.heap.size<=w1.heap.size:=d1.size;generalize hB:w1.heap.size=B at d3 z3 HO3 HN hlt hwB;replace hBz:B<=w1.heap.size:=by omega
  clear hB;have hix:=PV w.heap.size;go_wp2_with fail
  go_loopw [5,15] (λv iv wr=>∃ j:Nat,j<=5/\iv=.int .i64 (j:Int)/\wr.ownsRow B 5 1 v (I8 L j).length ((I8 L j).map (Value.int .u8))/\Below B w1 wr) (λ_ iv _=>(5-intOf iv).toNat)
  case atStart=>exact⟨0,by omega,rfl,HO3.out,d3⟩
  case round =>
   obtain⟨j,hj,rfl,hown,hbel⟩:=hrel;by_cases hj5:j<5
   .have hji:(j:Int)<5:=by omega
    have hij:=hix j hj5;have hcj:=HN.out _ hbel j hj5;have hsj:=HS.out j hj5;have HK:Hid (I8 L (j+1)=I8 L j++Ad (L.getD j 0)):=Uh L j (by rw[HL.out];omega);have HQ:=Ph L j;have HO:Hid _:=hown;have hz:B<=wr.heap.size:=iP hBz hbel.size;clear hown hix HO3;generalize L.getD j 0=X at hcj hsj HK;go_wp2_with fail
    refine(G8 _ _ X B wr HO.out hz (by omega) hsj.1 hsj.2).mono ?_;rintro e w5 ⟨v5,rfl,o5,b5⟩;have HO5:Hid (w5.ownsRow B 5 1 v5 (I8 L (j+1)).length ((I8 L (j+1)).map (Value.int .u8))):=by unfold Hid;rw[HK.out];exact o5
    have d5:=hbel.trans b5;clear o5 b5 HO HK HQ hcj hij hsj;go_wp2
    go_roundw
    case rel=>exact⟨j+1,by omega,by go_num,HO5.out,d5⟩
    case measure=>simp[intOf];omega
   .obtain rfl:j=5:=by omega
    rw[show((5:Nat):Int)=5 from rfl];have HO:Hid _:=hown;clear hown hix HO3;go_wp2
    go_ret2
    rw[HE.out,HZ.out];exact⟨_,rfl,AV HO.out hwB,d1.trans (hbel.mono hwB)⟩
 .have HE:Hid (Ui k c s n v=[]):=Zy h1;go_wp2
  go_ret2
  rw[HE.out];exact⟨_,rfl,World.ownsRow_nil _ _ _ _,d1⟩
theorem Js{P:Program}{fn:Func}{p u:Tmp}{ty:TypeId}(h:fn.results=#[.cell p ty,.tmp u])(tmps:Array Value)(w:World)(g:Nat)(t:TypeId)(cs:Array Value)(fr:Nat × Nat)(d:TypeDesc)(hp:tmps.getD p undef=.pointer (some ⟨g,0,none⟩))(hg:w.heap[g]?=some (.cells cs t fr))(hu:P.underlying ty=some d)(hd:(match d with|.struct _|.array _ _=>true|_=>false)=true)(hi:(P.info? ty).map (·.size)=some cs.size) :
  (results fn tmps).run P w=.ok (.tuple #[.agg cs,tmps.getD u undef]) w:=by
 have hp':tmps[p]?.getD undef=.pointer (some ⟨g,0,none⟩):=by simpa using hp
 simp[results,h,hp',asAddr,run_loadVar_row w g t ty cs fr d hg hu hd hi]
theorem SJ(k c s n v:Int):(cmA k c s n v).all (·.oneCell')=true:=by simp[cmA,Value.oneCell']
def JZ(key:List Int)(c r u:Int):List Int:=JY c r u++(DR key (JY c r u)).take 16
theorem Mz(key b:List Int):((DR key b).take 16).length=16:=by rw[iO,Dr];rfl
theorem Eg(key:List Int)(c r u:Int):(JZ key c r u).length=22:=by unfold JZ;rw[G',Mz,Ef]
theorem Qu(key b:List Int):∀ x∈(DR key b).take 16,0<=x/\x<256:=λx hx=>Nc key b x (jb hx)
theorem V1(key:List Int)(h:Dk c r u):∀ x∈JZ key c r u,0<=x/\x<256:=by
 intro x hx;rcases V'.1 hx with hx|hx
 .exact Ny h x hx
 .exact Qu _ _ x hx
def Mj(key:List Int)(c r u:Int):Int:=if key.length≠32 then 1 else M0 c r u
def Pt(key:List Int)(c r u:Int):List Int:=if Mj key c r u=0 then JZ key c r u else[]
theorem Up(h:¬ key.length=32):Mj key c r u=1:=if_pos h
theorem Ps(h:key.length=32):Mj key c r u=M0 c r u:=if_neg (λg=>g h)
theorem ZO(h:Mj key c r u=0):Pt key c r u=JZ key c r u:=if_pos h
theorem SX(h:¬ Mj key c r u=0):Pt key c r u=[]:=if_neg h
theorem Rt(c r u:Int)(w:World)(h:Dk c r u) :
  Calls prog 19 #[.agg (tkA c r u)] w λe w'=>∃ v',e=.returned v'/\w'.ownsRow w.heap.size 5 1 v' (JY c r u).length ((JY c r u).map (Value.int .u8))/\Bw w w':=by
 have bb:Bw w (w.alloc (.cells (tkA c r u) 33)):=(Below.refl _ _).alloc (A' _) _;have bt:=Bt.made w c r u;generalize hW:w.alloc (.cells (tkA c r u) 33)=W at bb bt;obtain⟨c0,c1,c2⟩:=IW bt.row;have lt:=bt.lt;clear bt;obtain⟨⟨hc0,hc1⟩,⟨hr0,hr1⟩,hu0,hu1⟩:=h;have m1:c%256=c:=by omega
 have m2:r%256=r:=by omega
 have HT:Hid (JY c r u=[c,r]++Ad u):=rfl;have b1:Bw W (W.alloc (.cells #[.int .u8 c,.int .u8 r] 5)):=(Below.refl _ _).alloc (A' _) _;have o1:(W.alloc (.cells #[.int .u8 c,.int .u8 r] 5)).ownsRow W.heap.size 5 1 (.slice (some ⟨W.heap.size,0,none⟩) 2 2) ([c,r]:List Int).length (([c,r]:List Int).map (Value.int .u8)) :=
  ⟨rfl,.inr ⟨W.heap.size,2,#[.int .u8 c,.int .u8 r],rfl,A' _,heap_alloc_new _ _,by simp,by simp[maxLen],rfl,rfl⟩⟩
 have O1:Hid ((W.alloc (.cells #[.int .u8 c,.int .u8 r] 5)).ownsRow W.heap.size 5 1 (.slice (some ⟨W.heap.size,0,none⟩) 2 2) ([c,r]:List Int).length (([c,r]:List Int).map (Value.int .u8))):=o1;clear o1;generalize hW1:W.alloc (.cells #[.int .u8 c,.int .u8 r] 5)=W1 at b1 O1;have d2:W1.cell? ⟨w.heap.size,2,none⟩=some (.int .i64 u):=(b1.cell (p:=⟨w.heap.size,2,none⟩) lt).trans c2;have d1:=bb.trans (b1.mono bb.size);have hz:=b1.size;go_enter func19,ntmps19
 go_wp2_with fail
 clear hW hW1;refine(G8 _ [c,r] u W.heap.size W1 O1.out hz (by simp) hu0 (by omega)).mono ?_;rintro e w2 ⟨v2,rfl,o2,b2⟩;have hwW:=bb.size;go_wp2
 go_ret;exact⟨_,rfl,AV o2 hwW,d1.trans (b2.mono hwW)⟩
theorem Qs(vk vb:Value)(key b:List Int)(w:World)(hk:Sl w vk key)(hb:Sl w vb b)(lk:key.length<=256)(lb:b.length<=2000)(ht:AE w) :
  Calls prog 20 #[vk,vb] w λe w'=>∃ v',e=.returned (.tuple #[v',.int .i64 0])/\Sl w' v' ((DR key b).take 16)/\Bw w w':=by
 go_enter func20,ntmps20
 go_wp2_with fail
 refine(cW vk vb key b w hk hb lk lb ht).mono ?_;rintro e w1 ⟨v1,rfl,f1⟩;obtain⟨s1,b1,g,cp,rfl,_,_⟩:=f1;obtain⟨a2,c2,r2',s2⟩:=s1.upTo 16 (by rw[Dr];omega);rw[Dr]at r2' ⊢
 have r2:∀ W,(Instr.slice 28 (.slice (some ⟨g,0,none⟩) 32 cp) none (some (.int .i64 16)) none).run prog W=.ok (.slice a2 16 c2) W:=r2';clear r2' s1;go_wp2
 go_ret2
 exact⟨_,rfl,s2,b1⟩
theorem Uq(vk:Value)(key:List Int)(c r u:Int)(w:World)(hk:Sl w vk key)(ht:AE w) :
  Calls prog 11 #[vk,.agg (tkA c r u)] w λe w'=>∃ v',e=.returned (.tuple #[v',.int .i64 (Mj key c r u)])/\w'.ownsRow w.heap.size 5 1 v' (Pt key c r u).length ((Pt key c r u).map (Value.int .u8))/\Bw w w':=by
 have bb:Bw w (w.alloc (.cells (tkA c r u) 33)):=(Below.refl _ _).alloc (A' _) _;have bt:=Bt.made w c r u;have hi:=It c r u;have hlen:=hk.len;obtain⟨ak,ck,rfl⟩:=hk.shape;generalize hW:w.alloc (.cells (tkA c r u) 33)=W at bb bt;by_cases h1:key.length=32
 .have HE:=Ps (key:=key) (c:=c) (r:=r) (u:=u) h1;have HK:Hid (key.length=32):=h1;rw[h1]at hk ⊢
  clear h1 hlen;go_enter func11,ntmps11
  go_wp2_with (refine wpList_load_row rfl 33 _ rfl w.heap.size rfl 33 _ (0,0) _ bt.row underlying33 rfl hi ?_)
  clear hW;refine(IG c r u W).mono ?_;rintro e w1 ⟨rfl,b1⟩;have d1:=bb.trans (b1.mono bb.size);replace bt:=bt.below b1;clear b1 bb;by_cases h2:Dk c r u
  .have HZ:Hid (Mj key c r u=0):=HE.trans (Ki h2);have HL:Hid (Pt key c r u=JZ key c r u):=ZO HZ.out;rw[I' h2];clear HE;go_wp2_with (refine wpList_load_row rfl 33 _ rfl w.heap.size rfl 33 _ (0,0) _ bt.row underlying33 rfl hi ?_)
   refine(Rt c r u w1 h2).mono ?_;rintro e w2 ⟨v2,rfl,o2,b2⟩;have d2:=d1.trans (b2.mono d1.size);have s2:=Sl.ofOwns o2 (by rw[Ef];omega) (Ny h2);have z2:=b2.size;go_wp2_with fail
   refine(Qs _ v2 key (JY c r u) w2 (hk.below d2) s2 (by rw[HK.out];omega) (by rw[Ef];omega) (ht.below d2)).mono ?_;rintro e w3 ⟨v3,rfl,s3,b3⟩;have o3:=Ju o2 b3;have d3':Bw w1 w3:=b2.trans (b3.mono z2);have z3:w1.heap.size<=w3.heap.size:=iP z2 b3.size;have hlt:=o3.lt;have hy:=s3.len;have HT:Hid (JZ key c r u=JY c r u++(DR key (JY c r u)).take 16):=rfl;have hx:=Ef c r u;clear o2 b3 d2 s2;generalize (DR key (JY c r u)).take 16=Y at s3 HT hy;generalize JY c r u=X at o3 HT hx;go_wp2_with (at_builtin;refine Aa _ rfl _ _ 28 rfl w1.heap.size 5 underlying28 At _ _ rfl rfl X Y o3 s3 (by omega) z3 ?_)
   intro v4 w4 o4 g4;have d4:Bw w1 w4:=d3'.grown g4 z3 (λk hk=>(hlt k hk).1);have HO:Hid (w4.ownsRow w1.heap.size 5 1 v4 (JZ key c r u).length ((JZ key c r u).map (Value.int .u8))):=by unfold Hid;rw[HT.out];simpa[hx]using o4
   clear o4 g4;go_wp2
   go_ret2
   rw[HL.out,HZ.out];exact⟨_,rfl,AV HO.out d1.size,d1.trans (d4.mono d1.size)⟩
  .have HZ:Hid (Mj key c r u=2):=HE.trans (T1 h2);have HL:Hid (Pt key c r u=[]):=SX (by rw[HZ.out];omega);rw[D' h2];go_wp2
   go_ret2
   rw[HL.out,HZ.out];exact⟨_,rfl,World.ownsRow_nil _ _ _ _,d1⟩
 .have h1':¬ (key.length:Int)=32:=by omega
  have HZ:Hid (Mj key c r u=1):=Up h1;have HL:Hid (Pt key c r u=[]):=SX (by rw[HZ.out];omega);go_enter func11,ntmps11
  go_wp2
  go_ret2
  rw[HL.out,HZ.out];exact⟨_,rfl,World.ownsRow_nil _ _ _ _,bb⟩
end
end
section
section
def paE(n tc tr tu k c s m v:Int):Int:=if ¬ (0<=n/\n<1073741824)then 2 else if M0 tc tr tu≠0 then M0 tc tr tu else Bf k c s m v
def paP(tc tr tu k c s m v:Int):List Int:=JZ Gq tc tr tu++Dy k c s m v
def paL(n tc tr tu k c s m v:Int):List Int:=if paE n tc tr tu k c s m v=0 then c::JO (Gr c) n (paP tc tr tu k c s m v)else[]
variable{c k m n s tc tr tu v:Int}
theorem XJ(h:paE n tc tr tu k c s m v=0):(0<=n/\n<1073741824)/\Dk tc tr tu/\Bf k c s m v=0:=by
 unfold paE at h;split at h
 .cases h
 .rename_i g1
  split at h
  .rename_i g;exact absurd h g
  .rename_i g2
   refine⟨iY.1 g1,?_,h⟩;have g3:=iY.1 g2;unfold M0 at g3;split at g3
   .assumption
   .cases g3
theorem ep(h1:0<=n/\n<1073741824)(h2:M0 tc tr tu=0):paE n tc tr tu k c s m v=Bf k c s m v:=by
 unfold paE;rw[if_neg (λg=>g h1),if_neg (λg=>g h2)]
theorem XK(h:paE n tc tr tu k c s m v=0):paL n tc tr tu k c s m v=c::JO (Gr c) n (paP tc tr tu k c s m v):=if_pos h
theorem GV(tc tr tu k c s m v:Int):(paP tc tr tu k c s m v).length=42:=by unfold paP;rw[G',Eg,DW]
theorem Yn{p:List Int}(h0:0<=n)(h1:n<1073741824)(hp:p.length=42):DM (Gr c) n 0 noB p=0:=by
 unfold DM;rw[if_neg (λg=>g (OkC.new (FB c) n h0 (by omega))),if_neg (by omega),if_neg (by omega)]
end
end
section
open Go.RowKit
section
variable{key l:List Int}
theorem Sl.fourAt{w:World}{a:Option Addr}{n cap:Nat}(h:Sl w (.slice a n cap) l)(lo:Nat)(hhi:lo+4<=l.length)(li hj:Int)(hli:li=(lo:Int))(hhj:hj=(lo:Int)+4) :
  ∃ a' c',(∀ W,(Instr.slice 28 (.slice a n cap) (some (.int .i64 li)) (some (.int .i64 hj)) none).run prog W=.ok (.slice a' 4 c') W)/\Sl w (.slice a' 4 c') ((l.take (lo+4)).drop lo):=by
 subst hli;subst hhj;have hw:=h.window lo (lo+4) (by omega) hhi;obtain⟨⟨a',cap',e,hc,hn,h1⟩,hla,hba⟩:=h;simp only[Value.slice.injEq]at e;obtain⟨rfl,rfl,rfl⟩:=e;have e4:lo+4-lo=4:=by omega
 unfold sliced at hw;rw[e4]at hw
 refine⟨_,_,λW=>?_,hw⟩;rw[run_slice_lh (P:=prog) W 28 a _ cap underlying28 .i64 .i64 _ _ (by omega) (by omega) (by omega)];have e:prog.elem 28=5:=by kernel_rfl
 rw[e,IR,show((lo:Int)+4).toNat=lo+4 by omega,jA];simp[Result.andThen,sliced]
theorem PO(x b:Int)(hx:0<=x/\x<36028797018963968)(hb:0<=b/\b<256):bits .or .i64 (x*256) b=x*256+b:=by
 obtain⟨x,rfl⟩:=jj hx.1;obtain⟨y,rfl⟩:=jj hb.1;have e:(x:Int)*256=((x*256:Nat):Int):=by omega
 have key:(BitVec.ofInt 64 ((x*256:Nat):Int) ||| BitVec.ofInt 64 (y:Int)).toNat=x*256+y:=by
  rw[mt,lE,lE];have h1:((y:Int)%((2^64:Nat):Int)).toNat=y:=by omega
  have h2:(((x*256:Nat):Int)%((2^64:Nat):Int)).toNat=2^8*x:=by omega
  rw[h1,h2,<- kM (by omega:y<2^8)];omega
 rw[e];show IntKind.i64.wrap ((BitVec.ofInt 64 ((x*256:Nat):Int) ||| BitVec.ofInt 64 (y:Int)).toNat:Nat)=_;rw[key,IntKind.wrap_i64];omega
def CI(h:List Int):Nat->Int
 | 0=>0
 | k+1=>CI h k*256+h.getD k 0
theorem Jr{h:List Int}(hb:∀ x∈h,0<=x/\x<256)(k:Nat):0<=CI h k/\CI h k<256^k:=by
 induction k with
 | zero=>simp[CI]
 | succ k ih =>
  have:=Al hb k;rw[CI,lQ];omega
theorem Lg(l:List Int)(lo:Nat)(h:lo+4<=l.length):CI ((l.take (lo+4)).drop lo) 4=Ac l lo:=by
 show(((0*256+((l.take (lo+4)).drop lo).getD 0 0)*256+((l.take (lo+4)).drop lo).getD 1 0)*256+((l.take (lo+4)).drop lo).getD 2 0)*256+((l.take (lo+4)).drop lo).getD 3 0=_;rw[CO,CO,CO,CO,Bk _ _ _ (by omega),Bk _ _ _ (by omega),Bk _ _ _ (by omega),Bk _ _ _ (by omega)];unfold Ac;rw[kf];omega
theorem Ia(v:Value)(l:List Int)(lo:Nat)(w:World)(h:Sl w v l)(hl:lo+4<=l.length)(li:Int)(hli:li=(lo:Int)) :
  Calls prog 184 #[v,.int .i64 li] w λe w'=>e=.returned (.int .i64 (Ac l lo))/\w'=w:=by
 have HN:Hid (CI ((l.take (lo+4)).drop lo) 4=Ac l lo):=Lg l lo hl;have hlen:=h.len;have i0:0<=li:=by omega
 have i1:li<=140737488351232:=by omega
 obtain⟨a,c,rfl⟩:=h.shape;obtain⟨a2,c2,hr,hs⟩:=h.fourAt lo hl li (li+4) hli (by omega);have HB:Hid (∀ x∈(l.take (lo+4)).drop lo,0<=x/\x<256):=hs.byte;have HS:Hid (((l.take (lo+4)).drop lo).length=4):=by unfold Hid;rw[iQ,iO];omega
 generalize (l.take (lo+4)).drop lo=L at HN hs HB HS;generalize l.length=N at hr hlen ⊢;clear h hl hli hlen;go_enter func184,ntmps184
 go_wp2_with fail
 go_loopw [5,14] (λv iv wr=>∃ j:Nat,j<=4/\iv=.int .i64 (j:Int)/\v=.int .i64 (CI L j)/\wr=w) (λ_ iv _=>(4-intOf iv).toNat)
 case atStart=>exact⟨0,by omega,rfl,rfl,rfl⟩
 case round =>
  obtain⟨j,hj,rfl,rfl,rfl⟩:=hrel;by_cases hj4:j<4
  .have hii:(j:Int)<4:=by omega
   have hx:=Jr HB.out j;have hx2:CI L j<16777216:=by
    have:(256:Int)^j<=256^3:=by
     rcases(by omega:j=0\/j=1\/j=2\/j=3)with rfl|rfl|rfl|rfl<;>decide
    omega
   have hb:=Al HB.out j;obtain⟨bd,od,rfl,hbd,hc⟩:=hs.spotO j (by have:=HS.out;omega);have hor:=PO (CI L j) (L.getD j 0) ⟨hx.1,by omega⟩ hb;have HK:Hid (CI L j*256+L.getD j 0=CI L (j+1)):=rfl;have hx1:=hx.1;clear hx hs hr;generalize CI L j=X at hx1 hx2 hor HK;generalize L.getD j 0=B at hb hc hor HK;go_wp2
   go_roundw
   case rel=>exact⟨j+1,by omega,by go_num,by rw[<- HK.out],trivial⟩
   case measure=>simp[intOf];omega
  .obtain rfl:j=4:=by omega
   rw[show((4:Nat):Int)=4 from rfl,HN.out];go_wp2
   go_ret;exact⟨rfl,rfl⟩
def QX(l:List Int)(j:Nat):List Int:=(List.range 5).map λi=>if i<j then Ac l (4*i)else 0
def rowOf(m:List Int):Array Value:=(m.map (Value.int .i64)).toArray
theorem Wl(l:List Int)(j:Nat)(hj:j<5):(rowOf (QX l j)).setIfInBounds j (.int .i64 (Ac l (4*j)))=rowOf (QX l (j+1)):=by
 rcases(by omega:j=0\/j=1\/j=2\/j=3\/j=4)with rfl|rfl|rfl|rfl|rfl
 all_goals rfl
theorem KC(v:Value)(l:List Int)(w:World)(h:Sl w v l)(ht:NTab w) :
  Calls prog 152 #[v] w λe w'=>e=.returned (.tuple #[.agg (JH l),.int .i64 (Cj l)])/\Bw w w':=by
 have hlen:=h.len;obtain⟨a,cp,rfl⟩:=h.shape;by_cases h1:l.length=20
 .have HE:Hid (Cj l=Bf (Ac l 0) (Ac l 4) (Ac l 8) (Ac l 12) (Ac l 16)):=if_neg (λg=>g h1);have hs:=h;have HL:Hid (l.length=20):=h1;rw[h1]at hs ⊢
  clear h h1 hlen;have b0:Bw w (w.alloc (.cells (cmA 0 0 0 0 0) 25)):=(Below.refl _ _).alloc (A' _) _;have z0:(w.alloc (.cells (cmA 0 0 0 0 0) 25)).heap.size=w.heap.size+1:=by simp
  have r0:=heap_alloc_new w (.cells (cmA 0 0 0 0 0) 25);have b1:Below (w.heap.size+1) (w.alloc (.cells (cmA 0 0 0 0 0) 25)) ((w.alloc (.cells (cmA 0 0 0 0 0) 25)).alloc (.cells (cmA 0 0 0 0 0) 25)):=(Below.refl _ _).alloc (by omega) _;have r1:=heap_alloc_new (w.alloc (.cells (cmA 0 0 0 0 0) 25)) (.cells (cmA 0 0 0 0 0) 25);rw[z0]at r1
  replace r0:=(b1.block w.heap.size (by omega)).trans r0;have d1:=b0.trans (b1.mono (jP _));have z1:((w.alloc (.cells (cmA 0 0 0 0 0) 25)).alloc (.cells (cmA 0 0 0 0 0) 25)).heap.size=w.heap.size+1+1:=by simp
  have hW:(w.alloc (.cells zV5 25)).alloc (.cells zV5 25)=(w.alloc (.cells (cmA 0 0 0 0 0) 25)).alloc (.cells (cmA 0 0 0 0 0) 25):=rfl;clear b0 b1 z0;generalize (w.alloc (.cells (cmA 0 0 0 0 0) 25)).alloc (.cells (cmA 0 0 0 0 0) 25)=W at r0 r1 d1 z1 hW;go_enter func152,ntmps152
  go_wp2_with fail
  clear hW;refine(G4 (w.heap.size+1) W).mono ?_;rintro e w2 ⟨rfl,b2⟩;replace r0:=(b2.block w.heap.size (by omega)).trans r0;replace r1:=(b2.block (w.heap.size+1) (by omega)).trans r1;have d2:=d1.trans (b2.mono d1.size);have HR0:Hid _:=r0;have HR1:Hid (w2.heap[w.heap.size+1]?=some (.cells (rowOf (QX l 0)) 25)):=r1;clear r0 r1 b2 d1 z1;have hix:=PV (w.heap.size+1);go_wp2_with fail
  go_loopw [13] (λiv wr=>∃ j:Nat,j<=5/\iv=.int .i64 (j:Int)/\wr.heap[w.heap.size]?=some (.cells (cmA 0 0 0 0 0) 25)/\wr.heap[w.heap.size+1]?=some (.cells (rowOf (QX l j)) 25)/\Bw w wr) (λiv _=>(5-intOf iv).toNat)
  case atStart=>exact⟨0,by omega,rfl,HR0.out,HR1.out,d2⟩
  case round =>
   obtain⟨j,hj,rfl,hr0,hr1,hbel⟩:=hrel;clear HR0 HR1;by_cases hj5:j<5
   .have hji:(j:Int)<5:=by omega
    have hij:=hix j hj5;have hcell:∃ x,wr.cell? ⟨w.heap.size+1,j,none⟩=some (.int .i64 x):=⟨(QX l j).getD j 0,(cell_of_row _ _ j _ _ _ hr1).trans (by simp[rowOf,QX,hj5])⟩;obtain⟨x,hx⟩:=hcell;have hfz:=frozen_of_row wr _ j _ _ hr1;have HR0:Hid _:=hr0;have HR1:Hid _:=hr1;have HS:=Wl l j hj5;clear hix hr0 hr1;go_wp2_with fail
    refine(Ia (.slice a 20 cp) l (4*j) wr (hs.below hbel) (by rw[HL.out];omega) _ (by omega)).mono ?_;rintro e w5 ⟨rfl,rfl⟩;have q0:(w5.setCell ⟨w.heap.size+1,j,none⟩ (.int .i64 (Ac l (4*j)))).heap[w.heap.size]?=some (.cells (cmA 0 0 0 0 0) 25):=(heap_setCell_other _ _ _ _ (by simp)).trans HR0.out;have q1:(w5.setCell ⟨w.heap.size+1,j,none⟩ (.int .i64 (Ac l (4*j)))).heap[w.heap.size+1]?=some (.cells (rowOf (QX l (j+1))) 25):=by
     rw[heap_setCell_same _ _ _ _ _ _ HR1.out,HS]
    have q2:Bw w (w5.setCell ⟨w.heap.size+1,j,none⟩ (.int .i64 (Ac l (4*j)))):=hbel.setCell (p:=⟨w.heap.size+1,j,none⟩) (jP _) _;have Q0:Hid _:=q0;have Q1:Hid _:=q1;clear HS q0 q1 HR0 HR1;generalize Ac l (4*j)=X at Q0 Q1 q2 ⊢;go_wp2
    go_roundw
    case rel=>exact⟨j+1,by omega,by go_num,Q0.out,Q1.out,q2⟩
    case measure=>simp[intOf];omega
   .obtain rfl:j=5:=by omega
    rw[show((5:Nat):Int)=5 from rfl];have hr1':wr.heap[w.heap.size+1]?=some (.cells (cmA (Ac l 0) (Ac l 4) (Ac l 8) (Ac l 12) (Ac l 16)) 25):=hr1;clear hr1 hix;have HV0:Hid (Cj l=0->JH l=cmA (Ac l 0) (Ac l 4) (Ac l 8) (Ac l 12) (Ac l 16)):=λh=>if_pos h;have HV1:Hid (¬ Cj l=0->JH l=cmA 0 0 0 0 0):=λh=>if_neg h;have hT:=ht.below hbel;generalize Ac l 0=k at HE HV0 hr1';generalize Ac l 4=c at HE HV0 hr1';generalize Ac l 8=s at HE HV0 hr1';generalize Ac l 12=n at HE HV0 hr1';generalize Ac l 16=v at HE HV0 hr1';have hi:=Gc k c s n v;have hi0:=Gc 0 0 0 0 0;have lt1:=(H'.1 hr1').1;go_wp2_with (refine wpList_load_row rfl 25 _ rfl (w.heap.size+1) rfl 25 _ (0,0) _ hr1' underlying25 rfl hi ?_)
    refine(DH k c s n v wr hT).mono ?_;rintro e w6 ⟨rfl,b6⟩;have d6:=hbel.trans (b6.mono hbel.size);have q0:=(b6.block w.heap.size (by omega)).trans hr0;have q1:=(b6.block (w.heap.size+1) lt1).trans hr1';clear hr0 hr1' b6 hT hbel;by_cases h2:Bf k c s n v=0
    .have HZ:Hid (Cj l=0):=HE.out.trans h2;have HV:Hid (JH l=cmA k c s n v):=HV0.out HZ.out;rw[h2];clear h2 HE HV0 HV1;go_wp2_with (first|(refine wpList_load_row rfl 25 _ rfl (w.heap.size+1) rfl 25 _ (0,0) _ q1 underlying25 rfl hi ?_)|(refine wpList_store_row rfl 25 (.tmp 2) (.tmp 30) rfl w.heap.size (cmA k c s n v) rfl rfl 25 _ q0 hi rfl (SJ k c s n v) ?_))
     have r2:=setRow_heap w6 w.heap.size _ (cmA k c s n v) 25 _ q0;refine bodyPost_ret (Js rfl _ _ w.heap.size 25 _ (0,0) _ rfl r2 underlying25 rfl hi) rfl ?_;rw[HZ.out,HV.out];exact⟨rfl,Ce d6 (A' _) _⟩
    .have HZ:Hid (Cj l=Bf k c s n v):=HE.out;have HV:Hid (JH l=cmA 0 0 0 0 0):=HV1.out (by rw[HE.out];exact h2);clear HE HV0 HV1;go_wp2_with (refine wpList_store_row rfl 25 (.tmp 2) (.tmp 28) rfl w.heap.size (cmA 0 0 0 0 0) rfl rfl 25 _ q0 hi0 rfl (SJ 0 0 0 0 0) ?_)
     have r2:=setRow_heap w6 w.heap.size _ (cmA 0 0 0 0 0) 25 _ q0;refine bodyPost_ret (Js rfl _ _ w.heap.size 25 _ (0,0) _ rfl r2 underlying25 rfl hi0) rfl ?_;rw[HZ.out,HV.out];exact⟨rfl,Ce d6 (A' _) _⟩
 .have h1':¬ (l.length:Int)=20:=by omega
  have HE:Hid (Cj l=1):=if_pos h1;have HV:Hid (JH l=cmA 0 0 0 0 0):=if_neg (by rw[HE.out];omega);have bb:Bw w (w.alloc (.cells (cmA 0 0 0 0 0) 25)):=(Below.refl _ _).alloc (A' _) _;have bc:=Bc.made w 0 0 0 0 0;go_enter func152,ntmps152
  go_wp2
  refine bodyPost_ret (Js rfl _ _ w.heap.size 25 _ (0,0) _ rfl (heap_alloc_new _ _) underlying25 rfl (Gc 0 0 0 0 0)) rfl ?_;rw[HE.out,HV.out];exact⟨rfl,bb⟩
theorem Is(c r u:Int):(tkA c r u).all (·.oneCell')=true:=by simp[tkA,Value.oneCell']
theorem Qx(v:Value)(l:List Int)(w:World)(h:Sl w v l)(hl:6<=l.length) :
  Calls prog 183 #[v] w λe w'=>e=.returned (.agg (tkA (l.getD 0 0) (l.getD 1 0) (Ac l 2)))/\Bw w w':=by
 have hlen:=h.len;obtain⟨a,cp,rfl⟩:=h.shape;have bb:Bw w (w.alloc (.cells (tkA 0 0 0) 33)):=(Below.refl _ _).alloc (A' _) _;have rr:=heap_alloc_new w (.cells (tkA 0 0 0) 33);have hs:=h.below bb;have hW:w.alloc (.cells #[.int .i64 0,.int .i64 0,.int .i64 0] 33)=w.alloc (.cells (tkA 0 0 0) 33):=rfl;generalize w.alloc (.cells (tkA 0 0 0) 33)=W0 at bb rr hs hW;obtain⟨bd,od,rfl,hbd,x0⟩:=hs.spotO 0 (by omega);obtain⟨bd1,od1,e1,_,x1⟩:=hs.spotO 1 (by omega);simp only[X',Addr.mk.injEq,and_true]at e1;obtain⟨rfl,rfl⟩:=e1;rw[kf]at x0
 have y0:=Al h.byte 0;have y1:=Al h.byte 1;have i0:(0:Int)<(l.length:Int):=by omega
 have i1:(1:Int)<(l.length:Int):=by omega
 have hN:Calls prog 184 #[.slice (some ⟨bd,od,none⟩) l.length cp,.int .i64 2] W0.drew λe w'=>e=.returned (.int .i64 (Ac l 2))/\w'=W0.drew :=
  Ia _ l 2 _ (hs.below (Below.refl _ _).drew) (by omega) 2 rfl
 have HN:Hid _:=hN;clear hN;generalize l.getD 0 0=b0 at x0 y0;generalize l.getD 1 0=b1 at x1 y1;generalize Ac l 2=b2 at HN;generalize l.length=N at hlen hl i0 i1 HN ⊢;clear h hs;have hi:=It b0 b1 b2;go_enter func183,ntmps183
 go_wp2_with fail
 refine Ar 11 (by kernel_rfl) (by kernel_rfl) ?_;simp only[jQ,jY,jV,kh]
 repeat (go_big_quiet_step (fail))
 go_big_quiet_want
 go_big_quiet_op
 refine⟨_,HN.out,?_⟩
 go_big_quiet_on
 repeat (go_big_quiet_step (fail))
 refine wpQuiet_nil ?_;clear hW;have rr':W0.drew.heap[w.heap.size]?=some (.cells (tkA 0 0 0) 33):=rr;have bb':Bw w W0.drew:=bb.drew;clear rr bb x0 x1 HN;generalize W0.drew=W at rr' bb' ⊢;go_wp2_with (refine wpList_store_row rfl 33 (.tmp 2) (.tmp 13) rfl w.heap.size (tkA b0 b1 b2) rfl rfl 33 _ rr' hi rfl (Is b0 b1 b2) ?_)
 have r2:=setRow_heap W w.heap.size _ (tkA b0 b1 b2) 33 _ rr';exact bodyPost_ret (v:=.agg (tkA b0 b1 b2)) (results_cell_row rfl _ _ w.heap.size 33 _ (0,0) _ rfl r2 underlying33 rfl hi) rfl ⟨rfl,Ce bb' (A' _) _⟩
def DT(key l:List Int):Int :=
 if key.length≠32\/l.length≠22 then 1
 else if(DR key (l.take 6)).take 16≠l.drop 6 then 6
 else M0 (l.getD 0 0) (l.getD 1 0) (Ac l 2)
def Mp(key l:List Int):Array Value:=if DT key l=0 then tkA (l.getD 0 0) (l.getD 1 0) (Ac l 2)else tkA 0 0 0
theorem Nk(h:key.length≠32\/l.length≠22):DT key l=1:=if_pos h
theorem XS(h1:key.length=32)(h2:l.length=22)(h:¬ (DR key (l.take 6)).take 16=l.drop 6):DT key l=6:=by
 unfold DT;rw[if_neg (by omega),if_pos h]
theorem XT(h1:key.length=32)(h2:l.length=22)(h:(DR key (l.take 6)).take 16=l.drop 6):DT key l=M0 (l.getD 0 0) (l.getD 1 0) (Ac l 2):=by
 unfold DT;rw[if_neg (by omega),if_neg (λg=>g h)]
theorem To(h:DT key l=0):Mp key l=tkA (l.getD 0 0) (l.getD 1 0) (Ac l 2):=if_pos h
theorem Ie(h:¬ DT key l=0):Mp key l=tkA 0 0 0:=if_neg h
theorem RE(l:List Int):Ac (l.take 6) 2=Ac l 2:=by
 unfold Ac;rw[Bk _ _ _ (by omega),Bk _ _ _ (by omega),Bk _ _ _ (by omega),Bk _ _ _ (by omega)]
theorem UV(vk vb:Value)(key l:List Int)(w:World)(hk:Sl w vk key)(hb:Sl w vb l)(ht:AE w) :
  Calls prog 151 #[vk,vb] w λe w'=>e=.returned (.tuple #[.agg (Mp key l),.int .i64 (DT key l)])/\Bw w w':=by
 have lk:=hk.len;have ll:=hb.len;obtain⟨ak,ck,rfl⟩:=hk.shape;obtain⟨ab,cb,rfl⟩:=hb.shape;have bb:Bw w (w.alloc (.cells (tkA 0 0 0) 33)):=(Below.refl _ _).alloc (A' _) _;have rr:=heap_alloc_new w (.cells (tkA 0 0 0) 33);have hi0:=It 0 0 0;by_cases h1:key.length=32
 .by_cases h2:l.length=22
  .have H1:Hid (key.length=32):=h1;have H2:Hid (l.length=22):=h2;rw[h1]at hk ⊢
   rw[h2]at hb ⊢
   clear lk ll h1 h2;have hW:w.alloc (.cells #[.int .i64 0,.int .i64 0,.int .i64 0] 33)=w.alloc (.cells (tkA 0 0 0) 33):=rfl;generalize w.alloc (.cells (tkA 0 0 0) 33)=W at bb rr hW;obtain⟨a6,c6,r6',s6⟩:=hb.upTo 6 (by have:=H2.out;omega);have r6:∀ W,(Instr.slice 28 (.slice ab 22 cb) none (some (.int .i64 6)) none).run prog W=.ok (.slice a6 6 c6) W:=r6';obtain⟨a7,c7,r7',s7⟩:=hb.from 6 (by have:=H2.out;omega);have r7:∀ W,(Instr.slice 28 (.slice ab 22 cb) (some (.int .i64 6)) none none).run prog W=.ok (.slice a7 16 c7) W:=r7';clear r6' r7';have L6:Hid ((l.take 6).length=6):=by unfold Hid;rw[iO,H2.out];rfl
   go_enter func151,ntmps151
   go_wp2_with fail
   clear hW;refine(Qs _ _ key (l.take 6) W (hk.below bb) (s6.below bb) (by rw[H1.out];omega) (by rw[L6.out];omega) (ht.below bb)).mono ?_;rintro e w1 ⟨v1,rfl,s1,b1⟩;have d1:=bb.trans (b1.mono bb.size);have q1:=(b1.block w.heap.size (H'.1 rr).1).trans rr;have s71:=s7.below d1;clear b1 bb rr;go_wp2_with fail
   refine(Ih v1 (.slice a7 16 c7) _ _ w1 s1 s71).mono ?_;rintro e w2 ⟨rfl,m,rfl⟩;have d2:Bw w (w1.drewN m):=Ao d1 m;have q2:(w1.drewN m).heap[w.heap.size]?=some (.cells (tkA 0 0 0) 33):=q1;clear q1 d1 s1 s71;generalize w1.drewN m=W2 at d2 q2 ⊢;by_cases h3:(DR key (l.take 6)).take 16=l.drop 6
   .have HE:=XT H1.out H2.out h3;have HV0:Hid (DT key l=0->Mp key l=tkA (l.getD 0 0) (l.getD 1 0) (Ac l 2)):=To;have HV1:Hid (¬ DT key l=0->Mp key l=tkA 0 0 0):=Ie;have HX:Hid ((l.take 6).getD 0 0=l.getD 0 0/\(l.take 6).getD 1 0=l.getD 1 0/\Ac (l.take 6) 2=Ac l 2):=⟨Bk _ _ _ (by omega),Bk _ _ _ (by omega),RE l⟩;rw[I' h3];clear h3;go_wp2_with fail
    refine(Qx (.slice a6 6 c6) (l.take 6) W2 (s6.below d2) (by rw[L6.out];omega)).mono ?_;rintro e w3 ⟨rfl,b3⟩;rw[HX.out.1,HX.out.2.1,HX.out.2.2];have d3:=d2.trans (b3.mono d2.size);have q3:=(b3.block w.heap.size (H'.1 q2).1).trans q2;clear b3 q2 d2 HX;generalize l.getD 0 0=c at HE HV0 ⊢;generalize l.getD 1 0=r at HE HV0 ⊢;generalize Ac l 2=u at HE HV0 ⊢;have hi:=It c r u;have b4:Bw w3 (w3.alloc (.cells (tkA 0 0 0) 33)):=(Below.refl _ _).alloc (A' _) _;have r4:=heap_alloc_new w3 (.cells (tkA 0 0 0) 33);have hW:w3.alloc (.cells #[.int .i64 0,.int .i64 0,.int .i64 0] 33)=w3.alloc (.cells (tkA 0 0 0) 33):=rfl;generalize w3.alloc (.cells (tkA 0 0 0) 33)=W4 at b4 r4 hW;have lt3:w.heap.size<w3.heap.size:=(H'.1 q3).1
    go_upto_region 10 with(refine wpList_store_row rfl 33 (.tmp 9) (.tmp 38) rfl w3.heap.size (tkA c r u) rfl rfl 33 _ r4 hi rfl (Is c r u) ?_)
    clear hW;have q4:=setRow_heap W4 w3.heap.size _ (tkA c r u) 33 _ r4;replace q3:=((b4.block w.heap.size lt3).trans q3);replace q3:=(setRow_other W4 w3.heap.size w.heap.size (tkA c r u) (by omega)).trans q3;have d4:=Ce (d3.trans (b4.mono d3.size)) (show w.heap.size<=w3.heap.size by omega) (tkA c r u);generalize W4.setRow w3.heap.size (tkA c r u)=W5 at q3 q4 d4 ⊢;clear r4 b4 d3;generalize w3.heap.size=G at q4 lt3 ⊢;go_wp2_with (refine wpList_load_row rfl 33 _ rfl G rfl 33 _ (0,0) _ q4 underlying33 rfl hi ?_)
    refine(IG c r u W5).mono ?_;rintro e w6 ⟨rfl,b6⟩;have d6:=d4.trans (b6.mono d4.size);replace q3:=(b6.block w.heap.size (H'.1 q3).1).trans q3;replace q4:=(b6.block G (H'.1 q4).1).trans q4;clear b6 d4;by_cases h4:Dk c r u
    .have HZ:Hid (DT key l=0):=HE.trans (Ki h4);have HV:Hid (Mp key l=tkA c r u):=HV0.out HZ.out;rw[I' h4];clear HE HV0 HV1 h4;go_wp2_with (first|(refine wpList_load_row rfl 33 _ rfl G rfl 33 _ (0,0) _ q4 underlying33 rfl hi ?_)|(refine wpList_store_row rfl 33 (.tmp 4) (.tmp 43) rfl w.heap.size (tkA c r u) rfl rfl 33 _ q3 hi rfl (Is c r u) ?_))
     have r2:=setRow_heap w6 w.heap.size _ (tkA c r u) 33 _ q3;refine bodyPost_ret (Js rfl _ _ w.heap.size 33 _ (0,0) _ rfl r2 underlying33 rfl hi) rfl ?_;rw[HZ.out,HV.out];exact⟨rfl,Ce d6 (A' _) _⟩
    .have HZ:Hid (DT key l=2):=HE.trans (T1 h4);have HV:Hid (Mp key l=tkA 0 0 0):=HV1.out (by rw[HZ.out];omega);rw[D' h4];clear HE HV0 HV1 h4;go_wp2_with (refine wpList_store_row rfl 33 (.tmp 4) (.tmp 42) rfl w.heap.size (tkA 0 0 0) rfl rfl 33 _ q3 hi0 rfl (Is 0 0 0) ?_)
     have r2:=setRow_heap w6 w.heap.size _ (tkA 0 0 0) 33 _ q3;refine bodyPost_ret (Js rfl _ _ w.heap.size 33 _ (0,0) _ rfl r2 underlying33 rfl hi0) rfl ?_;rw[HZ.out,HV.out];exact⟨rfl,Ce d6 (A' _) _⟩
   .have HZ:Hid (DT key l=6):=XS H1.out H2.out h3;have HV:Hid (Mp key l=tkA 0 0 0):=Ie (by rw[HZ.out];omega);rw[D' h3];clear h3;go_wp2_with (refine wpList_store_row rfl 33 (.tmp 4) (.tmp 36) rfl w.heap.size (tkA 0 0 0) rfl rfl 33 _ q2 hi0 rfl (Is 0 0 0) ?_)
    have r2:=setRow_heap W2 w.heap.size _ (tkA 0 0 0) 33 _ q2;refine bodyPost_ret (Js rfl _ _ w.heap.size 33 _ (0,0) _ rfl r2 underlying33 rfl hi0) rfl ?_;rw[HZ.out,HV.out];exact⟨rfl,Ce d2 (A' _) _⟩
  .have h2':¬ (l.length:Int)=22:=by omega
   have HZ:Hid (DT key l=1):=Nk (.inr h2);have HV:Hid (Mp key l=tkA 0 0 0):=Ie (by rw[HZ.out];omega);rw[h1]at hk ⊢
   clear h1;go_enter func151,ntmps151
   go_wp2
   refine bodyPost_ret (Js rfl _ _ w.heap.size 33 _ (0,0) _ rfl (heap_alloc_new _ _) underlying33 rfl hi0) rfl ?_;rw[HZ.out,HV.out];exact⟨rfl,bb⟩
 .have h1':¬ (key.length:Int)=32:=by omega
  have HZ:Hid (DT key l=1):=Nk (.inl h1);have HV:Hid (Mp key l=tkA 0 0 0):=Ie (by rw[HZ.out];omega);go_enter func151,ntmps151
  go_wp2
  refine bodyPost_ret (Js rfl _ _ w.heap.size 33 _ (0,0) _ rfl (heap_alloc_new _ _) underlying33 rfl hi0) rfl ?_;rw[HZ.out,HV.out];exact⟨rfl,bb⟩
end
end
section
section
def PM(l:List Int):Int:=if l=[]then 13 else if 7<l.getD 0 0 then 2 else Co (Gr (l.getD 0 0)) 0 0 noB (l.drop 1)
def On(l:List Int):List Int:=if PM l=0 then J8 (Gr (l.getD 0 0)) (l.drop 1)else[]
def unT(l:List Int):List Int:=(On l).take 22
def unQ(l:List Int):List Int:=(On l).drop 22
def unB(l:List Int):Prop:=PM l=0/\(On l).length=42/\DT Gq (unT l)=0
instance (l:List Int):Decidable (unB l):=by unfold unB;exact inferInstance
def unE(l:List Int):Int:=if PM l≠0 then PM l else if(On l).length≠42 then 3 else if DT Gq (unT l)≠0 then DT Gq (unT l)else Cj (unQ l)
variable{l:List Int}{now:Int}
theorem YF(h:unE l=0):unB l/\Cj (unQ l)=0:=by
 unfold unE at h;split at h
 .rename_i g;exact absurd h g
 .rename_i g1
  split at h
  .cases h
  .rename_i g2
   split at h
   .rename_i g;exact absurd h g
   .rename_i g3
    exact⟨⟨iY.1 g1,iY.1 g2,iY.1 g3⟩,h⟩
theorem gX(h:unE l=0):0<l.length:=by
 obtain⟨⟨h1,_⟩,_⟩:=YF h;cases l with
 | nil=>cases h1
 | cons x r=>simp
def opE(l:List Int)(now:Int):Int :=
 if unE l≠0 then unE l
 else if Ac (unQ l) 0≠0/\Ac (unQ l) 4≠l.getD 0 0 then 11
 else Ez ((unT l).getD 0 0) ((unT l).getD 1 0) (Ac (unT l) 2) (Ac (unQ l) 0) (Ac (unQ l) 4) (Ac (unQ l) 8) (Ac (unQ l) 12) (Ac (unQ l) 16) now
def opA(l:List Int)(now:Int):Array Value:=if opE l now=0 then cmA (Ac (unQ l) 0) (Ac (unQ l) 4) (Ac (unQ l) 8) (Ac (unQ l) 12) (Ac (unQ l) 16)else cmA 0 0 0 0 0
theorem Om(h:opE l now≠0):opA l now=cmA 0 0 0 0 0:=if_neg h
theorem XC(h:opE l now=0):opA l now=cmA (Ac (unQ l) 0) (Ac (unQ l) 4) (Ac (unQ l) 8) (Ac (unQ l) 12) (Ac (unQ l) 16):=if_pos h
end
end
end Go.Proofs.YtalbmmghmoggcadGreatDoor
