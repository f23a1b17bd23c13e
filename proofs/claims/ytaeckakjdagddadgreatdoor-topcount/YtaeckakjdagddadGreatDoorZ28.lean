/- Part 28 of the walk. -/
import Derived.Laws.OwnMore
import Derived.Maps.AppendAt
import Derived.Test.YtaeckakjdagddadGreatDoorZ27
import Derived.Test.YtaeckakjdagddadGreatDoorZ21
set_option maxRecDepth 100000
set_option maxHeartbeats 4000000
open Go.Proofs.Tryz
set_option linter.unusedVariables false
namespace Go.Proofs.YtaeckakjdagddadGreatDoor
section
open Go.RowKit
theorem Vd(vk vn:Value)(key nonce:List Int)(x:Int)(c:Nat)(hx:x=(c:Int))(w:World)(hk:Sl w vk key)(hn:Sl w vn nonce)(lk:key.length=32)(ln:nonce.length=12)(hc:c≤1073741824)(ht:Ci w) :
  Calls prog 180 #[vk,.int .i64 x,vn] w fun e w'=>∃ v',e=.returned (.tuple #[v',.int .i64 0])∧Got w w' v' (BV (Bu key (BitVec.ofNat 32 c) nonce)):=by
 subst hx;exact Ve vk vn key nonce c w hk hn lk ln hc ht
theorem NA(vk vn va vs:Value)(key nonce a s:List Int)(w:World)(hk:Sl w vk key)(hn:Sl w vn nonce)(ha:Sl w va a)(hs:Sl w vs s)(lk:key.length=32)(ln:nonce.length=12)(la:a.length≤256)(ls:s.length≤2000)(ht:Ci w) :
  Calls prog 163 #[vk,vn,va,vs] w fun e w'=>∃ v',e=.returned (.tuple #[v',.int .i64 0])∧Sl w' v' (D7 key nonce a s)∧Bw w w':=by
 have HT:Hid (D7 key nonce a s=Uz ((BV (Bu key (BitVec.ofNat 32 0) nonce)).take 32) (Fl a s)):=rfl;have hll:(Fl a s).length≤4000:=by rw[GX];have:=Gs a.length;have:=Gs s.length;omega
 go_enter func163,ntmps163
 go_wp2_with fail
 refine(Vd vk vn key nonce 0 0 rfl w hk hn lk ln (by omega) ht).mono ?_;rintro e w1 ⟨vb,rfl,g1⟩;have sb:=g1.sl;have b1:=g1.bel;clear g1;have hbl:=DS (Bu key (BitVec.ofNat 32 0) nonce);generalize BV (Bu key (BitVec.ofNat 32 0) nonce)=bs at HT sb hbl;obtain⟨ab,cb,rfl⟩:=sb.shape;rw[hbl]at sb ⊢
 obtain⟨a1,c1,hc1',s1⟩:=sb.upTo 32 (by omega);have hc1:∀ W,(Instr.slice 40 (.slice ab 64 cb) none (some (.int .i64 32)) none).run prog W=.ok (.slice a1 32 c1) W:=hc1';have lt:(bs.take 32).length=32:=by rw[List.length_take];omega
 generalize bs.take 32=K at HT s1 lt;have ha1:=ha.below b1;have hs1:=hs.below b1;clear hc1' sb hbl;have la2:a.length≤10000:=by omega
 have ls2:s.length≤10000:=by omega
 have HLA:Hid (a.length≤10000):=la2;have HLS:Hid (s.length≤10000):=ls2;have HLL:Hid ((Fl a s).length≤4000):=hll;clear la ls la2 ls2 hll hk hn ha hs lk ln;go_wp2_with fail
 go_region_with (first
  | (go_at_call 182;refine(Wk _ _ a s _ (ha1.below ((Below.refl _ _).drew)) (hs1.below ((Below.refl _ _).drew)) HLA.out HLS.out).mono ?_;rintro e w2 ⟨v2,rfl,s2,hb2⟩)
  | (go_at_call 181;refine(dK _ _ K _ _ (s1.below ((Below.refl _ _).drew.trans hb2)) s2 lt HLL.out).mono ?_;rintro e w3 ⟨v3,rfl,s3,hb3⟩))
 all_goals
  go_wp2
  go_ret2
  refine⟨v3,rfl,?_,?_⟩
  ·rw[HT.out];exact s3
  ·have b2:Bw w w2:=b1.trans (((Below.refl _ _).drew.trans hb2).mono b1.size);exact b2.trans (hb3.mono b2.size)
theorem OM(vk vn vd:Value)(key nonce d:List Int)(w:World)(hk:Sl w vk key)(hn:Sl w vn nonce)(hd:Sl w vd d)(lk:key.length=32)(ln:nonce.length=12)(ld:d.length≤2000)(ht:Ci w) :
  Calls prog 164 #[vk,.int .i64 1,vn,vd] w fun e w'=>∃ v',e=.returned (.tuple #[v',.int .i64 0])∧w'.ownsRow w.heap.size 5 1 v' (DM key nonce d).length ((DM key nonce d).map (Value.int .u8))∧Bw w w' :=
 YX vk vn vd key nonce d 1 w hk hn hd lk ln (by omega) ld ht
theorem ED{w w':World}{base e:Nat}{v:Value}{n:Nat}{xs:List Value}(h:w.ownsRow base e 1 v n xs)(hb:Bw w w'):w'.ownsRow base e 1 v n xs :=
 Eo h fun k hk=>hb.block k (h.lt k hk).2
theorem Il{key nonce a:List Int}(h:FP key nonce a=true):key.length=32∧nonce.length=12∧a.length≤256:=by
 unfold FP at h;simp at h;omega
theorem ZJ(vk vn va vp:Value)(key nonce a p:List Int)(w:World)(hk:Sl w vk key)(hn:Sl w vn nonce)(ha:Sl w va a)(hp:Sl w vp p)(hf:FP key nonce a=true)(lp:p.length≤2000)(ht:Ci w) :
  Calls prog 140 #[vk,vn,va,vp] w fun e w'=>∃ v',e=.returned (.tuple #[v',.int .i64 0])∧Sl w' v' (IY key nonce a p)∧Bw w w':=by
 obtain⟨lk,ln,la⟩:=Il hf;have hpos:=ht.pos;have HS:Hid (IY key nonce a p=DM key nonce p++D7 key nonce a (DM key nonce p)):=rfl;have hxl:=EL key nonce p;have hxb:∀ x∈DM key nonce p,0≤x∧x<256:=Iq _ hp.byte;have hpl:¬ (2000:Int)<(p.length:Int):=by omega
 obtain⟨ap,cp,rfl⟩:=hp.shape;go_enter func140,ntmps140
 go_wp2_with fail
 refine(FI vk vn va key nonce a w hk hn ha).mono ?_;rintro e w0 ⟨rfl,rfl⟩;rw[hf];go_wp2_with fail
 refine(OM vk vn _ key nonce p w0 hk hn hp lk ln lp ht).mono ?_;rintro e w1 ⟨vx,rfl,o1,b1⟩;generalize DM key nonce p=X at HS hxl hxb o1;have s1:Sl w1 vx X:=Sl.ofOwns o1 (by omega) hxb;go_wp2_with fail
 refine(NA vk vn va vx key nonce a X w1 (hk.below b1) (hn.below b1) (ha.below b1) s1 lk ln la (by omega) (ht.below hpos b1)).mono ?_;rintro e w2 ⟨vt,rfl,s2,b2⟩;have o2:=ED o1 b2;have hlt:=o2.lt;have hB2:Bw w0 w2:=b1.trans (b2.mono b1.size);have htl:=Hr key nonce a X;have htb:=KQ key nonce a X;generalize D7 key nonce a X=T at HS s2 htl htb;have hX2:X.length≤2000:=by omega
 clear hxl o1 s1 b1 b2 hk hn ha hp;go_wp2_with (at_builtin;refine Aa _ rfl _ _ 40 rfl w0.heap.size 5 underlying40 As _ _ rfl rfl X T o2 s2 (by omega) hB2.size ?_)
 intro v3 w3 ho3 hg3;replace ho3:w3.ownsRow w0.heap.size 5 1 v3 (X++T).length ((X++T).map (Value.int .u8)):=by simpa[htl]using ho3
 have b3:Bw w0 w3:=hB2.grown hg3 hB2.size (fun k hk=>(hlt k hk).1);go_wp2
 go_ret2
 refine⟨v3,rfl,?_,b3⟩;rw[HS.out];refine Sl.ofOwns ho3 (by rw[List.length_append];omega) ?_;intro x hx;rcases List.mem_append.1 hx with h|h
 ·exact hxb x h
 ·exact htb x h
def D1(key nonce a d:List Int):Int :=
 if FP key nonce a=true∧d.length≤2016 then(if d.length<16 then 13 else if D7 key nonce a (d.take (d.length-16))=d.drop (d.length-16)then 0 else 6)else 1
def OZ(key nonce a d:List Int):List Int:=if D1 key nonce a d=0 then DM key nonce (d.take (d.length-16))else[]
theorem Zi(vk vn va vd:Value)(key nonce a d:List Int)(w:World)(hk:Sl w vk key)(hn:Sl w vn nonce)(ha:Sl w va a)(hd:Sl w vd d)(hno:FP key nonce a=false∨2016<d.length) :
  Calls prog 131 #[vk,vn,va,vd] w fun e w'=>e=.returned (.tuple #[.slice none 0 0,.int .i64 1])∧w'=w:=by
 have h1:=hd.len;obtain⟨ap,cp,rfl⟩:=hd.shape;by_cases hf:FP key nonce a=true
 ·have hpl:(2016:Int)<(d.length:Int):=by
   rcases hno with h|h
   ·rw[hf]at h;cases h
   ·omega
  go_enter func131,ntmps131
  go_wp2_with fail
  refine(FI vk vn va key nonce a w hk hn ha).mono ?_;rintro e w0 ⟨rfl,rfl⟩;rw[hf];go_wp2
  go_ret2
  exact⟨rfl,rfl⟩
 ·rw[Bool.not_eq_true]at hf
  go_enter func131,ntmps131
  go_wp2_with fail
  refine(FI vk vn va key nonce a w hk hn ha).mono ?_;rintro e w0 ⟨rfl,rfl⟩;rw[hf];go_wp2
  go_ret2
  exact⟨rfl,rfl⟩
theorem QW(vk vn va vd:Value)(key nonce a d:List Int)(w:World)(hk:Sl w vk key)(hn:Sl w vn nonce)(ha:Sl w va a)(hd:Sl w vd d)(hf:FP key nonce a=true)(hs:d.length<16) :
  Calls prog 131 #[vk,vn,va,vd] w fun e w'=>e=.returned (.tuple #[.slice none 0 0,.int .i64 13])∧w'=w:=by
 obtain⟨ap,cp,rfl⟩:=hd.shape;have hpl:(d.length:Int)<16:=by omega
 go_enter func131,ntmps131
 go_wp2_with fail
 refine(FI vk vn va key nonce a w hk hn ha).mono ?_;rintro e w0 ⟨rfl,rfl⟩;rw[hf];go_wp2
 go_ret2
 exact⟨rfl,rfl⟩
theorem WK(vk vn va vd:Value)(key nonce a d:List Int)(w:World)(hk:Sl w vk key)(hn:Sl w vn nonce)(ha:Sl w va a)(hd:Sl w vd d)(hf:FP key nonce a=true)(m:Nat)(hm:d.length=m+16)(hl:m≤2000)(ht:Ci w)(hq:D7 key nonce a (d.take m)≠d.drop m) :
  Calls prog 131 #[vk,vn,va,vd] w fun e w'=>e=.returned (.tuple #[.slice none 0 0,.int .i64 6])∧Bw w w':=by
 obtain⟨lk,ln,la⟩:=Il hf;have hpos:=ht.pos;have hyd:=hd.byte;obtain⟨ad,cd,rfl⟩:=hd.shape;rw[hm]at hd ⊢
 obtain⟨a1,c1,hc1,s1⟩:=hd.upTo m (by omega);obtain⟨a2,c2,hc2,s2⟩:=hd.from m (by omega);rw[Nat.add_sub_cancel_left]at hc2 s2
 have l1:(d.take m).length=m:=by rw[List.length_take];omega
 have y1:∀ x∈d.take m,0≤x∧x<256:=fun x hx=>hyd x (List.mem_of_mem_take hx);have HQ:Hid (D7 key nonce a (d.take m)≠d.drop m):=hq;clear hq;generalize d.take m=D at s1 l1 y1 HQ ⊢;generalize d.drop m=L at s2 HQ;have HL1:Hid (D.length=m):=l1;clear hd hm hyd l1;go_enter func131,ntmps131
 go_wp2_with fail
 refine(FI vk vn va key nonce a w hk hn ha).mono ?_;rintro e w0 ⟨rfl,rfl⟩;rw[hf];go_wp2_with fail
 go_quiet (fail)
 have e1:Bw w0 (w0.drewN nq):=An (Below.refl _ _) nq;generalize w0.drewN nq=w1 at e1 ⊢;replace hk:=hk.below e1;replace hn:=hn.below e1;replace ha:=ha.below e1;replace s1:=s1.below e1;replace s2:=s2.below e1;replace ht:=ht.below hpos e1;clear hc1 hc2;go_wp2_with fail
 refine(NA vk vn va _ key nonce a D w1 hk hn ha s1 lk ln la (by have:=HL1.out;omega) ht).mono ?_;rintro e w2 ⟨vt,rfl,st,b2⟩;go_wp2_with fail
 refine(Hm vt _ (D7 key nonce a D) L w2 st (s2.below b2)).mono ?_;rintro e w3 ⟨rfl,n3,rfl⟩;have e2:Bw w2 (w2.drewN n3):=An (Below.refl _ _) n3;have e3:Bw w0 (w2.drewN n3):=e1.trans ((b2.trans (e2.mono b2.size)).mono e1.size);rw[decide_eq_false HQ.out];go_wp2
 go_ret2
 exact⟨rfl,e3⟩
theorem Zj(vk vn va vd:Value)(key nonce a d:List Int)(w:World)(hk:Sl w vk key)(hn:Sl w vn nonce)(ha:Sl w va a)(hd:Sl w vd d)(hf:FP key nonce a=true)(m:Nat)(hm:d.length=m+16)(hl:m≤2000)(ht:Ci w)(hq:D7 key nonce a (d.take m)=d.drop m) :
  Calls prog 131 #[vk,vn,va,vd] w fun e w'=>∃ v',e=.returned (.tuple #[v',.int .i64 0])∧Sl w' v' (DM key nonce (d.take m))∧Bw w w':=by
 obtain⟨lk,ln,la⟩:=Il hf;have hpos:=ht.pos;have hyd:=hd.byte;obtain⟨ad,cd,rfl⟩:=hd.shape;rw[hm]at hd ⊢
 obtain⟨a1,c1,hc1,s1⟩:=hd.upTo m (by omega);obtain⟨a2,c2,hc2,s2⟩:=hd.from m (by omega);rw[Nat.add_sub_cancel_left]at hc2 s2
 have l1:(d.take m).length=m:=by rw[List.length_take];omega
 have y1:∀ x∈d.take m,0≤x∧x<256:=fun x hx=>hyd x (List.mem_of_mem_take hx);have HQ:Hid (D7 key nonce a (d.take m)=d.drop m):=hq;clear hq;generalize d.take m=D at s1 l1 y1 HQ ⊢;generalize d.drop m=L at s2 HQ;have HL1:Hid (D.length=m):=l1;clear hd hm hyd l1;go_enter func131,ntmps131
 go_wp2_with fail
 refine(FI vk vn va key nonce a w hk hn ha).mono ?_;rintro e w0 ⟨rfl,rfl⟩;rw[hf];go_wp2_with fail
 go_quiet (fail)
 have e1:Bw w0 (w0.drewN nq):=An (Below.refl _ _) nq;generalize w0.drewN nq=w1 at e1 ⊢;replace hk:=hk.below e1;replace hn:=hn.below e1;replace ha:=ha.below e1;replace s1:=s1.below e1;replace s2:=s2.below e1;replace ht:=ht.below hpos e1;clear hc1 hc2;go_wp2_with fail
 refine(NA vk vn va _ key nonce a D w1 hk hn ha s1 lk ln la (by have:=HL1.out;omega) ht).mono ?_;rintro e w2 ⟨vt,rfl,st,b2⟩;go_wp2_with fail
 refine(Hm vt _ (D7 key nonce a D) L w2 st (s2.below b2)).mono ?_;rintro e w3 ⟨rfl,n3,rfl⟩;have e2:Bw w2 (w2.drewN n3):=An (Below.refl _ _) n3;have e3:Bw w0 (w2.drewN n3):=e1.trans ((b2.trans (e2.mono b2.size)).mono e1.size);rw[decide_eq_true HQ.out];have hB:Bw w1 (w2.drewN n3):=b2.trans (e2.mono b2.size);replace hk:=hk.below hB;replace hn:=hn.below hB;replace s1:=s1.below hB;replace ht:=ht.below (Nat.lt_of_lt_of_le hpos e1.size) hB;have hxl:=EL key nonce D;have hxb:∀ x∈DM key nonce D,0≤x∧x<256:=Iq _ y1;clear s2 st ha e2 b2;generalize w2.drewN n3=w3 at hk hn s1 ht e3 hB ⊢;go_wp2_with fail
 refine(OM vk vn _ key nonce D w3 hk hn s1 lk ln (by have:=HL1.out;omega) ht).mono ?_;rintro e w4 ⟨vx,rfl,o4,b4⟩;have s4:Sl w4 vx (DM key nonce D):=Sl.ofOwns o4 (by have:=HL1.out;omega) hxb;have e4:Bw w0 w4:=e3.trans (b4.mono e3.size);clear o4 hxb;go_wp2
 go_ret2
 exact⟨vx,rfl,s4,e4⟩
theorem WJ(vk vn va vd:Value)(key nonce a d:List Int)(w:World)(hk:Sl w vk key)(hn:Sl w vn nonce)(ha:Sl w va a)(hd:Sl w vd d)(ht:Ci w) :
  Calls prog 131 #[vk,vn,va,vd] w fun e w'=>∃ v',e=.returned (.tuple #[v',.int .i64 (D1 key nonce a d)])∧Sl w' v' (OZ key nonce a d)∧Bw w w':=by
 unfold OZ;by_cases h:FP key nonce a=true∧d.length≤2016
 ·by_cases h16:d.length<16
  ·have hE:D1 key nonce a d=13:=by unfold D1;rw[if_pos h,if_pos h16]
   rw[hE,if_neg (by omega)];refine(QW vk vn va vd key nonce a d w hk hn ha hd h.1 h16).mono ?_;rintro e w1 ⟨rfl,rfl⟩;exact⟨_,rfl,Sl.nil _ _,Below.refl _ _⟩
  ·by_cases hq:D7 key nonce a (d.take (d.length-16))=d.drop (d.length-16)
   ·have hE:D1 key nonce a d=0:=by unfold D1;rw[if_pos h,if_neg h16,if_pos hq]
    rw[hE,if_pos rfl];exact Zj vk vn va vd key nonce a d w hk hn ha hd h.1 (d.length-16) (by omega) (by omega) ht hq
   ·have hE:D1 key nonce a d=6:=by unfold D1;rw[if_pos h,if_neg h16,if_neg hq]
    rw[hE,if_neg (by omega)];refine(WK vk vn va vd key nonce a d w hk hn ha hd h.1 (d.length-16) (by omega) (by omega) ht hq).mono ?_;rintro e w1 ⟨rfl,b⟩;exact⟨_,rfl,Sl.nil _ _,b⟩
 ·have hE:D1 key nonce a d=1:=by unfold D1;rw[if_neg h]
  rw[hE,if_neg (by omega)];refine(Zi vk vn va vd key nonce a d w hk hn ha hd ?_).mono ?_
  ·by_cases hf:FP key nonce a=true
   ·exact .inr (by have:¬ d.length≤2016:=fun hp=>h ⟨hf,hp⟩;omega)
   ·exact .inl (by simpa using hf)
  ·rintro e w1 ⟨rfl,rfl⟩;exact⟨_,rfl,Sl.nil _ _,Below.refl _ _⟩
theorem R1(key nonce:List Int){p:List Int}(hp:∀ x∈p,0≤x∧x<256):∀ x∈DM key nonce p,0≤x∧x<256:=Iq _ hp
theorem Rv(key nonce a:List Int){p:List Int}(hp:∀ x∈p,0≤x∧x<256):∀ x∈IY key nonce a p,0≤x∧x<256:=by
 intro x hx;rcases List.mem_append.1 hx with h|h
 ·exact R1 key nonce hp x h
 ·exact KQ _ _ _ _ x h
theorem Y8{key nonce a:List Int}(lk:key.length=32)(ln:nonce.length=12)(la:a.length≤256):FP key nonce a=true:=by
 unfold FP;simp;omega
end
section
def Js(key:List Int)(n:Int)(p:List Int):List Int:=Ag n++IY key (Bb (Ag n)) (Ag n) p
theorem Fu(key:List Int)(n:Int)(p:List Int):(Js key n p).length=p.length+20:=by
 rw[Js,List.length_append,BR,Ho];omega
theorem Ui(key:List Int)(n:Int){p:List Int}(hp:∀ x∈p,0≤x∧x<256):∀ x∈Js key n p,0≤x∧x<256:=by
 intro x hx;rcases List.mem_append.1 hx with h|h
 ·exact AM n x h
 ·exact Rv _ _ _ hp x h
def D5(key:List Int)(s t:Int)(l:List Bool)(p:List Int):Int:=if ¬ OkC key s t l then 5 else if 2000<p.length then 1 else if s=1073741824 then 8 else 0
def BT(key:List Int)(s t:Int)(l:List Bool)(r:List Int):Int :=
 if ¬ OkC key s t l then 5 else if 2020<r.length then 1 else if r.length<20 then 13 else if 1073741824≤EB (r.take 4)then 2 else if Gw t l (EB (r.take 4))=true then 7
 else D1 key (Bb (r.take 4)) (r.take 4) (r.drop 4)
def Je(key:List Int)(r:List Int):List Int:=OZ key (Bb (r.take 4)) (r.take 4) (r.drop 4)
end
section
open Go.RowKit
structure Bt(w:World)(g:Nat)(c r u:Int):Prop where
 lt:g<w.heap.size
 row:w.heap[g]?=some (.cells (tkA c r u) 54)
theorem Bt.made(w:World)(c r u:Int):Bt (w.alloc (.cells (tkA c r u) 54)) w.heap.size c r u:=⟨by simp,heap_alloc_new _ _⟩
theorem Bt.below{w w':World}{g:Nat}{c r u:Int}(h:Bt w g c r u)(hb:Bw w w'):Bt w' g c r u :=
 ⟨Nat.lt_of_lt_of_le h.lt hb.size,(hb.block g h.lt).trans h.row⟩
theorem Hx(c r u:Int):(prog.info? 54).map (·.size)=some (tkA c r u).size:=by show _=some 3;kernel_rfl
theorem I5{w:World}{g:Nat}{c r u:Int}{ty:TypeId}{fr:Nat × Nat}(h:w.heap[g]?=some (.cells (tkA c r u) ty fr)) :
  w.cell? ⟨g,0,none⟩=some (.int .i64 c)∧w.cell? ⟨g,1,none⟩=some (.int .i64 r)∧w.cell? ⟨g,2,none⟩=some (.int .i64 u) :=
 ⟨cell_of_row _ _ 0 _ _ _ h,cell_of_row _ _ 1 _ _ _ h,cell_of_row _ _ 2 _ _ _ h⟩
end
end Go.Proofs.YtaeckakjdagddadGreatDoor
