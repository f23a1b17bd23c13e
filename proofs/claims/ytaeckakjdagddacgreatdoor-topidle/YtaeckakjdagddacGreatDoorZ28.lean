/- Part 28 of the walk. -/
import Derived.Laws.OwnMore
import Derived.Maps.AppendAt
import Derived.Test.YtaeckakjdagddacGreatDoorZ27
import Derived.Test.YtaeckakjdagddacGreatDoorZ21
set_option maxRecDepth 100000
set_option maxHeartbeats 4000000
open Go.Proofs.Tryz
set_option linter.unusedVariables false
namespace Go.Proofs.YtaeckakjdagddacGreatDoor
section
open Go.RowKit
theorem UK(vk vn:Value)(key nonce:List Int)(x:Int)(c:Nat)(hx:x=(c:Int))(w:World)(hk:Sl w vk key)(hn:Sl w vn nonce)(lk:key.length=32)(ln:nonce.length=12)(hc:c≤1073741824)(ht:Cm w) :
  Calls prog 176 #[vk,.int .i64 x,vn] w fun e w'=>∃ v',e=.returned (.tuple #[v',.int .i64 0])∧Got w w' v' (BZ (Bz key (BitVec.ofNat 32 c) nonce)):=by
 subst hx;exact UL vk vn key nonce c w hk hn lk ln hc ht
theorem Nv(vk vn va vs:Value)(key nonce a s:List Int)(w:World)(hk:Sl w vk key)(hn:Sl w vn nonce)(ha:Sl w va a)(hs:Sl w vs s)(lk:key.length=32)(ln:nonce.length=12)(la:a.length≤256)(ls:s.length≤2000)(ht:Cm w) :
  Calls prog 151 #[vk,vn,va,vs] w fun e w'=>∃ v',e=.returned (.tuple #[v',.int .i64 0])∧Sl w' v' (DC key nonce a s)∧Bw w w':=by
 have HT:Hid (DC key nonce a s=Uf ((BZ (Bz key (BitVec.ofNat 32 0) nonce)).take 32) (Ft a s)):=rfl;have hll:(Ft a s).length≤4000:=by rw[Ha];have:=Gv a.length;have:=Gv s.length;omega
 go_enter func151,ntmps151
 go_wp2_with fail
 refine(UK vk vn key nonce 0 0 rfl w hk hn lk ln (by omega) ht).mono ?_;rintro e w1 ⟨vb,rfl,g1⟩;have sb:=g1.sl;have b1:=g1.bel;clear g1;have hbl:=DW (Bz key (BitVec.ofNat 32 0) nonce);generalize BZ (Bz key (BitVec.ofNat 32 0) nonce)=bs at HT sb hbl;obtain⟨ab,cb,rfl⟩:=sb.shape;rw[hbl]at sb ⊢
 obtain⟨a1,c1,hc1',s1⟩:=sb.upTo 32 (by omega);have hc1:∀ W,(Instr.slice 34 (.slice ab 64 cb) none (some (.int .i64 32)) none).run prog W=.ok (.slice a1 32 c1) W:=hc1';have lt:(bs.take 32).length=32:=by rw[List.length_take];omega
 generalize bs.take 32=K at HT s1 lt;have ha1:=ha.below b1;have hs1:=hs.below b1;clear hc1' sb hbl;have la2:a.length≤10000:=by omega
 have ls2:s.length≤10000:=by omega
 have HLA:Hid (a.length≤10000):=la2;have HLS:Hid (s.length≤10000):=ls2;have HLL:Hid ((Ft a s).length≤4000):=hll;clear la ls la2 ls2 hll hk hn ha hs lk ln;go_wp2_with fail
 go_region_with (first
  | (go_at_call 178;refine(VP _ _ a s _ (ha1.below ((Below.refl _ _).drew)) (hs1.below ((Below.refl _ _).drew)) HLA.out HLS.out).mono ?_;rintro e w2 ⟨v2,rfl,s2,hb2⟩)
  | (go_at_call 177;refine(db _ _ K _ _ (s1.below ((Below.refl _ _).drew.trans hb2)) s2 lt HLL.out).mono ?_;rintro e w3 ⟨v3,rfl,s3,hb3⟩))
 all_goals
  go_wp2
  go_ret2
  refine⟨v3,rfl,?_,?_⟩
  ·rw[HT.out];exact s3
  ·have b2:Bw w w2:=b1.trans (((Below.refl _ _).drew.trans hb2).mono b1.size);exact b2.trans (hb3.mono b2.size)
theorem OE(vk vn vd:Value)(key nonce d:List Int)(w:World)(hk:Sl w vk key)(hn:Sl w vn nonce)(hd:Sl w vd d)(lk:key.length=32)(ln:nonce.length=12)(ld:d.length≤2000)(ht:Cm w) :
  Calls prog 150 #[vk,.int .i64 1,vn,vd] w fun e w'=>∃ v',e=.returned (.tuple #[v',.int .i64 0])∧w'.ownsRow w.heap.size 5 1 v' (DQ key nonce d).length ((DQ key nonce d).map (Value.int .u8))∧Bw w w' :=
 YB vk vn vd key nonce d 1 w hk hn hd lk ln (by omega) ld ht
theorem EH{w w':World}{base e:Nat}{v:Value}{n:Nat}{xs:List Value}(h:w.ownsRow base e 1 v n xs)(hb:Bw w w'):w'.ownsRow base e 1 v n xs :=
 Es h fun k hk=>hb.block k (h.lt k hk).2
theorem Im{key nonce a:List Int}(h:FT key nonce a=true):key.length=32∧nonce.length=12∧a.length≤256:=by
 unfold FT at h;simp at h;omega
theorem Zk(vk vn va vp:Value)(key nonce a p:List Int)(w:World)(hk:Sl w vk key)(hn:Sl w vn nonce)(ha:Sl w va a)(hp:Sl w vp p)(hf:FT key nonce a=true)(lp:p.length≤2000)(ht:Cm w) :
  Calls prog 118 #[vk,vn,va,vp] w fun e w'=>∃ v',e=.returned (.tuple #[v',.int .i64 0])∧Sl w' v' (IX key nonce a p)∧Bw w w':=by
 obtain⟨lk,ln,la⟩:=Im hf;have hpos:=ht.pos;have HS:Hid (IX key nonce a p=DQ key nonce p++DC key nonce a (DQ key nonce p)):=rfl;have hxl:=EP key nonce p;have hxb:∀ x∈DQ key nonce p,0≤x∧x<256:=Ir _ hp.byte;have hpl:¬ (2000:Int)<(p.length:Int):=by omega
 obtain⟨ap,cp,rfl⟩:=hp.shape;go_enter func118,ntmps118
 go_wp2_with fail
 refine(FN vk vn va key nonce a w hk hn ha).mono ?_;rintro e w0 ⟨rfl,rfl⟩;rw[hf];go_wp2_with fail
 refine(OE vk vn _ key nonce p w0 hk hn hp lk ln lp ht).mono ?_;rintro e w1 ⟨vx,rfl,o1,b1⟩;generalize DQ key nonce p=X at HS hxl hxb o1;have s1:Sl w1 vx X:=Sl.ofOwns o1 (by omega) hxb;go_wp2_with fail
 refine(Nv vk vn va vx key nonce a X w1 (hk.below b1) (hn.below b1) (ha.below b1) s1 lk ln la (by omega) (ht.below hpos b1)).mono ?_;rintro e w2 ⟨vt,rfl,s2,b2⟩;have o2:=EH o1 b2;have hlt:=o2.lt;have hB2:Bw w0 w2:=b1.trans (b2.mono b1.size);have htl:=Hs key nonce a X;have htb:=KL key nonce a X;generalize DC key nonce a X=T at HS s2 htl htb;have hX2:X.length≤2000:=by omega
 clear hxl o1 s1 b1 b2 hk hn ha hp;go_wp2_with (at_builtin;refine Aa _ rfl _ _ 34 rfl w0.heap.size 5 underlying34 As _ _ rfl rfl X T o2 s2 (by omega) hB2.size ?_)
 intro v3 w3 ho3 hg3;replace ho3:w3.ownsRow w0.heap.size 5 1 v3 (X++T).length ((X++T).map (Value.int .u8)):=by simpa[htl]using ho3
 have b3:Bw w0 w3:=hB2.grown hg3 hB2.size (fun k hk=>(hlt k hk).1);go_wp2
 go_ret2
 refine⟨v3,rfl,?_,b3⟩;rw[HS.out];refine Sl.ofOwns ho3 (by rw[List.length_append];omega) ?_;intro x hx;rcases List.mem_append.1 hx with h|h
 ·exact hxb x h
 ·exact htb x h
def D5(key nonce a d:List Int):Int :=
 if FT key nonce a=true∧d.length≤2016 then(if d.length<16 then 13 else if DC key nonce a (d.take (d.length-16))=d.drop (d.length-16)then 0 else 6)else 1
def OR(key nonce a d:List Int):List Int:=if D5 key nonce a d=0 then DQ key nonce (d.take (d.length-16))else[]
theorem YL(vk vn va vd:Value)(key nonce a d:List Int)(w:World)(hk:Sl w vk key)(hn:Sl w vn nonce)(ha:Sl w va a)(hd:Sl w vd d)(hno:FT key nonce a=false∨2016<d.length) :
  Calls prog 196 #[vk,vn,va,vd] w fun e w'=>e=.returned (.tuple #[.slice none 0 0,.int .i64 1])∧w'=w:=by
 have h1:=hd.len;obtain⟨ap,cp,rfl⟩:=hd.shape;by_cases hf:FT key nonce a=true
 ·have hpl:(2016:Int)<(d.length:Int):=by
   rcases hno with h|h
   ·rw[hf]at h;cases h
   ·omega
  go_enter func196,ntmps196
  go_wp2_with fail
  refine(FN vk vn va key nonce a w hk hn ha).mono ?_;rintro e w0 ⟨rfl,rfl⟩;rw[hf];go_wp2
  go_ret2
  exact⟨rfl,rfl⟩
 ·rw[Bool.not_eq_true]at hf
  go_enter func196,ntmps196
  go_wp2_with fail
  refine(FN vk vn va key nonce a w hk hn ha).mono ?_;rintro e w0 ⟨rfl,rfl⟩;rw[hf];go_wp2
  go_ret2
  exact⟨rfl,rfl⟩
theorem QO(vk vn va vd:Value)(key nonce a d:List Int)(w:World)(hk:Sl w vk key)(hn:Sl w vn nonce)(ha:Sl w va a)(hd:Sl w vd d)(hf:FT key nonce a=true)(hs:d.length<16) :
  Calls prog 196 #[vk,vn,va,vd] w fun e w'=>e=.returned (.tuple #[.slice none 0 0,.int .i64 13])∧w'=w:=by
 obtain⟨ap,cp,rfl⟩:=hd.shape;have hpl:(d.length:Int)<16:=by omega
 go_enter func196,ntmps196
 go_wp2_with fail
 refine(FN vk vn va key nonce a w hk hn ha).mono ?_;rintro e w0 ⟨rfl,rfl⟩;rw[hf];go_wp2
 go_ret2
 exact⟨rfl,rfl⟩
theorem Wp(vk vn va vd:Value)(key nonce a d:List Int)(w:World)(hk:Sl w vk key)(hn:Sl w vn nonce)(ha:Sl w va a)(hd:Sl w vd d)(hf:FT key nonce a=true)(m:Nat)(hm:d.length=m+16)(hl:m≤2000)(ht:Cm w)(hq:DC key nonce a (d.take m)≠d.drop m) :
  Calls prog 196 #[vk,vn,va,vd] w fun e w'=>e=.returned (.tuple #[.slice none 0 0,.int .i64 6])∧Bw w w':=by
 obtain⟨lk,ln,la⟩:=Im hf;have hpos:=ht.pos;have hyd:=hd.byte;obtain⟨ad,cd,rfl⟩:=hd.shape;rw[hm]at hd ⊢
 obtain⟨a1,c1,hc1,s1⟩:=hd.upTo m (by omega);obtain⟨a2,c2,hc2,s2⟩:=hd.from m (by omega);rw[Nat.add_sub_cancel_left]at hc2 s2
 have l1:(d.take m).length=m:=by rw[List.length_take];omega
 have y1:∀ x∈d.take m,0≤x∧x<256:=fun x hx=>hyd x (List.mem_of_mem_take hx);have HQ:Hid (DC key nonce a (d.take m)≠d.drop m):=hq;clear hq;generalize d.take m=D at s1 l1 y1 HQ ⊢;generalize d.drop m=L at s2 HQ;have HL1:Hid (D.length=m):=l1;clear hd hm hyd l1;go_enter func196,ntmps196
 go_wp2_with fail
 refine(FN vk vn va key nonce a w hk hn ha).mono ?_;rintro e w0 ⟨rfl,rfl⟩;rw[hf];go_wp2_with fail
 go_quiet (fail)
 have e1:Bw w0 (w0.drewN nq):=An (Below.refl _ _) nq;generalize w0.drewN nq=w1 at e1 ⊢;replace hk:=hk.below e1;replace hn:=hn.below e1;replace ha:=ha.below e1;replace s1:=s1.below e1;replace s2:=s2.below e1;replace ht:=ht.below hpos e1;clear hc1 hc2;go_wp2_with fail
 refine(Nv vk vn va _ key nonce a D w1 hk hn ha s1 lk ln la (by have:=HL1.out;omega) ht).mono ?_;rintro e w2 ⟨vt,rfl,st,b2⟩;go_wp2_with fail
 refine(Ho vt _ (DC key nonce a D) L w2 st (s2.below b2)).mono ?_;rintro e w3 ⟨rfl,n3,rfl⟩;have e2:Bw w2 (w2.drewN n3):=An (Below.refl _ _) n3;have e3:Bw w0 (w2.drewN n3):=e1.trans ((b2.trans (e2.mono b2.size)).mono e1.size);rw[decide_eq_false HQ.out];go_wp2
 go_ret2
 exact⟨rfl,e3⟩
theorem YM(vk vn va vd:Value)(key nonce a d:List Int)(w:World)(hk:Sl w vk key)(hn:Sl w vn nonce)(ha:Sl w va a)(hd:Sl w vd d)(hf:FT key nonce a=true)(m:Nat)(hm:d.length=m+16)(hl:m≤2000)(ht:Cm w)(hq:DC key nonce a (d.take m)=d.drop m) :
  Calls prog 196 #[vk,vn,va,vd] w fun e w'=>∃ v',e=.returned (.tuple #[v',.int .i64 0])∧Sl w' v' (DQ key nonce (d.take m))∧Bw w w':=by
 obtain⟨lk,ln,la⟩:=Im hf;have hpos:=ht.pos;have hyd:=hd.byte;obtain⟨ad,cd,rfl⟩:=hd.shape;rw[hm]at hd ⊢
 obtain⟨a1,c1,hc1,s1⟩:=hd.upTo m (by omega);obtain⟨a2,c2,hc2,s2⟩:=hd.from m (by omega);rw[Nat.add_sub_cancel_left]at hc2 s2
 have l1:(d.take m).length=m:=by rw[List.length_take];omega
 have y1:∀ x∈d.take m,0≤x∧x<256:=fun x hx=>hyd x (List.mem_of_mem_take hx);have HQ:Hid (DC key nonce a (d.take m)=d.drop m):=hq;clear hq;generalize d.take m=D at s1 l1 y1 HQ ⊢;generalize d.drop m=L at s2 HQ;have HL1:Hid (D.length=m):=l1;clear hd hm hyd l1;go_enter func196,ntmps196
 go_wp2_with fail
 refine(FN vk vn va key nonce a w hk hn ha).mono ?_;rintro e w0 ⟨rfl,rfl⟩;rw[hf];go_wp2_with fail
 go_quiet (fail)
 have e1:Bw w0 (w0.drewN nq):=An (Below.refl _ _) nq;generalize w0.drewN nq=w1 at e1 ⊢;replace hk:=hk.below e1;replace hn:=hn.below e1;replace ha:=ha.below e1;replace s1:=s1.below e1;replace s2:=s2.below e1;replace ht:=ht.below hpos e1;clear hc1 hc2;go_wp2_with fail
 refine(Nv vk vn va _ key nonce a D w1 hk hn ha s1 lk ln la (by have:=HL1.out;omega) ht).mono ?_;rintro e w2 ⟨vt,rfl,st,b2⟩;go_wp2_with fail
 refine(Ho vt _ (DC key nonce a D) L w2 st (s2.below b2)).mono ?_;rintro e w3 ⟨rfl,n3,rfl⟩;have e2:Bw w2 (w2.drewN n3):=An (Below.refl _ _) n3;have e3:Bw w0 (w2.drewN n3):=e1.trans ((b2.trans (e2.mono b2.size)).mono e1.size);rw[decide_eq_true HQ.out];have hB:Bw w1 (w2.drewN n3):=b2.trans (e2.mono b2.size);replace hk:=hk.below hB;replace hn:=hn.below hB;replace s1:=s1.below hB;replace ht:=ht.below (Nat.lt_of_lt_of_le hpos e1.size) hB;have hxl:=EP key nonce D;have hxb:∀ x∈DQ key nonce D,0≤x∧x<256:=Ir _ y1;clear s2 st ha e2 b2;generalize w2.drewN n3=w3 at hk hn s1 ht e3 hB ⊢;go_wp2_with fail
 refine(OE vk vn _ key nonce D w3 hk hn s1 lk ln (by have:=HL1.out;omega) ht).mono ?_;rintro e w4 ⟨vx,rfl,o4,b4⟩;have s4:Sl w4 vx (DQ key nonce D):=Sl.ofOwns o4 (by have:=HL1.out;omega) hxb;have e4:Bw w0 w4:=e3.trans (b4.mono e3.size);clear o4 hxb;go_wp2
 go_ret2
 exact⟨vx,rfl,s4,e4⟩
theorem Wo(vk vn va vd:Value)(key nonce a d:List Int)(w:World)(hk:Sl w vk key)(hn:Sl w vn nonce)(ha:Sl w va a)(hd:Sl w vd d)(ht:Cm w) :
  Calls prog 196 #[vk,vn,va,vd] w fun e w'=>∃ v',e=.returned (.tuple #[v',.int .i64 (D5 key nonce a d)])∧Sl w' v' (OR key nonce a d)∧Bw w w':=by
 unfold OR;by_cases h:FT key nonce a=true∧d.length≤2016
 ·by_cases h16:d.length<16
  ·have hE:D5 key nonce a d=13:=by unfold D5;rw[if_pos h,if_pos h16]
   rw[hE,if_neg (by omega)];refine(QO vk vn va vd key nonce a d w hk hn ha hd h.1 h16).mono ?_;rintro e w1 ⟨rfl,rfl⟩;exact⟨_,rfl,Sl.nil _ _,Below.refl _ _⟩
  ·by_cases hq:DC key nonce a (d.take (d.length-16))=d.drop (d.length-16)
   ·have hE:D5 key nonce a d=0:=by unfold D5;rw[if_pos h,if_neg h16,if_pos hq]
    rw[hE,if_pos rfl];exact YM vk vn va vd key nonce a d w hk hn ha hd h.1 (d.length-16) (by omega) (by omega) ht hq
   ·have hE:D5 key nonce a d=6:=by unfold D5;rw[if_pos h,if_neg h16,if_neg hq]
    rw[hE,if_neg (by omega)];refine(Wp vk vn va vd key nonce a d w hk hn ha hd h.1 (d.length-16) (by omega) (by omega) ht hq).mono ?_;rintro e w1 ⟨rfl,b⟩;exact⟨_,rfl,Sl.nil _ _,b⟩
 ·have hE:D5 key nonce a d=1:=by unfold D5;rw[if_neg h]
  rw[hE,if_neg (by omega)];refine(YL vk vn va vd key nonce a d w hk hn ha hd ?_).mono ?_
  ·by_cases hf:FT key nonce a=true
   ·exact .inr (by have:¬ d.length≤2016:=fun hp=>h ⟨hf,hp⟩;omega)
   ·exact .inl (by simpa using hf)
  ·rintro e w1 ⟨rfl,rfl⟩;exact⟨_,rfl,Sl.nil _ _,Below.refl _ _⟩
theorem Rp(key nonce:List Int){p:List Int}(hp:∀ x∈p,0≤x∧x<256):∀ x∈DQ key nonce p,0≤x∧x<256:=Ir _ hp
theorem Rl(key nonce a:List Int){p:List Int}(hp:∀ x∈p,0≤x∧x<256):∀ x∈IX key nonce a p,0≤x∧x<256:=by
 intro x hx;rcases List.mem_append.1 hx with h|h
 ·exact Rp key nonce hp x h
 ·exact KL _ _ _ _ x h
theorem Yn{key nonce a:List Int}(lk:key.length=32)(ln:nonce.length=12)(la:a.length≤256):FT key nonce a=true:=by
 unfold FT;simp;omega
end
section
def Jr(key:List Int)(n:Int)(p:List Int):List Int:=Ag n++IX key (Be (Ag n)) (Ag n) p
theorem F0(key:List Int)(n:Int)(p:List Int):(Jr key n p).length=p.length+20:=by
 rw[Jr,List.length_append,BU,Hp];omega
theorem TK(key:List Int)(n:Int){p:List Int}(hp:∀ x∈p,0≤x∧x<256):∀ x∈Jr key n p,0≤x∧x<256:=by
 intro x hx;rcases List.mem_append.1 hx with h|h
 ·exact AN n x h
 ·exact Rl _ _ _ hp x h
def DA(key:List Int)(s t:Int)(l:List Bool)(p:List Int):Int:=if ¬ OkC key s t l then 5 else if 2000<p.length then 1 else if s=1073741824 then 8 else 0
def BX(key:List Int)(s t:Int)(l:List Bool)(r:List Int):Int :=
 if ¬ OkC key s t l then 5 else if 2020<r.length then 1 else if r.length<20 then 13 else if 1073741824≤EF (r.take 4)then 2 else if Gz t l (EF (r.take 4))=true then 7
 else D5 key (Be (r.take 4)) (r.take 4) (r.drop 4)
def Jd(key:List Int)(r:List Int):List Int:=OR key (Be (r.take 4)) (r.take 4) (r.drop 4)
end
section
open Go.RowKit
structure Bt(w:World)(g:Nat)(c r u:Int):Prop where
 lt:g<w.heap.size
 row:w.heap[g]?=some (.cells (tkA c r u) 58)
theorem Bt.made(w:World)(c r u:Int):Bt (w.alloc (.cells (tkA c r u) 58)) w.heap.size c r u:=⟨by simp,heap_alloc_new _ _⟩
theorem Bt.below{w w':World}{g:Nat}{c r u:Int}(h:Bt w g c r u)(hb:Bw w w'):Bt w' g c r u :=
 ⟨Nat.lt_of_lt_of_le h.lt hb.size,(hb.block g h.lt).trans h.row⟩
theorem Hz(c r u:Int):(prog.info? 58).map (·.size)=some (tkA c r u).size:=by show _=some 3;kernel_rfl
theorem I6{w:World}{g:Nat}{c r u:Int}{ty:TypeId}{fr:Nat × Nat}(h:w.heap[g]?=some (.cells (tkA c r u) ty fr)) :
  w.cell? ⟨g,0,none⟩=some (.int .i64 c)∧w.cell? ⟨g,1,none⟩=some (.int .i64 r)∧w.cell? ⟨g,2,none⟩=some (.int .i64 u) :=
 ⟨cell_of_row _ _ 0 _ _ _ h,cell_of_row _ _ 1 _ _ _ h,cell_of_row _ _ 2 _ _ _ h⟩
end
end Go.Proofs.YtaeckakjdagddacGreatDoor
