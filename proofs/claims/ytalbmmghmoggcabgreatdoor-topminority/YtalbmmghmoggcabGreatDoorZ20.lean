/- Part 20 of the walk. -/
import Derived.Laws.OwnMore
import Derived.Maps.AppendAt
import Derived.Test.YtalbmmghmoggcabGreatDoorZ19
import Derived.Test.YtalbmmghmoggcabGreatDoorZ18
set_option maxRecDepth 100000
set_option maxHeartbeats 4000000
open Go.Proofs.Tryz
set_option linter.unusedVariables false
namespace Go.Proofs.YtalbmmghmoggcabGreatDoor
section
open Go.RowKit
section
theorem Um(vk vn:Value)(key nonce:List Int)(x:Int)(c:Nat)(hx:x=(c:Int))(w:World)(hk:Sl w vk key)(hn:Sl w vn nonce)(lk:key.length=32)(ln:nonce.length=12)(hc:c<=1073741824)(ht:Cf w) :
  Calls prog 175 #[vk,.int .i64 x,vn] w λe w'=>∃ v',e=.returned (.tuple #[v',.int .i64 0])/\Got w w' v' (BU (Bq key (BitVec.ofNat 32 c) nonce)):=by
 subst hx;exact Un vk vn key nonce c w hk hn lk ln hc ht
theorem MK(vk vn va vs:Value)(key nonce a s:List Int)(w:World)(hk:Sl w vk key)(hn:Sl w vn nonce)(ha:Sl w va a)(hs:Sl w vs s)(lk:key.length=32)(ln:nonce.length=12)(la:a.length<=256)(ls:s.length<=2000)(ht:Cf w) :
  Calls prog 150 #[vk,vn,va,vs] w λe w'=>∃ v',e=.returned (.tuple #[v',.int .i64 0])/\Sl w' v' (D0 key nonce a s)/\Bw w w':=by
 have HT:Hid (D0 key nonce a s=T7 ((BU (Bq key (BitVec.ofNat 32 0) nonce)).take 32) (Fc a s)):=rfl;have hll:(Fc a s).length<=4000:=by rw[GI];have:=Ge a.length;have:=Ge s.length;omega
 go_enter func150,ntmps150
 go_wp2_with fail
 refine(Um vk vn key nonce 0 0 rfl w hk hn lk ln (by omega) ht).mono ?_;rintro e w1 ⟨vb,rfl,g1⟩;have sb:=g1.sl;have b1:=g1.bel;clear g1;have hbl:=DM (Bq key (BitVec.ofNat 32 0) nonce);generalize BU (Bq key (BitVec.ofNat 32 0) nonce)=bs at HT sb hbl;obtain⟨ab,cb,rfl⟩:=sb.shape;rw[hbl]at sb ⊢
 obtain⟨a1,c1,hc1',s1⟩:=sb.upTo 32 (by omega);have hc1:∀ W,(Instr.slice 25 (.slice ab 64 cb) none (some (.int .i64 32)) none).run prog W=.ok (.slice a1 32 c1) W:=hc1';have lt:(bs.take 32).length=32:=by rw[fx];omega
 generalize bs.take 32=K at HT s1 lt;have ha1:=ha.below b1;have hs1:=hs.below b1;clear hc1' sb hbl;have la2:a.length<=10000:=by omega
 have ls2:s.length<=10000:=by omega
 have HLA:Hid (a.length<=10000):=la2;have HLS:Hid (s.length<=10000):=ls2;have HLL:Hid ((Fc a s).length<=4000):=hll;clear la ls la2 ls2 hll hk hn ha hs lk ln;go_wp2_with fail
 go_region_with (first
  | (go_at_call 177;refine(Vq _ _ a s _ (ha1.below ((Below.refl _ _).drew)) (hs1.below ((Below.refl _ _).drew)) HLA.out HLS.out).mono ?_;rintro e w2 ⟨v2,rfl,s2,hb2⟩)
  | (go_at_call 176;refine(cB _ _ K _ _ (s1.below ((Below.refl _ _).drew.trans hb2)) s2 lt HLL.out).mono ?_;rintro e w3 ⟨v3,rfl,s3,hb3⟩))
 all_goals
  go_wp2
  go_ret2
  refine⟨v3,rfl,?_,?_⟩
  .rw[HT.out];exact s3
  .have b2:Bw w w2:=b1.trans (((Below.refl _ _).drew.trans hb2).mono b1.size);exact b2.trans (hb3.mono b2.size)
theorem Oa(vk vn vd:Value)(key nonce d:List Int)(w:World)(hk:Sl w vk key)(hn:Sl w vn nonce)(hd:Sl w vd d)(lk:key.length=32)(ln:nonce.length=12)(ld:d.length<=2000)(ht:Cf w) :
  Calls prog 149 #[vk,.int .i64 1,vn,vd] w λe w'=>∃ v',e=.returned (.tuple #[v',.int .i64 0])/\w'.ownsRow w.heap.size 5 1 v' (DF key nonce d).length ((DF key nonce d).map (Value.int .u8))/\Bw w w' :=
 Yg vk vn vd key nonce d 1 w hk hn hd lk ln (by omega) ld ht
theorem E4{w w':World}{base e:Nat}{v:Value}{n:Nat}{xs:List Value}(h:w.ownsRow base e 1 v n xs)(hb:Bw w w'):w'.ownsRow base e 1 v n xs :=
 Ee h λk hk=>hb.block k (h.lt k hk).2
variable{a key nonce p:List Int}
theorem H9(h:FG key nonce a=true):key.length=32/\nonce.length=12/\a.length<=256:=by
 unfold FG at h;simp at h;omega
theorem YH(vk vn va vp:Value)(key nonce a p:List Int)(w:World)(hk:Sl w vk key)(hn:Sl w vn nonce)(ha:Sl w va a)(hp:Sl w vp p)(hf:FG key nonce a=true)(lp:p.length<=2000)(ht:Cf w) :
  Calls prog 117 #[vk,vn,va,vp] w λe w'=>∃ v',e=.returned (.tuple #[v',.int .i64 0])/\Sl w' v' (IJ key nonce a p)/\Bw w w':=by
 obtain⟨lk,ln,la⟩:=H9 hf;have hpos:=ht.pos;have HS:Hid (IJ key nonce a p=DF key nonce p++D0 key nonce a (DF key nonce p)):=rfl;have hxl:=EB key nonce p;have hxb:∀ x∈DF key nonce p,0<=x/\x<256:=Id _ hp.byte;have hpl:¬ (2000:Int)<(p.length:Int):=by omega
 obtain⟨ap,cp,rfl⟩:=hp.shape;go_enter func117,ntmps117
 go_wp2_with fail
 refine(F9 vk vn va key nonce a w hk hn ha).mono ?_;rintro e w0 ⟨rfl,rfl⟩;rw[hf];go_wp2_with fail
 refine(Oa vk vn _ key nonce p w0 hk hn hp lk ln lp ht).mono ?_;rintro e w1 ⟨vx,rfl,o1,b1⟩;generalize DF key nonce p=X at HS hxl hxb o1;have s1:Sl w1 vx X:=Sl.ofOwns o1 (by omega) hxb;go_wp2_with fail
 refine(MK vk vn va vx key nonce a X w1 (hk.below b1) (hn.below b1) (ha.below b1) s1 lk ln la (by omega) (ht.below hpos b1)).mono ?_;rintro e w2 ⟨vt,rfl,s2,b2⟩;have o2:=E4 o1 b2;have hlt:=o2.lt;have hB2:Bw w0 w2:=b1.trans (b2.mono b1.size);have htl:=Hf key nonce a X;have htb:=K3 key nonce a X;generalize D0 key nonce a X=T at HS s2 htl htb;have hX2:X.length<=2000:=by omega
 clear hxl o1 s1 b1 b2 hk hn ha hp;go_wp2_with (at_builtin;refine Aa _ rfl _ _ 25 rfl w0.heap.size 5 underlying25 As _ _ rfl rfl X T o2 s2 (by omega) hB2.size ?_)
 intro v3 w3 ho3 hg3;replace ho3:w3.ownsRow w0.heap.size 5 1 v3 (X++T).length ((X++T).map (Value.int .u8)):=by simpa[htl]using ho3
 have b3:Bw w0 w3:=hB2.grown hg3 hB2.size (λk hk=>(hlt k hk).1);go_wp2
 go_ret2
 refine⟨v3,rfl,?_,b3⟩;rw[HS.out];refine Sl.ofOwns ho3 (by rw[N'];omega) ?_;intro x hx;rcases Y'.1 hx with h|h
 .exact hxb x h
 .exact htb x h
def Du(key nonce a d:List Int):Int :=
 if FG key nonce a=true/\d.length<=2016 then(if d.length<16 then 13 else if D0 key nonce a (d.take (d.length-16))=d.drop (d.length-16)then 0 else 6)else 1
def Ot(key nonce a d:List Int):List Int:=if Du key nonce a d=0 then DF key nonce (d.take (d.length-16))else[]
theorem Yq(vk vn va vd:Value)(key nonce a d:List Int)(w:World)(hk:Sl w vk key)(hn:Sl w vn nonce)(ha:Sl w va a)(hd:Sl w vd d)(hno:FG key nonce a=false\/2016<d.length) :
  Calls prog 195 #[vk,vn,va,vd] w λe w'=>e=.returned (.tuple #[.slice none 0 0,.int .i64 1])/\w'=w:=by
 have h1:=hd.len;obtain⟨ap,cp,rfl⟩:=hd.shape;by_cases hf:FG key nonce a=true
 .have hpl:(2016:Int)<(d.length:Int):=by
   rcases hno with h|h
   .rw[hf]at h;cases h
   .omega
  go_enter func195,ntmps195
  go_wp2_with fail
  refine(F9 vk vn va key nonce a w hk hn ha).mono ?_;rintro e w0 ⟨rfl,rfl⟩;rw[hf];go_wp2
  go_ret2
  exact⟨rfl,rfl⟩
 .rw[Bool.not_eq_true]at hf
  go_enter func195,ntmps195
  go_wp2_with fail
  refine(F9 vk vn va key nonce a w hk hn ha).mono ?_;rintro e w0 ⟨rfl,rfl⟩;rw[hf];go_wp2
  go_ret2
  exact⟨rfl,rfl⟩
theorem Qq(vk vn va vd:Value)(key nonce a d:List Int)(w:World)(hk:Sl w vk key)(hn:Sl w vn nonce)(ha:Sl w va a)(hd:Sl w vd d)(hf:FG key nonce a=true)(hs:d.length<16) :
  Calls prog 195 #[vk,vn,va,vd] w λe w'=>e=.returned (.tuple #[.slice none 0 0,.int .i64 13])/\w'=w:=by
 obtain⟨ap,cp,rfl⟩:=hd.shape;have hpl:(d.length:Int)<16:=by omega
 go_enter func195,ntmps195
 go_wp2_with fail
 refine(F9 vk vn va key nonce a w hk hn ha).mono ?_;rintro e w0 ⟨rfl,rfl⟩;rw[hf];go_wp2
 go_ret2
 exact⟨rfl,rfl⟩
theorem VH(vk vn va vd:Value)(key nonce a d:List Int)(w:World)(hk:Sl w vk key)(hn:Sl w vn nonce)(ha:Sl w va a)(hd:Sl w vd d)(hf:FG key nonce a=true)(m:Nat)(hm:d.length=m+16)(hl:m<=2000)(ht:Cf w)(hq:D0 key nonce a (d.take m)≠d.drop m) :
  Calls prog 195 #[vk,vn,va,vd] w λe w'=>e=.returned (.tuple #[.slice none 0 0,.int .i64 6])/\Bw w w':=by
 obtain⟨lk,ln,la⟩:=H9 hf;have hpos:=ht.pos;have hyd:=hd.byte;obtain⟨ad,cd,rfl⟩:=hd.shape;rw[hm]at hd ⊢
 obtain⟨a1,c1,hc1,s1⟩:=hd.upTo m (by omega);obtain⟨a2,c2,hc2,s2⟩:=hd.from m (by omega);rw[Nat.add_sub_cancel_left]at hc2 s2
 have l1:(d.take m).length=m:=by rw[fx];omega
 have y1:∀ x∈d.take m,0<=x/\x<256:=λx hx=>hyd x (fK hx);have HQ:Hid (D0 key nonce a (d.take m)≠d.drop m):=hq;clear hq;generalize d.take m=D at s1 l1 y1 HQ ⊢;generalize d.drop m=L at s2 HQ;have HL1:Hid (D.length=m):=l1;clear hd hm hyd l1;go_enter func195,ntmps195
 go_wp2_with fail
 refine(F9 vk vn va key nonce a w hk hn ha).mono ?_;rintro e w0 ⟨rfl,rfl⟩;rw[hf];go_wp2_with fail
 go_quiet (fail)
 have e1:Bw w0 (w0.drewN nq):=An (Below.refl _ _) nq;generalize w0.drewN nq=w1 at e1 ⊢;replace hk:=hk.below e1;replace hn:=hn.below e1;replace ha:=ha.below e1;replace s1:=s1.below e1;replace s2:=s2.below e1;replace ht:=ht.below hpos e1;clear hc1 hc2;go_wp2_with fail
 refine(MK vk vn va _ key nonce a D w1 hk hn ha s1 lk ln la (by have:=HL1.out;omega) ht).mono ?_;rintro e w2 ⟨vt,rfl,st,b2⟩;go_wp2_with fail
 refine(Hb vt _ (D0 key nonce a D) L w2 st (s2.below b2)).mono ?_;rintro e w3 ⟨rfl,n3,rfl⟩;have e2:Bw w2 (w2.drewN n3):=An (Below.refl _ _) n3;have e3:Bw w0 (w2.drewN n3):=e1.trans ((b2.trans (e2.mono b2.size)).mono e1.size);rw[D' HQ.out];go_wp2
 go_ret2
 exact⟨rfl,e3⟩
theorem Yr(vk vn va vd:Value)(key nonce a d:List Int)(w:World)(hk:Sl w vk key)(hn:Sl w vn nonce)(ha:Sl w va a)(hd:Sl w vd d)(hf:FG key nonce a=true)(m:Nat)(hm:d.length=m+16)(hl:m<=2000)(ht:Cf w)(hq:D0 key nonce a (d.take m)=d.drop m) :
  Calls prog 195 #[vk,vn,va,vd] w λe w'=>∃ v',e=.returned (.tuple #[v',.int .i64 0])/\Sl w' v' (DF key nonce (d.take m))/\Bw w w':=by
 obtain⟨lk,ln,la⟩:=H9 hf;have hpos:=ht.pos;have hyd:=hd.byte;obtain⟨ad,cd,rfl⟩:=hd.shape;rw[hm]at hd ⊢
 obtain⟨a1,c1,hc1,s1⟩:=hd.upTo m (by omega);obtain⟨a2,c2,hc2,s2⟩:=hd.from m (by omega);rw[Nat.add_sub_cancel_left]at hc2 s2
 have l1:(d.take m).length=m:=by rw[fx];omega
 have y1:∀ x∈d.take m,0<=x/\x<256:=λx hx=>hyd x (fK hx);have HQ:Hid (D0 key nonce a (d.take m)=d.drop m):=hq;clear hq;generalize d.take m=D at s1 l1 y1 HQ ⊢;generalize d.drop m=L at s2 HQ;have HL1:Hid (D.length=m):=l1;clear hd hm hyd l1;go_enter func195,ntmps195
 go_wp2_with fail
 refine(F9 vk vn va key nonce a w hk hn ha).mono ?_;rintro e w0 ⟨rfl,rfl⟩;rw[hf];go_wp2_with fail
 go_quiet (fail)
 have e1:Bw w0 (w0.drewN nq):=An (Below.refl _ _) nq;generalize w0.drewN nq=w1 at e1 ⊢;replace hk:=hk.below e1;replace hn:=hn.below e1;replace ha:=ha.below e1;replace s1:=s1.below e1;replace s2:=s2.below e1;replace ht:=ht.below hpos e1;clear hc1 hc2;go_wp2_with fail
 refine(MK vk vn va _ key nonce a D w1 hk hn ha s1 lk ln la (by have:=HL1.out;omega) ht).mono ?_;rintro e w2 ⟨vt,rfl,st,b2⟩;go_wp2_with fail
 refine(Hb vt _ (D0 key nonce a D) L w2 st (s2.below b2)).mono ?_;rintro e w3 ⟨rfl,n3,rfl⟩;have e2:Bw w2 (w2.drewN n3):=An (Below.refl _ _) n3;have e3:Bw w0 (w2.drewN n3):=e1.trans ((b2.trans (e2.mono b2.size)).mono e1.size);rw[I' HQ.out];have hB:Bw w1 (w2.drewN n3):=b2.trans (e2.mono b2.size);replace hk:=hk.below hB;replace hn:=hn.below hB;replace s1:=s1.below hB;replace ht:=ht.below (Z' hpos e1.size) hB;have hxl:=EB key nonce D;have hxb:∀ x∈DF key nonce D,0<=x/\x<256:=Id _ y1;clear s2 st ha e2 b2;generalize w2.drewN n3=w3 at hk hn s1 ht e3 hB ⊢;go_wp2_with fail
 refine(Oa vk vn _ key nonce D w3 hk hn s1 lk ln (by have:=HL1.out;omega) ht).mono ?_;rintro e w4 ⟨vx,rfl,o4,b4⟩;have s4:Sl w4 vx (DF key nonce D):=Sl.ofOwns o4 (by have:=HL1.out;omega) hxb;have e4:Bw w0 w4:=e3.trans (b4.mono e3.size);clear o4 hxb;go_wp2
 go_ret2
 exact⟨vx,rfl,s4,e4⟩
theorem VG(vk vn va vd:Value)(key nonce a d:List Int)(w:World)(hk:Sl w vk key)(hn:Sl w vn nonce)(ha:Sl w va a)(hd:Sl w vd d)(ht:Cf w) :
  Calls prog 195 #[vk,vn,va,vd] w λe w'=>∃ v',e=.returned (.tuple #[v',.int .i64 (Du key nonce a d)])/\Sl w' v' (Ot key nonce a d)/\Bw w w':=by
 unfold Ot;by_cases h:FG key nonce a=true/\d.length<=2016
 .by_cases h16:d.length<16
  .have hE:Du key nonce a d=13:=by unfold Du;rw[if_pos h,if_pos h16]
   rw[hE,if_neg (by omega)];refine(Qq vk vn va vd key nonce a d w hk hn ha hd h.1 h16).mono ?_;rintro e w1 ⟨rfl,rfl⟩;exact⟨_,rfl,Sl.nil _ _,Below.refl _ _⟩
  .by_cases hq:D0 key nonce a (d.take (d.length-16))=d.drop (d.length-16)
   .have hE:Du key nonce a d=0:=by unfold Du;rw[if_pos h,if_neg h16,if_pos hq]
    rw[hE,if_pos rfl];exact Yr vk vn va vd key nonce a d w hk hn ha hd h.1 (d.length-16) (by omega) (by omega) ht hq
   .have hE:Du key nonce a d=6:=by unfold Du;rw[if_pos h,if_neg h16,if_neg hq]
    rw[hE,if_neg (by omega)];refine(VH vk vn va vd key nonce a d w hk hn ha hd h.1 (d.length-16) (by omega) (by omega) ht hq).mono ?_;rintro e w1 ⟨rfl,b⟩;exact⟨_,rfl,Sl.nil _ _,b⟩
 .have hE:Du key nonce a d=1:=by unfold Du;rw[if_neg h]
  rw[hE,if_neg (by omega)];refine(Yq vk vn va vd key nonce a d w hk hn ha hd ?_).mono ?_
  .by_cases hf:FG key nonce a=true
   .exact .inr (by have:¬ d.length<=2016:=λhp=>h ⟨hf,hp⟩;omega)
   .exact .inl (by simpa using hf)
  .rintro e w1 ⟨rfl,rfl⟩;exact⟨_,rfl,Sl.nil _ _,Below.refl _ _⟩
theorem QJ(key nonce:List Int)(hp:∀ x∈p,0<=x/\x<256):∀ x∈DF key nonce p,0<=x/\x<256:=Id _ hp
theorem QF(key nonce a:List Int)(hp:∀ x∈p,0<=x/\x<256):∀ x∈IJ key nonce a p,0<=x/\x<256:=by
 intro x hx;rcases Y'.1 hx with h|h
 .exact QJ key nonce hp x h
 .exact K3 _ _ _ _ x h
theorem XF(lk:key.length=32)(ln:nonce.length=12)(la:a.length<=256):FG key nonce a=true:=by
 unfold FG;simp;omega
end
end
section
def Jd(key:List Int)(n:Int)(p:List Int):List Int:=Ag n++IJ key (Bb (Ag n)) (Ag n) p
theorem Fj(key:List Int)(n:Int)(p:List Int):(Jd key n p).length=p.length+20:=by
 rw[Jd,N',BQ,Hc];omega
theorem Tn(key:List Int)(n:Int){p:List Int}(hp:∀ x∈p,0<=x/\x<256):∀ x∈Jd key n p,0<=x/\x<256:=by
 intro x hx;rcases Y'.1 hx with h|h
 .exact AM n x h
 .exact QF _ _ _ hp x h
def Dy(key:List Int)(s t:Int)(l:List Bool)(p:List Int):Int:=if ¬ OkC key s t l then 5 else if 2000<p.length then 1 else if s=1073741824 then 8 else 0
def BS(key:List Int)(s t:Int)(l:List Bool)(r:List Int):Int :=
 if ¬ OkC key s t l then 5 else if 2020<r.length then 1 else if r.length<20 then 13 else if 1073741824<=E2 (r.take 4)then 2 else if Gj t l (E2 (r.take 4))=true then 7
 else Du key (Bb (r.take 4)) (r.take 4) (r.drop 4)
def IP(key:List Int)(r:List Int):List Int:=Ot key (Bb (r.take 4)) (r.take 4) (r.drop 4)
end
section
open Go.RowKit
section
structure Bt(w:World)(g:Nat)(c r u:Int):Prop where
 lt:g<w.heap.size
 row:w.heap[g]?=some (.cells (tkA c r u) 57)
theorem Bt.made(w:World)(c r u:Int):Bt (w.alloc (.cells (tkA c r u) 57)) w.heap.size c r u:=⟨by simp,heap_alloc_new _ _⟩
variable{c r u:Int}{g:Nat}{key l:List Int}{w:World}
theorem Bt.below{w':World}(h:Bt w g c r u)(hb:Bw w w'):Bt w' g c r u :=
 ⟨Z' h.lt hb.size,(hb.block g h.lt).trans h.row⟩
theorem Hk(c r u:Int):(prog.info? 57).map (·.size)=some (tkA c r u).size:=by show _=some 3;kernel_rfl
theorem Ir{ty:TypeId}{fr:Nat × Nat}(h:w.heap[g]?=some (.cells (tkA c r u) ty fr)) :
  w.cell? ⟨g,0,none⟩=some (.int .i64 c)/\w.cell? ⟨g,1,none⟩=some (.int .i64 r)/\w.cell? ⟨g,2,none⟩=some (.int .i64 u) :=
 ⟨cell_of_row _ _ 0 _ _ _ h,cell_of_row _ _ 1 _ _ _ h,cell_of_row _ _ 2 _ _ _ h⟩
theorem Ic(c r u:Int)(w:World) :
  Calls prog 69 #[.agg (tkA c r u)] w λe w'=>e=.returned (.bool (decide (CB c r u)))/\Bw w w':=by
 have bb:Bw w (w.alloc (.cells (tkA c r u) 57)):=(Below.refl _ _).alloc (A' _) _;have bt:=Bt.made w c r u;generalize hW:w.alloc (.cells (tkA c r u) 57)=W at bb bt;obtain⟨c0,c1,c2⟩:=Ir bt.row;clear bt;go_enter func69,ntmps69
 go_wp2_with fail
 clear hW;refine(Ei c 7 _).mono ?_;rintro e w1 ⟨rfl,rfl⟩;by_cases h1:0<=c/\c<=7
 .rw[I' h1];go_wp2_with fail
  refine(Ei r 7 _).mono ?_;rintro e w1 ⟨rfl,rfl⟩;by_cases h2:0<=r/\r<=7
  .rw[I' h2];go_wp2_with fail
   refine(Ei u 1048576 _).mono ?_;rintro e w1 ⟨rfl,rfl⟩;by_cases h3:0<=u/\u<=1048576
   .rw[I' h3];have HB:Hid (true=decide (CB c r u)):=(I' ⟨h1,h2,h3⟩).symm;go_wp2
    go_ret;exact⟨Ac HB.out,bb⟩
   .rw[D' h3];have HB:Hid (false=decide (CB c r u)):=(D' (λg=>h3 g.2.2)).symm;go_wp2
    go_ret;exact⟨Ac HB.out,bb⟩
  .rw[D' h2];have HB:Hid (false=decide (CB c r u)):=(D' (λg=>h2 g.2.1)).symm;go_wp2
   go_ret;exact⟨Ac HB.out,bb⟩
 .rw[D' h1];have HB:Hid (false=decide (CB c r u)):=(D' (λg=>h1 g.1)).symm;go_wp2
  go_ret;exact⟨Ac HB.out,bb⟩
def Jn(key:List Int)(c r u:Int):List Int:=Jm c r u++(D4 key (Jm c r u)).take 16
theorem Lk(key b:List Int):((D4 key b).take 16).length=16:=by rw[fx,CW];rfl
theorem DJ(key:List Int)(c r u:Int):(Jn key c r u).length=22:=by unfold Jn;rw[N',Lk,DI]
theorem OV(key b:List Int):∀ x∈(D4 key b).take 16,0<=x/\x<256:=λx hx=>LF key b x (fK hx)
theorem TJ(key:List Int)(h:CB c r u):∀ x∈Jn key c r u,0<=x/\x<256:=by
 intro x hx;rcases Y'.1 hx with hx|hx
 .exact LY h x hx
 .exact OV _ _ x hx
def KX(key:List Int)(c r u:Int):Int:=if key.length≠32 then 1 else Ll c r u
def NN(key:List Int)(c r u:Int):List Int:=if KX key c r u=0 then Jn key c r u else[]
theorem SA(h:¬ key.length=32):KX key c r u=1:=if_pos h
theorem NL(h:key.length=32):KX key c r u=Ll c r u:=if_neg (λg=>g h)
theorem XP(h:KX key c r u=0):NN key c r u=Jn key c r u:=if_pos h
theorem Rt(h:¬ KX key c r u=0):NN key c r u=[]:=if_neg h
theorem PO(c r u:Int)(w:World)(h:CB c r u) :
  Calls prog 70 #[.agg (tkA c r u)] w λe w'=>∃ v',e=.returned v'/\w'.ownsRow w.heap.size 5 1 v' (Jm c r u).length ((Jm c r u).map (Value.int .u8))/\Bw w w':=by
 have bb:Bw w (w.alloc (.cells (tkA c r u) 57)):=(Below.refl _ _).alloc (A' _) _;have bt:=Bt.made w c r u;generalize hW:w.alloc (.cells (tkA c r u) 57)=W at bb bt;obtain⟨c0,c1,c2⟩:=Ir bt.row;have lt:=bt.lt;clear bt;obtain⟨⟨hc0,hc1⟩,⟨hr0,hr1⟩,hu0,hu1⟩:=h;have m1:c%256=c:=by omega
 have m2:r%256=r:=by omega
 have HT:Hid (Jm c r u=[c,r]++Ag u):=rfl;have b1:Bw W (W.alloc (.cells #[.int .u8 c,.int .u8 r] 5)):=(Below.refl _ _).alloc (A' _) _;have o1:(W.alloc (.cells #[.int .u8 c,.int .u8 r] 5)).ownsRow W.heap.size 5 1 (.slice (some ⟨W.heap.size,0,none⟩) 2 2) ([c,r]:List Int).length (([c,r]:List Int).map (Value.int .u8)) :=
  ⟨rfl,.inr ⟨W.heap.size,2,#[.int .u8 c,.int .u8 r],rfl,A' _,heap_alloc_new _ _,by simp,by simp[maxLen],rfl,rfl⟩⟩
 have O1:Hid ((W.alloc (.cells #[.int .u8 c,.int .u8 r] 5)).ownsRow W.heap.size 5 1 (.slice (some ⟨W.heap.size,0,none⟩) 2 2) ([c,r]:List Int).length (([c,r]:List Int).map (Value.int .u8))):=o1;clear o1;generalize hW1:W.alloc (.cells #[.int .u8 c,.int .u8 r] 5)=W1 at b1 O1;have d2:W1.cell? ⟨w.heap.size,2,none⟩=some (.int .i64 u):=(b1.cell (p:=⟨w.heap.size,2,none⟩) lt).trans c2;have d1:=bb.trans (b1.mono bb.size);have hz:=b1.size;go_enter func70,ntmps70
 go_wp2_with fail
 clear hW hW1;refine(FV _ [c,r] u W.heap.size W1 O1.out hz (by simp) hu0 (by omega)).mono ?_;rintro e w2 ⟨v2,rfl,o2,b2⟩;have hwW:=bb.size;go_wp2
 go_ret;exact⟨_,rfl,AN o2 hwW,d1.trans (b2.mono hwW)⟩
theorem OT(vk vb:Value)(key b:List Int)(w:World)(hk:Sl w vk key)(hb:Sl w vb b)(lk:key.length<=256)(lb:b.length<=2000)(ht:AA w) :
  Calls prog 71 #[vk,vb] w λe w'=>∃ v',e=.returned (.tuple #[v',.int .i64 0])/\Sl w' v' ((D4 key b).take 16)/\Bw w w':=by
 go_enter func71,ntmps71
 go_wp2_with fail
 refine(ZI vk vb key b w hk hb lk lb ht).mono ?_;rintro e w1 ⟨v1,rfl,f1⟩;obtain⟨s1,b1,g,cp,rfl,_,_⟩:=f1;obtain⟨a2,c2,r2',s2⟩:=s1.upTo 16 (by rw[CW];omega);rw[CW]at r2' ⊢
 have r2:∀ W,(Instr.slice 25 (.slice (some ⟨g,0,none⟩) 32 cp) none (some (.int .i64 16)) none).run prog W=.ok (.slice a2 16 c2) W:=r2';clear r2' s1;go_wp2
 go_ret2
 exact⟨_,rfl,s2,b1⟩
theorem SC(vk:Value)(key:List Int)(c r u:Int)(w:World)(hk:Sl w vk key)(ht:AA w) :
  Calls prog 33 #[vk,.agg (tkA c r u)] w λe w'=>∃ v',e=.returned (.tuple #[v',.int .i64 (KX key c r u)])/\w'.ownsRow w.heap.size 5 1 v' (NN key c r u).length ((NN key c r u).map (Value.int .u8))/\Bw w w':=by
 have bb:Bw w (w.alloc (.cells (tkA c r u) 57)):=(Below.refl _ _).alloc (A' _) _;have bt:=Bt.made w c r u;have hi:=Hk c r u;have hlen:=hk.len;obtain⟨ak,ck,rfl⟩:=hk.shape;generalize hW:w.alloc (.cells (tkA c r u) 57)=W at bb bt;by_cases h1:key.length=32
 .have HE:=NL (key:=key) (c:=c) (r:=r) (u:=u) h1;have HK:Hid (key.length=32):=h1;rw[h1]at hk ⊢
  clear h1 hlen;go_enter func33,ntmps33
  go_wp2_with (refine wpList_load_row rfl 57 _ rfl w.heap.size rfl 57 _ (0,0) _ bt.row underlying57 rfl hi ?_)
  clear hW;refine(Ic c r u W).mono ?_;rintro e w1 ⟨rfl,b1⟩;have d1:=bb.trans (b1.mono bb.size);replace bt:=bt.below b1;clear b1 bb;by_cases h2:CB c r u
  .have HZ:Hid (KX key c r u=0):=HE.trans (Jw h2);have HL:Hid (NN key c r u=Jn key c r u):=XP HZ.out;rw[I' h2];clear HE;go_wp2_with (refine wpList_load_row rfl 57 _ rfl w.heap.size rfl 57 _ (0,0) _ bt.row underlying57 rfl hi ?_)
   refine(PO c r u w1 h2).mono ?_;rintro e w2 ⟨v2,rfl,o2,b2⟩;have d2:=d1.trans (b2.mono d1.size);have s2:=Sl.ofOwns o2 (by rw[DI];omega) (LY h2);have z2:=b2.size;go_wp2_with fail
   refine(OT _ v2 key (Jm c r u) w2 (hk.below d2) s2 (by rw[HK.out];omega) (by rw[DI];omega) (ht.below d2)).mono ?_;rintro e w3 ⟨v3,rfl,s3,b3⟩;have o3:=IC o2 b3;have d3':Bw w1 w3:=b2.trans (b3.mono z2);have z3:w1.heap.size<=w3.heap.size:=fy z2 b3.size;have hlt:=o3.lt;have hy:=s3.len;have HT:Hid (Jn key c r u=Jm c r u++(D4 key (Jm c r u)).take 16):=rfl;have hx:=DI c r u;clear o2 b3 d2 s2;generalize (D4 key (Jm c r u)).take 16=Y at s3 HT hy;generalize Jm c r u=X at o3 HT hx;go_wp2_with (at_builtin;refine Aa _ rfl _ _ 25 rfl w1.heap.size 5 underlying25 As _ _ rfl rfl X Y o3 s3 (by omega) z3 ?_)
   intro v4 w4 o4 g4;have d4:Bw w1 w4:=d3'.grown g4 z3 (λk hk=>(hlt k hk).1);have HO:Hid (w4.ownsRow w1.heap.size 5 1 v4 (Jn key c r u).length ((Jn key c r u).map (Value.int .u8))):=by unfold Hid;rw[HT.out];simpa[hx]using o4
   clear o4 g4;go_wp2
   go_ret2
   rw[HL.out,HZ.out];exact⟨_,rfl,AN HO.out d1.size,d1.trans (d4.mono d1.size)⟩
  .have HZ:Hid (KX key c r u=2):=HE.trans (RN h2);have HL:Hid (NN key c r u=[]):=Rt (by rw[HZ.out];omega);rw[D' h2];go_wp2
   go_ret2
   rw[HL.out,HZ.out];exact⟨_,rfl,World.ownsRow_nil _ _ _ _,d1⟩
 .have h1':¬ (key.length:Int)=32:=by omega
  have HZ:Hid (KX key c r u=1):=SA h1;have HL:Hid (NN key c r u=[]):=Rt (by rw[HZ.out];omega);go_enter func33,ntmps33
  go_wp2
  go_ret2
  rw[HL.out,HZ.out];exact⟨_,rfl,World.ownsRow_nil _ _ _ _,bb⟩
theorem Sl.fourAt{a:Option Addr}{n cap:Nat}(h:Sl w (.slice a n cap) l)(lo:Nat)(hhi:lo+4<=l.length)(li hj:Int)(hli:li=(lo:Int))(hhj:hj=(lo:Int)+4) :
  ∃ a' c',(∀ W,(Instr.slice 25 (.slice a n cap) (some (.int .i64 li)) (some (.int .i64 hj)) none).run prog W=.ok (.slice a' 4 c') W)/\Sl w (.slice a' 4 c') ((l.take (lo+4)).drop lo):=by
 subst hli;subst hhj;have hw:=h.window lo (lo+4) (by omega) hhi;obtain⟨⟨a',cap',e,hc,hn,h1⟩,hla,hba⟩:=h;simp only[Value.slice.injEq]at e;obtain⟨rfl,rfl,rfl⟩:=e;have e4:lo+4-lo=4:=by omega
 unfold sliced at hw;rw[e4]at hw
 refine⟨_,_,λW=>?_,hw⟩;rw[run_slice_lh (P:=prog) W 25 a _ cap underlying25 .i64 .i64 _ _ (by omega) (by omega) (by omega)];have e:prog.elem 25=5:=by kernel_rfl
 rw[e,Gu,show((lo:Int)+4).toNat=lo+4 by omega,ib];simp[Result.andThen,sliced]
theorem Ou(x b:Int)(hx:0<=x/\x<36028797018963968)(hb:0<=b/\b<256):bits .or .i64 (x*256) b=x*256+b:=by
 obtain⟨x,rfl⟩:=fO hx.1;obtain⟨y,rfl⟩:=fO hb.1;have e:(x:Int)*256=((x*256:Nat):Int):=by omega
 have key:(BitVec.ofInt 64 ((x*256:Nat):Int) ||| BitVec.ofInt 64 (y:Int)).toNat=x*256+y:=by
  rw[ju,iQ,iQ];have h1:((y:Int)%((2^64:Nat):Int)).toNat=y:=by omega
  have h2:(((x*256:Nat):Int)%((2^64:Nat):Int)).toNat=2^8*x:=by omega
  rw[h1,h2,<- iy (by omega:y<2^8)];omega
 rw[e];show IntKind.i64.wrap ((BitVec.ofInt 64 ((x*256:Nat):Int) ||| BitVec.ofInt 64 (y:Int)).toNat:Nat)=_;rw[key,IntKind.wrap_i64];omega
def Cm(h:List Int):Nat->Int
 | 0=>0
 | k+1=>Cm h k*256+h.getD k 0
theorem I9{h:List Int}(hb:∀ x∈h,0<=x/\x<256)(k:Nat):0<=Cm h k/\Cm h k<256^k:=by
 induction k with
 | zero=>simp[Cm]
 | succ k ih =>
  have:=Aj hb k;rw[Cm,i8];omega
theorem Kh(l:List Int)(lo:Nat)(h:lo+4<=l.length):Cm ((l.take (lo+4)).drop lo) 4=Ab l lo:=by
 show(((0*256+((l.take (lo+4)).drop lo).getD 0 0)*256+((l.take (lo+4)).drop lo).getD 1 0)*256+((l.take (lo+4)).drop lo).getD 2 0)*256+((l.take (lo+4)).drop lo).getD 3 0=_;rw[Cv,Cv,Cv,Cv,AZ _ _ _ (by omega),AZ _ _ _ (by omega),AZ _ _ _ (by omega),AZ _ _ _ (by omega)];unfold Ab;rw[ic];omega
theorem GO(v:Value)(l:List Int)(lo:Nat)(w:World)(h:Sl w v l)(hl:lo+4<=l.length)(li:Int)(hli:li=(lo:Int)) :
  Calls prog 159 #[v,.int .i64 li] w λe w'=>e=.returned (.int .i64 (Ab l lo))/\w'=w:=by
 have HN:Hid (Cm ((l.take (lo+4)).drop lo) 4=Ab l lo):=Kh l lo hl;have hlen:=h.len;have i0:0<=li:=by omega
 have i1:li<=140737488351232:=by omega
 obtain⟨a,c,rfl⟩:=h.shape;obtain⟨a2,c2,hr,hs⟩:=h.fourAt lo hl li (li+4) hli (by omega);have HB:Hid (∀ x∈(l.take (lo+4)).drop lo,0<=x/\x<256):=hs.byte;have HS:Hid (((l.take (lo+4)).drop lo).length=4):=by unfold Hid;rw[fA,fx];omega
 generalize (l.take (lo+4)).drop lo=L at HN hs HB HS;generalize l.length=N at hr hlen ⊢;clear h hl hli hlen;go_enter func159,ntmps159
 go_wp2_with fail
 go_loopw [5,14] (λv iv wr=>∃ j:Nat,j<=4/\iv=.int .i64 (j:Int)/\v=.int .i64 (Cm L j)/\wr=w) (λ_ iv _=>(4-intOf iv).toNat)
 case atStart=>exact⟨0,by omega,rfl,rfl,rfl⟩
 case round =>
  obtain⟨j,hj,rfl,rfl,rfl⟩:=hrel;by_cases hj4:j<4
  .have hii:(j:Int)<4:=by omega
   have hx:=I9 HB.out j;have hx2:Cm L j<16777216:=by
    have:(256:Int)^j<=256^3:=by
     rcases(by omega:j=0\/j=1\/j=2\/j=3)with rfl|rfl|rfl|rfl<;>decide
    omega
   have hb:=Aj HB.out j;obtain⟨bd,od,rfl,hbd,hc⟩:=hs.spotO j (by have:=HS.out;omega);have hor:=Ou (Cm L j) (L.getD j 0) ⟨hx.1,by omega⟩ hb;have HK:Hid (Cm L j*256+L.getD j 0=Cm L (j+1)):=rfl;have hx1:=hx.1;clear hx hs hr;generalize Cm L j=X at hx1 hx2 hor HK;generalize L.getD j 0=B at hb hc hor HK;go_wp2
   go_roundw
   case rel=>exact⟨j+1,by omega,by go_num,by rw[<- HK.out],trivial⟩
   case measure=>simp[intOf];omega
  .obtain rfl:j=4:=by omega
   rw[show((4:Nat):Int)=4 from rfl,HN.out];go_wp2
   go_ret;exact⟨rfl,rfl⟩
def P8(l:List Int)(j:Nat):List Int:=(List.range 5).map λi=>if i<j then Ab l (4*i)else 0
def rowOf(m:List Int):Array Value:=(m.map (Value.int .i64)).toArray
theorem UA(l:List Int)(j:Nat)(hj:j<5):(rowOf (P8 l j)).setIfInBounds j (.int .i64 (Ab l (4*j)))=rowOf (P8 l (j+1)):=by
 rcases(by omega:j=0\/j=1\/j=2\/j=3\/j=4)with rfl|rfl|rfl|rfl|rfl
 all_goals rfl
theorem JI(v:Value)(l:List Int)(w:World)(h:Sl w v l)(ht:NTab w) :
  Calls prog 125 #[v] w λe w'=>e=.returned (.tuple #[.agg (IW l),.int .i64 (BY l)])/\Bw w w':=by
 have hlen:=h.len;obtain⟨a,cp,rfl⟩:=h.shape;by_cases h1:l.length=20
 .have HE:Hid (BY l=AU (Ab l 0) (Ab l 4) (Ab l 8) (Ab l 12) (Ab l 16)):=if_neg (λg=>g h1);have hs:=h;have HL:Hid (l.length=20):=h1;rw[h1]at hs ⊢
  clear h h1 hlen;have b0:Bw w (w.alloc (.cells (cmA 0 0 0 0 0) 53)):=(Below.refl _ _).alloc (A' _) _;have z0:(w.alloc (.cells (cmA 0 0 0 0 0) 53)).heap.size=w.heap.size+1:=by simp
  have r0:=heap_alloc_new w (.cells (cmA 0 0 0 0 0) 53);have b1:Below (w.heap.size+1) (w.alloc (.cells (cmA 0 0 0 0 0) 53)) ((w.alloc (.cells (cmA 0 0 0 0 0) 53)).alloc (.cells (cmA 0 0 0 0 0) 53)):=(Below.refl _ _).alloc (by omega) _;have r1:=heap_alloc_new (w.alloc (.cells (cmA 0 0 0 0 0) 53)) (.cells (cmA 0 0 0 0 0) 53);rw[z0]at r1
  replace r0:=(b1.block w.heap.size (by omega)).trans r0;have d1:=b0.trans (b1.mono (gk _));have z1:((w.alloc (.cells (cmA 0 0 0 0 0) 53)).alloc (.cells (cmA 0 0 0 0 0) 53)).heap.size=w.heap.size+1+1:=by simp
  have hW:(w.alloc (.cells zV5 53)).alloc (.cells zV5 53)=(w.alloc (.cells (cmA 0 0 0 0 0) 53)).alloc (.cells (cmA 0 0 0 0 0) 53):=rfl;clear b0 b1 z0;generalize (w.alloc (.cells (cmA 0 0 0 0 0) 53)).alloc (.cells (cmA 0 0 0 0 0) 53)=W at r0 r1 d1 z1 hW;go_enter func125,ntmps125
  go_wp2_with fail
  clear hW;refine(FS (w.heap.size+1) W).mono ?_;rintro e w2 ⟨rfl,b2⟩;replace r0:=(b2.block w.heap.size (by omega)).trans r0;replace r1:=(b2.block (w.heap.size+1) (by omega)).trans r1;have d2:=d1.trans (b2.mono d1.size);have HR0:Hid _:=r0;have HR1:Hid (w2.heap[w.heap.size+1]?=some (.cells (rowOf (P8 l 0)) 53)):=r1;clear r0 r1 b2 d1 z1;have hix:=O3 (w.heap.size+1);go_wp2_with fail
  go_loopw [13] (λiv wr=>∃ j:Nat,j<=5/\iv=.int .i64 (j:Int)/\wr.heap[w.heap.size]?=some (.cells (cmA 0 0 0 0 0) 53)/\wr.heap[w.heap.size+1]?=some (.cells (rowOf (P8 l j)) 53)/\Bw w wr) (λiv _=>(5-intOf iv).toNat)
  case atStart=>exact⟨0,by omega,rfl,HR0.out,HR1.out,d2⟩
  case round =>
   obtain⟨j,hj,rfl,hr0,hr1,hbel⟩:=hrel;clear HR0 HR1;by_cases hj5:j<5
   .have hji:(j:Int)<5:=by omega
    have hij:=hix j hj5;have hcell:∃ x,wr.cell? ⟨w.heap.size+1,j,none⟩=some (.int .i64 x):=⟨(P8 l j).getD j 0,(cell_of_row _ _ j _ _ _ hr1).trans (by simp[rowOf,P8,hj5])⟩;obtain⟨x,hx⟩:=hcell;have hfz:=frozen_of_row wr _ j _ _ hr1;have HR0:Hid _:=hr0;have HR1:Hid _:=hr1;have HS:=UA l j hj5;clear hix hr0 hr1;go_wp2_with fail
    refine(GO (.slice a 20 cp) l (4*j) wr (hs.below hbel) (by rw[HL.out];omega) _ (by omega)).mono ?_;rintro e w5 ⟨rfl,rfl⟩;have q0:(w5.setCell ⟨w.heap.size+1,j,none⟩ (.int .i64 (Ab l (4*j)))).heap[w.heap.size]?=some (.cells (cmA 0 0 0 0 0) 53):=(heap_setCell_other _ _ _ _ (by simp)).trans HR0.out;have q1:(w5.setCell ⟨w.heap.size+1,j,none⟩ (.int .i64 (Ab l (4*j)))).heap[w.heap.size+1]?=some (.cells (rowOf (P8 l (j+1))) 53):=by
     rw[heap_setCell_same _ _ _ _ _ _ HR1.out,HS]
    have q2:Bw w (w5.setCell ⟨w.heap.size+1,j,none⟩ (.int .i64 (Ab l (4*j)))):=hbel.setCell (p:=⟨w.heap.size+1,j,none⟩) (gk _) _;have Q0:Hid _:=q0;have Q1:Hid _:=q1;clear HS q0 q1 HR0 HR1;generalize Ab l (4*j)=X at Q0 Q1 q2 ⊢;go_wp2
    go_roundw
    case rel=>exact⟨j+1,by omega,by go_num,Q0.out,Q1.out,q2⟩
    case measure=>simp[intOf];omega
   .obtain rfl:j=5:=by omega
    rw[show((5:Nat):Int)=5 from rfl];have hr1':wr.heap[w.heap.size+1]?=some (.cells (cmA (Ab l 0) (Ab l 4) (Ab l 8) (Ab l 12) (Ab l 16)) 53):=hr1;clear hr1 hix;have HV0:Hid (BY l=0->IW l=cmA (Ab l 0) (Ab l 4) (Ab l 8) (Ab l 12) (Ab l 16)):=λh=>if_pos h;have HV1:Hid (¬ BY l=0->IW l=cmA 0 0 0 0 0):=λh=>if_neg h;have hT:=ht.below hbel;generalize Ab l 0=k at HE HV0 hr1';generalize Ab l 4=c at HE HV0 hr1';generalize Ab l 8=s at HE HV0 hr1';generalize Ab l 12=n at HE HV0 hr1';generalize Ab l 16=v at HE HV0 hr1';have hi:=F6 k c s n v;have hi0:=F6 0 0 0 0 0;have lt1:=(G'.1 hr1').1;go_wp2_with (refine wpList_load_row rfl 53 _ rfl (w.heap.size+1) rfl 53 _ (0,0) _ hr1' underlying53 rfl hi ?_)
    refine(Dt k c s n v wr hT).mono ?_;rintro e w6 ⟨rfl,b6⟩;have d6:=hbel.trans (b6.mono hbel.size);have q0:=(b6.block w.heap.size (by omega)).trans hr0;have q1:=(b6.block (w.heap.size+1) lt1).trans hr1';clear hr0 hr1' b6 hT hbel;by_cases h2:AU k c s n v=0
    .have HZ:Hid (BY l=0):=HE.out.trans h2;have HV:Hid (IW l=cmA k c s n v):=HV0.out HZ.out;rw[h2];clear h2 HE HV0 HV1;go_wp2_with (first|(refine wpList_load_row rfl 53 _ rfl (w.heap.size+1) rfl 53 _ (0,0) _ q1 underlying53 rfl hi ?_)|(refine wpList_store_row rfl 53 (.tmp 2) (.tmp 30) rfl w.heap.size (cmA k c s n v) rfl rfl 53 _ q0 hi rfl (Rf k c s n v) ?_))
     have r2:=setRow_heap w6 w.heap.size _ (cmA k c s n v) 53 _ q0;refine bodyPost_ret (IA rfl _ _ w.heap.size 53 _ (0,0) _ rfl r2 underlying53 rfl hi) rfl ?_;rw[HZ.out,HV.out];exact⟨rfl,BM d6 (A' _) _⟩
    .have HZ:Hid (BY l=AU k c s n v):=HE.out;have HV:Hid (IW l=cmA 0 0 0 0 0):=HV1.out (by rw[HE.out];exact h2);clear HE HV0 HV1;go_wp2_with (refine wpList_store_row rfl 53 (.tmp 2) (.tmp 28) rfl w.heap.size (cmA 0 0 0 0 0) rfl rfl 53 _ q0 hi0 rfl (Rf 0 0 0 0 0) ?_)
     have r2:=setRow_heap w6 w.heap.size _ (cmA 0 0 0 0 0) 53 _ q0;refine bodyPost_ret (IA rfl _ _ w.heap.size 53 _ (0,0) _ rfl r2 underlying53 rfl hi0) rfl ?_;rw[HZ.out,HV.out];exact⟨rfl,BM d6 (A' _) _⟩
 .have h1':¬ (l.length:Int)=20:=by omega
  have HE:Hid (BY l=1):=if_pos h1;have HV:Hid (IW l=cmA 0 0 0 0 0):=if_neg (by rw[HE.out];omega);have bb:Bw w (w.alloc (.cells (cmA 0 0 0 0 0) 53)):=(Below.refl _ _).alloc (A' _) _;have bc:=Bc.made w 0 0 0 0 0;go_enter func125,ntmps125
  go_wp2
  refine bodyPost_ret (IA rfl _ _ w.heap.size 53 _ (0,0) _ rfl (heap_alloc_new _ _) underlying53 rfl (F6 0 0 0 0 0)) rfl ?_;rw[HE.out,HV.out];exact⟨rfl,bb⟩
theorem Hj(c r u:Int):(tkA c r u).all (·.oneCell')=true:=by simp[tkA,Value.oneCell']
theorem OZ(v:Value)(l:List Int)(w:World)(h:Sl w v l)(hl:6<=l.length) :
  Calls prog 158 #[v] w λe w'=>e=.returned (.agg (tkA (l.getD 0 0) (l.getD 1 0) (Ab l 2)))/\Bw w w':=by
 have hlen:=h.len;obtain⟨a,cp,rfl⟩:=h.shape;have bb:Bw w (w.alloc (.cells (tkA 0 0 0) 57)):=(Below.refl _ _).alloc (A' _) _;have rr:=heap_alloc_new w (.cells (tkA 0 0 0) 57);have hs:=h.below bb;have hW:w.alloc (.cells #[.int .i64 0,.int .i64 0,.int .i64 0] 57)=w.alloc (.cells (tkA 0 0 0) 57):=rfl;generalize w.alloc (.cells (tkA 0 0 0) 57)=W0 at bb rr hs hW;obtain⟨bd,od,rfl,hbd,x0⟩:=hs.spotO 0 (by omega);obtain⟨bd1,od1,e1,_,x1⟩:=hs.spotO 1 (by omega);simp only[U',Addr.mk.injEq,and_true]at e1;obtain⟨rfl,rfl⟩:=e1;rw[ic]at x0
 have y0:=Aj h.byte 0;have y1:=Aj h.byte 1;have i0:(0:Int)<(l.length:Int):=by omega
 have i1:(1:Int)<(l.length:Int):=by omega
 have hN:Calls prog 159 #[.slice (some ⟨bd,od,none⟩) l.length cp,.int .i64 2] W0.drew λe w'=>e=.returned (.int .i64 (Ab l 2))/\w'=W0.drew :=
  GO _ l 2 _ (hs.below (Below.refl _ _).drew) (by omega) 2 rfl
 have HN:Hid _:=hN;clear hN;generalize l.getD 0 0=b0 at x0 y0;generalize l.getD 1 0=b1 at x1 y1;generalize Ab l 2=b2 at HN;generalize l.length=N at hlen hl i0 i1 HN ⊢;clear h hs;have hi:=Hk b0 b1 b2;go_enter func158,ntmps158
 go_wp2_with fail
 refine Aq 11 (by kernel_rfl) (by kernel_rfl) ?_;simp only[gl,gD,gw,gU]
 repeat (go_big_quiet_step (fail))
 go_big_quiet_want
 go_big_quiet_op
 refine⟨_,HN.out,?_⟩
 go_big_quiet_on
 repeat (go_big_quiet_step (fail))
 refine wpQuiet_nil ?_;clear hW;have rr':W0.drew.heap[w.heap.size]?=some (.cells (tkA 0 0 0) 57):=rr;have bb':Bw w W0.drew:=bb.drew;clear rr bb x0 x1 HN;generalize W0.drew=W at rr' bb' ⊢;go_wp2_with (refine wpList_store_row rfl 57 (.tmp 2) (.tmp 13) rfl w.heap.size (tkA b0 b1 b2) rfl rfl 57 _ rr' hi rfl (Hj b0 b1 b2) ?_)
 have r2:=setRow_heap W w.heap.size _ (tkA b0 b1 b2) 57 _ rr';exact bodyPost_ret (v:=.agg (tkA b0 b1 b2)) (results_cell_row rfl _ _ w.heap.size 57 _ (0,0) _ rfl r2 underlying57 rfl hi) rfl ⟨rfl,BM bb' (A' _) _⟩
def D6(key l:List Int):Int :=
 if key.length≠32\/l.length≠22 then 1
 else if(D4 key (l.take 6)).take 16≠l.drop 6 then 6
 else Ll (l.getD 0 0) (l.getD 1 0) (Ab l 2)
def Le(key l:List Int):Array Value:=if D6 key l=0 then tkA (l.getD 0 0) (l.getD 1 0) (Ab l 2)else tkA 0 0 0
theorem LO(h:key.length≠32\/l.length≠22):D6 key l=1:=if_pos h
theorem VU(h1:key.length=32)(h2:l.length=22)(h:¬ (D4 key (l.take 6)).take 16=l.drop 6):D6 key l=6:=by
 unfold D6;rw[if_neg (by omega),if_pos h]
theorem VV(h1:key.length=32)(h2:l.length=22)(h:(D4 key (l.take 6)).take 16=l.drop 6):D6 key l=Ll (l.getD 0 0) (l.getD 1 0) (Ab l 2):=by
 unfold D6;rw[if_neg (by omega),if_neg (λg=>g h)]
theorem RA(h:D6 key l=0):Le key l=tkA (l.getD 0 0) (l.getD 1 0) (Ab l 2):=if_pos h
theorem GX(h:¬ D6 key l=0):Le key l=tkA 0 0 0:=if_neg h
theorem Qj(l:List Int):Ab (l.take 6) 2=Ab l 2:=by
 unfold Ab;rw[AZ _ _ _ (by omega),AZ _ _ _ (by omega),AZ _ _ _ (by omega),AZ _ _ _ (by omega)]
theorem Tk(vk vb:Value)(key l:List Int)(w:World)(hk:Sl w vk key)(hb:Sl w vb l)(ht:AA w) :
  Calls prog 124 #[vk,vb] w λe w'=>e=.returned (.tuple #[.agg (Le key l),.int .i64 (D6 key l)])/\Bw w w':=by
 have lk:=hk.len;have ll:=hb.len;obtain⟨ak,ck,rfl⟩:=hk.shape;obtain⟨ab,cb,rfl⟩:=hb.shape;have bb:Bw w (w.alloc (.cells (tkA 0 0 0) 57)):=(Below.refl _ _).alloc (A' _) _;have rr:=heap_alloc_new w (.cells (tkA 0 0 0) 57);have hi0:=Hk 0 0 0;by_cases h1:key.length=32
 .by_cases h2:l.length=22
  .have H1:Hid (key.length=32):=h1;have H2:Hid (l.length=22):=h2;rw[h1]at hk ⊢
   rw[h2]at hb ⊢
   clear lk ll h1 h2;have hW:w.alloc (.cells #[.int .i64 0,.int .i64 0,.int .i64 0] 57)=w.alloc (.cells (tkA 0 0 0) 57):=rfl;generalize w.alloc (.cells (tkA 0 0 0) 57)=W at bb rr hW;obtain⟨a6,c6,r6',s6⟩:=hb.upTo 6 (by have:=H2.out;omega);have r6:∀ W,(Instr.slice 25 (.slice ab 22 cb) none (some (.int .i64 6)) none).run prog W=.ok (.slice a6 6 c6) W:=r6';obtain⟨a7,c7,r7',s7⟩:=hb.from 6 (by have:=H2.out;omega);have r7:∀ W,(Instr.slice 25 (.slice ab 22 cb) (some (.int .i64 6)) none none).run prog W=.ok (.slice a7 16 c7) W:=r7';clear r6' r7';have L6:Hid ((l.take 6).length=6):=by unfold Hid;rw[fx,H2.out];rfl
   go_enter func124,ntmps124
   go_wp2_with fail
   clear hW;refine(OT _ _ key (l.take 6) W (hk.below bb) (s6.below bb) (by rw[H1.out];omega) (by rw[L6.out];omega) (ht.below bb)).mono ?_;rintro e w1 ⟨v1,rfl,s1,b1⟩;have d1:=bb.trans (b1.mono bb.size);have q1:=(b1.block w.heap.size (G'.1 rr).1).trans rr;have s71:=s7.below d1;clear b1 bb rr;go_wp2_with fail
   refine(Hb v1 (.slice a7 16 c7) _ _ w1 s1 s71).mono ?_;rintro e w2 ⟨rfl,m,rfl⟩;have d2:Bw w (w1.drewN m):=An d1 m;have q2:(w1.drewN m).heap[w.heap.size]?=some (.cells (tkA 0 0 0) 57):=q1;clear q1 d1 s1 s71;generalize w1.drewN m=W2 at d2 q2 ⊢;by_cases h3:(D4 key (l.take 6)).take 16=l.drop 6
   .have HE:=VV H1.out H2.out h3;have HV0:Hid (D6 key l=0->Le key l=tkA (l.getD 0 0) (l.getD 1 0) (Ab l 2)):=RA;have HV1:Hid (¬ D6 key l=0->Le key l=tkA 0 0 0):=GX;have HX:Hid ((l.take 6).getD 0 0=l.getD 0 0/\(l.take 6).getD 1 0=l.getD 1 0/\Ab (l.take 6) 2=Ab l 2):=⟨AZ _ _ _ (by omega),AZ _ _ _ (by omega),Qj l⟩;rw[I' h3];clear h3;go_wp2_with fail
    refine(OZ (.slice a6 6 c6) (l.take 6) W2 (s6.below d2) (by rw[L6.out];omega)).mono ?_;rintro e w3 ⟨rfl,b3⟩;rw[HX.out.1,HX.out.2.1,HX.out.2.2];have d3:=d2.trans (b3.mono d2.size);have q3:=(b3.block w.heap.size (G'.1 q2).1).trans q2;clear b3 q2 d2 HX;generalize l.getD 0 0=c at HE HV0 ⊢;generalize l.getD 1 0=r at HE HV0 ⊢;generalize Ab l 2=u at HE HV0 ⊢;have hi:=Hk c r u;have b4:Bw w3 (w3.alloc (.cells (tkA 0 0 0) 57)):=(Below.refl _ _).alloc (A' _) _;have r4:=heap_alloc_new w3 (.cells (tkA 0 0 0) 57);have hW:w3.alloc (.cells #[.int .i64 0,.int .i64 0,.int .i64 0] 57)=w3.alloc (.cells (tkA 0 0 0) 57):=rfl;generalize w3.alloc (.cells (tkA 0 0 0) 57)=W4 at b4 r4 hW;have lt3:w.heap.size<w3.heap.size:=(G'.1 q3).1
    go_upto_region 10 with(refine wpList_store_row rfl 57 (.tmp 9) (.tmp 38) rfl w3.heap.size (tkA c r u) rfl rfl 57 _ r4 hi rfl (Hj c r u) ?_)
    clear hW;have q4:=setRow_heap W4 w3.heap.size _ (tkA c r u) 57 _ r4;replace q3:=((b4.block w.heap.size lt3).trans q3);replace q3:=(setRow_other W4 w3.heap.size w.heap.size (tkA c r u) (by omega)).trans q3;have d4:=BM (d3.trans (b4.mono d3.size)) (show w.heap.size<=w3.heap.size by omega) (tkA c r u);generalize W4.setRow w3.heap.size (tkA c r u)=W5 at q3 q4 d4 ⊢;clear r4 b4 d3;generalize w3.heap.size=G at q4 lt3 ⊢;go_wp2_with (refine wpList_load_row rfl 57 _ rfl G rfl 57 _ (0,0) _ q4 underlying57 rfl hi ?_)
    refine(Ic c r u W5).mono ?_;rintro e w6 ⟨rfl,b6⟩;have d6:=d4.trans (b6.mono d4.size);replace q3:=(b6.block w.heap.size (G'.1 q3).1).trans q3;replace q4:=(b6.block G (G'.1 q4).1).trans q4;clear b6 d4;by_cases h4:CB c r u
    .have HZ:Hid (D6 key l=0):=HE.trans (Jw h4);have HV:Hid (Le key l=tkA c r u):=HV0.out HZ.out;rw[I' h4];clear HE HV0 HV1 h4;go_wp2_with (first|(refine wpList_load_row rfl 57 _ rfl G rfl 57 _ (0,0) _ q4 underlying57 rfl hi ?_)|(refine wpList_store_row rfl 57 (.tmp 4) (.tmp 43) rfl w.heap.size (tkA c r u) rfl rfl 57 _ q3 hi rfl (Hj c r u) ?_))
     have r2:=setRow_heap w6 w.heap.size _ (tkA c r u) 57 _ q3;refine bodyPost_ret (IA rfl _ _ w.heap.size 57 _ (0,0) _ rfl r2 underlying57 rfl hi) rfl ?_;rw[HZ.out,HV.out];exact⟨rfl,BM d6 (A' _) _⟩
    .have HZ:Hid (D6 key l=2):=HE.trans (RN h4);have HV:Hid (Le key l=tkA 0 0 0):=HV1.out (by rw[HZ.out];omega);rw[D' h4];clear HE HV0 HV1 h4;go_wp2_with (refine wpList_store_row rfl 57 (.tmp 4) (.tmp 42) rfl w.heap.size (tkA 0 0 0) rfl rfl 57 _ q3 hi0 rfl (Hj 0 0 0) ?_)
     have r2:=setRow_heap w6 w.heap.size _ (tkA 0 0 0) 57 _ q3;refine bodyPost_ret (IA rfl _ _ w.heap.size 57 _ (0,0) _ rfl r2 underlying57 rfl hi0) rfl ?_;rw[HZ.out,HV.out];exact⟨rfl,BM d6 (A' _) _⟩
   .have HZ:Hid (D6 key l=6):=VU H1.out H2.out h3;have HV:Hid (Le key l=tkA 0 0 0):=GX (by rw[HZ.out];omega);rw[D' h3];clear h3;go_wp2_with (refine wpList_store_row rfl 57 (.tmp 4) (.tmp 36) rfl w.heap.size (tkA 0 0 0) rfl rfl 57 _ q2 hi0 rfl (Hj 0 0 0) ?_)
    have r2:=setRow_heap W2 w.heap.size _ (tkA 0 0 0) 57 _ q2;refine bodyPost_ret (IA rfl _ _ w.heap.size 57 _ (0,0) _ rfl r2 underlying57 rfl hi0) rfl ?_;rw[HZ.out,HV.out];exact⟨rfl,BM d2 (A' _) _⟩
  .have h2':¬ (l.length:Int)=22:=by omega
   have HZ:Hid (D6 key l=1):=LO (.inr h2);have HV:Hid (Le key l=tkA 0 0 0):=GX (by rw[HZ.out];omega);rw[h1]at hk ⊢
   clear h1;go_enter func124,ntmps124
   go_wp2
   refine bodyPost_ret (IA rfl _ _ w.heap.size 57 _ (0,0) _ rfl (heap_alloc_new _ _) underlying57 rfl hi0) rfl ?_;rw[HZ.out,HV.out];exact⟨rfl,bb⟩
 .have h1':¬ (key.length:Int)=32:=by omega
  have HZ:Hid (D6 key l=1):=LO (.inl h1);have HV:Hid (Le key l=tkA 0 0 0):=GX (by rw[HZ.out];omega);go_enter func124,ntmps124
  go_wp2
  refine bodyPost_ret (IA rfl _ _ w.heap.size 57 _ (0,0) _ rfl (heap_alloc_new _ _) underlying57 rfl hi0) rfl ?_;rw[HZ.out,HV.out];exact⟨rfl,bb⟩
end
end
section
section
def Oq(l:List Int):Int:=if l=[]then 13 else if 7<l.getD 0 0 then 2 else BS (FI (l.getD 0 0)) 0 0 noB (l.drop 1)
def MB(l:List Int):List Int:=if Oq l=0 then IP (FI (l.getD 0 0)) (l.drop 1)else[]
def unT(l:List Int):List Int:=(MB l).take 22
def unQ(l:List Int):List Int:=(MB l).drop 22
def unB(l:List Int):Prop:=Oq l=0/\(MB l).length=42/\D6 FH (unT l)=0
instance (l:List Int):Decidable (unB l):=by unfold unB;exact inferInstance
def unE(l:List Int):Int:=if Oq l≠0 then Oq l else if(MB l).length≠42 then 3 else if D6 FH (unT l)≠0 then D6 FH (unT l)else BY (unQ l)
variable{i:Nat}{l:List Int}{now:Int}
theorem WS(h:unE l=0):unB l/\BY (unQ l)=0:=by
 unfold unE at h;split at h
 .rename_i g;exact absurd h g
 .rename_i g1
  split at h
  .cases h
  .rename_i g2
   split at h
   .rename_i g;exact absurd h g
   .rename_i g3
    exact⟨⟨gi.1 g1,gi.1 g2,gi.1 g3⟩,h⟩
theorem ew(h:unE l=0):0<l.length:=by
 obtain⟨⟨h1,_⟩,_⟩:=WS h;cases l with
 | nil=>cases h1
 | cons x r=>simp
def opE(l:List Int)(now:Int):Int :=
 if unE l≠0 then unE l
 else if Ab (unQ l) 0≠0/\Ab (unQ l) 4≠l.getD 0 0 then 11
 else DX ((unT l).getD 0 0) ((unT l).getD 1 0) (Ab (unT l) 2) (Ab (unQ l) 0) (Ab (unQ l) 4) (Ab (unQ l) 8) (Ab (unQ l) 12) (Ab (unQ l) 16) now
def opA(l:List Int)(now:Int):Array Value:=if opE l now=0 then cmA (Ab (unQ l) 0) (Ab (unQ l) 4) (Ab (unQ l) 8) (Ab (unQ l) 12) (Ab (unQ l) 16)else cmA 0 0 0 0 0
theorem MA(h:opE l now≠0):opA l now=cmA 0 0 0 0 0:=if_neg h
theorem VD(h:opE l now=0):opA l now=cmA (Ab (unQ l) 0) (Ab (unQ l) 4) (Ab (unQ l) 8) (Ab (unQ l) 12) (Ab (unQ l) 16):=if_pos h
def Nod.askd(p:Nod)(i:Nat):Nod × List Let :=
 if(CS p.vo.p p.asked (p.wants.take 40)).1=[]then({ p with asked:=(CS p.vo.p p.asked (p.wants.take 40)).2 },[])
 else if p.vo.p.n=(i:Int)then(Nod.enqueue { p with asked:=(CS p.vo.p p.asked (p.wants.take 40)).2 } (CS p.vo.p p.asked (p.wants.take 40)).1,[])
 else({ p with asked:=(CS p.vo.p p.asked (p.wants.take 40)).2 },[{ Ca 6 with slot:=p.agreed.length,what:=(CS p.vo.p p.asked (p.wants.take 40)).1,src:=i,dst:=p.vo.p.n.toNat }])
noncomputable def doP(i:Nat):List Cmd->Nod->List Tol->Nod × List Tol
 | [],p,ts=>(p,ts)
 | c::l,p,ts =>
  if doE p.sto c≠0 then(p,ts)
  else doP i l (Nod.unwant { p with sto:=doS p.sto c,done:=p.done+1 } c) (if(p.asked c).isSome=true then ts++[⟨i,c.c,c.s,doC p.sto c,doA p.sto c⟩]else ts)
def Nod.syncd(p:Nod)(i:Nat)(ls:List Let):Nod × List Let:=if p.sy<(p.d.length:Int)/\CY p.d p.sy≠0 then(p,ls)else doneP i p.pend { p.syn with pend:=[] } ls
def Nod.taught(p:Nod)(i:Nat)(ls:List Let):Nod × List Let:=if p.leads then(Iq p i 5,ls++D3 p i 5)else(p,ls)
noncomputable def Nod.piece(p:Nod)(i:Nat)(ls:List Let)(ts:List Tol):Nod × List Let × List Tol :=
 let a:=doP i (p.agreed.drop p.done) p ts
 let b:=a.1.askd i
 let c:=b.1.propose.syncd i (ls++b.2)
 let d:=c.1.taught i c.2
 (d.1,d.2,a.2)
noncomputable def Nod.sub0(p:Nod)(i:Nat)(e:Int)(c:Cmd)(ts:List Tol):Nod × List Tol :=
 if p.up=false then(p,ts)
 else if e≠0 then({ p with bad:=p.bad+1 },ts)
 else if c∈p.agreed.take p.done then(p,ts++[⟨i,c.c,c.s,doC p.sto c,doA p.sto c⟩])
 else(p.want c,ts)
def Kj(l:List Int)(now:Int):Cmd:=if opE l now=0 then⟨Ab (unQ l) 0,Ab (unQ l) 4,Ab (unQ l) 8,Ab (unQ l) 12,Ab (unQ l) 16⟩else Sj
theorem bj(l:List Int)(now:Int):opA l now=cmC (Kj l now):=by unfold opA Kj;split<;>rfl
noncomputable def Nod.subm(p:Nod)(i:Nat)(d:List Int)(ts:List Tol):Nod × List Tol:=p.sub0 i (opE d (p.done:Int)) (Kj d (p.done:Int)) ts
def Meet.set(M:Meet)(i:Nat)(p:Nod)(ls:List Let)(ts:List Tol):Meet:=⟨upN M.node i p,ls,ts⟩
noncomputable def Meet.act(M:Meet)(x:Lac):Meet :=
 let i:=x.n.toNat
 if x.k=1 then M.set i ((M.node i).subm i x.d M.told).1 M.lets ((M.node i).subm i x.d M.told).2
 else if x.k=2 then M.set i (if(M.node i).up then(M.node i).lead i else M.node i) M.lets M.told
 else if x.k=3 then M.set i (if(M.node i).up then((M.node i).piece i M.lets M.told).1 else M.node i) (if(M.node i).up then((M.node i).piece i M.lets M.told).2.1 else M.lets) (if(M.node i).up then((M.node i).piece i M.lets M.told).2.2 else M.told)
 else if x.k=4\/x.k=5\/x.k=6 then M.move x.k x.a.toNat
 else if x.k=7 then M.comeAll
 else if x.k=8 then M.set i (if(M.node i).up then(M.node i).crash x.p else M.node i) M.lets M.told
 else if x.k=9 then M.set i (if(M.node i).up then M.node i else(M.node i).start) M.lets M.told
 else M
noncomputable def Meet.acts(M:Meet)(l:List Lac):Meet:=l.foldl Meet.act M
theorem Y5(r:List Int):Bm (E8 r).2.p/\Bn (E8 r).2.vs:=by
 have h:∀ k,Bm (itR r k).2.p/\Bn (itR r k).2.vs:=by
  intro k;induction k with
  | zero=>exact⟨.inr ⟨rfl,rfl⟩,Bn.nil⟩
  | succ k ih =>
   rw[itR];unfold Kf;split
   .exact ih
   .rename_i c m hs
    have hd:∃ b,G9 (itR r k).2 b=some c:=by
     unfold EL at hs;split at hs
     .cases hs
     .split at hs
      .cases hs
      .split at hs
       .cases hs
       .obtain⟨x,hx,e⟩:=im.1 hs;injection e with e1 e2
        subst e1;exact⟨_,hx⟩
    obtain⟨b,hb⟩:=hd;unfold G9 at hb;split at hb
    .split at hb
     .rename_i h1
      injection hb with hb;subst hb
      exact⟨.inl (LN h1).2.1,ih.2⟩
     .cases hb
    .split at hb
     .split at hb
      .split at hb
       .rename_i h1
        injection hb with hb;subst hb
        exact⟨.inl (Ej h1).2.1.2.1,EZ ih.2 (Ej h1).2.1⟩
       .cases hb
      .cases hb
     .cases hb
 exact h r.length
theorem Y3(d:List Int)(s:Int):Bm (Gq d s).p/\Bn (Gq d s).vs:=by
 unfold Gq;split
 .exact Y5 d
 .exact⟨.inr ⟨rfl,rfl⟩,Bn.nil⟩
theorem Ih{l m:Let}{k:Nat}(h:m∈BI i l k):∃ to,to<k/\m={ l with src:=i,dst:=to }:=by
 unfold BI at h;obtain⟨to,h1,rfl⟩:=fS.1 h;exact⟨to,gV.1 (je.1 h1).1,rfl⟩
theorem Ig(hi:i<5)(l:Let):(BI i l 5).length<=4:=by
 unfold BI;rw[fM];rcases five hi with rfl|rfl|rfl|rfl|rfl<;>decide
end
section
variable{n i:Nat}{p:Nod}
theorem NOk.runP(h:NOk n p)(hi:i<5){q:Pend}(hq:POk p.agreed.length q):NOk n (p.runP i q)/\(p.runP i q).pend=p.pend/\p.agreed.length<=(p.runP i q).agreed.length/\Pg p i q/\(∀ m∈p.sentP i q,LOk m)/\(p.sentP i q).length<=q.wt:=by
 have ha:=h.ag;have one:∀ {l:Let},LOk l->∀ m∈[l],LOk m:=λhl m hm=>by rw[O'.1 hm];exact hl
 cases q with
 | began b vs =>
  unfold Nod.runP Nod.sentP;refine⟨?_,?_,?_,jj (h.he i).len (by decide),?_,?_⟩
  .simp only;split
   .exact h
   .exact h.hear i hq
  .simp only;split<;>rfl
  .simp only;split<;>exact A' _
  .simp only;split
   .exact λm hm=>by cases hm
   .rename_i h1
    intro m hm;obtain⟨to,h2,rfl⟩:=Ih hm;exact⟨by show 0<7;decide,hi,h2,by show Bm b;rw[<- gv h1];exact h.vp,Bn.nil,by show 0<=40;decide,λh=>by cases h⟩
  .simp only;split
   .exact fP _
   .exact Ig hi _
 | prom to b vs=>exact⟨h,rfl,A' _,trivial,one ⟨by show 1<7;decide,hi,hq.1,hq.2.1,hq.2.2,ha,λh=>by cases h⟩,A' _⟩
 | voted to v=>exact⟨h,rfl,A' _,trivial,one ⟨by show 4<7;decide,hi,hq,Bm.b0,Bn.nil,by show 0<=40;decide,λh=>by cases h⟩,A' _⟩
 | refuse to b=>exact⟨h,rfl,A' _,trivial,one ⟨by show 2<7;decide,hi,hq.1,hq.2,Bn.nil,by show 0<=40;decide,λh=>by cases h⟩,A' _⟩
 | prop v =>
  have hc:=h.count i v;refine⟨hc.1,hc.2.1,hc.2.2,ha,λm hm=>?_,Ig hi _⟩;obtain⟨to,h2,rfl⟩:=Ih hm;exact⟨by show 3<7;decide,hi,h2,Bm.b0,Bn.nil,by show 0<=40;decide,λh=>by cases h⟩
 | askNews to=>exact⟨h,rfl,A' _,trivial,one ⟨by show 6<7;decide,hi,hq,Bm.b0,Bn.nil,by show 0<=40;decide,λh=>by cases h⟩,A' _⟩
 | start =>
  refine⟨h,rfl,A' _,trivial,λm hm=>?_,Ig hi _⟩;obtain⟨to,h2,rfl⟩:=Ih hm;exact⟨by show 6<7;decide,hi,h2,Bm.b0,Bn.nil,by show 0<=40;decide,λh=>by cases h⟩
 | tell to slot=>exact⟨h,rfl,A' _,hq.2,one ⟨by show 5<7;decide,hi,hq.1,Bm.b0,Bn.nil,by show(p.agreed.drop slot).length<=40;rw[fA];omega,λ_=>by show slot+(p.agreed.drop slot).length<=40;rw[fA];have:=hq.2;omega⟩,A' _⟩
theorem UG(hi:i<5)(l:List Pend)(p:Nod)(ls:List Let)(h:NOk n p)(hq:∀ q∈l,POk p.agreed.length q)(hb:ls.length+At l<90000000)(hl:∀ m∈ls,LOk m) :
  NOk n (doneP i l p ls).1/\(doneP i l p ls).1.pend=p.pend/\(∀ m∈(doneP i l p ls).2,LOk m)/\(doneP i l p ls).2.length<=ls.length+At l/\Fz i l p ls:=by
 induction l generalizing p ls with
 | nil=>exact⟨h,rfl,hl,A' _,trivial⟩
 | cons q l ih =>
  obtain⟨h1,h2,h3,h4,h5,h6⟩:=h.runP hi (hq q V');have hw:At (q::l)=q.wt+At l:=rfl;obtain⟨k1,k2,k3,k4,k5⟩:=ih (p.runP i q) (ls++p.sentP i q) h1 (λr hr=>(hq r (Q' _ hr)).mono h3) (by rw[N'];omega) (λm hm=>by
   rcases Y'.1 hm with h|h
   .exact hl m h
   .exact h5 m h)
  refine⟨k1,k2.trans h2,k3,?_,h4,by omega,k5⟩;show(doneP i l (p.runP i q) (ls++p.sentP i q)).2.length<=_;rw[N']at k4;omega
theorem NOk.syn(h:NOk n p):NOk n { p.syn with pend:=[] }:=by
 unfold Nod.syn;split
 .exact{ h with pe:=λq hq=>by cases hq }
 .exact{ h with pe:=λq hq=>by cases hq }
theorem QM(p:Nod):p.syn.agreed=p.agreed:=by unfold Nod.syn;split<;>rfl
theorem NOk.syncd(h:NOk n p)(hi:i<5){ls:List Let}(hb:ls.length+At p.pend<90000000)(hl:∀ m∈ls,LOk m) :
  NOk n (p.syncd i ls).1/\(∀ m∈(p.syncd i ls).2,LOk m)/\(p.syncd i ls).2.length+At (p.syncd i ls).1.pend<=ls.length+At p.pend/\Fz i p.pend { p.syn with pend:=[] } ls:=by
 have hd:=UG hi p.pend { p.syn with pend:=[] } ls h.syn (λq hq=>by show POk p.syn.agreed.length q;rw[QM];exact h.pe q hq) hb hl;unfold Nod.syncd;split
 .exact⟨h,hl,A' _,hd.2.2.2.2⟩
 .exact⟨hd.1,hd.2.2.1,by rw[hd.2.1];exact hd.2.2.2.1,hd.2.2.2.2⟩
theorem Uh(b:Bal)(f:Cmd->Option Bal)(l:List Cmd):(CS b f l).1.length<=l.length:=by
 induction l generalizing f with
 | nil=>exact A' _
 | cons c l ih =>
  rw[CS];split
  .have:=ih (DU f c (some b));simp only[fR];omega
  .have:=ih f;simp only[fR];omega
theorem Sb(b:Bal)(f:Cmd->Option Bal)(l:List Cmd)(c:Cmd)(h:((CS b f l).2 c).isSome=true):(f c).isSome=true\/c∈l:=by
 induction l generalizing f with
 | nil=>exact .inl h
 | cons d l ih =>
  rw[CS]at h
  split at h
  .rcases ih _ h with h1|h1
   .unfold DU at h1;split at h1
    .rename_i e;exact .inr (e▸V')
    .exact .inl h1
   .exact .inr (Q' _ h1)
  .rcases ih _ h with h1|h1
   .exact .inl h1
   .exact .inr (Q' _ h1)
theorem NOk.asks(h:NOk n p):NOk n { p with asked:=(CS p.vo.p p.asked (p.wants.take 40)).2 } :=
 { h with ask:=λc hc=>(Sb _ _ _ c hc).elim (h.ask c) fK }
theorem NOk.askd(h:NOk n p)(hi:i<5):NOk n (p.askd i).1/\(p.askd i).1.pend=p.pend/\(p.askd i).1.agreed=p.agreed/\(∀ m∈(p.askd i).2,LOk m)/\(p.askd i).2.length<=1:=by
 have hL:(CS p.vo.p p.asked (p.wants.take 40)).1.length<=40:=fy (Uh _ _ _) (by rw[fx];omega);unfold Nod.askd;split
 .exact⟨h.asks,rfl,rfl,λm hm=>(by cases hm),fP _⟩
 .split
  .have:=h.asks.enqueue (CS p.vo.p p.asked (p.wants.take 40)).1;exact⟨this.1,this.2.1,this.2.2,λm hm=>(by cases hm),fP _⟩
  .have hr:=h.vp.rng;refine⟨h.asks,rfl,rfl,λm hm=>?_,A' _⟩;rw[O'.1 hm];exact⟨by show 6<7;decide,hi,by show p.vo.p.n.toNat<5;omega,Bm.b0,Bn.nil,hL,λh=>by cases h⟩
theorem NOk.propose(h:NOk n p):NOk n p.propose/\At p.propose.pend<=At p.pend+4/\p.propose.agreed=p.agreed:=by
 unfold Nod.propose;split
 .exact⟨h,by omega,rfl⟩
 .split
  .exact⟨h,by omega,rfl⟩
  .rename_i c _
   split
   .exact⟨h,by omega,rfl⟩
   .have hv:=h.vote ⟨(p.agreed.length:Int),p.rnd.bal,c⟩;have h1:NOk n { (p.vote ⟨(p.agreed.length:Int),p.rnd.bal,c⟩).1 with rnd:={ p.rnd with next:=p.agreed.length+1 } }:={ hv.1 with qu:=h.qu,he:=h.he };refine⟨h1.wait trivial,?_,hv.2.2.1⟩;show At ((p.vote ⟨(p.agreed.length:Int),p.rnd.bal,c⟩).1.pend++[_])<=_;rw[E5,hv.2.1];exact A' _
theorem NOk.taught(h:NOk n p)(hi:i<5)(ls:List Let)(hl:∀ m∈ls,LOk m):NOk n (p.taught i ls).1/\(p.taught i ls).1.pend=p.pend/\(∀ m∈(p.taught i ls).2,LOk m)/\(p.taught i ls).2.length<=ls.length+5:=by
 have ha:=h.ag;have ht:∀ k,k<=5->∀ m∈D3 p i k,LOk m:=by
  intro k;induction k with
  | zero=>exact λ_ m hm=>by cases hm
  | succ k ih =>
   intro hk m hm;rw[D3]at hm
   rcases Y'.1 hm with h1|h1
   .exact ih (by omega) m h1
   .split at h1
    .rename_i hb
     have hb:=gA hb;rw[O'.1 h1];exact⟨by show 5<7;decide,hi,by show k<5;omega,Bm.b0,Bn.nil,by show(p.agreed.drop _).length<=40;rw[fA];omega,λ_=>by show p.rnd.taught k+(p.agreed.drop _).length<=40;rw[fA];omega⟩
    .cases h1
 unfold Nod.taught;split
 .refine⟨{ h with qu:=h.qu,he:=h.he },rfl,λm hm=>?_,by show(ls++D3 p i 5).length<=_;rw[N'];have:=RL p i 5;omega⟩;rcases Y'.1 hm with h1|h1
  .exact hl m h1
  .exact ht 5 (A' _) m h1
 .exact⟨h,rfl,hl,jt _ _⟩
theorem NOk.unwant(h:NOk n p)(c:Cmd):NOk n (p.unwant c)/\(p.unwant c).wants.length+(if(p.asked c).isSome=true then 1 else 0)<=p.wants.length:=by
 unfold Nod.unwant;split
 .rename_i h1
  have hm:=h.ask c h1;have hl:(p.wants.erase c).length=p.wants.length-1:=List.length_erase_of_mem hm;have hp:0<p.wants.length:=List.length_pos_of_mem hm;refine⟨{ h with wa:=?_,ask:=λd hd=>?_ },by show(p.wants.erase c).length+1<=_;omega⟩
  .show(p.wants.erase c).length<=n;have:=h.wa;omega
  .unfold DU at hd;simp only at hd;split at hd
   .cases hd
   .rename_i hne;exact(List.mem_erase_of_ne hne).2 (h.ask d hd)
 .exact⟨h,A' _⟩
theorem Ft(p:Nod)(c:Cmd):(p.unwant c).up=p.up/\(p.unwant c).pend=p.pend/\(p.unwant c).agreed=p.agreed/\(p.unwant c).done=p.done/\(p.unwant c).sto=p.sto:=by
 unfold Nod.unwant;split<;>exact⟨rfl,rfl,rfl,rfl,rfl⟩
theorem UD(i:Nat)(l:List Cmd)(p:Nod)(ts:List Tol)(h:NOk n p)(hl:p.done+l.length<=p.agreed.length) :
  NOk n (doP i l p ts).1/\(doP i l p ts).1.pend=p.pend/\(doP i l p ts).1.agreed=p.agreed/\(doP i l p ts).2.length+(doP i l p ts).1.wants.length<=ts.length+p.wants.length:=by
 induction l generalizing p ts with
 | nil=>exact⟨h,rfl,rfl,A' _⟩
 | cons c l ih =>
  rw[doP];split
  .exact⟨h,rfl,rfl,A' _⟩
  .rw[fR]at hl
   have h1:NOk n { p with sto:=doS p.sto c,done:=p.done+1 }:={ h with dn:=by show p.done+1<=p.agreed.length;omega };have h2:=h1.unwant c;have hs:=Ft { p with sto:=doS p.sto c,done:=p.done+1 } c;obtain⟨k1,k2,k3,k4⟩:=ih (Nod.unwant { p with sto:=doS p.sto c,done:=p.done+1 } c) (if(p.asked c).isSome=true then ts++[⟨i,c.c,c.s,doC p.sto c,doA p.sto c⟩]else ts) h2.1 (by rw[hs.2.2.2.1,hs.2.2.1];show p.done+1+l.length<=p.agreed.length;omega);refine⟨k1,k2.trans hs.2.1,k3.trans hs.2.2.1,fy k4 ?_⟩;have h3:=h2.2;simp only at h3;by_cases hx:(p.asked c).isSome=true
   .rw[if_pos hx]at h3 ⊢
    rw[N'];show ts.length+1+_<=_;omega
   .rw[if_neg hx]at h3 ⊢;omega
theorem NOk.piece(h:NOk n p)(hi:i<5){ls:List Let}{ts:List Tol}(hb:ls.length+At p.pend<80000000)(hl:∀ m∈ls,LOk m) :
  NOk n (p.piece i ls ts).1/\(∀ m∈(p.piece i ls ts).2.1,LOk m)/\(p.piece i ls ts).2.1.length+At (p.piece i ls ts).1.pend<=ls.length+At p.pend+10/\(p.piece i ls ts).2.2.length+(doP i (p.agreed.drop p.done) p ts).1.wants.length<=ts.length+p.wants.length:=by
 have h1:=UD i (p.agreed.drop p.done) p ts h (by rw[fA];have:=h.dn;omega);have h2:=h1.1.askd hi;have h3:=h2.1.propose;have h4:=h3.1.syncd hi (ls:=ls++((doP i (p.agreed.drop p.done) p ts).1.askd i).2) (by rw[N'];have:=h3.2.1;have:=h2.2.2.2.2;rw[h2.2.1,h1.2.1]at *;omega) (λm hm=>by
  rcases Y'.1 hm with h|h
  .exact hl m h
  .exact h2.2.2.2.1 m h)
 have h5:=h4.1.taught hi _ h4.2.1;refine⟨h5.1,h5.2.2.1,?_,h1.2.2.2⟩;have e1:=h5.2.2.2;have e2:=h4.2.2.1;have e3:=h3.2.1;have e4:=h2.2.2.2.2;rw[h2.2.1,h1.2.1]at e3
 rw[N']at e2
 show(Nod.taught _ i _).2.length+At (Nod.taught _ i _).1.pend<=_;rw[h5.2.1];omega
end
end
section
open Go.RowKit
theorem QR{g:Gh}{w:World}(hg:∀ b,w.heap.size<=b->g.t b=.z/\g.k b=0) :
  Calls prog 21 #[] w λe w'=>∃ (b:Nat) (g':Gh),e=.returned (.map (some b))/\TkAt g' w' b 7/\Hs g' w'/\Cg w.heap.size [.n 70 0] g w g' w':=by
 refine gI (fn:=f21) [.n 70 0] g func21 hg ?_;refine qR [] 6 [] λs1 g1 w1 c1=>?_;refine dq 0 (by kernel_rfl) (by kernel_rfl) ?_;intro tb g2 w2 htb A0 cc2 n2;have c2:=cc2 w.heap.size [];refine Gd 1 (b:=tb) A0 (by decide) (by kernel_rfl) (by kernel_rfl) (by kernel_rfl) ?_;intro w4 A1 cc4;have c4:=cc4 w.heap.size [.n 70 0] (O'.2 rfl);refine Gd 2 (b:=tb) A1 (by decide) (by kernel_rfl) (by kernel_rfl) (by kernel_rfl) ?_;intro w6 A2 cc6;have c6:=cc6 w.heap.size [.n 70 0] (O'.2 rfl);refine Gd 3 (b:=tb) A2 (by decide) (by kernel_rfl) (by kernel_rfl) (by kernel_rfl) ?_;intro w8 A3 cc8;have c8:=cc8 w.heap.size [.n 70 0] (O'.2 rfl);refine Gd 4 (b:=tb) A3 (by decide) (by kernel_rfl) (by kernel_rfl) (by kernel_rfl) ?_;intro w10 A4 cc10;have c10:=cc10 w.heap.size [.n 70 0] (O'.2 rfl);refine Gd 5 (b:=tb) A4 (by decide) (by kernel_rfl) (by kernel_rfl) (by kernel_rfl) ?_;intro w12 A5 cc12;have c12:=cc12 w.heap.size [.n 70 0] (O'.2 rfl);refine Gd 6 (b:=tb) A5 (by decide) (by kernel_rfl) (by kernel_rfl) (by kernel_rfl) ?_;intro w14 A6 cc14;have c14:=cc14 w.heap.size [.n 70 0] (O'.2 rfl);refine Gd 7 (b:=tb) A6 (by decide) (by kernel_rfl) (by kernel_rfl) (by kernel_rfl) ?_;intro w16 A7 cc16;have c16:=cc16 w.heap.size [.n 70 0] (O'.2 rfl);refine qR [] 3 [] λs17 g17 w17 c17=>?_;exact qE (.map (some tb)) λK=>⟨tb,_,rfl,(A7.ch c17),K.new,((((((((((c1.nil [.n 70 0]).n c2).trans c4).trans c6).trans c8).trans c10).trans c12).trans c14).trans c16).n c17)⟩
theorem JF{g:Gh}{w:World}{mb tb ob:Nat}{nb:Nat->Nat}{M:Meet}(h:MS mb tb ob nb g w M){w0:World}(hB:Base w0 g w)(hT:Tabs w0)(lb:Nat)(l:Let)(hl:BW g w lb l)(hlo:LOk l){n:Nat}(hok:NOk n (M.node l.dst))(hpb:(M.node l.dst).pend.length<100000000) :
  Calls prog 64 #[pt mb 0,pt lb 0] w (MP mb tb ob nb g w (.tuple #[]) (M.come l)):=by
 have hLL:=hl;obtain⟨kd,src,dst,bal,vote,votes,slot,what⟩:=l;have hs:src<5:=hlo.src;have hd:dst<5:=hlo.dst;have hkd:kd<7:=hlo.kd;have hwl:what.length<=40:=hlo.wh;simp only at hok hpb;obtain⟨x,hN⟩:=h.node dst hd;have hag:=hok.ag;refine gI (fn:=f64) TM g func64 h.new ?_;refine BF ⟨mb,_,.z,false⟩ (λ_=>⟨h.box.r,h.box.z,λh=>(by cases h),λh=>absurd rfl h⟩) (by kernel_rfl) ?_;obtain⟨vs,wh,hl1,hl2,hl3⟩:=hl;refine BF ⟨lb,.cells (Ev (Let.mk kd src dst bal vote votes slot what) vs wh) 140,.z,false⟩ (λ_=>⟨hl1.r,hl1.z,λh=>(by cases h),λh=>absurd rfl h⟩) (by kernel_rfl) ?_;refine qR [] 9 [10,0,2,4,6,8,1,10,12] λs1 g1 w1 c1=>?_;refine NJ 7 (pt mb dst) false (λW hW=>(by rcases five hd with rfl|rfl|rfl|rfl|rfl<;>kernel_rfl)) (by kernel_rfl) ?_;refine qU 8 (pt (nb dst) 0) (λW hW=>(CJ underlying68 rfl (R3 (AJ.at (hW rfl) 0 mb (.cells (mtA nb ob tb) 71) .z (by kernel_rfl)) hd))) ?_;refine qR [] 7 [18] λs3 g3 w3 c3=>?_;have hN1:=hN.ch (c1.trans c3);refine qN hN1 ?_;refine qR [] 2 [2] λs4 g4 w4 c4=>?_;by_cases h1:(M.node dst).up=true
 .refine qI ((M.node dst).up) true h1 ?_;have hk1:=h.tk.ch ((c1.trans c3).trans c4) (by simp);refine GD tb _ 70 0 hk1.row hk1.t hk1.k (by kernel_rfl) ?_;rw[show M.come (Let.mk kd src dst bal vote votes slot what)=M.set dst ((M.node dst).take (Let.mk kd src dst bal vote votes slot what)) M.lets M.told from if_pos h1];refine qR [] 9 [11,0,2,4,6,0,8,10,12,14,1] λs5 g5 w5 c5=>?_;refine qU 8 (tkV kd) (λW hW=>(rTk (AJ.at (hW rfl) 3 tb (.map (tkL 7).toArray 7) (.n 70 0) (by kernel_rfl)) hkd)) ?_;refine qR [] 2 [18,20] λs6 g6 w6 c6=>?_;rcases Wv hkd with rfl|rfl|rfl|rfl|rfl|rfl|rfl
  .refine Ae λK=>?_;have N7:MS mb tb ob nb g6 w6 M:=(h.ch0 ((((c1.trans c3).trans c4).trans c5).trans c6) K.new);refine qG 11 TM [true,true,false,false] ((N7).call hd (Hh ((N7).ns hd) (hB.ch (((((c1.nil TM).n c3).n c4).n c5).n c6) Em) hT lb _ (hLL.ch ((((c1.trans c3).trans c4).trans c5).trans c6) (by simp)) rfl hpb)) ?_;rintro e' w7 ⟨g7,rfl,M7,c7⟩;refine⟨_,g7,rfl,c7,M7.new,?_⟩;replace c7:=c7.ret (B:=w.heap.size);refine qR [] 1 [] λs8 g8 w8 c8=>?_;refine qE (.tuple #[]) λK=>?_;exact⟨_,rfl,(M7.ch0 c8 K.new),(((((((c1.nil TM).n c3).n c4).n c5).n c6).trans (c7)).n c8)⟩
  .refine Ae λK=>?_;have N9:MS mb tb ob nb g6 w6 M:=(h.ch0 ((((c1.trans c3).trans c4).trans c5).trans c6) K.new);refine qG 11 TM [true,true,false,false] ((N9).call hd (Jj ((N9).ns hd) (hB.ch (((((c1.nil TM).n c3).n c4).n c5).n c6) Em) hT lb _ (hLL.ch ((((c1.trans c3).trans c4).trans c5).trans c6) (by simp)) rfl hs (by show((M.node dst).agreed++what.drop ((M.node dst).agreed.length-0)).length<=40;rw[N',fA];omega) hwl (jj (hok.he src).len (by decide)))) ?_;rintro e' w9 ⟨g9,rfl,M9,c9⟩;refine⟨_,g9,rfl,c9,M9.new,?_⟩;replace c9:=c9.ret (B:=w.heap.size);refine qR [] 1 [] λs10 g10 w10 c10=>?_;refine qE (.tuple #[]) λK=>?_;exact⟨_,rfl,(M9.ch0 c10 K.new),(((((((c1.nil TM).n c3).n c4).n c5).n c6).trans (c9)).n c10)⟩
  .refine Ae λK=>?_;have N11:MS mb tb ob nb g6 w6 M:=(h.ch0 ((((c1.trans c3).trans c4).trans c5).trans c6) K.new);refine qG 11 TM [true,true,false,false] ((N11).call hd (Jk ((N11).ns hd) lb _ (hLL.ch ((((c1.trans c3).trans c4).trans c5).trans c6) (by simp)))) ?_;rintro e' w11 ⟨g11,rfl,M11,c11⟩;refine⟨_,g11,rfl,c11,M11.new,?_⟩;replace c11:=c11.ret (B:=w.heap.size);refine qR [] 1 [] λs12 g12 w12 c12=>?_;refine qE (.tuple #[]) λK=>?_;exact⟨_,rfl,(M11.ch0 c12 K.new),(((((((c1.nil TM).n c3).n c4).n c5).n c6).trans (c11)).n c12)⟩
  .refine Ae λK=>?_;have N13:MS mb tb ob nb g6 w6 M:=(h.ch0 ((((c1.trans c3).trans c4).trans c5).trans c6) K.new);refine qG 11 TM [true,true,false,false] ((N13).call hd (Ip ((N13).ns hd) (hB.ch (((((c1.nil TM).n c3).n c4).n c5).n c6) Em) hT lb _ (hLL.ch ((((c1.trans c3).trans c4).trans c5).trans c6) (by simp)) rfl hpb (by have:=hok.vs.len;omega))) ?_;rintro e' w13 ⟨g13,rfl,M13,c13⟩;refine⟨_,g13,rfl,c13,M13.new,?_⟩;replace c13:=c13.ret (B:=w.heap.size);refine qR [] 1 [] λs14 g14 w14 c14=>?_;refine qE (.tuple #[]) λK=>?_;exact⟨_,rfl,(M13.ch0 c14 K.new),(((((((c1.nil TM).n c3).n c4).n c5).n c6).trans (c13)).n c14)⟩
  .refine Ae λK=>?_;have N15:MS mb tb ob nb g6 w6 M:=(h.ch0 ((((c1.trans c3).trans c4).trans c5).trans c6) K.new);refine qG 11 TM [true,true,false,false] ((N15).call hd (MN ((N15).ns hd) (hB.ch (((((c1.nil TM).n c3).n c4).n c5).n c6) Em) hT lb _ (hLL.ch ((((c1.trans c3).trans c4).trans c5).trans c6) (by simp)) hs hag)) ?_;rintro e' w15 ⟨g15,rfl,M15,c15⟩;refine⟨_,g15,rfl,c15,M15.new,?_⟩;replace c15:=c15.ret (B:=w.heap.size);refine qR [] 1 [] λs16 g16 w16 c16=>?_;refine qE (.tuple #[]) λK=>?_;exact⟨_,rfl,(M15.ch0 c16 K.new),(((((((c1.nil TM).n c3).n c4).n c5).n c6).trans (c15)).n c16)⟩
  .refine Ae λK=>?_;have N17:MS mb tb ob nb g6 w6 M:=(h.ch0 ((((c1.trans c3).trans c4).trans c5).trans c6) K.new);refine qG 11 TM [true,true,false,false] ((N17).call hd (MM ((N17).ns hd) lb _ (hLL.ch ((((c1.trans c3).trans c4).trans c5).trans c6) (by simp)) rfl hpb (by omega) (by show what.length<_;omega))) ?_;rintro e' w17 ⟨g17,rfl,M17,c17⟩;refine⟨_,g17,rfl,c17,M17.new,?_⟩;replace c17:=c17.ret (B:=w.heap.size);refine qR [] 1 [] λs18 g18 w18 c18=>?_;refine qE (.tuple #[]) λK=>?_;exact⟨_,rfl,(M17.ch0 c18 K.new),(((((((c1.nil TM).n c3).n c4).n c5).n c6).trans (c17)).n c18)⟩
  .refine Ae λK=>?_;have N19:MS mb tb ob nb g6 w6 M:=(h.ch0 ((((c1.trans c3).trans c4).trans c5).trans c6) K.new);refine qG 11 TM [true,true,false,false] ((N19).call hd (K8 ((N19).ns hd) lb _ (hLL.ch ((((c1.trans c3).trans c4).trans c5).trans c6) (by simp)) rfl hpb (by show what.length<_;omega) hok.qu)) ?_;rintro e' w19 ⟨g19,rfl,M19,c19⟩;refine⟨_,g19,rfl,c19,M19.new,?_⟩;replace c19:=c19.ret (B:=w.heap.size);refine qR [] 1 [] λs20 g20 w20 c20=>?_;refine qE (.tuple #[]) λK=>?_;exact⟨_,rfl,(M19.ch0 c20 K.new),(((((((c1.nil TM).n c3).n c4).n c5).n c6).trans (c19)).n c20)⟩
 .refine qI ((M.node dst).up) false (by simpa using h1) ?_;refine qR [] 1 [] λs21 g21 w21 c21=>?_;refine qE (.tuple #[]) λK=>?_;rw[show M.come (Let.mk kd src dst bal vote votes slot what)=M from if_neg h1];exact⟨_,rfl,(h.ch0 (((c1.trans c3).trans c4).trans c21) K.new),((((c1.nil TM).n c3).n c4).n c21)⟩
end
end Go.Proofs.YtalbmmghmoggcabGreatDoor
