/- Part 35 of the walk: what the functions of the program do, one by one. -/
import Derived.Test.YtakgfdbjgeopdaaGreatDoorZ34
import Derived.Test.YtakgfdbjgeopdaaGreatDoorZ29
set_option maxRecDepth 100000
set_option maxHeartbeats 4000000
open Go.Proofs.Tryz
set_option linter.unusedVariables false
namespace Go.Proofs.YtakgfdbjgeopdaaGreatDoor
theorem Xc(r:List Int):Bq (Ey r).2.p∧Br (Ey r).2.vs:=by
 have h:∀ k,Bq (itR r k).2.p∧Br (itR r k).2.vs:=by
  intro k;induction k with
  | zero=>exact⟨.inr ⟨rfl,rfl⟩,Br.nil⟩
  | succ k ih =>
   rw[itR];unfold JB;split
   ·exact ih
   ·rename_i c m hs
    have hd:∃ b,Gq (itR r k).2 b=some c:=by
     unfold E8 at hs;split at hs
     ·cases hs
     ·split at hs
      ·cases hs
      ·split at hs
       ·cases hs
       ·obtain⟨x,hx,e⟩:=Option.map_eq_some_iff.1 hs;injection e with e1 e2
        subst e1;exact⟨_,hx⟩
    obtain⟨b,hb⟩:=hd;unfold Gq at hb;split at hb
    ·split at hb
     ·rename_i h1
      injection hb with hb;subst hb
      exact⟨.inl (Lu h1).2.1,ih.2⟩
     ·cases hb
    ·split at hb
     ·split at hb
      ·split at hb
       ·rename_i h1
        injection hb with hb;subst hb
        exact⟨.inl (DY h1).2.1.2.1,EO ih.2 (DY h1).2.1⟩
       ·cases hb
      ·cases hb
     ·cases hb
 exact h r.length
theorem Xa(d:List Int)(s:Int):Bq (Gb d s).p∧Br (Gb d s).vs:=by
 unfold Gb;split
 ·exact Xc d
 ·exact⟨.inr ⟨rfl,rfl⟩,Br.nil⟩
theorem Hw{i:Nat}{l m:Let}{k:Nat}(h:m∈BG i l k):∃ to,to<k∧m={ l with src:=i,dst:=to }:=by
 unfold BG at h;obtain⟨to,h1,rfl⟩:=List.mem_map.1 h;exact⟨to,List.mem_range.1 (List.mem_filter.1 h1).1,rfl⟩
theorem Hv{i:Nat}(hi:i<5)(l:Let):(BG i l 5).length≤4:=by
 unfold BG;rw[List.length_map];rcases five hi with rfl|rfl|rfl|rfl|rfl<;>decide
section
variable{n i:Nat}{p:Nod}
theorem NOk.runP(h:NOk n p)(hi:i<5){q:Pend}(hq:POk p.agreed.length q):NOk n (p.runP i q)∧(p.runP i q).pend=p.pend∧p.agreed.length≤(p.runP i q).agreed.length∧O8 p i q∧(∀ m∈p.sentP i q,LOk m)∧(p.sentP i q).length≤q.wt:=by
 have ha:=h.ag;have one:∀ {l:Let},LOk l→∀ m∈[l],LOk m:=fun hl m hm=>by rw[List.mem_singleton.1 hm];exact hl
 cases q with
 | began b vs =>
  unfold Nod.runP Nod.sentP;refine⟨?_,?_,?_,Nat.lt_of_le_of_lt (h.he i).len (by decide),?_,?_⟩
  ·simp only;split
   ·exact h
   ·exact h.hear i hq
  ·simp only;split<;>rfl
  ·simp only;split<;>exact Nat.le_refl _
  ·simp only;split
   ·exact fun m hm=>by cases hm
   ·rename_i h1
    intro m hm;obtain⟨to,h2,rfl⟩:=Hw hm;exact⟨by show 0<7;decide,hi,h2,by show Bq b;rw[← Decidable.byContradiction h1];exact h.vp,Br.nil,by show 0≤40;decide,fun h=>by cases h⟩
  ·simp only;split
   ·exact Nat.zero_le _
   ·exact Hv hi _
 | prom to b vs=>exact⟨h,rfl,Nat.le_refl _,trivial,one ⟨by show 1<7;decide,hi,hq.1,hq.2.1,hq.2.2,ha,fun h=>by cases h⟩,Nat.le_refl _⟩
 | voted to v=>exact⟨h,rfl,Nat.le_refl _,trivial,one ⟨by show 4<7;decide,hi,hq,Bq.b0,Br.nil,by show 0≤40;decide,fun h=>by cases h⟩,Nat.le_refl _⟩
 | refuse to b=>exact⟨h,rfl,Nat.le_refl _,trivial,one ⟨by show 2<7;decide,hi,hq.1,hq.2,Br.nil,by show 0≤40;decide,fun h=>by cases h⟩,Nat.le_refl _⟩
 | prop v =>
  have hc:=h.count i v;refine⟨hc.1,hc.2.1,hc.2.2,ha,fun m hm=>?_,Hv hi _⟩;obtain⟨to,h2,rfl⟩:=Hw hm;exact⟨by show 3<7;decide,hi,h2,Bq.b0,Br.nil,by show 0≤40;decide,fun h=>by cases h⟩
 | askNews to=>exact⟨h,rfl,Nat.le_refl _,trivial,one ⟨by show 6<7;decide,hi,hq,Bq.b0,Br.nil,by show 0≤40;decide,fun h=>by cases h⟩,Nat.le_refl _⟩
 | start =>
  refine⟨h,rfl,Nat.le_refl _,trivial,fun m hm=>?_,Hv hi _⟩;obtain⟨to,h2,rfl⟩:=Hw hm;exact⟨by show 6<7;decide,hi,h2,Bq.b0,Br.nil,by show 0≤40;decide,fun h=>by cases h⟩
 | tell to slot=>exact⟨h,rfl,Nat.le_refl _,hq.2,one ⟨by show 5<7;decide,hi,hq.1,Bq.b0,Br.nil,by show(p.agreed.drop slot).length≤40;rw[List.length_drop];omega,fun _=>by show slot+(p.agreed.drop slot).length≤40;rw[List.length_drop];have:=hq.2;omega⟩,Nat.le_refl _⟩
theorem T7(hi:i<5)(l:List Pend)(p:Nod)(ls:List Let)(h:NOk n p)(hq:∀ q∈l,POk p.agreed.length q)(hb:ls.length+Au l<90000000)(hl:∀ m∈ls,LOk m) :
  NOk n (Cq i l p ls).1∧(Cq i l p ls).1.pend=p.pend∧(∀ m∈(Cq i l p ls).2,LOk m)∧(Cq i l p ls).2.length≤ls.length+Au l∧Fk i l p ls:=by
 induction l generalizing p ls with
 | nil=>exact⟨h,rfl,hl,Nat.le_refl _,trivial⟩
 | cons q l ih =>
  obtain⟨h1,h2,h3,h4,h5,h6⟩:=h.runP hi (hq q List.mem_cons_self);have hw:Au (q::l)=q.wt+Au l:=rfl;obtain⟨k1,k2,k3,k4,k5⟩:=ih (p.runP i q) (ls++p.sentP i q) h1 (fun r hr=>(hq r (List.mem_cons_of_mem _ hr)).mono h3) (by rw[List.length_append];omega) (fun m hm=>by
   rcases List.mem_append.1 hm with h|h
   ·exact hl m h
   ·exact h5 m h)
  refine⟨k1,k2.trans h2,k3,?_,h4,by omega,k5⟩;show(Cq i l (p.runP i q) (ls++p.sentP i q)).2.length≤_;rw[List.length_append]at k4;omega
theorem NOk.syn(h:NOk n p):NOk n { p.syn with pend:=[] }:=by
 unfold Nod.syn;split
 ·exact{ h with pe:=fun q hq=>by cases hq }
 ·exact{ h with pe:=fun q hq=>by cases hq }
theorem Qg(p:Nod):p.syn.agreed=p.agreed:=by unfold Nod.syn;split<;>rfl
theorem NOk.syncd(h:NOk n p)(hi:i<5){ls:List Let}(hb:ls.length+Au p.pend<90000000)(hl:∀ m∈ls,LOk m) :
  NOk n (p.syncd i ls).1∧(∀ m∈(p.syncd i ls).2,LOk m)∧(p.syncd i ls).2.length+Au (p.syncd i ls).1.pend≤ls.length+Au p.pend∧Fk i p.pend { p.syn with pend:=[] } ls:=by
 have hd:=T7 hi p.pend { p.syn with pend:=[] } ls h.syn (fun q hq=>by show POk p.syn.agreed.length q;rw[Qg];exact h.pe q hq) hb hl;unfold Nod.syncd;split
 ·exact⟨h,hl,Nat.le_refl _,hd.2.2.2.2⟩
 ·exact⟨hd.1,hd.2.2.1,by rw[hd.2.1];exact hd.2.2.2.1,hd.2.2.2.2⟩
theorem Tb(b:Bal)(f:Cmd→Option Bal)(l:List Cmd):(CP b f l).1.length≤l.length:=by
 induction l generalizing f with
 | nil=>exact Nat.le_refl _
 | cons c l ih =>
  rw[CP];split
  ·have:=ih (DK f c (some b));simp only[List.length_cons];omega
  ·have:=ih f;simp only[List.length_cons];omega
theorem Rf(b:Bal)(f:Cmd→Option Bal)(l:List Cmd)(c:Cmd)(h:((CP b f l).2 c).isSome=true):(f c).isSome=true∨c∈l:=by
 induction l generalizing f with
 | nil=>exact .inl h
 | cons d l ih =>
  rw[CP]at h
  split at h
  ·rcases ih _ h with h1|h1
   ·unfold DK at h1;split at h1
    ·rename_i e;exact .inr (e▸List.mem_cons_self)
    ·exact .inl h1
   ·exact .inr (List.mem_cons_of_mem _ h1)
  ·rcases ih _ h with h1|h1
   ·exact .inl h1
   ·exact .inr (List.mem_cons_of_mem _ h1)
theorem NOk.asks(h:NOk n p):NOk n { p with asked:=(CP p.vo.p p.asked (p.wants.take 40)).2 } :=
 { h with ask:=fun c hc=>(Rf _ _ _ c hc).elim (h.ask c) List.mem_of_mem_take }
theorem NOk.askd(h:NOk n p)(hi:i<5):NOk n (p.askd i).1∧(p.askd i).1.pend=p.pend∧(p.askd i).1.agreed=p.agreed∧(∀ m∈(p.askd i).2,LOk m)∧(p.askd i).2.length≤1:=by
 have hL:(CP p.vo.p p.asked (p.wants.take 40)).1.length≤40:=Nat.le_trans (Tb _ _ _) (by rw[List.length_take];omega);unfold Nod.askd;split
 ·exact⟨h.asks,rfl,rfl,fun m hm=>(by cases hm),Nat.zero_le _⟩
 ·split
  ·have:=h.asks.enqueue (CP p.vo.p p.asked (p.wants.take 40)).1;exact⟨this.1,this.2.1,this.2.2,fun m hm=>(by cases hm),Nat.zero_le _⟩
  ·have hr:=h.vp.rng;refine⟨h.asks,rfl,rfl,fun m hm=>?_,Nat.le_refl _⟩;rw[List.mem_singleton.1 hm];exact⟨by show 6<7;decide,hi,by show p.vo.p.n.toNat<5;omega,Bq.b0,Br.nil,hL,fun h=>by cases h⟩
theorem NOk.propose(h:NOk n p):NOk n p.propose∧Au p.propose.pend≤Au p.pend+4∧p.propose.agreed=p.agreed:=by
 unfold Nod.propose;split
 ·exact⟨h,by omega,rfl⟩
 ·split
  ·exact⟨h,by omega,rfl⟩
  ·rename_i c _
   split
   ·exact⟨h,by omega,rfl⟩
   ·have hv:=h.vote ⟨(p.agreed.length:Int),p.rnd.bal,c⟩;have h1:NOk n { (p.vote ⟨(p.agreed.length:Int),p.rnd.bal,c⟩).1 with rnd:={ p.rnd with next:=p.agreed.length+1 } }:={ hv.1 with qu:=h.qu,he:=h.he };refine⟨h1.wait trivial,?_,hv.2.2.1⟩;show Au ((p.vote ⟨(p.agreed.length:Int),p.rnd.bal,c⟩).1.pend++[_])≤_;rw[Eu,hv.2.1];exact Nat.le_refl _
theorem NOk.taught(h:NOk n p)(hi:i<5)(ls:List Let)(hl:∀ m∈ls,LOk m):NOk n (p.taught i ls).1∧(p.taught i ls).1.pend=p.pend∧(∀ m∈(p.taught i ls).2,LOk m)∧(p.taught i ls).2.length≤ls.length+5:=by
 have ha:=h.ag;have ht:∀ k,k≤5→∀ m∈DJ p i k,LOk m:=by
  intro k;induction k with
  | zero=>exact fun _ m hm=>by cases hm
  | succ k ih =>
   intro hk m hm;rw[DJ]at hm
   rcases List.mem_append.1 hm with h1|h1
   ·exact ih (by omega) m h1
   ·split at h1
    ·rename_i hb
     have hb:=of_decide_eq_true hb;rw[List.mem_singleton.1 h1];exact⟨by show 5<7;decide,hi,by show k<5;omega,Bq.b0,Br.nil,by show(p.agreed.drop _).length≤40;rw[List.length_drop];omega,fun _=>by show p.rnd.taught k+(p.agreed.drop _).length≤40;rw[List.length_drop];omega⟩
    ·cases h1
 unfold Nod.taught;split
 ·refine⟨{ h with qu:=h.qu,he:=h.he },rfl,fun m hm=>?_,by show(ls++DJ p i 5).length≤_;rw[List.length_append];have:=QT p i 5;omega⟩;rcases List.mem_append.1 hm with h1|h1
  ·exact hl m h1
  ·exact ht 5 (Nat.le_refl _) m h1
 ·exact⟨h,rfl,hl,Nat.le_add_right _ _⟩
theorem NOk.unwant(h:NOk n p)(c:Cmd):NOk n (p.unwant c)∧(p.unwant c).wants.length+(if(p.asked c).isSome=true then 1 else 0)≤p.wants.length:=by
 unfold Nod.unwant;split
 ·rename_i h1
  have hm:=h.ask c h1;have hl:(p.wants.erase c).length=p.wants.length-1:=List.length_erase_of_mem hm;have hp:0<p.wants.length:=List.length_pos_of_mem hm;refine⟨{ h with wa:=?_,ask:=fun d hd=>?_ },by show(p.wants.erase c).length+1≤_;omega⟩
  ·show(p.wants.erase c).length≤n;have:=h.wa;omega
  ·unfold DK at hd;simp only at hd;split at hd
   ·cases hd
   ·rename_i hne;exact(List.mem_erase_of_ne hne).2 (h.ask d hd)
 ·exact⟨h,Nat.le_refl _⟩
theorem Ff(p:Nod)(c:Cmd):(p.unwant c).up=p.up∧(p.unwant c).pend=p.pend∧(p.unwant c).agreed=p.agreed∧(p.unwant c).done=p.done∧(p.unwant c).sto=p.sto:=by
 unfold Nod.unwant;split<;>exact⟨rfl,rfl,rfl,rfl,rfl⟩
theorem T4(i:Nat)(l:List Cmd)(p:Nod)(ts:List Tol)(h:NOk n p)(hl:p.done+l.length≤p.agreed.length) :
  NOk n (doP i l p ts).1∧(doP i l p ts).1.pend=p.pend∧(doP i l p ts).1.agreed=p.agreed∧(doP i l p ts).2.length+(doP i l p ts).1.wants.length≤ts.length+p.wants.length:=by
 induction l generalizing p ts with
 | nil=>exact⟨h,rfl,rfl,Nat.le_refl _⟩
 | cons c l ih =>
  rw[doP];split
  ·exact⟨h,rfl,rfl,Nat.le_refl _⟩
  ·rw[List.length_cons]at hl
   have h1:NOk n { p with sto:=doS p.sto c,done:=p.done+1 }:={ h with dn:=by show p.done+1≤p.agreed.length;omega };have h2:=h1.unwant c;have hs:=Ff { p with sto:=doS p.sto c,done:=p.done+1 } c;obtain⟨k1,k2,k3,k4⟩:=ih (Nod.unwant { p with sto:=doS p.sto c,done:=p.done+1 } c) (if(p.asked c).isSome=true then ts++[⟨i,c.c,c.s,doC p.sto c,doA p.sto c⟩]else ts) h2.1 (by rw[hs.2.2.2.1,hs.2.2.1];show p.done+1+l.length≤p.agreed.length;omega);refine⟨k1,k2.trans hs.2.1,k3.trans hs.2.2.1,Nat.le_trans k4 ?_⟩;have h3:=h2.2;simp only at h3;by_cases hx:(p.asked c).isSome=true
   ·rw[if_pos hx]at h3 ⊢
    rw[List.length_append];show ts.length+1+_≤_;omega
   ·rw[if_neg hx]at h3 ⊢;omega
theorem NOk.piece(h:NOk n p)(hi:i<5){ls:List Let}{ts:List Tol}(hb:ls.length+Au p.pend<80000000)(hl:∀ m∈ls,LOk m) :
  NOk n (p.piece i ls ts).1∧(∀ m∈(p.piece i ls ts).2.1,LOk m)∧(p.piece i ls ts).2.1.length+Au (p.piece i ls ts).1.pend≤ls.length+Au p.pend+10∧(p.piece i ls ts).2.2.length+(doP i (p.agreed.drop p.done) p ts).1.wants.length≤ts.length+p.wants.length:=by
 have h1:=T4 i (p.agreed.drop p.done) p ts h (by rw[List.length_drop];have:=h.dn;omega);have h2:=h1.1.askd hi;have h3:=h2.1.propose;have h4:=h3.1.syncd hi (ls:=ls++((doP i (p.agreed.drop p.done) p ts).1.askd i).2) (by rw[List.length_append];have:=h3.2.1;have:=h2.2.2.2.2;rw[h2.2.1,h1.2.1]at *;omega) (fun m hm=>by
  rcases List.mem_append.1 hm with h|h
  ·exact hl m h
  ·exact h2.2.2.2.1 m h)
 have h5:=h4.1.taught hi _ h4.2.1;refine⟨h5.1,h5.2.2.1,?_,h1.2.2.2⟩;have e1:=h5.2.2.2;have e2:=h4.2.2.1;have e3:=h3.2.1;have e4:=h2.2.2.2.2;rw[h2.2.1,h1.2.1]at e3
 rw[List.length_append]at e2
 show(Nod.taught _ i _).2.length+Au (Nod.taught _ i _).1.pend≤_;rw[h5.2.1];omega
end
end Go.Proofs.YtakgfdbjgeopdaaGreatDoor
namespace Go.Proofs.YtakgfdbjgeopdaaGreatDoor
open Go.RowKit
theorem Qj{g:Gh}{w:World}(hg:∀ b,w.heap.size≤b→g.t b=.z∧g.k b=0) :
  Calls prog 68 #[] w fun e w'=>∃ (b:Nat) (g':Gh),e=.returned (.map (some b))∧TkAt g' w' b 7∧Hc g' w'∧Cg w.heap.size [.n 70 0] g w g' w':=by
 refine gIn (fn:=f68) [.n 70 0] g func68 (by kernel_rfl) (by kernel_rfl) hg ?_;refine qR [] 6 [] fun s1 g1 w1 c1=>?_;refine ZM 0 (by kernel_rfl) (by kernel_rfl) ?_;intro tb g2 w2 htb A0 cc2 n2;have c2:=cc2 w.heap.size [];refine FQ 1 (b:=tb) A0 (by decide) (by kernel_rfl) (by kernel_rfl) (by kernel_rfl) ?_;intro w4 A1 cc4;have c4:=cc4 w.heap.size [.n 70 0] (List.mem_singleton.2 rfl);refine FQ 2 (b:=tb) A1 (by decide) (by kernel_rfl) (by kernel_rfl) (by kernel_rfl) ?_;intro w6 A2 cc6;have c6:=cc6 w.heap.size [.n 70 0] (List.mem_singleton.2 rfl);refine FQ 3 (b:=tb) A2 (by decide) (by kernel_rfl) (by kernel_rfl) (by kernel_rfl) ?_;intro w8 A3 cc8;have c8:=cc8 w.heap.size [.n 70 0] (List.mem_singleton.2 rfl);refine FQ 4 (b:=tb) A3 (by decide) (by kernel_rfl) (by kernel_rfl) (by kernel_rfl) ?_;intro w10 A4 cc10;have c10:=cc10 w.heap.size [.n 70 0] (List.mem_singleton.2 rfl);refine FQ 5 (b:=tb) A4 (by decide) (by kernel_rfl) (by kernel_rfl) (by kernel_rfl) ?_;intro w12 A5 cc12;have c12:=cc12 w.heap.size [.n 70 0] (List.mem_singleton.2 rfl);refine FQ 6 (b:=tb) A5 (by decide) (by kernel_rfl) (by kernel_rfl) (by kernel_rfl) ?_;intro w14 A6 cc14;have c14:=cc14 w.heap.size [.n 70 0] (List.mem_singleton.2 rfl);refine FQ 7 (b:=tb) A6 (by decide) (by kernel_rfl) (by kernel_rfl) (by kernel_rfl) ?_;intro w16 A7 cc16;have c16:=cc16 w.heap.size [.n 70 0] (List.mem_singleton.2 rfl);refine qR [] 3 [] fun s17 g17 w17 c17=>?_;exact qE (.map (some tb)) fun K=>⟨tb,_,rfl,(A7.ch c17 (by simp)),K.new,((((((((((c1.nil [.n 70 0]).trans (c2.nil [.n 70 0])).trans c4).trans c6).trans c8).trans c10).trans c12).trans c14).trans c16).trans (c17.nil [.n 70 0]))⟩
theorem Jn{g:Gh}{w:World}{mb tb ob:Nat}{nb:Nat→Nat}{M:Meet}(h:MS mb tb ob nb g w M){w0:World}(hB:Base w0 g w)(hT:Tabs w0)(lb:Nat)(l:Let)(hl:BW g w lb l)(hlo:LOk l){n:Nat}(hok:NOk n (M.node l.dst))(hpb:(M.node l.dst).pend.length<100000000) :
  Calls prog 124 #[pt mb 0,pt lb 0] w (MP mb tb ob nb g w (.tuple #[]) (M.come l)):=by
 have hLL:=hl;obtain⟨kd,src,dst,bal,vote,votes,slot,what⟩:=l;have hs:src<5:=hlo.src;have hd:dst<5:=hlo.dst;have hkd:kd<7:=hlo.kd;have hwl:what.length≤40:=hlo.wh;simp only at hok hpb;obtain⟨x,hN⟩:=h.node dst hd;have hag:=hok.ag;refine gIn (fn:=f124) TM g func124 (by kernel_rfl) (by kernel_rfl) h.new ?_;refine Bj ⟨mb,_,.z,false⟩ (fun _=>⟨h.box.r,h.box.z,fun h=>(by cases h),fun h=>absurd rfl h⟩) (by kernel_rfl) ?_;obtain⟨vs,wh,hl1,hl2,hl3⟩:=hl;refine Bj ⟨lb,.cells (Ek (Let.mk kd src dst bal vote votes slot what) vs wh) 177,.z,false⟩ (fun _=>⟨hl1.r,hl1.z,fun h=>(by cases h),fun h=>absurd rfl h⟩) (by kernel_rfl) ?_;refine qR [] 9 [10,0,2,4,6,8,1,10,12] fun s1 g1 w1 c1=>?_;refine Nm 7 (pt mb dst) false (fun W hW=>(by rcases five hd with rfl|rfl|rfl|rfl|rfl<;>kernel_rfl)) (by kernel_rfl) ?_;refine qU 8 (pt (nb dst) 0) (fun W hW=>(JK underlying107 rfl (QG (AL.at (hW rfl) 0 mb (.cells (mtA nb ob tb) 110) .z (by kernel_rfl)) hd))) ?_;refine qR [] 7 [18] fun s3 g3 w3 c3=>?_;have hN1:=hN.ch (c1.trans c3) (by simp) (by simp);refine qN hN1 ?_;refine qR [] 2 [2] fun s4 g4 w4 c4=>?_;by_cases h1:(M.node dst).up=true
 ·refine qI ((M.node dst).up) true h1 ?_;have hk1:=h.tk.ch ((c1.trans c3).trans c4) (by simp);refine Gv tb _ 70 0 hk1.row hk1.t hk1.k (by kernel_rfl) ?_;rw[show M.come (Let.mk kd src dst bal vote votes slot what)=M.set dst ((M.node dst).take (Let.mk kd src dst bal vote votes slot what)) M.lets M.told from if_pos h1];refine qR [] 9 [11,0,2,4,6,0,8,10,12,14,1] fun s5 g5 w5 c5=>?_;refine qU 8 (tkV kd) (fun W hW=>(rTk (AL.at (hW rfl) 3 tb (.map (tkL 7).toArray 7) (.n 70 0) (by kernel_rfl)) hkd)) ?_;refine qR [] 2 [18,20] fun s6 g6 w6 c6=>?_;rcases Ve hkd with rfl|rfl|rfl|rfl|rfl|rfl|rfl
  ·refine Ae fun K=>?_;have N7:MS mb tb ob nb g6 w6 M:=(h.ch0 ((((c1.trans c3).trans c4).trans c5).trans c6) K.new);refine qG 11 TM [true,true,false,false] ((N7).call hd (GS ((N7).ns hd) (hB.ch (((((c1.nil TM).trans (c3.nil TM)).trans (c4.nil TM)).trans (c5.nil TM)).trans (c6.nil TM)) Eb) hT lb _ (hLL.ch ((((c1.trans c3).trans c4).trans c5).trans c6) (by simp)) rfl hpb)) ?_;rintro e' w7 ⟨g7,rfl,M7,c7⟩;refine⟨_,g7,rfl,c7,M7.new,?_⟩;replace c7:=c7.ret (B:=w.heap.size);refine qR [] 1 [] fun s8 g8 w8 c8=>?_;refine qE (.tuple #[]) fun K=>?_;exact⟨_,rfl,(M7.ch0 c8 K.new),(((((((c1.nil TM).trans (c3.nil TM)).trans (c4.nil TM)).trans (c5.nil TM)).trans (c6.nil TM)).trans (c7)).trans (c8.nil TM))⟩
  ·refine Ae fun K=>?_;have N9:MS mb tb ob nb g6 w6 M:=(h.ch0 ((((c1.trans c3).trans c4).trans c5).trans c6) K.new);refine qG 11 TM [true,true,false,false] ((N9).call hd (IN ((N9).ns hd) (hB.ch (((((c1.nil TM).trans (c3.nil TM)).trans (c4.nil TM)).trans (c5.nil TM)).trans (c6.nil TM)) Eb) hT lb _ (hLL.ch ((((c1.trans c3).trans c4).trans c5).trans c6) (by simp)) rfl hs (by show((M.node dst).agreed++what.drop ((M.node dst).agreed.length-0)).length≤40;rw[List.length_append,List.length_drop];omega) hwl (Nat.lt_of_le_of_lt (hok.he src).len (by decide)))) ?_;rintro e' w9 ⟨g9,rfl,M9,c9⟩;refine⟨_,g9,rfl,c9,M9.new,?_⟩;replace c9:=c9.ret (B:=w.heap.size);refine qR [] 1 [] fun s10 g10 w10 c10=>?_;refine qE (.tuple #[]) fun K=>?_;exact⟨_,rfl,(M9.ch0 c10 K.new),(((((((c1.nil TM).trans (c3.nil TM)).trans (c4.nil TM)).trans (c5.nil TM)).trans (c6.nil TM)).trans (c9)).trans (c10.nil TM))⟩
  ·refine Ae fun K=>?_;have N11:MS mb tb ob nb g6 w6 M:=(h.ch0 ((((c1.trans c3).trans c4).trans c5).trans c6) K.new);refine qG 11 TM [true,true,false,false] ((N11).call hd (q9z ((N11).ns hd) lb _ (hLL.ch ((((c1.trans c3).trans c4).trans c5).trans c6) (by simp)))) ?_;rintro e' w11 ⟨g11,rfl,M11,c11⟩;refine⟨_,g11,rfl,c11,M11.new,?_⟩;replace c11:=c11.ret (B:=w.heap.size);refine qR [] 1 [] fun s12 g12 w12 c12=>?_;refine qE (.tuple #[]) fun K=>?_;exact⟨_,rfl,(M11.ch0 c12 K.new),(((((((c1.nil TM).trans (c3.nil TM)).trans (c4.nil TM)).trans (c5.nil TM)).trans (c6.nil TM)).trans (c11)).trans (c12.nil TM))⟩
  ·refine Ae fun K=>?_;have N13:MS mb tb ob nb g6 w6 M:=(h.ch0 ((((c1.trans c3).trans c4).trans c5).trans c6) K.new);refine qG 11 TM [true,true,false,false] ((N13).call hd (Ib ((N13).ns hd) (hB.ch (((((c1.nil TM).trans (c3.nil TM)).trans (c4.nil TM)).trans (c5.nil TM)).trans (c6.nil TM)) Eb) hT lb _ (hLL.ch ((((c1.trans c3).trans c4).trans c5).trans c6) (by simp)) rfl hpb (by have:=hok.vs.len;omega))) ?_;rintro e' w13 ⟨g13,rfl,M13,c13⟩;refine⟨_,g13,rfl,c13,M13.new,?_⟩;replace c13:=c13.ret (B:=w.heap.size);refine qR [] 1 [] fun s14 g14 w14 c14=>?_;refine qE (.tuple #[]) fun K=>?_;exact⟨_,rfl,(M13.ch0 c14 K.new),(((((((c1.nil TM).trans (c3.nil TM)).trans (c4.nil TM)).trans (c5.nil TM)).trans (c6.nil TM)).trans (c13)).trans (c14.nil TM))⟩
  ·refine Ae fun K=>?_;have N15:MS mb tb ob nb g6 w6 M:=(h.ch0 ((((c1.trans c3).trans c4).trans c5).trans c6) K.new);refine qG 11 TM [true,true,false,false] ((N15).call hd (MB ((N15).ns hd) (hB.ch (((((c1.nil TM).trans (c3.nil TM)).trans (c4.nil TM)).trans (c5.nil TM)).trans (c6.nil TM)) Eb) hT lb _ (hLL.ch ((((c1.trans c3).trans c4).trans c5).trans c6) (by simp)) hs hag)) ?_;rintro e' w15 ⟨g15,rfl,M15,c15⟩;refine⟨_,g15,rfl,c15,M15.new,?_⟩;replace c15:=c15.ret (B:=w.heap.size);refine qR [] 1 [] fun s16 g16 w16 c16=>?_;refine qE (.tuple #[]) fun K=>?_;exact⟨_,rfl,(M15.ch0 c16 K.new),(((((((c1.nil TM).trans (c3.nil TM)).trans (c4.nil TM)).trans (c5.nil TM)).trans (c6.nil TM)).trans (c15)).trans (c16.nil TM))⟩
  ·refine Ae fun K=>?_;have N17:MS mb tb ob nb g6 w6 M:=(h.ch0 ((((c1.trans c3).trans c4).trans c5).trans c6) K.new);refine qG 11 TM [true,true,false,false] ((N17).call hd (MA ((N17).ns hd) lb _ (hLL.ch ((((c1.trans c3).trans c4).trans c5).trans c6) (by simp)) rfl hpb (by omega) (by show what.length<_;omega))) ?_;rintro e' w17 ⟨g17,rfl,M17,c17⟩;refine⟨_,g17,rfl,c17,M17.new,?_⟩;replace c17:=c17.ret (B:=w.heap.size);refine qR [] 1 [] fun s18 g18 w18 c18=>?_;refine qE (.tuple #[]) fun K=>?_;exact⟨_,rfl,(M17.ch0 c18 K.new),(((((((c1.nil TM).trans (c3.nil TM)).trans (c4.nil TM)).trans (c5.nil TM)).trans (c6.nil TM)).trans (c17)).trans (c18.nil TM))⟩
  ·refine Ae fun K=>?_;have N19:MS mb tb ob nb g6 w6 M:=(h.ch0 ((((c1.trans c3).trans c4).trans c5).trans c6) K.new);refine qG 11 TM [true,true,false,false] ((N19).call hd (Ka ((N19).ns hd) lb _ (hLL.ch ((((c1.trans c3).trans c4).trans c5).trans c6) (by simp)) rfl hpb (by show what.length<_;omega) hok.qu)) ?_;rintro e' w19 ⟨g19,rfl,M19,c19⟩;refine⟨_,g19,rfl,c19,M19.new,?_⟩;replace c19:=c19.ret (B:=w.heap.size);refine qR [] 1 [] fun s20 g20 w20 c20=>?_;refine qE (.tuple #[]) fun K=>?_;exact⟨_,rfl,(M19.ch0 c20 K.new),(((((((c1.nil TM).trans (c3.nil TM)).trans (c4.nil TM)).trans (c5.nil TM)).trans (c6.nil TM)).trans (c19)).trans (c20.nil TM))⟩
 ·refine qI ((M.node dst).up) false (by simpa using h1) ?_;refine qR [] 1 [] fun s21 g21 w21 c21=>?_;refine qE (.tuple #[]) fun K=>?_;rw[show M.come (Let.mk kd src dst bal vote votes slot what)=M from if_neg h1];exact⟨_,rfl,(h.ch0 (((c1.trans c3).trans c4).trans c21) K.new),((((c1.nil TM).trans (c3.nil TM)).trans (c4.nil TM)).trans (c21.nil TM))⟩
def nx0(b:Nat):NX:=NX.mk s30 s30 s30 s30 s30 s30 (fun _=>s30) (some b)
theorem NC{g:Gh}{w:World}{i nb ob b:Nat}(hr:w.heap[nb]?=some (.cells (Ao i ob CD (nx0 b)) 134))(ht:g.t nb=.n 0 i)(hk:g.k nb=0)(hA:AskAt g w (.n 5 i) b (fun _=>none)):NodeAt g w i nb ob (nx0 b) CD :=
 ⟨hr,ht,hk,⟨⟨⟨none,0,rfl,Nat.le_refl _,fun _=>rfl,.inl rfl⟩,by simp[CD],by simp[CD]⟩,fun h=>absurd rfl h⟩,⟨Sv.nil _,fun h=>absurd rfl h⟩,fun _ _=>⟨Sv.nil _,fun h=>absurd rfl h⟩,⟨[],OwnS.nil _ _ _ _ _ _,Pends.nil _ _ _⟩,OwnS.nil _ _ _ _ _ _,OwnS.nil _ _ _ _ _ _,OwnS.nil _ _ _ _ _ _,hA,fun _=>⟨b,rfl⟩⟩
def nbF(a b c d e:Nat):Nat→Nat
 | 0=>a
 | 1=>b
 | 2=>c
 | 3=>d
 | _=>e
theorem JA{g:Gh}{w:World}(hg:∀ b,w.heap.size≤b→g.t b=.z∧g.k b=0) :
  Calls prog 36 #[] w fun e w'=>∃ (mb tb ob:Nat) (nb:Nat→Nat) (g':Gh),e=.returned (pt mb 0)∧MS mb tb ob nb g' w' G7∧Cg w.heap.size [.n 70 0] g w g' w':=by
 refine gIn (fn:=f36) [.n 70 0] g func36 (by kernel_rfl) (by kernel_rfl) hg ?_;refine qR [] 8 [52,0] fun s1 g1 w1 c1=>?_;refine Ae fun K=>?_;refine qG 2 [.n 70 0] [true] (Qj K.new) ?_;rintro e' w2 ⟨tb,g2,rfl,A2,n2,c2⟩;refine⟨_,g2,rfl,c2,n2,?_⟩;replace c2:=c2.ret (B:=w.heap.size);refine qR [] 10 [1,0] fun s3 g3 w3 c3=>?_;refine TI 5 27 [(1,pt (s3 0) 0),(8,iv 0)] [true,true] [⟨(s1 0),.cells #[sn,sn] 104,.n 50 0,false⟩,⟨(s3 0),.cells #[.pointer none,.pointer none,.pointer none,.pointer none,.pointer none,pt (s1 0) 0,.map (some tb)] 110,.l,false⟩] (by kernel_rfl) (by kernel_rfl) (by kernel_rfl) (by kernel_rfl) fun J4 hJ4 z=>?_;refine qR [] 25 [14,0,2,4,6,8,10,12,1,14,22,24] fun s5 g5 w5 c5=>?_;refine Ae fun K=>?_;refine qG 8 [] [true,true] (AN 0 K.new DN s30) ?_;rintro e' w6 ⟨b6,g6,rfl,A6,n6,c6⟩;refine⟨_,g6,rfl,c6,n6,?_⟩;replace c6:=c6.ret (B:=w.heap.size);refine qR [] 10 [18,21,2,0,26,29,1,0] fun s7 g7 w7 c7=>?_;refine Cr (J4 5) 27 [(1,pt (s3 0) 0),(8,iv 1)] [true,true,true] [⟨(s1 0),.cells #[sn,sn] 104,.n 50 0,false⟩,⟨(s3 0),.cells #[pt (s7 0) 0,.pointer none,.pointer none,.pointer none,.pointer none,pt (s1 0) 0,.map (some tb)] 110,.l,false⟩,⟨(s7 0),.cells (Ao 0 (s1 0) CD (nx0 b6)) 134,.n 0 0,false⟩] (by kernel_rfl) (by kernel_rfl) (by kernel_rfl) (by kernel_rfl) (by kernel_rfl) fun z K0 K=>hJ4 4 _ _ _ _ _ ?_ K;refine qR [] 25 [14,0,2,4,6,8,10,12,1,14,22,24] fun s8 g8 w8 c8=>?_;refine Ae fun K=>?_;refine qG 8 [] [true,true,true] (AN 1 K.new DN s30) ?_;rintro e' w9 ⟨b9,g9,rfl,A9,n9,c9⟩;refine⟨_,g9,rfl,c9,n9,?_⟩;replace c9:=c9.ret (B:=w.heap.size);refine qR [] 10 [18,21,2,1,26,29,1,0] fun s10 g10 w10 c10=>?_;refine Cr (J4 4) 27 [(1,pt (s3 0) 0),(8,iv 2)] [true,true,true,true] [⟨(s1 0),.cells #[sn,sn] 104,.n 50 0,false⟩,⟨(s3 0),.cells #[pt (s7 0) 0,pt (s10 0) 0,.pointer none,.pointer none,.pointer none,pt (s1 0) 0,.map (some tb)] 110,.l,false⟩,⟨(s7 0),.cells (Ao 0 (s1 0) CD (nx0 b6)) 134,.n 0 0,false⟩,⟨(s10 0),.cells (Ao 1 (s1 0) CD (nx0 b9)) 134,.n 0 1,false⟩] (by kernel_rfl) (by kernel_rfl) (by kernel_rfl) (by kernel_rfl) (by kernel_rfl) fun z K0 K=>hJ4 3 _ _ _ _ _ ?_ K;refine qR [] 25 [14,0,2,4,6,8,10,12,1,14,22,24] fun s11 g11 w11 c11=>?_;refine Ae fun K=>?_;refine qG 8 [] [true,true,true,true] (AN 2 K.new DN s30) ?_;rintro e' w12 ⟨b12,g12,rfl,A12,n12,c12⟩;refine⟨_,g12,rfl,c12,n12,?_⟩;replace c12:=c12.ret (B:=w.heap.size);refine qR [] 10 [18,21,2,2,26,29,1,0] fun s13 g13 w13 c13=>?_;refine Cr (J4 3) 27 [(1,pt (s3 0) 0),(8,iv 3)] [true,true,true,true,true] [⟨(s1 0),.cells #[sn,sn] 104,.n 50 0,false⟩,⟨(s3 0),.cells #[pt (s7 0) 0,pt (s10 0) 0,pt (s13 0) 0,.pointer none,.pointer none,pt (s1 0) 0,.map (some tb)] 110,.l,false⟩,⟨(s7 0),.cells (Ao 0 (s1 0) CD (nx0 b6)) 134,.n 0 0,false⟩,⟨(s10 0),.cells (Ao 1 (s1 0) CD (nx0 b9)) 134,.n 0 1,false⟩,⟨(s13 0),.cells (Ao 2 (s1 0) CD (nx0 b12)) 134,.n 0 2,false⟩] (by kernel_rfl) (by kernel_rfl) (by kernel_rfl) (by kernel_rfl) (by kernel_rfl) fun z K0 K=>hJ4 2 _ _ _ _ _ ?_ K;refine qR [] 25 [14,0,2,4,6,8,10,12,1,14,22,24] fun s14 g14 w14 c14=>?_;refine Ae fun K=>?_;refine qG 8 [] [true,true,true,true,true] (AN 3 K.new DN s30) ?_;rintro e' w15 ⟨b15,g15,rfl,A15,n15,c15⟩;refine⟨_,g15,rfl,c15,n15,?_⟩;replace c15:=c15.ret (B:=w.heap.size);refine qR [] 10 [18,21,2,3,26,29,1,0] fun s16 g16 w16 c16=>?_;refine Cr (J4 2) 27 [(1,pt (s3 0) 0),(8,iv 4)] [true,true,true,true,true,true] [⟨(s1 0),.cells #[sn,sn] 104,.n 50 0,false⟩,⟨(s3 0),.cells #[pt (s7 0) 0,pt (s10 0) 0,pt (s13 0) 0,pt (s16 0) 0,.pointer none,pt (s1 0) 0,.map (some tb)] 110,.l,false⟩,⟨(s7 0),.cells (Ao 0 (s1 0) CD (nx0 b6)) 134,.n 0 0,false⟩,⟨(s10 0),.cells (Ao 1 (s1 0) CD (nx0 b9)) 134,.n 0 1,false⟩,⟨(s13 0),.cells (Ao 2 (s1 0) CD (nx0 b12)) 134,.n 0 2,false⟩,⟨(s16 0),.cells (Ao 3 (s1 0) CD (nx0 b15)) 134,.n 0 3,false⟩] (by kernel_rfl) (by kernel_rfl) (by kernel_rfl) (by kernel_rfl) (by kernel_rfl) fun z K0 K=>hJ4 1 _ _ _ _ _ ?_ K;refine qR [] 25 [14,0,2,4,6,8,10,12,1,14,22,24] fun s17 g17 w17 c17=>?_;refine Ae fun K=>?_;refine qG 8 [] [true,true,true,true,true,true] (AN 4 K.new DN s30) ?_;rintro e' w18 ⟨b18,g18,rfl,A18,n18,c18⟩;refine⟨_,g18,rfl,c18,n18,?_⟩;replace c18:=c18.ret (B:=w.heap.size);refine qR [] 10 [18,21,2,4,26,29,1,0] fun s19 g19 w19 c19=>?_;refine Cr (J4 1) 27 [(1,pt (s3 0) 0),(8,iv 5)] [true,true,true,true,true,true,true] [⟨(s1 0),.cells #[sn,sn] 104,.n 50 0,false⟩,⟨(s3 0),.cells #[pt (s7 0) 0,pt (s10 0) 0,pt (s13 0) 0,pt (s16 0) 0,pt (s19 0) 0,pt (s1 0) 0,.map (some tb)] 110,.l,false⟩,⟨(s7 0),.cells (Ao 0 (s1 0) CD (nx0 b6)) 134,.n 0 0,false⟩,⟨(s10 0),.cells (Ao 1 (s1 0) CD (nx0 b9)) 134,.n 0 1,false⟩,⟨(s13 0),.cells (Ao 2 (s1 0) CD (nx0 b12)) 134,.n 0 2,false⟩,⟨(s16 0),.cells (Ao 3 (s1 0) CD (nx0 b15)) 134,.n 0 3,false⟩,⟨(s19 0),.cells (Ao 4 (s1 0) CD (nx0 b18)) 134,.n 0 4,false⟩] (by kernel_rfl) (by kernel_rfl) (by kernel_rfl) (by kernel_rfl) (by kernel_rfl) fun z K0 K=>hJ4 0 _ _ _ _ _ ?_ K;refine qR [] 12 [] fun s20 g20 w20 c20=>?_;refine ZL 1 (s3 0) (by kernel_rfl) fun g21 c21=>?_;refine qE (pt (s3 0) 0) fun K=>⟨(s3 0),tb,(s1 0),(nbF (s7 0) (s10 0) (s13 0) (s16 0) (s19 0)),_,rfl,?_,((((((((((((((((((((c1.nil [.n 70 0]).trans c2).trans (c3.nil [.n 70 0])).trans (c5.nil [.n 70 0])).trans (c6.nil [.n 70 0])).trans (c7.nil [.n 70 0])).trans (c8.nil [.n 70 0])).trans (c9.nil [.n 70 0])).trans (c10.nil [.n 70 0])).trans (c11.nil [.n 70 0])).trans (c12.nil [.n 70 0])).trans (c13.nil [.n 70 0])).trans (c14.nil [.n 70 0])).trans (c15.nil [.n 70 0])).trans (c16.nil [.n 70 0])).trans (c17.nil [.n 70 0])).trans (c18.nil [.n 70 0])).trans (c19.nil [.n 70 0])).trans (c20.nil [.n 70 0])).trans (c21.nil [.n 70 0]))⟩;obtain⟨z1,z2⟩:=K.isZ 1 (s3 0) (.cells (mtA (nbF (s7 0) (s10 0) (s13 0) (s16 0) (s19 0)) (s1 0) tb) 110) false (by kernel_rfl);obtain⟨o1,o2,o3⟩:=K.isN 0 (s1 0) (.cells #[S3.v s30,S3.v s30] 104) 50 0 (by kernel_rfl);obtain⟨q0,r0,t0⟩:=K.isN 2 (s7 0) (.cells (Ao 0 (s1 0) CD (nx0 b6)) 134) 0 0 (by kernel_rfl);obtain⟨q1,r1,t1⟩:=K.isN 3 (s10 0) (.cells (Ao 1 (s1 0) CD (nx0 b9)) 134) 0 1 (by kernel_rfl);obtain⟨q2,r2,t2⟩:=K.isN 4 (s13 0) (.cells (Ao 2 (s1 0) CD (nx0 b12)) 134) 0 2 (by kernel_rfl);obtain⟨q3,r3,t3⟩:=K.isN 5 (s16 0) (.cells (Ao 3 (s1 0) CD (nx0 b15)) 134) 0 3 (by kernel_rfl);obtain⟨q4,r4,t4⟩:=K.isN 6 (s19 0) (.cells (Ao 4 (s1 0) CD (nx0 b18)) 134) 0 4 (by kernel_rfl);refine⟨⟨z1,z2⟩,((((((((((((((((((A2.ch c3 (by simp)).ch c5 (by simp)).ch c6 (by simp)).ch c7 (by simp)).ch c8 (by simp)).ch c9 (by simp)).ch c10 (by simp)).ch c11 (by simp)).ch c12 (by simp)).ch c13 (by simp)).ch c14 (by simp)).ch c15 (by simp)).ch c16 (by simp)).ch c17 (by simp)).ch c18 (by simp)).ch c19 (by simp)).ch c20 (by simp)).ch c21 (by simp)),fun i hi=>?_,⟨s30,s30,o1,o2,o3,⟨[],OwnS.nil _ _ _ _ _ _,⟨rfl,fun k b m h=>(by cases h)⟩⟩,OwnS.nil _ _ _ _ _ _⟩,K.new⟩;rcases five hi with rfl|rfl|rfl|rfl|rfl
 ·exact⟨_,NC q0 r0 t0 (((((((((((((((A6.ch c7 (by simp)).ch c8 (by simp)).ch c9 (by simp)).ch c10 (by simp)).ch c11 (by simp)).ch c12 (by simp)).ch c13 (by simp)).ch c14 (by simp)).ch c15 (by simp)).ch c16 (by simp)).ch c17 (by simp)).ch c18 (by simp)).ch c19 (by simp)).ch c20 (by simp)).ch c21 (by simp))⟩
 ·exact⟨_,NC q1 r1 t1 ((((((((((((A9.ch c10 (by simp)).ch c11 (by simp)).ch c12 (by simp)).ch c13 (by simp)).ch c14 (by simp)).ch c15 (by simp)).ch c16 (by simp)).ch c17 (by simp)).ch c18 (by simp)).ch c19 (by simp)).ch c20 (by simp)).ch c21 (by simp))⟩
 ·exact⟨_,NC q2 r2 t2 (((((((((A12.ch c13 (by simp)).ch c14 (by simp)).ch c15 (by simp)).ch c16 (by simp)).ch c17 (by simp)).ch c18 (by simp)).ch c19 (by simp)).ch c20 (by simp)).ch c21 (by simp))⟩
 ·exact⟨_,NC q3 r3 t3 ((((((A15.ch c16 (by simp)).ch c17 (by simp)).ch c18 (by simp)).ch c19 (by simp)).ch c20 (by simp)).ch c21 (by simp))⟩
 ·exact⟨_,NC q4 r4 t4 (((A18.ch c19 (by simp)).ch c20 (by simp)).ch c21 (by simp))⟩
end Go.Proofs.YtakgfdbjgeopdaaGreatDoor
