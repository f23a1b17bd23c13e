/- Part 30 of the walk: what the functions of the program do, one by one. -/
import Derived.Test.YtakgfdbjgeopdaaGreatDoorZ24
set_option maxRecDepth 100000
set_option maxHeartbeats 4000000
open Go.Proofs.Tryz
set_option linter.unusedVariables false
namespace Go.Proofs.YtakgfdbjgeopdaaGreatDoor
open Go.RowKit
theorem K9{v:Vt}{g:Gh}{w:World}{i nb ob:Nat}{p:Nod}{ls:List Let}{ts:List Tol}(h:NS i nb ob g w p ls ts){w0:World}(hB:Base w0 g w)(hT:Tabs w0)(hi:i<5)(hb:ls.length<90000000){b1 b2:Nat}(h1:Box g w b1 #[pt nb 0] 107)(h2:Box g w b2 #[iv v.slot,iv v.b.r,iv v.b.n,iv v.w.k,iv v.w.c,iv v.w.s,iv v.w.n,iv v.w.v] 175)(hba:p.agreed.length≤40) :
  Calls prog 169 #[pt b1 0,pt b2 0] w (NP i nb ob g w (.tuple #[]) (p.count i v) (ls++BG i { Ca 3 with vote:=v } 5) ts):=by
 obtain⟨x,lt,tl,hN,hO,hg⟩:=h;refine gIn (fn:=f169) (TN i) g func169 (by kernel_rfl) (by kernel_rfl) hg ?_;refine qN hN ?_;refine qO hO ?_;refine Bj ⟨b1,.cells #[pt nb 0] 107,.z,false⟩ (fun _=>⟨h1.r,h1.z,fun h=>(by cases h),fun h=>absurd rfl h⟩) (by kernel_rfl) ?_;refine Bj ⟨b2,.cells #[iv v.slot,iv v.b.r,iv v.b.n,iv v.w.k,iv v.w.c,iv v.w.s,iv v.w.n,iv v.w.v] 175,.z,false⟩ (fun _=>⟨h2.r,h2.z,fun h=>(by cases h),fun h=>absurd rfl h⟩) (by kernel_rfl) ?_;refine qR [] 8 [6,0,2,2,2,4,6,8,0,10,3] fun s1 g1 w1 c1=>?_;refine Ae fun K=>?_;have C3:Cg w.heap.size ([]:List Tg) g w g1 w1:=(c1.nil ([]:List Tg));have Z3:Tg.z∉([]:List Tg):=by simp
 have N2:NS i nb ob g1 w1 p ls ts:=⟨x,lt,tl,hN.ch C3 Z3 (by simp),hO.ch C3 Z3 (by simp),K.new⟩;refine qG 6 (TN i) [false,false,true,true] (KX N2 (hB.ch (c1.nil (TN i)) (AV i)) hT i hi v hba) ?_;rintro e' w2 ⟨g2,rfl,M2,c2⟩;refine⟨_,g2,rfl,c2,M2.new,?_⟩;replace c2:=c2.ret (B:=w.heap.size);obtain⟨x2,lt2,tl2,hN2,hO2,hg2⟩:=M2;refine qN hN2 ?_;refine qO hO2 ?_;refine qR [] 5 [0,1] fun s4 g4 w4 c4=>?_;refine Ae fun K=>?_;have C6:Cg w.heap.size ([]:List Tg) g2 w2 g4 w4:=(c4.nil ([]:List Tg));have Z6:Tg.z∉([]:List Tg):=by simp
 have N5:NS i nb ob g4 w4 (p.count i v) ls ts:=⟨x2,lt2,tl2,hN2.ch C6 Z6 (by simp),hO2.ch C6 Z6 (by simp),K.new⟩;refine qG 3 (TN i) [true,true,false,false] (Dw N5 hb { Ca 3 with vote:=v } s30 s30 ⟨Sv.nil _,fun h=>absurd rfl h⟩ (Rc.nil _ _)) ?_;rintro e' w5 ⟨g5,rfl,M5,c5⟩;refine⟨_,g5,rfl,c5,M5.new,?_⟩;replace c5:=c5.ret (B:=w.heap.size);obtain⟨x5,lt5,tl5,hN5,hO5,hg5⟩:=M5;refine qN hN5 ?_;refine qO hO5 ?_;refine qR [] 1 [] fun s7 g7 w7 c7=>?_;refine qE (.tuple #[]) fun K=>?_;have C8:Cg w.heap.size ([]:List Tg) g5 w5 g7 w7:=(c7.nil ([]:List Tg));have Z8:Tg.z∉([]:List Tg):=by simp
 exact⟨_,rfl,⟨x5,lt5,tl5,hN5.ch C8 Z8 (by simp),hO5.ch C8 Z8 (by simp),K.new⟩,(((((c1.nil (TN i)).trans (c2)).trans (c4.nil (TN i))).trans (c5)).trans (c7.nil (TN i)))⟩
theorem Px{b:Bal}{vs:List Vt}{x3:S3}{g:Gh}{w:World}{i nb ob:Nat}{p:Nod}{ls:List Let}{ts:List Tol}(h:NS i nb ob g w p ls ts){w0:World}(hB:Base w0 g w)(hT:Tabs w0)(hi:i<5)(hb:ls.length<90000000){b1 b2 b3:Nat}(h1:Box g w b1 #[pt nb 0] 107)(h2:Box g w b2 #[iv b.r,iv b.n] 112)(h3:Box g w b3 #[S3.v x3] 113)(hv:FSv g w x3 vs)(hb3:(p.rnd.heard i).vs.length<100000000) :
  Calls prog 115 #[pt b1 0,pt b2 0,pt b3 0] w (NP i nb ob g w (.tuple #[]) (if p.vo.p≠b then p else{ p with rnd:=p.rnd.hear i vs }) (if p.vo.p≠b then ls else(ls++BG i { Ca 0 with bal:=b } 5)) ts):=by
 obtain⟨x,lt,tl,hN,hO,hg⟩:=h;refine gIn (fn:=f115) (TN i) g func115 (by kernel_rfl) (by kernel_rfl) hg ?_;refine qN hN ?_;refine qO hO ?_;refine Bj ⟨b1,.cells #[pt nb 0] 107,.z,false⟩ (fun _=>⟨h1.r,h1.z,fun h=>(by cases h),fun h=>absurd rfl h⟩) (by kernel_rfl) ?_;refine Bj ⟨b2,.cells #[iv b.r,iv b.n] 112,.z,false⟩ (fun _=>⟨h2.r,h2.z,fun h=>(by cases h),fun h=>absurd rfl h⟩) (by kernel_rfl) ?_;refine Bj ⟨b3,.cells #[S3.v x3] 113,.z,false⟩ (fun _=>⟨h3.r,h3.z,fun h=>(by cases h),fun h=>absurd rfl h⟩) (by kernel_rfl) ?_;refine qR [] 10 [8,0,2,2,4,6,8,10,0,12,3] fun s1 g1 w1 c1=>?_;by_cases h1:p.vo.p≠b
 ·refine qT 7 (.bool true) (fun _=>(Lx (x:=(.tmp 8)) (y:=(.tmp 9)) p.vo.p b h1)) ?_;refine qR [] 2 [] fun s2 g2 w2 c2=>?_;rw[if_pos h1,if_pos h1];refine qE (.tuple #[]) fun K=>?_;have C3:Cg w.heap.size ([]:List Tg) g w g2 w2:=((c1.nil ([]:List Tg)).trans (c2.nil ([]:List Tg)));have Z3:Tg.z∉([]:List Tg):=by simp
  exact⟨_,rfl,⟨x,lt,tl,hN.ch C3 Z3 (by simp),hO.ch C3 Z3 (by simp),K.new⟩,((c1.nil (TN i)).trans (c2.nil (TN i)))⟩
 ·have h10:p.vo.p=b:=by simpa using h1
  refine qT 7 (.bool false) (fun _=>(Lw (x:=(.tmp 8)) (y:=(.tmp 9)) p.vo.p b h10)) ?_;rw[if_neg h1,if_neg h1];refine qR [] 14 [9,0,2,2,4,6,8,2,10,12,14,0,16,4] fun s4 g4 w4 c4=>?_;refine Ae fun K=>?_;have C6:Cg w.heap.size ([]:List Tg) g w g4 w4:=((c1.nil ([]:List Tg)).trans (c4.nil ([]:List Tg)));have Z6:Tg.z∉([]:List Tg):=by simp
  have N5:NS i nb ob g4 w4 p ls ts:=⟨x,lt,tl,hN.ch C6 Z6 (by simp),hO.ch C6 Z6 (by simp),K.new⟩;refine qG 9 (TN i) [false,false,true,true,true] (Np N5 (hB.ch ((c1.nil (TN i)).trans (c4.nil (TN i))) (AV i)) hT i hi vs x3 (hv.ch ((c1.nil (TN i)).trans (c4.nil (TN i))) (AV i)) hb3) ?_;rintro e' w5 ⟨g5,rfl,M5,c5⟩;refine⟨_,g5,rfl,c5,M5.new,?_⟩;replace c5:=c5.ret (B:=w.heap.size);obtain⟨x5,lt5,tl5,hN5,hO5,hg5⟩:=M5;refine qN hN5 ?_;refine qO hO5 ?_;refine qR [] 5 [0,1] fun s7 g7 w7 c7=>?_;refine Ae fun K=>?_;have C9:Cg w.heap.size ([]:List Tg) g5 w5 g7 w7:=(c7.nil ([]:List Tg));have Z9:Tg.z∉([]:List Tg):=by simp
  have N8:NS i nb ob g7 w7 ({ p with rnd:=p.rnd.hear i vs }) ls ts:=⟨x5,lt5,tl5,hN5.ch C9 Z9 (by simp),hO5.ch C9 Z9 (by simp),K.new⟩;refine qG 3 (TN i) [true,true,true,false,false] (Dw N8 hb { Ca 0 with bal:=b } s30 s30 ⟨Sv.nil _,fun h=>absurd rfl h⟩ (Rc.nil _ _)) ?_;rintro e' w8 ⟨g8,rfl,M8,c8⟩;refine⟨_,g8,rfl,c8,M8.new,?_⟩;replace c8:=c8.ret (B:=w.heap.size);obtain⟨x8,lt8,tl8,hN8,hO8,hg8⟩:=M8;refine qN hN8 ?_;refine qO hO8 ?_;refine qR [] 1 [] fun s10 g10 w10 c10=>?_;refine qE (.tuple #[]) fun K=>?_;have C11:Cg w.heap.size ([]:List Tg) g8 w8 g10 w10:=(c10.nil ([]:List Tg));have Z11:Tg.z∉([]:List Tg):=by simp
  exact⟨_,rfl,⟨x8,lt8,tl8,hN8.ch C11 Z11 (by simp),hO8.ch C11 Z11 (by simp),K.new⟩,((((((c1.nil (TN i)).trans (c4.nil (TN i))).trans (c5)).trans (c7.nil (TN i))).trans (c8)).trans (c10.nil (TN i)))⟩
def Nod.runP(p:Nod)(i:Nat):Pend→Nod
 | .began b vs=>if p.vo.p≠b then p else{ p with rnd:=p.rnd.hear i vs }
 | .prop v=>p.count i v
 | _=>p
def Nod.sentP(p:Nod)(i:Nat):Pend→List Let
 | .began b vs=>if p.vo.p≠b then[]else BG i { Ca 0 with bal:=b } 5
 | .prom to b vs=>[{ Ca 1 with bal:=b,votes:=vs,what:=p.agreed,src:=i,dst:=to }]
 | .voted to v=>[{ Ca 4 with vote:=v,src:=i,dst:=to }]
 | .refuse to b=>[{ Ca 2 with bal:=b,src:=i,dst:=to }]
 | .prop v=>BG i { Ca 3 with vote:=v } 5
 | .askNews to=>[{ Ca 6 with slot:=p.agreed.length,src:=i,dst:=to }]
 | .start=>BG i (Ca 6) 5
 | .tell to slot=>[{ Ca 5 with src:=i,dst:=to,slot:=slot,what:=p.agreed.drop slot }]
def O8(p:Nod)(i:Nat):Pend→Prop
 | .began _ _=>(p.rnd.heard i).vs.length<100000000
 | .prop _=>p.agreed.length≤40
 | .tell _ slot=>slot≤p.agreed.length
 | _=>True
theorem XB{P:Program}{s:Xs}{i:Nat}{W:World}{S:Sem Next}{r:Result Next}(h:Dv s i=some S)(hr:S.run P W=r):Dj P s i W=some r:=by
 unfold Dj;unfold Dv at h;cases hx:opN s i with
 | none=>rw[hx]at h;cases h
 | some x =>
  rw[hx]at h
  simp only[Option.map_some,Option.some.injEq]at h ⊢;rw[h,hr]
theorem Fw{g:Gh}{w:World}{i nb ob:Nat}{p:Nod}{ls:List Let}{ts:List Tol}(h:NS i nb ob g w p ls ts){w0:World}(hB:Base w0 g w)(hT:Tabs w0)(hi:i<5)(hb:ls.length<90000000){v:Value}(q:Pend)(hq:O8 p i q)(hv:Ja g w nb v q) :
  ∃ (F:FuncId) (cs:Array Value),v=.func (.func F) #[] cs∧(∀ W,(Go.callFunc F (#[]++cs)).run prog W=.ok (.enter F cs) W)∧Calls prog F cs w (NP i nb ob g w (.tuple #[]) (p.runP i q) (ls++p.sentP i q) ts):=by
 cases q with
 | began b vs =>
  obtain⟨b1,b2,b3,x,e,h1,h2,h3,h4⟩:=hv;refine⟨_,_,e,fun W=>by kernel_rfl,?_⟩;have:=Px h hB hT hi hb h1 h2 h3 h4 hq;unfold Nod.runP Nod.sentP;by_cases hx:p.vo.p≠b
  ·rw[if_pos hx,if_pos hx]at this;simp only[if_pos hx,List.append_nil];exact this
  ·rw[if_neg hx,if_neg hx]at this;simp only[if_neg hx];exact this
 | prom to b vs =>
  obtain⟨b1,b2,b3,x,lb,l,e,h1,h2,h3,h4,h5,rfl,rfl⟩:=hv;exact⟨_,_,e,fun W=>(by kernel_rfl),F6 h hb h1 h2 h3 h5 h4⟩
 | voted to u =>
  obtain⟨b1,b2,lb,l,e,h1,h2,h3,rfl,rfl⟩:=hv;exact⟨_,_,e,fun W=>(by kernel_rfl),Gi (b3:=0) h hb h1 h2 h3⟩
 | refuse to b =>
  obtain⟨b1,b2,b3,e,h1,h2,h3⟩:=hv;exact⟨_,_,e,fun W=>(by kernel_rfl),Mu h hb h1 h2 h3⟩
 | prop u =>
  obtain⟨b1,b2,e,h1,h2⟩:=hv;exact⟨_,_,e,fun W=>(by kernel_rfl),K9 h hB hT hi hb h1 h2 hq⟩
 | askNews to =>
  obtain⟨b1,b2,lb,l,e,h1,h2,h3,rfl⟩:=hv;exact⟨_,_,e,fun W=>(by kernel_rfl),Kb (b3:=0) h hb h1 h2 h3⟩
 | start =>
  obtain⟨b1,e,h1⟩:=hv;exact⟨_,_,e,fun W=>(by kernel_rfl),Ou (b2:=0) (b3:=0) h hb h1⟩
 | tell to slot =>
  obtain⟨b1,b2,lb,l,e,h1,h2,h3,rfl,rfl⟩:=hv;exact⟨_,_,e,fun W=>(by kernel_rfl),Ia (b3:=0) h hb h1 h2 h3 hq⟩
theorem Vo{d:List Int}{s:Int}{n:Nat}(h:d.length≤n):(GQ d s).length≤n:=by
 unfold GQ;split
 ·exact h
 ·exact Nat.zero_le _
theorem SA{d:List Int}{s:Int}(h:∀ x∈d,0≤x∧x<256):∀ x∈GQ d s,0≤x∧x<256:=by
 unfold GQ;split
 ·exact h
 ·exact fun x hx=>absurd hx List.not_mem_nil
structure FzL(g:Gh)(w:World)(x:S3)(vs:List Value):Prop where
 n:x.n=vs.length
 at_:∀ j u,vs[j]?=some u→∃ b,x.a=some ⟨b,0,none⟩∧b<w.heap.size∧j<g.k b∧w.cell? ⟨b,j,none⟩=some u
theorem OwnS.fz{g:Gh}{w:World}{τ:Tg}{e:TypeId}{x:S3}{vs:List Value}(h:OwnS g w τ true e 1 x vs):FzL g w x vs:=by
 refine⟨by have:=h.len;omega,fun j u hj=>?_⟩;obtain⟨b,h1,h2,h3⟩:=h.cell hj;have hlt:j<vs.length:=(List.getElem?_eq_some_iff.1 hj).1;refine⟨b,h1,h2,?_,h3⟩;rcases h.ex with⟨h4,_⟩|⟨b',cur,h4,_,_,_,_,_,_,h8⟩
 ·rw[h4]at h1;cases h1
 ·rw[h1]at h4
  simp only[Option.some.injEq,Addr.mk.injEq,and_true]at h4;subst h4;rw[h8,if_pos rfl];exact hlt
theorem FzL.ch{B:Nat}{T:List Tg}{g g':Gh}{w w':World}{x:S3}{vs:List Value}(h:FzL g w x vs)(c:Cg B T g w g' w'):FzL g' w' x vs :=
 ⟨h.n,fun j u hj=>by
  obtain⟨b,h1,h2,h3,h4⟩:=h.at_ j u hj;exact⟨b,h1,Nat.lt_of_lt_of_le h2 c.size,Nat.lt_of_lt_of_le h3 (c.kap b h2),(c.pref b h2 j h3).trans h4⟩⟩
theorem XI{W:World}{x:S3}{b off:Nat}(ha:x.a=some ⟨b,off,none⟩)(j:Nat)(hj:j<x.n):(Instr.indexAt 116 x.v (iv (j:Int))).run prog W=.ok (pt b (off+1*j)) W:=by
 unfold S3.v;rw[ha];exact Sq (P:=prog) (e:=1) (z:=1) underlying116 (by kernel_rfl) (by kernel_rfl) hj _ rfl
def Cq(i:Nat):List Pend→Nod→List Let→Nod × List Let
 | [],p,ls=>(p,ls)
 | q::l,p,ls=>Cq i l (p.runP i q) (ls++p.sentP i q)
def Fk(i:Nat):List Pend→Nod→List Let→Prop
 | [],_,_=>True
 | q::l,p,ls=>O8 p i q∧ls.length<90000000∧Fk i l (p.runP i q) (ls++p.sentP i q)
def Nod.syn(p:Nod):Nod:=if p.sy<(p.d.length:Int)then{ p with d:=GQ p.d p.sy,sy:=M1 p.d p.sy }else p
theorem Nd{l:List Pend}{j:Nat}{c:Pend}(h:l[j]?=some c):l.drop j=c::l.drop (j+1):=by
 obtain⟨h1,h2⟩:=List.getElem?_eq_some_iff.1 h;rw[← h2];exact List.drop_eq_getElem_cons h1
theorem Xk{g:Gh}{w:World}{i nb ob:Nat}{p:Nod}{ls:List Let}{ts:List Tol}(h:NS i nb ob g w p ls ts){w0:World}(hB:Base w0 g w)(hT:Tabs w0)(hi:i<5)(hok:Fk i p.pend { p.syn with pend:=[] } ls)(hpb:p.pend.length<100000000) :
  Calls prog 121 #[pt nb 0] w (NP i nb ob g w (.tuple #[]) (if p.sy<(p.d.length:Int)∧Dx p.d p.sy≠0 then(p,ls)else Cq i p.pend { p.syn with pend:=[] } ls).1 (if p.sy<(p.d.length:Int)∧Dx p.d p.sy≠0 then(p,ls)else Cq i p.pend { p.syn with pend:=[] } ls).2 ts):=by
 obtain⟨x,lt,tl,hN,hO,hg⟩:=h;have htn:x.tape.n=p.d.length:=by obtain⟨a,cap,hh⟩:=hN.tape.s.shapeT;have:=hN.tape.s.len;simp only[S3.v,Value.slice.injEq]at hh;exact hh.2.1
 refine gIn (fn:=f121) (TN i) g func121 (by kernel_rfl) (by kernel_rfl) hg ?_;refine qN hN ?_;refine qO hO ?_;obtain⟨pv,hP,hPs⟩:=hN.pend;have hF:=hP.fz;have hpn:x.synced.n=p.pend.length:=by rw[hF.n];exact hPs.len
 refine qR [] 16 [12,0,2,4,6,8,0,10,12,14,16,18,0,20,22] fun s1 g1 w1 c1=>?_;by_cases h1:p.sy<(x.tape.n:Int)
 ·refine qI ((decide (p.sy<(x.tape.n:Int)))) true (decide_eq_true (by omega)) ?_;refine qR [] 6 [0] fun s2 g2 w2 c2=>?_;refine Ae fun Kq=>?_;have hS:=(hN.tape.ch (c1.trans c2) (by simp)).s;have hG:∀ z,w2.heap.size≤z→g2.t z=.z:=fun z hz=>(Kq.new z hz).1;refine qC 4 (Vp _ p.d p.sy w2 hS) ?_;rintro e' w3 ⟨y3,rfl,hy3,b3⟩;refine⟨_,rfl,b3,?_⟩;have c3:=Cg.ofBelow (B:=w.heap.size) (T:=[]) (g:=g2) b3;obtain⟨tz,rfl,htz,hts⟩:=Es hy3 hG (Vo hS.len) (SA hS.byte);refine qR [] 13 [0,0,2,0] fun s4 g4 w4 c4=>?_;by_cases h2:Dx p.d p.sy≠0
  ·refine qI (((Dx p.d p.sy) != 0)) true (by simpa using h2) ?_;refine qE (.tuple #[]) fun K=>?_;rw[if_pos ⟨by omega,h2⟩];have C6:Cg w.heap.size ([]:List Tg) g w g4 w4:=((((c1.nil ([]:List Tg)).trans (c2.nil ([]:List Tg))).trans (c3.nil ([]:List Tg))).trans (c4.nil ([]:List Tg)));have Z6:Tg.z∉([]:List Tg):=by simp
   exact⟨_,rfl,⟨x,lt,tl,hN.ch C6 Z6 (by simp),hO.ch C6 Z6 (by simp),K.new⟩,((((c1.nil (TN i)).trans (c2.nil (TN i))).trans (c3.nil (TN i))).trans (c4.nil (TN i)))⟩
  ·refine qI (((Dx p.d p.sy) != 0)) false (by simpa using h2) ?_;have hsy:p.syn={ p with d:=GQ p.d p.sy,sy:=M1 p.d p.sy }:=if_pos (by omega);rw[show(if p.sy<(p.d.length:Int)∧Dx p.d p.sy≠0 then(p,ls)else Cq i p.pend { p.syn with pend:=[] } ls)=Cq i p.pend ({ p with d:=GQ p.d p.sy,sy:=M1 p.d p.sy,pend:=[] }:Nod) ls from by rw[if_neg (by rintro⟨_,h⟩;exact h2 h),hsy]];rw[show{ p.syn with pend:=[] }=({ p with d:=GQ p.d p.sy,sy:=M1 p.d p.sy,pend:=[] }:Nod)from by rw[hsy]]at hok
   refine qR [.n 0 i] 32 [2,0,1,0,0,1] fun s7 g7 w7 c7=>?_;refine Gw [true,true,false] ?_;refine BE 51 [(42,S3.v x.synced),(43,iv (x.synced.n:Int)),(44,iv 0)] [false,false] [] (fun k g' w' e L=>∃ (j:Nat) (q:Nod) (l2:List Let),k=p.pend.length-j∧j≤p.pend.length∧e=[(42,S3.v x.synced),(43,iv (x.synced.n:Int)),(44,iv (j:Int))]∧L=[]∧NS i nb ob g' w' q l2 ts∧Cq i (p.pend.drop j) q l2=Cq i p.pend ({ p with d:=GQ p.d p.sy,sy:=M1 p.d p.sy,pend:=[] }:Nod) ls∧Fk i (p.pend.drop j) q l2∧Cg w.heap.size (TN i) g w g' w') (by kernel_rfl) (by kernel_rfl) (by kernel_rfl) (by kernel_rfl) p.pend.length (fun K=>?_) ?_
   ·have C8:Cg w.heap.size ([.n 0 i]:List Tg) g w g7 w7:=(((((c1.nil ([.n 0 i]:List Tg)).trans (c2.nil ([.n 0 i]:List Tg))).trans (c3.nil ([.n 0 i]:List Tg))).trans (c4.nil ([.n 0 i]:List Tg))).trans (c7));have Z8:Tg.z∉([.n 0 i]:List Tg):=by simp
    exact⟨0,({ p with d:=GQ p.d p.sy,sy:=M1 p.d p.sy,pend:=[] }:Nod),ls,rfl,by omega,rfl,rfl,⟨({ x with tape:=tz,synced:=s30 }:NX),lt,tl,K.nd 0 ((hts.ch c4 (by simp)).ch c7 (by simp)) (hN.votes.ch C8 Z8) (AZ hN.heard C8 Z8) ⟨[],OwnS.nil _ _ _ _ _ _,⟨rfl,fun k v q h=>by cases h⟩⟩ (hN.queue.ch C8 (by simp) (by simp)) (hN.agreed.ch C8 (by simp) (by simp)) (hN.wants.ch C8 (by simp) (by simp)) (hN.asked.ch C8 (by simp)) hN.upm,hO.ch C8 Z8 (by simp<;>omega),K.new⟩,rfl,hok,(((((c1.nil (TN i)).trans (c2.nil (TN i))).trans (c3.nil (TN i))).trans (c4.nil (TN i))).trans (c7.mono (by simp[TN])))⟩
   ·rintro k gr wr _ zr _ ⟨j,q,l2,rfl,hj,rfl,rfl,hM,hI,hK,hC⟩ J hJ;obtain⟨xr,ltr,tlr,hNr,hOr,hgr⟩:=id hM;refine qN hNr ?_;refine qO hOr ?_;refine qR [] 5 [] fun s9 g9 w9 c9=>?_;by_cases h5:j<p.pend.length
    ·refine qI ((decide ((j:Int)<(x.synced.n:Int)))) true (decide_eq_true (by omega)) ?_;obtain⟨pd,hpd⟩:∃ pd,p.pend[j]?=some pd:=⟨_,List.getElem?_eq_getElem h5⟩;obtain⟨v,hv⟩:∃ v,pv[j]?=some v:=⟨_,List.getElem?_eq_getElem (by rw[hPs.len];exact h5)⟩;rw[Nd hpd]at hI hK
     obtain⟨hK1,hK2,hK3⟩:=hK;have hFr:=hF.ch hC;obtain⟨bx,hxa,hbx,hkx,hcx⟩:=hFr.at_ j v hv;have hVr:=(hPs.at_ j v pd hv hpd).ch hC (AV i);refine qR [] 5 [] fun s10 g10 w10 c10=>?_;refine qV 0 (pt bx (0+1*j)) (XI hxa j (by omega)) ?_;refine Ae fun K=>?_;have C12:Cg w.heap.size ([]:List Tg) gr wr g10 w10:=((c9.nil ([]:List Tg)).trans (c10.nil ([]:List Tg)));have Z12:Tg.z∉([]:List Tg):=by simp
     have N13:NS i nb ob g10 w10 q l2 ts:=⟨xr,ltr,tlr,hNr.ch C12 Z12 (by simp),hOr.ch C12 Z12 (by simp),K.new⟩;obtain⟨F2,cs2,e2,hcf,_⟩:=Fw N13 (hB.ch (hC.trans ((c9.nil (TN i)).trans (c10.nil (TN i)))) (AV i)) hT hi hK2 pd hK1 (hVr.ch ((c9.nil (TN i)).trans (c10.nil (TN i))) (AV i));subst e2;have hFz:=hFr.ch (c9.trans c10);refine qV 1 (.func (.func F2) #[] cs2) (JK (ty:=1) (b:=bx) (k:=0+1*j) (v:=.func (.func F2) #[] cs2) underlying1 rfl (by rw[Nat.zero_add,Nat.one_mul];obtain⟨b2,h2,_,_,h4⟩:=hFz.at_ j _ hv;rw[hxa]at h2;simp only[Option.some.injEq,Addr.mk.injEq,and_true]at h2;subst h2;exact h4)) ?_;refine qR [] 4 [] fun s14 g14 w14 c14=>?_;refine Ae fun K=>?_;have C16:Cg w.heap.size ([]:List Tg) gr wr g14 w14:=(((c9.nil ([]:List Tg)).trans (c10.nil ([]:List Tg))).trans (c14.nil ([]:List Tg)));have Z16:Tg.z∉([]:List Tg):=by simp
     have N15:NS i nb ob g14 w14 q l2 ts:=⟨xr,ltr,tlr,hNr.ch C16 Z16 (by simp),hOr.ch C16 Z16 (by simp),K.new⟩;obtain⟨F3,cs3,e3,_,hcall⟩:=Fw N15 (hB.ch (hC.trans (((c9.nil (TN i)).trans (c10.nil (TN i))).trans (c14.nil (TN i)))) (AV i)) hT hi hK2 pd hK1 (hVr.ch (((c9.nil (TN i)).trans (c10.nil (TN i))).trans (c14.nil (TN i))) (AV i));simp only[Value.func.injEq,Fn.func.injEq,true_and]at e3;obtain⟨rfl,rfl⟩:=e3;refine Ph 1 F2 cs2 (TN i) [false,false] (fun W=>XB (by kernel_rfl) (hcf W)) (by kernel_rfl) (by kernel_rfl) (by kernel_rfl) hcall ?_;rintro e' w15 ⟨g15,rfl,M15,c15⟩;refine⟨_,g15,rfl,c15,M15.new,?_⟩;replace c15:=c15.ret (B:=w.heap.size);refine qR [] 3 [] fun s17 g17 w17 c17=>?_;refine qV 0 (iv ((j:Int)+1)) (B7 (x:=(.tmp 44)) (y:=(.const (iv 1))) (j:Int) 1 underlying3 (by omega)) ?_;refine qR [] 2 [] fun s18 g18 w18 c18=>?_;exact qB [] fun z K0 K=>hJ (p.pend.length-(j+1)) _ _ _ z _ (by omega) ⟨j+1,q.runP i pd,l2++q.sentP i pd,rfl,by omega,rfl,rfl,NS.ch0 M15 (c17.trans c18) K0.new,hI,hK3,hC.trans ((((((c9.nil (TN i)).trans (c10.nil (TN i))).trans (c14.nil (TN i))).trans (c15)).trans (c17.nil (TN i))).trans (c18.nil (TN i)))⟩ K
    ·refine qI ((decide ((j:Int)<(x.synced.n:Int)))) false (decide_eq_false (by omega)) ?_;refine qR [] 1 [] fun s19 g19 w19 c19=>?_;obtain rfl:j=p.pend.length:=by omega
     rw[List.drop_length]at hI
     rw[← hI];refine qE (.tuple #[]) fun K=>?_;have C20:Cg w.heap.size ([]:List Tg) gr wr g19 w19:=((c9.nil ([]:List Tg)).trans (c19.nil ([]:List Tg)));have Z20:Tg.z∉([]:List Tg):=by simp
     exact⟨_,rfl,⟨xr,ltr,tlr,hNr.ch C20 Z20 (by simp),hOr.ch C20 Z20 (by simp),K.new⟩,hC.trans ((c9.nil (TN i)).trans (c19.nil (TN i)))⟩
 ·refine qI ((decide (p.sy<(x.tape.n:Int)))) false (decide_eq_false (by omega)) ?_;have hsy:p.syn=p:=if_neg (by omega);rw[show(if p.sy<(p.d.length:Int)∧Dx p.d p.sy≠0 then(p,ls)else Cq i p.pend { p.syn with pend:=[] } ls)=Cq i p.pend ({ p with pend:=[] }:Nod) ls from by rw[if_neg (by rintro⟨h,_⟩;omega),hsy]];rw[show{ p.syn with pend:=[] }=({ p with pend:=[] }:Nod)from by rw[hsy]]at hok
  refine qR [.n 0 i] 25 [0,0,1] fun s21 g21 w21 c21=>?_;refine BE 51 [(42,S3.v x.synced),(43,iv (x.synced.n:Int)),(44,iv 0)] [false,false] [] (fun k g' w' e L=>∃ (j:Nat) (q:Nod) (l2:List Let),k=p.pend.length-j∧j≤p.pend.length∧e=[(42,S3.v x.synced),(43,iv (x.synced.n:Int)),(44,iv (j:Int))]∧L=[]∧NS i nb ob g' w' q l2 ts∧Cq i (p.pend.drop j) q l2=Cq i p.pend ({ p with pend:=[] }:Nod) ls∧Fk i (p.pend.drop j) q l2∧Cg w.heap.size (TN i) g w g' w') (by kernel_rfl) (by kernel_rfl) (by kernel_rfl) (by kernel_rfl) p.pend.length (fun K=>?_) ?_
  ·have C22:Cg w.heap.size ([.n 0 i]:List Tg) g w g21 w21:=((c1.nil ([.n 0 i]:List Tg)).trans (c21));have Z22:Tg.z∉([.n 0 i]:List Tg):=by simp
   exact⟨0,({ p with pend:=[] }:Nod),ls,rfl,by omega,rfl,rfl,⟨({ x with synced:=s30 }:NX),lt,tl,K.nd 0 (hN.tape.ch C22 Z22) (hN.votes.ch C22 Z22) (AZ hN.heard C22 Z22) ⟨[],OwnS.nil _ _ _ _ _ _,⟨rfl,fun k v q h=>by cases h⟩⟩ (hN.queue.ch C22 (by simp) (by simp)) (hN.agreed.ch C22 (by simp) (by simp)) (hN.wants.ch C22 (by simp) (by simp)) (hN.asked.ch C22 (by simp)) hN.upm,hO.ch C22 Z22 (by simp<;>omega),K.new⟩,rfl,hok,((c1.nil (TN i)).trans (c21.mono (by simp[TN])))⟩
  ·rintro k gr wr _ zr _ ⟨j,q,l2,rfl,hj,rfl,rfl,hM,hI,hK,hC⟩ J hJ;obtain⟨xr,ltr,tlr,hNr,hOr,hgr⟩:=id hM;refine qN hNr ?_;refine qO hOr ?_;refine qR [] 5 [] fun s23 g23 w23 c23=>?_;by_cases h5:j<p.pend.length
   ·refine qI ((decide ((j:Int)<(x.synced.n:Int)))) true (decide_eq_true (by omega)) ?_;obtain⟨pd,hpd⟩:∃ pd,p.pend[j]?=some pd:=⟨_,List.getElem?_eq_getElem h5⟩;obtain⟨v,hv⟩:∃ v,pv[j]?=some v:=⟨_,List.getElem?_eq_getElem (by rw[hPs.len];exact h5)⟩;rw[Nd hpd]at hI hK
    obtain⟨hK1,hK2,hK3⟩:=hK;have hFr:=hF.ch hC;obtain⟨bx,hxa,hbx,hkx,hcx⟩:=hFr.at_ j v hv;have hVr:=(hPs.at_ j v pd hv hpd).ch hC (AV i);refine qR [] 5 [] fun s24 g24 w24 c24=>?_;refine qV 0 (pt bx (0+1*j)) (XI hxa j (by omega)) ?_;refine Ae fun K=>?_;have C26:Cg w.heap.size ([]:List Tg) gr wr g24 w24:=((c23.nil ([]:List Tg)).trans (c24.nil ([]:List Tg)));have Z26:Tg.z∉([]:List Tg):=by simp
    have N27:NS i nb ob g24 w24 q l2 ts:=⟨xr,ltr,tlr,hNr.ch C26 Z26 (by simp),hOr.ch C26 Z26 (by simp),K.new⟩;obtain⟨F2,cs2,e2,hcf,_⟩:=Fw N27 (hB.ch (hC.trans ((c23.nil (TN i)).trans (c24.nil (TN i)))) (AV i)) hT hi hK2 pd hK1 (hVr.ch ((c23.nil (TN i)).trans (c24.nil (TN i))) (AV i));subst e2;have hFz:=hFr.ch (c23.trans c24);refine qV 1 (.func (.func F2) #[] cs2) (JK (ty:=1) (b:=bx) (k:=0+1*j) (v:=.func (.func F2) #[] cs2) underlying1 rfl (by rw[Nat.zero_add,Nat.one_mul];obtain⟨b2,h2,_,_,h4⟩:=hFz.at_ j _ hv;rw[hxa]at h2;simp only[Option.some.injEq,Addr.mk.injEq,and_true]at h2;subst h2;exact h4)) ?_;refine qR [] 4 [] fun s28 g28 w28 c28=>?_;refine Ae fun K=>?_;have C30:Cg w.heap.size ([]:List Tg) gr wr g28 w28:=(((c23.nil ([]:List Tg)).trans (c24.nil ([]:List Tg))).trans (c28.nil ([]:List Tg)));have Z30:Tg.z∉([]:List Tg):=by simp
    have N29:NS i nb ob g28 w28 q l2 ts:=⟨xr,ltr,tlr,hNr.ch C30 Z30 (by simp),hOr.ch C30 Z30 (by simp),K.new⟩;obtain⟨F3,cs3,e3,_,hcall⟩:=Fw N29 (hB.ch (hC.trans (((c23.nil (TN i)).trans (c24.nil (TN i))).trans (c28.nil (TN i)))) (AV i)) hT hi hK2 pd hK1 (hVr.ch (((c23.nil (TN i)).trans (c24.nil (TN i))).trans (c28.nil (TN i))) (AV i));simp only[Value.func.injEq,Fn.func.injEq,true_and]at e3;obtain⟨rfl,rfl⟩:=e3;refine Ph 1 F2 cs2 (TN i) [false,false] (fun W=>XB (by kernel_rfl) (hcf W)) (by kernel_rfl) (by kernel_rfl) (by kernel_rfl) hcall ?_;rintro e' w29 ⟨g29,rfl,M29,c29⟩;refine⟨_,g29,rfl,c29,M29.new,?_⟩;replace c29:=c29.ret (B:=w.heap.size);refine qR [] 3 [] fun s31 g31 w31 c31=>?_;refine qV 0 (iv ((j:Int)+1)) (B7 (x:=(.tmp 44)) (y:=(.const (iv 1))) (j:Int) 1 underlying3 (by omega)) ?_;refine qR [] 2 [] fun s32 g32 w32 c32=>?_;exact qB [] fun z K0 K=>hJ (p.pend.length-(j+1)) _ _ _ z _ (by omega) ⟨j+1,q.runP i pd,l2++q.sentP i pd,rfl,by omega,rfl,rfl,NS.ch0 M29 (c31.trans c32) K0.new,hI,hK3,hC.trans ((((((c23.nil (TN i)).trans (c24.nil (TN i))).trans (c28.nil (TN i))).trans (c29)).trans (c31.nil (TN i))).trans (c32.nil (TN i)))⟩ K
   ·refine qI ((decide ((j:Int)<(x.synced.n:Int)))) false (decide_eq_false (by omega)) ?_;refine qR [] 1 [] fun s33 g33 w33 c33=>?_;obtain rfl:j=p.pend.length:=by omega
    rw[List.drop_length]at hI
    rw[← hI];refine qE (.tuple #[]) fun K=>?_;have C34:Cg w.heap.size ([]:List Tg) gr wr g33 w33:=((c23.nil ([]:List Tg)).trans (c33.nil ([]:List Tg)));have Z34:Tg.z∉([]:List Tg):=by simp
    exact⟨_,rfl,⟨xr,ltr,tlr,hNr.ch C34 Z34 (by simp),hOr.ch C34 Z34 (by simp),K.new⟩,hC.trans ((c23.nil (TN i)).trans (c33.nil (TN i)))⟩
def Qk(p:Nod)(i j:Nat):Bool:=decide (j≠i∧p.rnd.taught j<p.agreed.length)
def Ic(p:Nod)(i k:Nat):Nat→Nat:=fun j=>if decide (j<k)&&Qk p i j then p.agreed.length else p.rnd.taught j
def IP(p:Nod)(i k:Nat):Nod:={ p with rnd:={ p.rnd with taught:=Ic p i k } }
def DJ(p:Nod)(i:Nat):Nat→List Let
 | 0=>[]
 | k+1=>DJ p i k++(if Qk p i k then[{ Ca 5 with src:=i,dst:=k,slot:=p.rnd.taught k,what:=p.agreed.drop (p.rnd.taught k) }]else[])
theorem QT(p:Nod)(i k:Nat):(DJ p i k).length≤k:=by
 induction k with
 | zero=>exact Nat.le_refl _
 | succ k ih=>unfold DJ;rw[List.length_append];split<;>simp<;>omega
theorem SK(p:Nod)(i:Nat):IP p i 0=p:=by unfold IP Ic;simp
theorem QU{p:Nod}{i k:Nat}(h:Qk p i k=false):Ic p i (k+1)=Ic p i k:=by
 funext j
 unfold Ic;by_cases e:j=k
 ·subst e;simp[h]
 ·rw[show decide (j<k+1)=decide (j<k)from decide_eq_decide.2 (by omega)]
theorem V0{p:Nod}{i k:Nat}(h:Qk p i k=true):upN (Ic p i k) k p.agreed.length=Ic p i (k+1):=by
 funext j
 unfold upN Ic;by_cases e:j=k
 ·subst e;simp[h]
 ·rw[if_neg e,show decide (j<k+1)=decide (j<k)from decide_eq_decide.2 (by omega)]
theorem SL{g:Gh}{w:World}{i nb ob:Nat}{p:Nod}{ls:List Let}{ts:List Tol}(h:NS i nb ob g w p ls ts)(hb:ls.length<90000000) :
  Calls prog 122 #[pt nb 0] w (NP i nb ob g w (.tuple #[]) (if p.leads then IP p i 5 else p) (if p.leads then ls++DJ p i 5 else ls) ts):=by
 obtain⟨x,lt,tl,hN,hO,hg⟩:=h;refine gIn (fn:=f122) (TN i) g func122 (by kernel_rfl) (by kernel_rfl) hg ?_;refine qN hN ?_;refine qO hO ?_;refine qR [] 4 [] fun s1 g1 w1 c1=>?_;by_cases h1:p.leads=false
 ·refine Ae fun K=>?_;have C2:Cg w.heap.size ([]:List Tg) g w g1 w1:=(c1.nil ([]:List Tg));have Z2:Tg.z∉([]:List Tg):=by simp
  have N3:NS i nb ob g1 w1 p ls ts:=⟨x,lt,tl,hN.ch C2 Z2 (by simp),hO.ch C2 Z2 (by simp),K.new⟩;refine qC 1 (DU N3 h1) ?_;rintro e' w4 ⟨rfl,b4⟩;refine⟨_,rfl,b4,?_⟩;have c4:=Cg.ofBelow (B:=w.heap.size) (T:=[]) (g:=g1) b4;refine qR [] 3 [] fun s5 g5 w5 c5=>?_;refine qE (.tuple #[]) fun K=>?_;rw[h1,if_neg (by simp),if_neg (by simp)];have C6:Cg w.heap.size ([]:List Tg) g w g5 w5:=(((c1.nil ([]:List Tg)).trans (c4.nil ([]:List Tg))).trans (c5.nil ([]:List Tg)));have Z6:Tg.z∉([]:List Tg):=by simp
  exact⟨_,rfl,⟨x,lt,tl,hN.ch C6 Z6 (by simp),hO.ch C6 Z6 (by simp),K.new⟩,(((c1.nil (TN i)).trans (c4.nil (TN i))).trans (c5.nil (TN i)))⟩
 ·have h10:p.leads=true:=by simpa using h1
  refine Ae fun K=>?_;have C7:Cg w.heap.size ([]:List Tg) g w g1 w1:=(c1.nil ([]:List Tg));have Z7:Tg.z∉([]:List Tg):=by simp
  have N8:NS i nb ob g1 w1 p ls ts:=⟨x,lt,tl,hN.ch C7 Z7 (by simp),hO.ch C7 Z7 (by simp),K.new⟩;refine qC 1 (DU N8 h10) ?_;rintro e' w9 ⟨rfl,b9⟩;refine⟨_,rfl,b9,?_⟩;have c9:=Cg.ofBelow (B:=w.heap.size) (T:=[]) (g:=g1) b9;rw[if_pos h10,if_pos h10];refine qR [] 15 [0] fun s10 g10 w10 c10=>?_;refine BE 51 [(0,pt nb 0),(12,.agg #[iv (p.rnd.taught 0:Int),iv (p.rnd.taught 1:Int),iv (p.rnd.taught 2:Int),iv (p.rnd.taught 3:Int),iv (p.rnd.taught 4:Int)]),(13,iv 0)] [false,false] [] (fun k g' w' e L=>∃ k0:Nat,k=5-k0∧k0≤5∧e=[(0,pt nb 0),(12,.agg #[iv (p.rnd.taught 0:Int),iv (p.rnd.taught 1:Int),iv (p.rnd.taught 2:Int),iv (p.rnd.taught 3:Int),iv (p.rnd.taught 4:Int)]),(13,iv (k0:Int))]∧L=[]∧NS i nb ob g' w' (IP p i k0) (ls++DJ p i k0) ts∧Cg w.heap.size (TN i) g w g' w') (by kernel_rfl) (by kernel_rfl) (by kernel_rfl) (by kernel_rfl) 5 (fun K=>?_) ?_
  ·have C11:Cg w.heap.size ([]:List Tg) g w g10 w10:=(((c1.nil ([]:List Tg)).trans (c9.nil ([]:List Tg))).trans (c10.nil ([]:List Tg)));have Z11:Tg.z∉([]:List Tg):=by simp
   exact⟨0,rfl,by omega,rfl,rfl,(by rw[SK,show ls++DJ p i 0=ls from List.append_nil _];exact⟨x,lt,tl,hN.ch C11 Z11 (by simp),hO.ch C11 Z11 (by simp),K.new⟩),(((c1.nil (TN i)).trans (c9.nil (TN i))).trans (c10.nil (TN i)))⟩
  ·rintro k gr wr _ zr _ ⟨k0,rfl,hk0,rfl,rfl,hM,hC⟩ J hJ;obtain⟨xr,ltr,tlr,hNr,hOr,hgr⟩:=hM;have htl:=QT p i k0;refine qN hNr ?_;refine qO hOr ?_;have han:xr.agreed.n=p.agreed.length:=hNr.agreed.num;refine qR [] 5 [] fun s12 g12 w12 c12=>?_;by_cases h2:k0<5
   ·refine qI ((decide ((k0:Int)<5))) true (decide_eq_true (by omega)) ?_;refine qR [] 6 [] fun s13 g13 w13 c13=>?_;refine Wm 1 (iv (p.rnd.taught k0:Int)) (fun K=>(by rcases five h2 with rfl|rfl|rfl|rfl|rfl<;>kernel_rfl)) (by kernel_rfl) ?_;refine qR [] 10 [0] fun s14 g14 w14 c14=>?_;by_cases h3:k0≠i
    ·refine qV 5 (.bool true) (Sr (t:=3) (m:=(k0:Int)) (n:=(i:Int)) (x:=(.tmp 17)) (y:=(.tmp 21)) (by simp;omega)) ?_;refine qR [] 11 [0] fun s15 g15 w15 c15=>?_;by_cases h4:(p.rnd.taught k0:Int)<(xr.agreed.n:Int)
     ·have hx:Qk p i k0=true:=decide_eq_true ⟨by omega,by omega⟩;refine qI ((decide ((p.rnd.taught k0:Int)<(xr.agreed.n:Int)))) true (decide_eq_true (by omega)) ?_;refine qR [] 5 [] fun s16 g16 w16 c16=>?_;refine Ae fun K=>?_;have C18:Cg w.heap.size ([]:List Tg) gr wr g16 w16:=(((((c12.nil ([]:List Tg)).trans (c13.nil ([]:List Tg))).trans (c14.nil ([]:List Tg))).trans (c15.nil ([]:List Tg))).trans (c16.nil ([]:List Tg)));have Z18:Tg.z∉([]:List Tg):=by simp
      have N17:NS i nb ob g16 w16 ({ p with rnd:={ p.rnd with taught:=Ic p i k0 } }) (ls++DJ p i k0) ts:=⟨xr,ltr,tlr,hNr.ch C18 Z18 (by simp),hOr.ch C18 Z18 (by simp),K.new⟩;refine qG 3 (TN i) [false,false] (GT N17 (by rw[List.length_append];omega) k0 (p.rnd.taught k0) (by show _≤p.agreed.length;omega)) ?_;rintro e' w17 ⟨g17,rfl,M17,c17⟩;refine⟨_,g17,rfl,c17,M17.new,?_⟩;replace c17:=c17.ret (B:=w.heap.size);obtain⟨x17,lt17,tl17,hN17,hO17,hg17⟩:=M17;refine qN hN17 ?_;refine qO hO17 ?_;refine qR [] 14 [13,0,2,4,6,8,10,12,0,14,16,18,20,22] fun s19 g19 w19 c19=>?_;have han1:x17.agreed.n=p.agreed.length:=hN17.agreed.num;refine BD 51 (fun g' w' e L=>e=[(0,pt nb 0),(12,.agg #[iv (p.rnd.taught 0:Int),iv (p.rnd.taught 1:Int),iv (p.rnd.taught 2:Int),iv (p.rnd.taught 3:Int),iv (p.rnd.taught 4:Int)]),(13,iv (k0:Int))]∧L=[⟨nb,.cells (Ao i ob ({ p with rnd:={ p.rnd with taught:=upN (Ic p i k0) k0 x17.agreed.n } }) x17) 134,.n 0 i,false⟩,⟨ob,.cells #[S3.v lt17,S3.v tl17] 104,.n 50 0,false⟩]∧True∧Cg w.heap.size ([.n 0 i]:List Tg) g19 w19 g' w') (by kernel_rfl) ?_ ?_
      ·intro J hJ;rcases five h2 with rfl|rfl|rfl|rfl|rfl <;>
       (refine qR [.n 0 i] 3 [24,27,0,1] fun s21 g21 w21 c21=>?_;exact qB [true,true] fun z K0 K=>hJ _ _ _ z _ ⟨rfl,rfl,trivial,c21⟩ K)
      rintro g20 w20 _ z20 _ ⟨rfl,rfl,_,c20⟩;refine qR [] 2 [] fun s22 g22 w22 c22=>?_;refine qV 0 (iv ((k0:Int)+1)) (B7 (x:=(.tmp 13)) (y:=(.const (iv 1))) (k0:Int) 1 underlying3 (by omega)) ?_;refine qR [] 2 [] fun s23 g23 w23 c23=>?_;refine qB [false,false] fun z K0 K=>hJ (5-(k0+1)) _ _ _ z _ (by omega) ⟨k0+1,rfl,by omega,rfl,rfl,?_,hC.trans ((((((((((c12.nil (TN i)).trans (c13.nil (TN i))).trans (c14.nil (TN i))).trans (c15.nil (TN i))).trans (c16.nil (TN i))).trans (c17)).trans (c19.nil (TN i))).trans (c20.mono (by simp[TN]))).trans (c22.nil (TN i))).trans (c23.nil (TN i)))⟩ K;have C24:Cg w.heap.size ([.n 0 i]:List Tg) g17 w17 g23 w23:=((((c19.nil ([.n 0 i]:List Tg)).trans (c20)).trans (c22.nil ([.n 0 i]:List Tg))).trans (c23.nil ([.n 0 i]:List Tg)));have Z24:Tg.z∉([.n 0 i]:List Tg):=by simp
      rw[show IP p i (k0+1)={ p with rnd:={ p.rnd with taught:=upN (Ic p i k0) k0 x17.agreed.n } }from by unfold IP;rw[← V0 hx,han1],show ls++DJ p i (k0+1)=(ls++DJ p i k0++[{ Ca 5 with src:=i,dst:=k0,slot:=p.rnd.taught k0,what:=p.agreed.drop (p.rnd.taught k0) }])from by show ls++(DJ p i k0++_)=_;rw[hx,if_pos rfl,List.append_assoc]];exact⟨x17,lt17,tl17,K0.ndu 0 hN17 C24,hO17.ch C24 Z24 (by simp<;>omega),K0.new⟩
     ·have hx:Qk p i k0=false:=decide_eq_false (fun h=>h4 (by omega));refine qI ((decide ((p.rnd.taught k0:Int)<(xr.agreed.n:Int)))) false (decide_eq_false (by omega)) ?_;refine qR [] 3 [] fun s25 g25 w25 c25=>?_;refine qV 0 (iv ((k0:Int)+1)) (B7 (x:=(.tmp 13)) (y:=(.const (iv 1))) (k0:Int) 1 underlying3 (by omega)) ?_;refine qR [] 2 [] fun s26 g26 w26 c26=>?_;refine qB [false,false] fun z K0 K=>hJ (5-(k0+1)) _ _ _ z _ (by omega) ⟨k0+1,rfl,by omega,rfl,rfl,?_,hC.trans ((((((c12.nil (TN i)).trans (c13.nil (TN i))).trans (c14.nil (TN i))).trans (c15.nil (TN i))).trans (c25.nil (TN i))).trans (c26.nil (TN i)))⟩ K;have C27:Cg w.heap.size ([]:List Tg) gr wr g26 w26:=((((((c12.nil ([]:List Tg)).trans (c13.nil ([]:List Tg))).trans (c14.nil ([]:List Tg))).trans (c15.nil ([]:List Tg))).trans (c25.nil ([]:List Tg))).trans (c26.nil ([]:List Tg)));have Z27:Tg.z∉([]:List Tg):=by simp
      rw[show IP p i (k0+1)={ p with rnd:={ p.rnd with taught:=Ic p i k0 } }from by unfold IP;rw[QU hx],show ls++DJ p i (k0+1)=ls++DJ p i k0 from by show ls++(DJ p i k0++_)=_;rw[hx];simp];exact⟨xr,ltr,tlr,hNr.ch C27 Z27 (by simp),hOr.ch C27 Z27 (by simp),K0.new⟩
    ·have hx:Qk p i k0=false:=decide_eq_false (fun h=>h.1 (by omega));refine qV 5 (.bool false) (Sr (t:=3) (m:=(k0:Int)) (n:=(i:Int)) (x:=(.tmp 17)) (y:=(.tmp 21)) (by simp;omega)) ?_;refine qR [] 15 [] fun s28 g28 w28 c28=>?_;refine qV 0 (iv ((k0:Int)+1)) (B7 (x:=(.tmp 13)) (y:=(.const (iv 1))) (k0:Int) 1 underlying3 (by omega)) ?_;refine qR [] 2 [] fun s29 g29 w29 c29=>?_;refine qB [false,false] fun z K0 K=>hJ (5-(k0+1)) _ _ _ z _ (by omega) ⟨k0+1,rfl,by omega,rfl,rfl,?_,hC.trans (((((c12.nil (TN i)).trans (c13.nil (TN i))).trans (c14.nil (TN i))).trans (c28.nil (TN i))).trans (c29.nil (TN i)))⟩ K;have C30:Cg w.heap.size ([]:List Tg) gr wr g29 w29:=(((((c12.nil ([]:List Tg)).trans (c13.nil ([]:List Tg))).trans (c14.nil ([]:List Tg))).trans (c28.nil ([]:List Tg))).trans (c29.nil ([]:List Tg)));have Z30:Tg.z∉([]:List Tg):=by simp
     rw[show IP p i (k0+1)={ p with rnd:={ p.rnd with taught:=Ic p i k0 } }from by unfold IP;rw[QU hx],show ls++DJ p i (k0+1)=ls++DJ p i k0 from by show ls++(DJ p i k0++_)=_;rw[hx];simp];exact⟨xr,ltr,tlr,hNr.ch C30 Z30 (by simp),hOr.ch C30 Z30 (by simp),K0.new⟩
   ·refine qI ((decide ((k0:Int)<5))) false (decide_eq_false (by omega)) ?_;refine qR [] 1 [] fun s31 g31 w31 c31=>?_;obtain rfl:k0=5:=by omega
    refine qE (.tuple #[]) fun K=>?_;have C32:Cg w.heap.size ([]:List Tg) gr wr g31 w31:=((c12.nil ([]:List Tg)).trans (c31.nil ([]:List Tg)));have Z32:Tg.z∉([]:List Tg):=by simp
    exact⟨_,rfl,⟨xr,ltr,tlr,hNr.ch C32 Z32 (by simp),hOr.ch C32 Z32 (by simp),K.new⟩,hC.trans ((c12.nil (TN i)).trans (c31.nil (TN i)))⟩
end Go.Proofs.YtakgfdbjgeopdaaGreatDoor
