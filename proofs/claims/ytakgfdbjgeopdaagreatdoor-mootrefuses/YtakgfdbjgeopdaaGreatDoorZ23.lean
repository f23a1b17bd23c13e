/- Part 23 of the walk: what the functions of the program do, one by one. -/
import Derived.LoopN
import Derived.Test.YtakgfdbjgeopdaaGreatDoorZ22
set_option maxRecDepth 100000
set_option maxHeartbeats 4000000
open Go.Proofs.Tryz
set_option linter.unusedVariables false
namespace Go.Proofs.YtakgfdbjgeopdaaGreatDoor
open Go.RowKit
theorem DU{g:Gh}{w:World}{i nb ob:Nat}{p:Nod}{ls:List Let}{ts:List Tol}(h:NS i nb ob g w p ls ts){b:Bool}(hb:p.leads=b) :
  Calls prog 151 #[pt nb 0] w fun e w'=>e=.returned (.bool b)∧Below w.heap.size w w':=by subst hb;exact Lk h
theorem JK{W:World}{ty:TypeId}{dd:TypeDesc}{b k:Nat}{v:Value}(hu:prog.underlying ty=some dd)(hr:dd.isRow=false)(hc:W.cell? ⟨b,k,none⟩=some v):(Instr.loadAt ty (pt b k)).run prog W=.ok v W:=by
 have hagg:(isAgg ty).run prog W=.ok false W:=by
  unfold isAgg;rw[Sem.run_bind,run_underlying hu W];cases dd<;>first|rfl|(simp only[TypeDesc.isRow]at hr;cases hr)
 have hl:(loadVar ty ⟨b,k,none⟩).run prog W=.ok v W:=by simp[loadVar,hagg,hc,go_sem]
 simp only[Instr.loadAt,Instr.sureAddr,Sem.run_bind,Sem.run_pure,Result.andThen_ok,hl]
theorem TC(p:Nod)(l:List Cmd):(p.enqueue l).pend=p.pend:=by unfold Nod.enqueue;split<;>rfl
theorem Ka{g:Gh}{w:World}{i nb ob:Nat}{p:Nod}{ls:List Let}{ts:List Tol}(h:NS i nb ob g w p ls ts)(lb:Nat)(l:Let)(hl:BW g w lb l)(hk:l.kind=6)(hb:p.pend.length<100000000)(hb2:l.what.length<100000000)(hq:p.rnd.queue.length≤40) :
  Calls prog 108 #[pt nb 0,pt lb 0] w (NP i nb ob g w (.tuple #[]) (p.take l) ls ts):=by
 obtain⟨x,lt,tl,hN,hO,hg⟩:=h;refine gIn (fn:=f108) (TN i) g func108 (by kernel_rfl) (by kernel_rfl) hg ?_;refine qN hN ?_;refine qO hO ?_;have hLL:=hl;obtain⟨vs,wh,hl1,hl2,hl3⟩:=hl;refine Bj ⟨lb,.cells (Ek l vs wh) 177,.z,false⟩ (fun _=>⟨hl1.r,hl1.z,fun h=>(by cases h),fun h=>absurd rfl h⟩) (by kernel_rfl) ?_;refine qR [] 12 [0,0,0,0,5,0,3,2,4,4,6,8,2] fun s1 g1 w1 c1=>?_;refine Ae fun K=>?_;have C3:Cg w.heap.size ([]:List Tg) g w g1 w1:=(c1.nil ([]:List Tg));have Z3:Tg.z∉([]:List Tg):=by simp
 have N2:NS i nb ob g1 w1 p ls ts:=⟨x,lt,tl,hN.ch C3 Z3 (by simp),hO.ch C3 Z3 (by simp),K.new⟩;refine qG 5 (TN i) [false,false,true,true,true] (Im N2 l.what wh (hl3.ch (c1.nil (TN i)) (AV i)) hb2 hq) ?_;rintro e' w2 ⟨g2,rfl,M2,c2⟩;refine⟨_,g2,rfl,c2,M2.new,?_⟩;replace c2:=c2.ret (B:=w.heap.size);obtain⟨x2,lt2,tl2,hN2,hO2,hg2⟩:=M2;refine qN hN2 ?_;refine qO hO2 ?_;have hn:=hN2.agreed.num;refine qR [] 15 [11,0,2,2,4,6,0,8,1,10,12,14,16,3,18,20] fun s4 g4 w4 c4=>?_;by_cases h1:l.slot<(p.enqueue l.what).agreed.length
 ·refine qI ((decide ((l.slot:Int)<(x2.agreed.n:Int)))) true (decide_eq_true (by omega)) ?_;refine qR [] 3 [1] fun s5 g5 w5 c5=>?_;rw[show p.take l=(p.enqueue l.what).wait (.tell l.src l.slot)from by unfold Nod.take;rw[hk];exact if_pos h1];refine Ae fun K=>?_;obtain⟨z1,z2⟩:=K.isZ 1 (s1 0) (.cells #[pt nb 0] 107) false (by kernel_rfl);obtain⟨z3,z4⟩:=K.isZ 2 (s1 1) (.cells #[pt lb 0] 178) false (by kernel_rfl);have C7:Cg w.heap.size ([]:List Tg) g2 w2 g5 w5:=((c4.nil ([]:List Tg)).trans (c5.nil ([]:List Tg)));have Z7:Tg.z∉([]:List Tg):=by simp
  have N6:NS i nb ob g5 w5 (p.enqueue l.what) ls ts:=⟨x2,lt2,tl2,hN2.ch C7 Z7 (by simp),hO2.ch C7 Z7 (by simp),K.new⟩;refine qG 2 (TN i) [true,true,true,false,false] (AJ N6 (by rw[TC];exact hb) _ _ (.tell l.src l.slot) ⟨(s1 0),(s1 1),lb,l,rfl,⟨z1,z2⟩,⟨z3,z4⟩,hLL.ch ((((c1.nil (TN i)).trans (c2)).trans (c4.nil (TN i))).trans (c5.nil (TN i))) (AV i),rfl,rfl⟩) ?_;rintro e' w6 ⟨g6,rfl,M6,c6⟩;refine⟨_,g6,rfl,c6,M6.new,?_⟩;replace c6:=c6.ret (B:=w.heap.size);obtain⟨x6,lt6,tl6,hN6,hO6,hg6⟩:=M6;refine qN hN6 ?_;refine qO hO6 ?_;refine qR [] 1 [] fun s8 g8 w8 c8=>?_;refine qE (.tuple #[]) fun K=>?_;have C9:Cg w.heap.size ([]:List Tg) g6 w6 g8 w8:=(c8.nil ([]:List Tg));have Z9:Tg.z∉([]:List Tg):=by simp
  exact⟨_,rfl,⟨x6,lt6,tl6,hN6.ch C9 Z9 (by simp),hO6.ch C9 Z9 (by simp),K.new⟩,((((((c1.nil (TN i)).trans (c2)).trans (c4.nil (TN i))).trans (c5.nil (TN i))).trans (c6)).trans (c8.nil (TN i)))⟩
 ·refine qI ((decide ((l.slot:Int)<(x2.agreed.n:Int)))) false (decide_eq_false (by omega)) ?_;refine qR [] 1 [] fun s10 g10 w10 c10=>?_;refine qE (.tuple #[]) fun K=>?_;rw[show p.take l=(p.enqueue l.what)from by unfold Nod.take;rw[hk];exact if_neg h1];have C11:Cg w.heap.size ([]:List Tg) g2 w2 g10 w10:=((c4.nil ([]:List Tg)).trans (c10.nil ([]:List Tg)));have Z11:Tg.z∉([]:List Tg):=by simp
  exact⟨_,rfl,⟨x2,lt2,tl2,hN2.ch C11 Z11 (by simp),hO2.ch C11 Z11 (by simp),K.new⟩,((((c1.nil (TN i)).trans (c2)).trans (c4.nil (TN i))).trans (c10.nil (TN i)))⟩
theorem IN{g:Gh}{w:World}{i nb ob:Nat}{p:Nod}{ls:List Let}{ts:List Tol}(h:NS i nb ob g w p ls ts){w0:World}(hB:Base w0 g w)(hT:Tabs w0)(lb:Nat)(l:Let)(hl:BW g w lb l)(hk:l.kind=1)(hs:l.src<5)(hb:(p.learn 0 l.what).agreed.length≤40)(hb2:l.what.length≤40)(hb3:(p.rnd.heard l.src).vs.length<100000000) :
  Calls prog 103 #[pt nb 0,pt lb 0] w (NP i nb ob g w (.tuple #[]) (p.take l) ls ts):=by
 obtain⟨kd,src,dst,bal,vote,votes,slot,what⟩:=l;simp only at hk hs hb hb2 hb3;obtain⟨x,lt,tl,hN,hO,hg⟩:=h;refine gIn (fn:=f103) (TN i) g func103 (by kernel_rfl) (by kernel_rfl) hg ?_;refine qN hN ?_;refine qO hO ?_;obtain⟨vs,wh,hl1,hl2,hl3⟩:=hl;obtain⟨wa,wn,wc⟩:=wh;obtain rfl:wn=what.length:=hl3.len;have hba:p.agreed.length≤40:=Nat.le_trans (by unfold Nod.learn;rw[List.length_append];omega) hb;refine Bj ⟨lb,.cells (Ek (Let.mk kd src dst bal vote votes slot what) vs (S3.mk wa what.length wc)) 177,.z,false⟩ (fun _=>⟨hl1.r,hl1.z,fun h=>(by cases h),fun h=>absurd rfl h⟩) (by kernel_rfl) ?_;refine qR [] 7 [2] fun s1 g1 w1 c1=>?_;refine Ae fun K=>?_;have C3:Cg w.heap.size ([]:List Tg) g w g1 w1:=(c1.nil ([]:List Tg));have Z3:Tg.z∉([]:List Tg):=by simp
 have N2:NS i nb ob g1 w1 p ls ts:=⟨x,lt,tl,hN.ch C3 Z3 (by simp),hO.ch C3 Z3 (by simp),K.new⟩;refine qG 5 (TN i) [false,false,true] (Ll N2 0 what (S3.mk wa what.length wc) (hl3.ch (c1.nil (TN i)) (AV i)) (by omega) (by omega) (by omega)) ?_;rintro e' w2 ⟨g2,rfl,M2,c2⟩;refine⟨_,g2,rfl,c2,M2.new,?_⟩;replace c2:=c2.ret (B:=w.heap.size);obtain⟨x2,lt2,tl2,hN2,hO2,hg2⟩:=M2;refine qN hN2 ?_;refine qO hO2 ?_;by_cases h1:(p.learn 0 what).leads=false
 ·refine qR [] 5 [29,0] fun s4 g4 w4 c4=>?_;refine Ae fun K=>?_;have C5:Cg w.heap.size ([]:List Tg) g2 w2 g4 w4:=(c4.nil ([]:List Tg));have Z5:Tg.z∉([]:List Tg):=by simp
  have N6:NS i nb ob g4 w4 (p.learn 0 what) ls ts:=⟨x2,lt2,tl2,hN2.ch C5 Z5 (by simp),hO2.ch C5 Z5 (by simp),K.new⟩;refine qC 1 (DU N6 h1) ?_;rintro e' w7 ⟨rfl,b7⟩;refine⟨_,rfl,b7,?_⟩;have c7:=Cg.ofBelow (B:=w.heap.size) (T:=[]) (g:=g4) b7;refine qR [] 29 [4,6,8,10,12,14,16,18,20,22,24,26,28,30,32,34,36,38,40,42,44,46,48,50,52,54,56] fun s8 g8 w8 c8=>?_;refine qE (.tuple #[]) fun K=>?_;rw[show p.take (Let.mk kd src dst bal vote votes slot what)=(p.learn 0 what)from by unfold Nod.take;rw[hk];exact if_pos (.inl h1)];have C9:Cg w.heap.size ([]:List Tg) g2 w2 g8 w8:=(((c4.nil ([]:List Tg)).trans (c7.nil ([]:List Tg))).trans (c8.nil ([]:List Tg)));have Z9:Tg.z∉([]:List Tg):=by simp
  exact⟨_,rfl,⟨x2,lt2,tl2,hN2.ch C9 Z9 (by simp),hO2.ch C9 Z9 (by simp),K.new⟩,(((((c1.nil (TN i)).trans (c2)).trans (c4.nil (TN i))).trans (c7.nil (TN i))).trans (c8.nil (TN i)))⟩
 ·have h10:(p.learn 0 what).leads=true:=by simpa using h1
  refine qR [] 5 [29,0] fun s10 g10 w10 c10=>?_;refine Ae fun K=>?_;have C11:Cg w.heap.size ([]:List Tg) g2 w2 g10 w10:=(c10.nil ([]:List Tg));have Z11:Tg.z∉([]:List Tg):=by simp
  have N12:NS i nb ob g10 w10 (p.learn 0 what) ls ts:=⟨x2,lt2,tl2,hN2.ch C11 Z11 (by simp),hO2.ch C11 Z11 (by simp),K.new⟩;refine qC 1 (DU N12 h10) ?_;rintro e' w13 ⟨rfl,b13⟩;refine⟨_,rfl,b13,?_⟩;have c13:=Cg.ofBelow (B:=w.heap.size) (T:=[]) (g:=g10) b13;refine qR [] 12 [4,6,8,10,12,14,0,16,18,20,22,24,26,1] fun s14 g14 w14 c14=>?_;by_cases h2:bal≠(p.learn 0 what).rnd.bal
  ·refine qT 14 (.bool true) (fun _=>(Lx (x:=(.tmp 17)) (y:=(.tmp 23)) bal (p.learn 0 what).rnd.bal h2)) ?_;refine qR [] 16 [30,32,34,36,38,40,42,44,46,48,50,52,54,56] fun s15 g15 w15 c15=>?_;refine qE (.tuple #[]) fun K=>?_;rw[show p.take (Let.mk kd src dst bal vote votes slot what)=(p.learn 0 what)from by unfold Nod.take;rw[hk];exact if_pos (.inr (.inl h2))];have C16:Cg w.heap.size ([]:List Tg) g2 w2 g15 w15:=((((c10.nil ([]:List Tg)).trans (c13.nil ([]:List Tg))).trans (c14.nil ([]:List Tg))).trans (c15.nil ([]:List Tg)));have Z16:Tg.z∉([]:List Tg):=by simp
   exact⟨_,rfl,⟨x2,lt2,tl2,hN2.ch C16 Z16 (by simp),hO2.ch C16 Z16 (by simp),K.new⟩,((((((c1.nil (TN i)).trans (c2)).trans (c10.nil (TN i))).trans (c13.nil (TN i))).trans (c14.nil (TN i))).trans (c15.nil (TN i)))⟩
  ·have h20:bal=(p.learn 0 what).rnd.bal:=by simpa using h2
   refine qT 14 (.bool false) (fun _=>(Lw (x:=(.tmp 17)) (y:=(.tmp 23)) bal (p.learn 0 what).rnd.bal h20)) ?_;refine qR [] 11 [30,32,34,36,38,40,42,0,44,46,48,50] fun s17 g17 w17 c17=>?_;refine BD 69 (fun g' w' e L=>e=[(0,pt nb 0),(1,pt lb 0),(38,.bool ((p.learn 0 what).rnd.pro src))]∧L=[⟨lb,.cells (Ek (Let.mk kd src dst bal vote votes slot what) vs (S3.mk wa what.length wc)) 177,.z,false⟩,⟨nb,.cells (Ao i ob (p.learn 0 what) x2) 134,.n 0 i,false⟩,⟨ob,.cells #[S3.v lt2,S3.v tl2] 104,.n 50 0,false⟩]∧True∧Cg w.heap.size ([]:List Tg) g17 w17 g' w') (by kernel_rfl) ?_ ?_
   ·intro J hJ;rcases five hs with rfl|rfl|rfl|rfl|rfl <;>
    (refine qR [] 4 [52,54,1,56] fun s19 g19 w19 c19=>?_;exact qB [true,true,true] fun z K0 K=>hJ _ _ _ z _ ⟨rfl,rfl,trivial,(c19.nil ([]:List Tg))⟩ K)
   rintro g18 w18 _ z18 _ ⟨rfl,rfl,_,c18⟩;by_cases h3:(p.learn 0 what).rnd.pro src=true
   ·refine qI (((p.learn 0 what).rnd.pro src)) true h3 ?_;refine qE (.tuple #[]) fun K=>?_;rw[show p.take (Let.mk kd src dst bal vote votes slot what)=(p.learn 0 what)from by unfold Nod.take;rw[hk];exact if_pos (.inr (.inr h3))];have C22:Cg w.heap.size ([]:List Tg) g2 w2 g18 w18:=(((((c10.nil ([]:List Tg)).trans (c13.nil ([]:List Tg))).trans (c14.nil ([]:List Tg))).trans (c17.nil ([]:List Tg))).trans (c18.nil ([]:List Tg)));have Z22:Tg.z∉([]:List Tg):=by simp
    exact⟨_,rfl,⟨x2,lt2,tl2,hN2.ch C22 Z22 (by simp),hO2.ch C22 Z22 (by simp),K.new⟩,(((((((c1.nil (TN i)).trans (c2)).trans (c10.nil (TN i))).trans (c13.nil (TN i))).trans (c14.nil (TN i))).trans (c17.nil (TN i))).trans (c18.nil (TN i)))⟩
   ·refine qI (((p.learn 0 what).rnd.pro src)) false (by simpa using h3) ?_;refine qR [] 15 [12,0,2,4,6,8,10,12,14,0,16,18,20,22,0] fun s23 g23 w23 c23=>?_;refine Ae fun K=>?_;have C25:Cg w.heap.size ([]:List Tg) g2 w2 g23 w23:=((((((c10.nil ([]:List Tg)).trans (c13.nil ([]:List Tg))).trans (c14.nil ([]:List Tg))).trans (c17.nil ([]:List Tg))).trans (c18.nil ([]:List Tg))).trans (c23.nil ([]:List Tg)));have Z25:Tg.z∉([]:List Tg):=by simp
    have N24:NS i nb ob g23 w23 (p.learn 0 what) ls ts:=⟨x2,lt2,tl2,hN2.ch C25 Z25 (by simp),hO2.ch C25 Z25 (by simp),K.new⟩;refine qG 12 (TN i) [true,false,false] (Np N24 (hB.ch ((((((((c1.nil (TN i)).trans (c2)).trans (c10.nil (TN i))).trans (c13.nil (TN i))).trans (c14.nil (TN i))).trans (c17.nil (TN i))).trans (c18.nil (TN i))).trans (c23.nil (TN i))) (AV i)) hT src hs votes vs (hl2.ch ((((((((c1.nil (TN i)).trans (c2)).trans (c10.nil (TN i))).trans (c13.nil (TN i))).trans (c14.nil (TN i))).trans (c17.nil (TN i))).trans (c18.nil (TN i))).trans (c23.nil (TN i))) (AV i)) hb3) ?_;rintro e' w24 ⟨g24,rfl,M24,c24⟩;refine⟨_,g24,rfl,c24,M24.new,?_⟩;replace c24:=c24.ret (B:=w.heap.size);obtain⟨x24,lt24,tl24,hN24,hO24,hg24⟩:=M24;refine qN hN24 ?_;refine qO hO24 ?_;refine qR [] 17 [15,0,2,4,6,8,0,10,12,14,16,0,18,20,22,24,26] fun s26 g26 w26 c26=>?_;refine BD 69 (fun g' w' e L=>e=[(0,pt nb 0)]∧L=[⟨lb,.cells (Ek (Let.mk kd src dst bal vote votes slot what) vs (S3.mk wa what.length wc)) 177,.z,false⟩,⟨nb,.cells (Ao i ob ({ (p.learn 0 what)with rnd:={ (p.learn 0 what).rnd.hear src votes with taught:=upN (p.learn 0 what).rnd.taught src what.length } }) x24) 134,.n 0 i,false⟩,⟨ob,.cells #[S3.v lt24,S3.v tl24] 104,.n 50 0,false⟩]∧True∧Cg w.heap.size ([.n 0 i]:List Tg) g26 w26 g' w') (by kernel_rfl) ?_ ?_
    ·intro J hJ;rcases five hs with rfl|rfl|rfl|rfl|rfl <;>
     (refine qR [.n 0 i] 3 [28,31,1,1] fun s28 g28 w28 c28=>?_;exact qB [true,true,true] fun z K0 K=>hJ _ _ _ z _ ⟨rfl,rfl,trivial,c28⟩ K)
    rintro g27 w27 _ z27 _ ⟨rfl,rfl,_,c27⟩;refine qR [] 2 [] fun s29 g29 w29 c29=>?_;rw[show p.take (Let.mk kd src dst bal vote votes slot what)=Nod.learnC { (p.learn 0 what)with rnd:={ (p.learn 0 what).rnd.hear src votes with taught:=upN (p.learn 0 what).rnd.taught src what.length } }from by unfold Nod.take;rw[hk];exact if_neg (by rintro(h|h|h);exact h1 h;exact h2 h;exact h3 h)];refine Ae fun K=>?_;have C31:Cg w.heap.size ([.n 0 i]:List Tg) g24 w24 g29 w29:=(((c26.nil ([.n 0 i]:List Tg)).trans (c27)).trans (c29.nil ([.n 0 i]:List Tg)));have Z31:Tg.z∉([.n 0 i]:List Tg):=by simp
    have N30:NS i nb ob g29 w29 ({ (p.learn 0 what)with rnd:={ (p.learn 0 what).rnd.hear src votes with taught:=upN (p.learn 0 what).rnd.taught src what.length } }) ls ts:=⟨x24,lt24,tl24,K.ndu 1 hN24 C31,hO24.ch C31 Z31 (by simp<;>omega),K.new⟩;refine qG 1 (TN i) [true,false,false] (E7 N30 (hB.ch ((((((((((((c1.nil (TN i)).trans (c2)).trans (c10.nil (TN i))).trans (c13.nil (TN i))).trans (c14.nil (TN i))).trans (c17.nil (TN i))).trans (c18.nil (TN i))).trans (c23.nil (TN i))).trans (c24)).trans (c26.nil (TN i))).trans (c27.mono (by simp[TN]))).trans (c29.nil (TN i))) (AV i)) hT hb) ?_;rintro e' w30 ⟨g30,rfl,M30,c30⟩;refine⟨_,g30,rfl,c30,M30.new,?_⟩;replace c30:=c30.ret (B:=w.heap.size);obtain⟨x30,lt30,tl30,hN30,hO30,hg30⟩:=M30;refine qN hN30 ?_;refine qO hO30 ?_;refine qR [] 1 [] fun s32 g32 w32 c32=>?_;refine qE (.tuple #[]) fun K=>?_;have C33:Cg w.heap.size ([]:List Tg) g30 w30 g32 w32:=(c32.nil ([]:List Tg));have Z33:Tg.z∉([]:List Tg):=by simp
    exact⟨_,rfl,⟨x30,lt30,tl30,hN30.ch C33 Z33 (by simp),hO30.ch C33 Z33 (by simp),K.new⟩,((((((((((((((c1.nil (TN i)).trans (c2)).trans (c10.nil (TN i))).trans (c13.nil (TN i))).trans (c14.nil (TN i))).trans (c17.nil (TN i))).trans (c18.nil (TN i))).trans (c23.nil (TN i))).trans (c24)).trans (c26.nil (TN i))).trans (c27.mono (by simp[TN]))).trans (c29.nil (TN i))).trans (c30)).trans (c32.nil (TN i)))⟩
def tkG:Nat→FuncId
 | 0=>102
 | 1=>103
 | 2=>104
 | 3=>105
 | 4=>106
 | 5=>107
 | _=>108
def tkV(k:Nat):Value:=.func (.func (tkG k)) #[] #[]
def tkL(j:Nat):List MapEntry:=(List.range j).map fun(k:Nat)=>{ key:=iv (k:Int),val:=tkV k,born:=k }
structure TkAt(g:Gh)(w:World)(b j:Nat):Prop where
 t:g.t b=.n 70 0
 k:g.k b=0
 row:w.heap[b]?=some (.map (tkL j).toArray j)
theorem TkAt.ch{B:Nat}{T:List Tg}{g g':Gh}{w w':World}{b j:Nat}(h:TkAt g w b j)(c:Cg B T g w g' w')(hn:Tg.n 70 0∉T):TkAt g' w' b j :=
 have h1:=c.rc h.row h.t hn
 ⟨h1.2.1,h1.2.2.trans h.k,h1.1⟩
theorem Ve{k:Nat}(h:k<7):k=0∨k=1∨k=2∨k=3∨k=4∨k=5∨k=6:=by omega
theorem O2(em:Bool)(k:Nat)(w:World):(Instr.checkKey em 10000 161 (iv (k:Int))).run prog w=.ok () w:=by kernel_rfl
theorem Xq{j:Nat}(h:j<7)(w:World):(Instr.findKey 161 (iv (j:Int)) (tkL j)).run prog w=.ok none w:=by
 rcases Ve h with rfl|rfl|rfl|rfl|rfl|rfl|rfl<;>kernel_rfl
theorem Xp{j:Nat}(h:j<7)(w:World):(Instr.findKey 161 (iv (j:Int)) (tkL 7)).run prog w=.ok (some (j,tkV j)) w:=by
 rcases Ve h with rfl|rfl|rfl|rfl|rfl|rfl|rfl<;>kernel_rfl
theorem Ze{g:Gh}{w:World}{b j:Nat}(h:TkAt g w b j)(hj:j<7):∃ w',(Instr.mapUpdate 105 (.map (some b)) (iv (j:Int)) (tkV j)).run prog w=.ok () w'∧TkAt g w' b (j+1)∧(∀ B T,Tg.n 70 0∈T→Cg B T g w g w')∧w'.heap.size=w.heap.size:=by
 have hg:(getObj b).run prog w=.ok (.map (tkL j).toArray j) w:=by simp[getObj,Sem.run,h.row]
 have hs:=MapKept.run_setObj_map (P:=prog) (w:=w) (.map (tkL (j+1)).toArray (j+1)) h.row;have he:((tkL j).toArray.push { key:=iv (j:Int),val:=tkV j,born:=j })=(tkL (j+1)).toArray:=by simp[tkL,List.range_succ]
 refine⟨_,?_,⟨h.t,h.k,ChangeMaps.heap_setBlock_same h.row (.map (tkL (j+1)).toArray (j+1))⟩,fun B T hT=>Cg.block h.row h.t h.k hT _,by simp[ChangeMaps.setBlock]⟩;rw[Instr.mapUpdate];simp only[Sem.run_bind,run_underlying underlying105,Result.andThen_ok,hg,O2,Xq hj,he,hs];rfl
theorem rTk{w:World}{b k:Nat}(hb:w.heap[b]?=some (.map (tkL 7).toArray 7))(hk:k<7):(Instr.lookup 105 (.map (some b)) (iv (k:Int)) false).run prog w=.ok (tkV k) w:=by
 have hg:(getObj b).run prog w=.ok (.map (tkL 7).toArray 7) w:=by simp[getObj,Sem.run,hb]
 simp[Instr.lookup,run_underlying underlying105,hg,O2,Xp hk]
section
variable{fn:Func}{R:Ending→World→Prop}{B:Nat}{T:List Tg}{g:Gh}{w:World}
theorem ZM{s:Xs}(i':Nat)(hsem:Dv s i'=some (Instr.makeMap 105 none>>=fun v=>pure (.value v)))
  (hob:(nxt s i' undef s.L).o.map Ob.l'=(nxt s i' undef s.L).o.map Ob.r')
  (hk:∀ b g' w',w.heap.size≤b→TkAt g' w' b 0→(∀ B T,Cg B T g w g' w')→(∀ b,w'.heap.size≤b→g'.t b=.z∧g'.k b=0)→GG prog fn R B T (nxt s i' (.map (some b)) s.L).s g' w'):GG prog fn R B T s g w:=by
 refine Jw i' s.L hob (BA hsem) fun hK ops j o hop=>?_;have hr:(Instr.makeMap 105 none).run prog w=.ok (.map (some w.heap.size)) (w.alloc (.map #[] 0)):=by
  simp[Instr.makeMap,go_sem]
 have hC:∀ B T,Cg B T g w (Md g w (.n 70 0) 0) (w.alloc (.map #[] 0)):=fun B T =>
  ⟨rfl,rfl,rfl,by simp,fun b hb=>.inl (if_neg (by omega)),fun b hb=>by show _≤(if b=w.heap.size then _ else g.k b);rw[if_neg (by omega)];exact Nat.le_refl _,fun b hb _ _=>if_neg (by omega),fun b hb _ _=>heap_alloc_old w _ hb,fun b hb j hj=>World.cell?_of_block (w:=w) (heap_alloc_old w _ hb)⟩
 have hG:∀ b,(w.alloc (.map #[] 0)).heap.size≤b→(Md g w (.n 70 0) 0).t b=.z∧(Md g w (.n 70 0) 0).k b=0:=fun b hb=>by
  have hb':w.heap.size+1≤b:=by simpa using hb
  show(if b=w.heap.size then _ else g.t b)=.z∧(if b=w.heap.size then _ else g.k b)=0;rw[if_neg (by omega),if_neg (by omega)];exact hK.new b (by omega)
 refine⟨.map (some w.heap.size),_,Md g w (.n 70 0) 0,.inl ?_,hK.ch (hC _ []) hG (by simp),hk _ _ _ (Nat.le_refl _) ⟨if_pos rfl,if_pos rfl,heap_alloc_new _ _⟩ hC hG⟩;rw[CI hsem hop,Sem.run_bind,hr,Result.andThen_ok];rfl
theorem FQ{s:Xs}(i':Nat){b j:Nat}(h:TkAt g w b j)(hj:j<7)(hsem:Dv s i'=some (Instr.mapUpdate 105 (.map (some b)) (iv (j:Int)) (tkV j)>>=fun _=>pure .skip))
  (hob:(nxt s i' undef s.L).o.map Ob.l'=(nxt s i' undef s.L).o.map Ob.r')(hT:s.L.all (fun y=>[Tg.n 70 0].all fun t=>y.t.ne t)=true)
  (hk:∀ w',TkAt g w' b (j+1)→(∀ B T,Tg.n 70 0∈T→Cg B T g w g w')→GG prog fn R B T (nxt s i' undef s.L).s g w'):GG prog fn R B T s g w:=by
 refine Jw i' s.L hob (BA hsem) fun hK ops i o hop=>?_;obtain⟨w',hr,h2,h3,h4⟩:=Ze h hj;refine⟨undef,w',g,.inr ⟨?_,rfl⟩,hK.ch (h3 _ [Tg.n 70 0] (List.mem_singleton.2 rfl)) (fun b hb=>hK.new b (by rw[h4]at hb;exact hb)) hT,hk w' h2 h3⟩;rw[CI hsem hop,Sem.run_bind,hr,Result.andThen_ok];rfl
end
def TM:List Tg:=[0,1,2,3,4].flatMap TN
theorem Eb:Tg.z∉TM:=by simp[TM,TN]
theorem Zr{i:Nat}(hi:i<5):∀ t∈TN i,t∈TM:=fun t ht=>List.mem_flatMap.2 ⟨i,by rcases five hi with rfl|rfl|rfl|rfl|rfl<;>simp,ht⟩
theorem Zs{i j r:Nat}(h:j≠i)(hr:r<6):Tg.n r j∉TN i:=by simp[TN];omega
def mtA(nb:Nat→Nat)(ob tb:Nat):Array Value:=#[pt (nb 0) 0,pt (nb 1) 0,pt (nb 2) 0,pt (nb 3) 0,pt (nb 4) 0,pt ob 0,.map (some tb)]
structure MS(mb tb ob:Nat)(nb:Nat→Nat)(g:Gh)(w:World)(M:Meet):Prop where
 box:Box g w mb (mtA nb ob tb) 110
 tk:TkAt g w tb 7
 node:∀ i,i<5→∃ x,NodeAt g w i (nb i) ob x (M.node i)
 out:∃ lt tl,OutAt g w ob lt tl M.lets M.told
 new:Hc g w
def MP(mb tb ob:Nat)(nb:Nat→Nat)(g:Gh)(w:World)(v:Value)(M:Meet):Ending→World→Prop:=fun e w'=>∃ g',e=.returned v∧MS mb tb ob nb g' w' M∧Cg w.heap.size TM g w g' w'
section
variable{mb tb ob i:Nat}{nb:Nat→Nat}{g g':Gh}{w w':World}{M:Meet}
theorem MS.ns(h:MS mb tb ob nb g w M)(hi:i<5):NS i (nb i) ob g w (M.node i) M.lets M.told :=
 let ⟨x,hx⟩:=h.node i hi
 let ⟨lt,tl,ho⟩:=h.out
 ⟨x,lt,tl,hx,ho,h.new⟩
theorem MS.ch0{B:Nat}(h:MS mb tb ob nb g w M)(c:Cg B [] g w g' w')(hn:Hc g' w'):MS mb tb ob nb g' w' M :=
 ⟨h.box.ch c (by simp),h.tk.ch c (by simp),fun i hi=>let ⟨x,hx⟩:=h.node i hi;⟨x,hx.ch c (by simp) (by simp)⟩,let ⟨lt,tl,ho⟩:=h.out;⟨lt,tl,ho.ch c (by simp) (by simp)⟩,hn⟩
theorem MS.of{B:Nat}(h:MS mb tb ob nb g w M)(hi:i<5){p:Nod}{ls:List Let}{ts:List Tol}(hn:NS i (nb i) ob g' w' p ls ts)(c:Cg B (TN i) g w g' w'):MS mb tb ob nb g' w' ⟨upN M.node i p,ls,ts⟩:=by
 obtain⟨x,lt,tl,h1,h2,h3⟩:=hn;refine⟨h.box.ch c (AV i),h.tk.ch c (by simp[TN]),fun j hj=>?_,⟨lt,tl,h2⟩,h3⟩;by_cases e:j=i
 ·subst e;exact⟨x,by show NodeAt g' w' j (nb j) ob x (upN M.node j p j);rw[Zg];exact h1⟩
 ·obtain⟨y,hy⟩:=h.node j hj;exact⟨y,by show NodeAt g' w' j (nb j) ob y (upN M.node i p j);rw[Zh _ _ e];exact hy.ch c (AV i) fun r hr=>Zs e hr⟩
theorem MS.call(h:MS mb tb ob nb g w M)(hi:i<5){f:FuncId}{av:Array Value}{v:Value}{p:Nod}{ls:List Let}{ts:List Tol}(hc:Calls prog f av w (NP i (nb i) ob g w v p ls ts)):Calls prog f av w (MP mb tb ob nb g w v ⟨upN M.node i p,ls,ts⟩) :=
 hc.mono fun e w' ⟨g',he,hn,c⟩=>⟨g',he,h.of hi hn c,c.mono (Zr hi)⟩
theorem QG{W:World}(hr:W.heap[mb]?=some (.cells (mtA nb ob tb) 110)){j:Nat}(hj:j<5):W.cell? ⟨mb,j,none⟩=some (pt (nb j) 0):=by
 rcases five hj with rfl|rfl|rfl|rfl|rfl<;>(rw[cell_of_row _ _ _ _ _ _ hr];rfl)
end
section
variable{P:Program}{fn:Func}{R:Ending→World→Prop}{B:Nat}{T:List Tg}{g:Gh}{w:World}
theorem TI{s:Xs}(k n:Nat)(e0:List (Nat × Value))(m:List Bool)(L0:List Sh)(hl:Ua s.K=true)(hn:s.f.n=n)(he:e0.map (fun p=>lk s.f.z s.f.e p.1)=e0.map (·.2))(hL:BX (BK m s.L)=L0)
  (h:∀ J:Nat→Act→World→Prop,(∀ (m:Nat) (e:List (Nat × Value)) (z:Nat→Value) (L:List Sh) (g:Gh) (w:World),GG P fn R B T (YO s n (J m) e z L) g w→Kn B g w L→J (m+1) (⟨n,e,z⟩:Fm).act w)→∀ z,GG P fn R B T (YO s n (J k) e0 z L0) g w):GG P fn R B T s g w:=by
 refine gFm e0 he fun z=>?_;obtain⟨K,f,L⟩:=s;simp only at hn;subst hn;have hL':BX (BK m L)=L0:=hL;have hc:GG P fn R B T ⟨K,⟨f.n,e0,z⟩,BX (BK m L)⟩ g w→GG P fn R B T ⟨K,⟨f.n,e0,z⟩,L⟩ g w:=fun h=>⟨fun hK=>h.ex (hK.sub (CA m L)).clr⟩;refine hc ?_;rw[hL'];cases K with
 | nil=>cases hl
 | cons t K =>
  cases t with
  | c x =>
   cases x with
   | loop b =>
    refine⟨fun hK=>?_⟩;exact wp_loop_rounds (k+1) ((h (Code.rounds P b (Kq P (bodyPost P fn R) K)) (fun m e z L g w hG hK=>hG.ex hK) z).ex hK)
   | _=>cases hl
  | _=>cases hl
end
section
variable{fn:Func}{R:Ending→World→Prop}{B:Nat}{T:List Tg}{g:Gh}{w:World}
theorem Yu{s:Xs}(i':Nat)(r i:Nat)(hsem:Dv s i'=some (Instr.makeMap 127 none>>=fun v=>pure (.value v)))
  (hob:(nxt s i' undef s.L).o.map Ob.l'=(nxt s i' undef s.L).o.map Ob.r')
  (hk:∀ b g' w',w.heap.size≤b→AskAt g' w' (.n r i) b (fun _=>none)→(∀ B T,Cg B T g w g' w')→(∀ b,w'.heap.size≤b→g'.t b=.z∧g'.k b=0)→GG prog fn R B T (nxt s i' (.map (some b)) s.L).s g' w'):GG prog fn R B T s g w:=by
 refine Jw i' s.L hob (BA hsem) fun hK ops j o hop=>?_;have hr:(Instr.makeMap 127 none).run prog w=.ok (.map (some w.heap.size)) (w.alloc (.map #[] 0)):=by
  simp[Instr.makeMap,go_sem]
 have hC:∀ B T,Cg B T g w (Md g w (.n r i) 0) (w.alloc (.map #[] 0)):=fun B T =>
  ⟨rfl,rfl,rfl,by simp,fun b hb=>.inl (if_neg (by omega)),fun b hb=>by show _≤(if b=w.heap.size then _ else g.k b);rw[if_neg (by omega)];exact Nat.le_refl _,fun b hb _ _=>if_neg (by omega),fun b hb _ _=>heap_alloc_old w _ hb,fun b hb j hj=>World.cell?_of_block (w:=w) (heap_alloc_old w _ hb)⟩
 have hG:∀ b,(w.alloc (.map #[] 0)).heap.size≤b→(Md g w (.n r i) 0).t b=.z∧(Md g w (.n r i) 0).k b=0:=fun b hb=>by
  have hb':w.heap.size+1≤b:=by simpa using hb
  show(if b=w.heap.size then _ else g.t b)=.z∧(if b=w.heap.size then _ else g.k b)=0;rw[if_neg (by omega),if_neg (by omega)];exact hK.new b (by omega)
 refine⟨.map (some w.heap.size),_,Md g w (.n r i) 0,.inl ?_,hK.ch (hC _ []) hG (by simp),hk _ _ _ (Nat.le_refl _) ⟨if_pos rfl,if_pos rfl,[],0,heap_alloc_new _ _,fun x hx=>absurd hx List.not_mem_nil,List.nodup_nil,List.nodup_nil,fun _=>rfl⟩ hC hG⟩;rw[CI hsem hop,Sem.run_bind,hr,Result.andThen_ok];rfl
end
def ZT(a:Acc)(y:S3)(b:Nat):Array Value:=((Ao 0 0 (CD.bare true [] 0 a []) (NX.mk s30 y s30 s30 s30 s30 (fun _=>s30) (some b))).toList.drop 6).toArray
theorem AN{g:Gh}{w:World}(i:Nat)(hg:∀ b,w.heap.size≤b→g.t b=.z∧g.k b=0)(a:Acc)(y:S3) :
  Calls prog 69 #[.agg #[iv a.p.r,iv a.p.n,S3.v y]] w fun e w'=>∃ (b:Nat) (g':Gh),e=.returned (.agg (ZT a y b))∧AskAt g' w' (.n 5 i) b (fun _=>none)∧(∀ b,w'.heap.size≤b→g'.t b=.z∧g'.k b=0)∧Cg w.heap.size [] g w g' w':=by
 refine gIn (fn:=f69) [] g func69 (by kernel_rfl) (by kernel_rfl) hg ?_;refine qR [] 8 [0,0,1,0,0] fun s1 g1 w1 c1=>?_;refine Yu 1 5 i (by kernel_rfl) (by kernel_rfl) ?_;intro mb g2 w2 hmb A2 cc2 n2;have c2:=cc2 w.heap.size [];refine qR [] 3 [1,0] fun s3 g3 w3 c3=>?_;exact qE1 2 129 1 (s1 1) (ZT a y mb) fun K=>⟨mb,_,rfl,(A2.ch c3 (by simp)),K.new,((c1.trans c2).trans c3)⟩
theorem G3(x:Value)(d:List Int)(s:Int)(w:World)(h:Sl w x d) :
  Calls prog 171 #[.agg (tpA x s)] w fun e w'=>e=.returned (.bool (decide (CN d s)))∧Below w.heap.size w w':=by
 have hlen:=h.len;obtain⟨ax,cp,rfl⟩:=h.shapeT;obtain⟨M,hM⟩:∃ M,d.length=M:=⟨_,rfl⟩;have HM:Hid (d.length=M):=hM;rw[hM]at hlen ⊢
 clear hM h;simp only[tpA];have bb:Below w.heap.size w (w.alloc (.cells #[.slice ax M cp,.int .i64 s] 132)):=(Below.refl _ _).alloc (Nat.le_refl _) _;have rr:=heap_alloc_new w (.cells #[.slice ax M cp,.int .i64 s] 132);generalize hW:w.alloc (.cells #[.slice ax M cp,.int .i64 s] 132)=W0 at bb rr;have c0:W0.cell? ⟨w.heap.size,0,none⟩=some (.slice ax M cp):=cell_of_row _ _ 0 _ _ _ rr;have c1:W0.cell? ⟨w.heap.size,1,none⟩=some (.int .i64 s):=cell_of_row _ _ 1 _ _ _ rr;clear rr;have HT:Hid (CN d s↔(M≤100000∧0≤s∧s≤(M:Int))):=by
  unfold Hid CN;rw[HM.out]
 by_cases h1:M≤100000
 ·have h1i:(M:Int)≤100000:=by omega
  by_cases h2:0≤s
  ·by_cases h3:s≤(M:Int)
   ·go_enter func171,ntmps171
    go_wp2
    go_ret;exact⟨Ab (by rw[decide_eq_true (HT.out.2 ⟨h1,h2,h3⟩)]),bb⟩
   ·go_enter func171,ntmps171
    go_wp2
    go_ret;exact⟨Ab (by rw[decide_eq_false (fun g=>absurd (HT.out.1 g).2.2 (by omega))]),bb⟩
  ·go_enter func171,ntmps171
   go_wp2
   go_ret;exact⟨Ab (by rw[decide_eq_false (fun g=>absurd (HT.out.1 g).2.1 (by omega))]),bb⟩
 ·have h1i:¬ (M:Int)≤100000:=by omega
  go_enter func171,ntmps171
  go_wp2
  go_ret;exact⟨Ab (by rw[decide_eq_false (fun g=>absurd (HT.out.1 g).1 (by omega))]),bb⟩
theorem D5(x:Value)(d:List Int)(s:Int)(n:Nat)(w:World)(h:Sl w x d)(hn:n≤d.length) :
  Calls prog 172 #[.agg (tpA x s),.int .i64 (n:Int)] w fun e w'=>∃ y,e=.returned (.agg (tpA y (n:Int)))∧w'.ownsRow w.heap.size 5 1 y n ((d.take n).map (Value.int .u8))∧Below w.heap.size w w':=by
 have hlen:=h.len;obtain⟨ax,cp,rfl⟩:=h.shapeT;obtain⟨M,hM⟩:∃ M,d.length=M:=⟨_,rfl⟩;have HM:Hid (d.length=M):=hM;have HN:Hid (n≤d.length):=hn;obtain⟨t,ht⟩:∃ t,t=d.take n:=⟨_,rfl⟩;have HT:Hid (t=d.take n):=ht;rw[← ht];clear ht;rw[hM]at h hlen hn ⊢
 clear hM;simp only[tpA];have r0:=heap_alloc2_old w (.cells #[.slice ax M cp,.int .i64 s] 132) (.cells #[.slice none 0 0,.int .i64 0] 132);have r1:=heap_alloc2_new w (.cells #[.slice ax M cp,.int .i64 s] 132) (.cells #[.slice none 0 0,.int .i64 0] 132);have bb:Below w.heap.size w ((w.alloc (.cells #[.slice ax M cp,.int .i64 s] 132)).alloc (.cells #[.slice none 0 0,.int .i64 0] 132)):=((Below.refl _ _).alloc (Nat.le_refl _) _).alloc (by simp) _;have z0:((w.alloc (.cells #[.slice ax M cp,.int .i64 s] 132)).alloc (.cells #[.slice none 0 0,.int .i64 0] 132)).heap.size=w.heap.size+2:=by simp
 generalize hW:(w.alloc (.cells #[.slice ax M cp,.int .i64 s] 132)).alloc (.cells #[.slice none 0 0,.int .i64 0] 132)=W0 at r0 r1 bb z0;have s0:=h.below bb;have Z0:Hid (W0.heap.size=w.heap.size+2):=z0;have y0:w.heap.size+1<W0.heap.size:=by omega
 have y1:w.heap.size<W0.heap.size:=by omega
 clear z0;go_enter func172,ntmps172
 go_wp2_with ((with_reducible (refine Az ?_));at_make;refine Ko _ rfl _ _ 26 rfl W0.heap.size 5 underlying26 AB n rfl rfl (by omega) (Nat.le_refl _) ?_)
 clear hW;intro w1 o1 g1;have b1:Below W0.heap.size W0 w1:=(Below.refl _ _).grown g1 (Nat.le_refl _) (fun k hk=>by cases hk);have q0:=(b1.block w.heap.size y1).trans r0;have q1:=(b1.block (w.heap.size+1) y0).trans r1;have s1:=s0.below b1;obtain⟨xs,o1⟩:=o1.out;have HO:Hid (w1.ownsRow W0.heap.size 5 1 (.slice (some ⟨W0.heap.size,0,none⟩) n n) n xs):=o1;have d1:=bb.trans (b1.mono bb.size);clear o1 r0 r1 g1;have c0:w1.cell? ⟨w.heap.size,0,none⟩=some (.slice ax M cp):=cell_of_row _ _ 0 _ _ _ q0;go_wp2_with ((with_reducible (refine Az ?_));refine Kl _ rfl _ _ 26 26 rfl W0.heap.size 5 underlying26 ZA W0.heap.size n _ rfl HO.out _ rfl d HN.out s1 t HT.out ?_)
 intro w2 o2 b2;have HO2:Hid (w2.ownsRow W0.heap.size 5 1 (.slice (some ⟨W0.heap.size,0,none⟩) n n) n (t.map (Value.int .u8))):=o2;have e2:=b2.mono (show w.heap.size+2≤W0.heap.size by have:=Z0.out;omega);have p1:=(e2.block (w.heap.size+1) (by omega)).trans q1;have d2:=d1.trans (e2.mono (by omega));obtain⟨g,hg⟩:∃ g,W0.heap.size=g:=⟨_,rfl⟩;have HG:Hid (W0.heap.size=g):=hg;have z0:g=w.heap.size+2:=hg.symm.trans Z0.out;have Z1:Hid (g=w.heap.size+2):=z0;rw[hg]at HO2 ⊢
 clear o2 HO q0 q1 c0 hg z0 y0 y1 Z0;have on:=V2 (some ⟨g,0,none⟩) n n (n:Int);go_wp2_with ((with_reducible (refine Az ?_));refine wpList_store_row rfl 132 (.tmp 4) (.tmp 14) rfl (w.heap.size+1) #[.slice (some ⟨g,0,none⟩) n n,.int .i64 (n:Int)] rfl rfl 132 _ p1 At rfl on ?_)
 have q9:=setRow_heap w2 (w.heap.size+1) _ (#[.slice (some ⟨g,0,none⟩) n n,.int .i64 (n:Int)]) 132 _ p1;have d9:=An d2 (show w.heap.size≤w.heap.size+1 by omega) (#[.slice (some ⟨g,0,none⟩) n n,.int .i64 (n:Int)]);have o9:(w2.setRow (w.heap.size+1) #[.slice (some ⟨g,0,none⟩) n n,.int .i64 (n:Int)]).ownsRow g 5 1 (.slice (some ⟨g,0,none⟩) n n) n (t.map (Value.int .u8)):=AT HO2.out (fun k hk=>setRow_other _ _ _ _ (by have:=(HO2.out.lt k hk).1;have:=Z1.out;omega));refine bodyPost_ret (Vq rfl _ _ (w.heap.size+1) 132 _ (0,0) _ rfl q9 underlying132 rfl At) rfl ?_;exact⟨_,rfl,Bm o9 (by have:=Z1.out;omega),d9⟩
end Go.Proofs.YtakgfdbjgeopdaaGreatDoor
