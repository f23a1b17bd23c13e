/- Part 13 of the walk. -/
import Derived.Test.YtfhbkoflaekhpabGreatDoorZ12
set_option maxRecDepth 100000
set_option maxHeartbeats 4000000
open Go.Proofs.Tryz
set_option linter.unusedVariables false
namespace Go.Proofs.YtfhbkoflaekhpabGreatDoor
open Go.RowKit
theorem Ev{g:Gh}{w:World}{i nb ob:Nat}{p:Nod}{ls:List Let}{ts:List Tol}(h:NS i nb ob g w p ls ts){b:Bool}(hb:p.leads=b) :
  Calls prog 104 #[pt nb 0] w fun e w'=>e=.returned (.bool b)∧Bw w w':=by subst hb;exact Mw h
theorem CV{W:World}{ty:TypeId}{dd:TypeDesc}{b k:Nat}{v:Value}(hu:prog.underlying ty=some dd)(hr:dd.isRow=false)(hc:W.cell? ⟨b,k,none⟩=some v):(Instr.loadAt ty (pt b k)).run prog W=.ok v W:=by
 have hagg:(isAgg ty).run prog W=.ok false W:=by
  unfold isAgg;rw[Sem.run_bind,run_underlying hu W];cases dd<;>first|rfl|(simp only[TypeDesc.isRow]at hr;cases hr)
 have hl:(loadVar ty ⟨b,k,none⟩).run prog W=.ok v W:=by simp[loadVar,hagg,hc,go_sem]
 simp only[Instr.loadAt,Instr.sureAddr,Sem.run_bind,Sem.run_pure,Result.andThen_ok,hl]
theorem VI(p:Nod)(l:List Cmd):(p.enqueue l).pend=p.pend:=by unfold Nod.enqueue;split<;>rfl
theorem Ll{g:Gh}{w:World}{i nb ob:Nat}{p:Nod}{ls:List Let}{ts:List Tol}(h:NS i nb ob g w p ls ts)(lb:Nat)(l:Let)(hl:Ci g w lb l)(hk:l.kind=6)(hb:p.pend.length<100000000)(hb2:l.what.length<100000000)(hq:p.rnd.queue.length≤40) :
  Calls prog 68 #[pt nb 0,pt lb 0] w (NP i nb ob g w (.tuple #[]) (p.take l) ls ts):=by
 obtain⟨x,lt,tl,hN,hO,hg⟩:=h;refine gI (fn:=f68) (TN i) g func68 hg ?_;refine qN hN ?_;refine qO hO ?_;have hLL:=hl;obtain⟨vs,wh,hl1,hl2,hl3⟩:=hl;refine BL ⟨lb,.cells (EE l vs wh) 165,.z,false⟩ (fun _=>⟨hl1.r,hl1.z,fun h=>(by cases h),fun h=>absurd rfl h⟩) (by kernel_rfl) ?_;refine qR [] 12 [0,0,0,0,5,0,3,2,4,4,6,8,2] fun s1 g1 w1 c1=>?_;refine qS 5 [false,false,true,true,true] hN hO c1 (fun N2=>IT N2 l.what wh (hl3.ch (c1.nil (TN i)) (Bd i)) hb2 hq) fun g2 w2 x2 lt2 tl2 hN2 hO2 c2=>?_;have hn:=hN2.agreed.num;refine qR [] 15 [11,0,2,2,4,6,0,8,1,10,12,14,16,3,18,20] fun s4 g4 w4 c4=>?_;by_cases h1:l.slot<(p.enqueue l.what).agreed.length
 ·refine qI ((decide ((l.slot:Int)<(x2.agreed.n:Int)))) true (decide_eq_true (by omega)) ?_;refine qR [] 3 [1] fun s5 g5 w5 c5=>?_;rw[show p.take l=(p.enqueue l.what).wait (.tell l.src l.slot)from by unfold Nod.take;rw[hk];exact if_pos h1];refine Af fun K=>?_;obtain⟨z1,z2⟩:=K.isZ 1 (s1 0) (.cells #[pt nb 0] 85) false (by kernel_rfl);obtain⟨z3,z4⟩:=K.isZ 2 (s1 1) (.cells #[pt lb 0] 166) false (by kernel_rfl);have N6:NS i nb ob g5 w5 (p.enqueue l.what) ls ts:=(nsC hN2 hO2 (c4.n c5) K);refine qS0 2 [true,true,true,false,false] (AI N6 (by rw[VI];exact hb) _ _ (.tell l.src l.slot) ⟨(s1 0),(s1 1),lb,l,rfl,⟨z1,z2⟩,⟨z3,z4⟩,hLL.ch ((((c1.nil (TN i)).trans (c2)).n c4).n c5) (Bd i),rfl,rfl⟩) fun g6 w6 x6 lt6 tl6 hN6 hO6 c6=>?_;refine qR [] 1 [] fun s8 g8 w8 c8=>?_;exact qF hN6 hO6 c8 ((((((c1.nil (TN i)).trans (c2)).n c4).n c5).trans (c6)).n c8)
 ·refine qI ((decide ((l.slot:Int)<(x2.agreed.n:Int)))) false (decide_eq_false (by omega)) ?_;refine qR [] 1 [] fun s10 g10 w10 c10=>?_;refine qE (.tuple #[]) fun K=>?_;rw[show p.take l=(p.enqueue l.what)from by unfold Nod.take;rw[hk];exact if_neg h1];exact⟨_,rfl,(nsC hN2 hO2 (c4.n c10) K),((((c1.nil (TN i)).trans (c2)).n c4).n c10)⟩
theorem JB{g:Gh}{w:World}{i nb ob:Nat}{p:Nod}{ls:List Let}{ts:List Tol}(h:NS i nb ob g w p ls ts){w0:World}(hB:Base w0 g w)(hT:Tabs w0)(lb:Nat)(l:Let)(hl:Ci g w lb l)(hk:l.kind=1)(hs:l.src<5)(hb:(p.learn 0 l.what).agreed.length≤40)(hb2:l.what.length≤40)(hb3:(p.rnd.heard l.src).vs.length<100000000) :
  Calls prog 63 #[pt nb 0,pt lb 0] w (NP i nb ob g w (.tuple #[]) (p.take l) ls ts):=by
 obtain⟨kd,src,dst,bal,vote,votes,slot,what⟩:=l;simp only at hk hs hb hb2 hb3;obtain⟨x,lt,tl,hN,hO,hg⟩:=h;refine gI (fn:=f63) (TN i) g func63 hg ?_;refine qN hN ?_;refine qO hO ?_;obtain⟨vs,wh,hl1,hl2,hl3⟩:=hl;obtain⟨wa,wn,wc⟩:=wh;obtain rfl:wn=what.length:=hl3.len;have hba:p.agreed.length≤40:=Nat.le_trans (by unfold Nod.learn;rw[List.length_append];omega) hb;refine BL ⟨lb,.cells (EE (Let.mk kd src dst bal vote votes slot what) vs (S3.mk wa what.length wc)) 165,.z,false⟩ (fun _=>⟨hl1.r,hl1.z,fun h=>(by cases h),fun h=>absurd rfl h⟩) (by kernel_rfl) ?_;refine qR [] 7 [2] fun s1 g1 w1 c1=>?_;refine qS 5 [false,false,true] hN hO c1 (fun N2=>Mx N2 0 what (S3.mk wa what.length wc) (hl3.ch (c1.nil (TN i)) (Bd i)) (by omega) (by omega) (by omega)) fun g2 w2 x2 lt2 tl2 hN2 hO2 c2=>?_;by_cases h1:(p.learn 0 what).leads=false
 ·refine qR [] 5 [29,0] fun s4 g4 w4 c4=>?_;refine Af fun K=>?_;have N6:NS i nb ob g4 w4 (p.learn 0 what) ls ts:=(nsC hN2 hO2 c4 K);refine qC 1 (Ev N6 h1) ?_;rintro e' w7 ⟨rfl,b7⟩;refine⟨_,rfl,b7,?_⟩;have c7:=Cg.ofBelow (B:=w.heap.size) (T:=[]) (g:=g4) b7;refine qR [] 29 [4,6,8,10,12,14,16,18,20,22,24,26,28,30,32,34,36,38,40,42,44,46,48,50,52,54,56] fun s8 g8 w8 c8=>?_;refine qE (.tuple #[]) fun K=>?_;rw[show p.take (Let.mk kd src dst bal vote votes slot what)=(p.learn 0 what)from by unfold Nod.take;rw[hk];exact if_pos (.inl h1)];exact⟨_,rfl,(nsC hN2 hO2 ((c4.n c7).n c8) K),(((((c1.nil (TN i)).trans (c2)).n c4).n c7).n c8)⟩
 ·have h10:(p.learn 0 what).leads=true:=by simpa using h1
  refine qR [] 5 [29,0] fun s10 g10 w10 c10=>?_;refine Af fun K=>?_;have N12:NS i nb ob g10 w10 (p.learn 0 what) ls ts:=(nsC hN2 hO2 c10 K);refine qC 1 (Ev N12 h10) ?_;rintro e' w13 ⟨rfl,b13⟩;refine⟨_,rfl,b13,?_⟩;have c13:=Cg.ofBelow (B:=w.heap.size) (T:=[]) (g:=g10) b13;refine qR [] 12 [4,6,8,10,12,14,0,16,18,20,22,24,26,1] fun s14 g14 w14 c14=>?_;by_cases h2:bal≠(p.learn 0 what).rnd.bal
  ·refine qT 14 (.bool true) (fun _=>(MG (x:=(.tmp 17)) (y:=(.tmp 23)) bal (p.learn 0 what).rnd.bal h2)) ?_;refine qR [] 16 [30,32,34,36,38,40,42,44,46,48,50,52,54,56] fun s15 g15 w15 c15=>?_;refine qE (.tuple #[]) fun K=>?_;rw[show p.take (Let.mk kd src dst bal vote votes slot what)=(p.learn 0 what)from by unfold Nod.take;rw[hk];exact if_pos (.inr (.inl h2))];exact⟨_,rfl,(nsC hN2 hO2 (((c10.n c13).n c14).n c15) K),((((((c1.nil (TN i)).trans (c2)).n c10).n c13).n c14).n c15)⟩
  ·have h20:bal=(p.learn 0 what).rnd.bal:=by simpa using h2
   refine qT 14 (.bool false) (fun _=>(MF (x:=(.tmp 17)) (y:=(.tmp 23)) bal (p.learn 0 what).rnd.bal h20)) ?_;refine qR [] 11 [30,32,34,36,38,40,42,0,44,46,48,50] fun s17 g17 w17 c17=>?_;refine BM 69 (fun g' w' e L=>e=[(0,pt nb 0),(1,pt lb 0),(38,.bool ((p.learn 0 what).rnd.pro src))]∧L=[⟨lb,.cells (EE (Let.mk kd src dst bal vote votes slot what) vs (S3.mk wa what.length wc)) 165,.z,false⟩,⟨nb,.cells (AA i ob (p.learn 0 what) x2) 112,.n 0 i,false⟩,⟨ob,.cells #[S3.v lt2,S3.v tl2] 82,.n 50 0,false⟩]∧True∧Cg w.heap.size ([]:List Tg) g17 w17 g' w') (by kernel_rfl) ?_ ?_
   ·intro J hJ;rcases five hs with rfl|rfl|rfl|rfl|rfl <;>
    (refine qR [] 4 [52,54,1,56] fun s19 g19 w19 c19=>?_;exact qB [true,true,true] fun z K0 K=>hJ _ _ _ z _ ⟨rfl,rfl,trivial,(c19.nil ([]:List Tg))⟩ K)
   rintro g18 w18 _ z18 _ ⟨rfl,rfl,_,c18⟩;by_cases h3:(p.learn 0 what).rnd.pro src=true
   ·refine qI (((p.learn 0 what).rnd.pro src)) true h3 ?_;refine qE (.tuple #[]) fun K=>?_;rw[show p.take (Let.mk kd src dst bal vote votes slot what)=(p.learn 0 what)from by unfold Nod.take;rw[hk];exact if_pos (.inr (.inr h3))];exact⟨_,rfl,(nsC hN2 hO2 ((((c10.n c13).n c14).n c17).n c18) K),(((((((c1.nil (TN i)).trans (c2)).n c10).n c13).n c14).n c17).n c18)⟩
   ·refine qI (((p.learn 0 what).rnd.pro src)) false (by simpa using h3) ?_;refine qR [] 15 [12,0,2,4,6,8,10,12,14,0,16,18,20,22,0] fun s23 g23 w23 c23=>?_;refine qS 12 [true,false,false] hN2 hO2 (((((c10.n c13).n c14).n c17).n c18).n c23) (fun N24=>OI N24 (hB.ch ((((((((c1.nil (TN i)).trans (c2)).n c10).n c13).n c14).n c17).n c18).n c23) (Bd i)) hT src hs votes vs (hl2.ch ((((((((c1.nil (TN i)).trans (c2)).n c10).n c13).n c14).n c17).n c18).n c23) (Bd i)) hb3) fun g24 w24 x24 lt24 tl24 hN24 hO24 c24=>?_;refine qR [] 17 [15,0,2,4,6,8,0,10,12,14,16,0,18,20,22,24,26] fun s26 g26 w26 c26=>?_;refine BM 69 (fun g' w' e L=>e=[(0,pt nb 0)]∧L=[⟨lb,.cells (EE (Let.mk kd src dst bal vote votes slot what) vs (S3.mk wa what.length wc)) 165,.z,false⟩,⟨nb,.cells (AA i ob ({ (p.learn 0 what)with rnd:={ (p.learn 0 what).rnd.hear src votes with taught:=upN (p.learn 0 what).rnd.taught src what.length } }) x24) 112,.n 0 i,false⟩,⟨ob,.cells #[S3.v lt24,S3.v tl24] 82,.n 50 0,false⟩]∧True∧Cg w.heap.size ([.n 0 i]:List Tg) g26 w26 g' w') (by kernel_rfl) ?_ ?_
    ·intro J hJ;rcases five hs with rfl|rfl|rfl|rfl|rfl <;>
     (refine qR [.n 0 i] 3 [28,31,1,1] fun s28 g28 w28 c28=>?_;exact qB [true,true,true] fun z K0 K=>hJ _ _ _ z _ ⟨rfl,rfl,trivial,c28⟩ K)
    rintro g27 w27 _ z27 _ ⟨rfl,rfl,_,c27⟩;refine qR [] 2 [] fun s29 g29 w29 c29=>?_;rw[show p.take (Let.mk kd src dst bal vote votes slot what)=Nod.learnC { (p.learn 0 what)with rnd:={ (p.learn 0 what).rnd.hear src votes with taught:=upN (p.learn 0 what).rnd.taught src what.length } }from by unfold Nod.take;rw[hk];exact if_neg (by rintro(h|h|h);exact h1 h;exact h2 h;exact h3 h)];refine Af fun K=>?_;have C31:=((c26.nil ([.n 0 i]:List Tg)).trans (c27)).n c29;have N30:NS i nb ob g29 w29 ({ (p.learn 0 what)with rnd:={ (p.learn 0 what).rnd.hear src votes with taught:=upN (p.learn 0 what).rnd.taught src what.length } }) ls ts:=⟨x24,lt24,tl24,K.ndu 1 hN24 C31,hO24.ch C31 (hn:=by simp<;>omega),K.new⟩;refine qS0 1 [true,false,false] (Fb N30 (hB.ch ((((((((((((c1.nil (TN i)).trans (c2)).n c10).n c13).n c14).n c17).n c18).n c23).trans (c24)).n c26).trans (c27.mono (by simp[TN]))).n c29) (Bd i)) hT hb) fun g30 w30 x30 lt30 tl30 hN30 hO30 c30=>?_;refine qR [] 1 [] fun s32 g32 w32 c32=>?_;exact qF hN30 hO30 c32 ((((((((((((((c1.nil (TN i)).trans (c2)).n c10).n c13).n c14).n c17).n c18).n c23).trans (c24)).n c26).trans (c27.mono (by simp[TN]))).n c29).trans (c30)).n c32)
def tkG:Nat→FuncId
 | 0=>62
 | 1=>63
 | 2=>64
 | 3=>65
 | 4=>66
 | 5=>67
 | _=>68
def tkV(k:Nat):Value:=.func (.func (tkG k)) #[] #[]
def tkL(j:Nat):List MapEntry:=(List.range j).map fun(k:Nat)=>{ key:=iv (k:Int),val:=tkV k,born:=k }
structure TkAt(g:Gh)(w:World)(b j:Nat):Prop where
 t:g.t b=.n 70 0
 k:g.k b=0
 row:w.heap[b]?=some (.map (tkL j).toArray j)
theorem TkAt.ch{B:Nat}{T:List Tg}{g g':Gh}{w w':World}{b j:Nat}(h:TkAt g w b j)(c:Cg B T g w g' w')(hn:Tg.n 70 0∉T:=by simp):TkAt g' w' b j :=
 have h1:=c.rc h.row h.t hn
 ⟨h1.2.1,h1.2.2.trans h.k,h1.1⟩
theorem XD{k:Nat}(h:k<7):k=0∨k=1∨k=2∨k=3∨k=4∨k=5∨k=6:=by omega
theorem PG(em:Bool)(k:Nat)(w:World):(Instr.checkKey em 10000 149 (iv (k:Int))).run prog w=.ok () w:=by kernel_rfl
theorem aI{j:Nat}(h:j<7)(w:World):(Instr.findKey 149 (iv (j:Int)) (tkL j)).run prog w=.ok none w:=by
 rcases XD h with rfl|rfl|rfl|rfl|rfl|rfl|rfl<;>kernel_rfl
theorem aH{j:Nat}(h:j<7)(w:World):(Instr.findKey 149 (iv (j:Int)) (tkL 7)).run prog w=.ok (some (j,tkV j)) w:=by
 rcases XD h with rfl|rfl|rfl|rfl|rfl|rfl|rfl<;>kernel_rfl
theorem ew{g:Gh}{w:World}{b j:Nat}(h:TkAt g w b j)(hj:j<7):∃ w',(Instr.mapUpdate 83 (.map (some b)) (iv (j:Int)) (tkV j)).run prog w=.ok () w'∧TkAt g w' b (j+1)∧(∀ B T,Tg.n 70 0∈T→Cg B T g w g w')∧w'.heap.size=w.heap.size:=by
 have hg:(getObj b).run prog w=.ok (.map (tkL j).toArray j) w:=by simp[getObj,Sem.run,h.row]
 have hs:=MapKept.run_setObj_map (P:=prog) (w:=w) (.map (tkL (j+1)).toArray (j+1)) h.row;have he:((tkL j).toArray.push { key:=iv (j:Int),val:=tkV j,born:=j })=(tkL (j+1)).toArray:=by simp[tkL,List.range_succ]
 refine⟨_,?_,⟨h.t,h.k,ChangeMaps.heap_setBlock_same h.row (.map (tkL (j+1)).toArray (j+1))⟩,fun B T hT=>Cg.block h.row h.t h.k hT _,by simp[ChangeMaps.setBlock]⟩;rw[Instr.mapUpdate];simp only[Sem.run_bind,run_underlying underlying83,Result.andThen_ok,hg,PG,aI hj,he,hs];rfl
theorem rTk{w:World}{b k:Nat}(hb:w.heap[b]?=some (.map (tkL 7).toArray 7))(hk:k<7):(Instr.lookup 83 (.map (some b)) (iv (k:Int)) false).run prog w=.ok (tkV k) w:=by
 have hg:(getObj b).run prog w=.ok (.map (tkL 7).toArray 7) w:=by simp[getObj,Sem.run,hb]
 simp[Instr.lookup,run_underlying underlying83,hg,PG,aH hk]
section
variable{fn:Func}{R:Ending→World→Prop}{B:Nat}{T:List Tg}{g:Gh}{w:World}
theorem fs{s:Xs}(i':Nat)(hsem:CX s i'=some (Instr.makeMap 83 none>>=fun v=>pure (.value v)))
  (hob:(nxt s i' undef s.L).o.map Ob.l'=(nxt s i' undef s.L).o.map Ob.r')
  (hk:∀ b g' w',w.heap.size≤b→TkAt g' w' b 0→(∀ B T,Cg B T g w g' w')→(∀ b,w'.heap.size≤b→g'.t b=.z∧g'.k b=0)→GG prog fn R B T (nxt s i' (.map (some b)) s.L).s g' w'):GG prog fn R B T s g w:=by
 refine Ky i' s.L hob (BH hsem) fun hK ops j o hop=>?_;have hr:(Instr.makeMap 83 none).run prog w=.ok (.map (some w.heap.size)) (w.alloc (.map #[] 0)):=by
  simp[Instr.makeMap,go_sem]
 have hC:∀ B T,Cg B T g w (Nm g w (.n 70 0) 0) (w.alloc (.map #[] 0)):=fun B T =>
  ⟨rfl,rfl,rfl,by simp,fun b hb=>.inl (if_neg (by omega)),fun b hb=>by show _≤(if b=w.heap.size then _ else g.k b);rw[if_neg (by omega)];exact Nat.le_refl _,fun b hb _ _=>if_neg (by omega),fun b hb _ _=>heap_alloc_old w _ hb,fun b hb j hj=>World.cell?_of_block (w:=w) (heap_alloc_old w _ hb)⟩
 have hG:∀ b,(w.alloc (.map #[] 0)).heap.size≤b→(Nm g w (.n 70 0) 0).t b=.z∧(Nm g w (.n 70 0) 0).k b=0:=fun b hb=>by
  have hb':w.heap.size+1≤b:=by simpa using hb
  show(if b=w.heap.size then _ else g.t b)=.z∧(if b=w.heap.size then _ else g.k b)=0;rw[if_neg (by omega),if_neg (by omega)];exact hK.new b (by omega)
 refine⟨.map (some w.heap.size),_,Nm g w (.n 70 0) 0,.inl ?_,hK.ch (hC _ []) hG (by simp),hk _ _ _ (Nat.le_refl _) ⟨if_pos rfl,if_pos rfl,heap_alloc_new _ _⟩ hC hG⟩;rw[Db hsem hop,Sem.run_bind,hr,Result.andThen_ok];rfl
theorem GA{s:Xs}(i':Nat){b j:Nat}(h:TkAt g w b j)(hj:j<7)(hsem:CX s i'=some (Instr.mapUpdate 83 (.map (some b)) (iv (j:Int)) (tkV j)>>=fun _=>pure .skip))
  (hob:(nxt s i' undef s.L).o.map Ob.l'=(nxt s i' undef s.L).o.map Ob.r')(hT:s.L.all (fun y=>[Tg.n 70 0].all fun t=>y.t.ne t)=true)
  (hk:∀ w',TkAt g w' b (j+1)→(∀ B T,Tg.n 70 0∈T→Cg B T g w g w')→GG prog fn R B T (nxt s i' undef s.L).s g w'):GG prog fn R B T s g w:=by
 refine Ky i' s.L hob (BH hsem) fun hK ops i o hop=>?_;obtain⟨w',hr,h2,h3,h4⟩:=ew h hj;refine⟨undef,w',g,.inr ⟨?_,rfl⟩,hK.ch (h3 _ [Tg.n 70 0] (List.mem_singleton.2 rfl)) (fun b hb=>hK.new b (by rw[h4]at hb;exact hb)) hT,hk w' h2 h3⟩;rw[Db hsem hop,Sem.run_bind,hr,Result.andThen_ok];rfl
end
def TM:List Tg:=[0,1,2,3,4].flatMap TN
theorem E7:Tg.z∉TM:=by simp[TM,TN]
theorem eK{i:Nat}(hi:i<5):∀ t∈TN i,t∈TM:=fun t ht=>List.mem_flatMap.2 ⟨i,by rcases five hi with rfl|rfl|rfl|rfl|rfl<;>simp,ht⟩
theorem eL{i j r:Nat}(h:j≠i)(hr:r<6):Tg.n r j∉TN i:=by simp[TN];omega
def mtA(nb:Nat→Nat)(ob tb:Nat):Array Value:=#[pt (nb 0) 0,pt (nb 1) 0,pt (nb 2) 0,pt (nb 3) 0,pt (nb 4) 0,pt ob 0,.map (some tb)]
structure MS(mb tb ob:Nat)(nb:Nat→Nat)(g:Gh)(w:World)(M:Meet):Prop where
 box:Box g w mb (mtA nb ob tb) 88
 tk:TkAt g w tb 7
 node:∀ i,i<5→∃ x,NodeAt g w i (nb i) ob x (M.node i)
 out:∃ lt tl,OutAt g w ob lt tl M.lets M.told
 new:In g w
def MP(mb tb ob:Nat)(nb:Nat→Nat)(g:Gh)(w:World)(v:Value)(M:Meet):Ending→World→Prop:=fun e w'=>∃ g',e=.returned v∧MS mb tb ob nb g' w' M∧Cg w.heap.size TM g w g' w'
section
variable{mb tb ob i:Nat}{nb:Nat→Nat}{g g':Gh}{w w':World}{M:Meet}
theorem MS.ns(h:MS mb tb ob nb g w M)(hi:i<5):NS i (nb i) ob g w (M.node i) M.lets M.told :=
 let ⟨x,hx⟩:=h.node i hi
 let ⟨lt,tl,ho⟩:=h.out
 ⟨x,lt,tl,hx,ho,h.new⟩
theorem MS.ch0{B:Nat}(h:MS mb tb ob nb g w M)(c:Cg B [] g w g' w')(hn:In g' w'):MS mb tb ob nb g' w' M :=
 ⟨h.box.ch c,h.tk.ch c,fun i hi=>let ⟨x,hx⟩:=h.node i hi;⟨x,hx.ch c⟩,let ⟨lt,tl,ho⟩:=h.out;⟨lt,tl,ho.ch c⟩,hn⟩
theorem MS.of{B:Nat}(h:MS mb tb ob nb g w M)(hi:i<5){p:Nod}{ls:List Let}{ts:List Tol}(hn:NS i (nb i) ob g' w' p ls ts)(c:Cg B (TN i) g w g' w'):MS mb tb ob nb g' w' ⟨upN M.node i p,ls,ts⟩:=by
 obtain⟨x,lt,tl,h1,h2,h3⟩:=hn;refine⟨h.box.ch c (Bd i),h.tk.ch c (by simp[TN]),fun j hj=>?_,⟨lt,tl,h2⟩,h3⟩;by_cases e:j=i
 ·subst e;exact⟨x,by show NodeAt g' w' j (nb j) ob x (upN M.node j p j);rw[Yb];exact h1⟩
 ·obtain⟨y,hy⟩:=h.node j hj;exact⟨y,by show NodeAt g' w' j (nb j) ob y (upN M.node i p j);rw[ez _ _ e];exact hy.ch c (Bd i) fun r hr=>eL e hr⟩
theorem MS.call(h:MS mb tb ob nb g w M)(hi:i<5){f:FuncId}{av:Array Value}{v:Value}{p:Nod}{ls:List Let}{ts:List Tol}(hc:Calls prog f av w (NP i (nb i) ob g w v p ls ts)):Calls prog f av w (MP mb tb ob nb g w v ⟨upN M.node i p,ls,ts⟩) :=
 hc.mono fun e w' ⟨g',he,hn,c⟩=>⟨g',he,h.of hi hn c,c.mono (eK hi)⟩
theorem Sy{W:World}(hr:W.heap[mb]?=some (.cells (mtA nb ob tb) 88)){j:Nat}(hj:j<5):W.cell? ⟨mb,j,none⟩=some (pt (nb j) 0):=by
 rcases five hj with rfl|rfl|rfl|rfl|rfl<;>(rw[cell_of_row _ _ _ _ _ _ hr];rfl)
end
theorem C6(p:Bal)(x:Value)(l:List Vt)(b:Bal)(w:World)(h:Sv w x l)(ht:NTab w) :
  Calls prog 116 #[.agg (acA p x),.agg (baA b)] w fun e w'=>∃ y z,e=.returned (.tuple #[.agg (acA (Ff ⟨p,l⟩ b) y),z,.int .i64 (BG ⟨p,l⟩ b)])∧w'.ownsRow w.heap.size 163 8 y (Fe ⟨p,l⟩ b).length (vtL (Fe ⟨p,l⟩ b))∧w'.ownsRow w.heap.size 163 8 z (Fe ⟨p,l⟩ b).length (vtL (Fe ⟨p,l⟩ b))∧Bw w w':=by
 obtain⟨pr,pn⟩:=p;obtain⟨br,bn⟩:=b;have hlen:=h.len;obtain⟨ax,cp,rfl⟩:=h.shape;obtain⟨M,hM⟩:∃ M,l.length=M:=⟨_,rfl⟩;have HM:Hid (l.length=M):=hM;rw[hM]at h hlen ⊢
 clear hM;simp only[acA,baA];obtain⟨W0,hW0⟩:∃ W0,((w.alloc (.cells #[.int .i64 pr,.int .i64 pn,.slice ax M cp] 93)).alloc (.cells #[.int .i64 br,.int .i64 bn] 90)).alloc (.cells #[.int .i64 0,.int .i64 0,.slice none 0 0] 93)=W0:=⟨_,rfl⟩;obtain⟨r0,r1,r2,bb⟩:=Pg w (.cells #[.int .i64 pr,.int .i64 pn,.slice ax M cp] 93) (.cells #[.int .i64 br,.int .i64 bn] 90) (.cells #[.int .i64 0,.int .i64 0,.slice none 0 0] 93);have z0:W0.heap.size=w.heap.size+3:=by rw[← hW0];simp
 rw[hW0]at r0 r1 r2 bb
 have hl0:=h.below bb;go_enter func116,ntmps116
 go_wp2_with ((with_reducible (refine As ?_));refine wpList_load_row rfl 93 _ rfl w.heap.size rfl 93 _ (0,0) _ r0 underlying93 rfl (BK ⟨pr,pn⟩ (.slice ax M cp)) ?_)
 clear hW0;refine(It ⟨pr,pn⟩ (.slice ax M cp) l W0 hl0 (ht.below bb)).mono ?_;rintro e w1 ⟨rfl,b1⟩;have d1:=bb.trans (b1.mono bb.size);have z1:=b1.size;have q0:=(b1.block w.heap.size (by omega)).trans r0;have q1:=(b1.block (w.heap.size+1) (by omega)).trans r1;have q2:=(b1.block (w.heap.size+2) (by omega)).trans r2;have hl1:=hl0.below b1;clear r0 r1 r2 b1 bb hl0;have c0:w1.cell? ⟨w.heap.size+1,0,none⟩=some (.int .i64 br):=cell_of_row _ _ 0 _ _ _ q1;have c1:w1.cell? ⟨w.heap.size+1,1,none⟩=some (.int .i64 bn):=cell_of_row _ _ 1 _ _ _ q1;have hz3:(#[.int .i64 0,.int .i64 0,.slice none 0 0]:Array Value).all (·.oneCell')=true:=by simp[Value.oneCell']
 have HZero:Hid (∀ E,E≠0→BG ⟨⟨pr,pn⟩,l⟩ ⟨br,bn⟩=E→Ff ⟨⟨pr,pn⟩,l⟩ ⟨br,bn⟩=⟨0,0⟩∧Fe ⟨⟨pr,pn⟩,l⟩ ⟨br,bn⟩=[]):=fun E h1 h2=>⟨if_neg (by rw[h2];exact h1),if_neg (by rw[h2];exact h1)⟩;by_cases h1:Ao ⟨⟨pr,pn⟩,l⟩
 ·rw[show Gd ⟨⟨pr,pn⟩,l⟩=0 from if_pos h1];go_wp2_with fail
  refine(KC ⟨br,bn⟩ w1).mono ?_;rintro e w2 ⟨rfl,b2⟩;have d2:=d1.trans (b2.mono d1.size);have z2:=b2.size;have hl2:=hl1.below b2;replace q0:=(b2.block w.heap.size (by omega)).trans q0;replace q1:=(b2.block (w.heap.size+1) (by omega)).trans q1;replace q2:=(b2.block (w.heap.size+2) (by omega)).trans q2;have c0:w2.cell? ⟨w.heap.size+1,0,none⟩=some (.int .i64 br):=cell_of_row _ _ 0 _ _ _ q1;have c1:w2.cell? ⟨w.heap.size+1,1,none⟩=some (.int .i64 bn):=cell_of_row _ _ 1 _ _ _ q1;have a0:w2.cell? ⟨w.heap.size,0,none⟩=some (.int .i64 pr):=cell_of_row _ _ 0 _ _ _ q0;have a1:w2.cell? ⟨w.heap.size,1,none⟩=some (.int .i64 pn):=cell_of_row _ _ 1 _ _ _ q0;clear b2 d1 hl1;by_cases h2:Ad ⟨br,bn⟩
  ·rw[decide_eq_true h2];go_wp2_with fail
   refine(D4 ⟨br,bn⟩ ⟨pr,pn⟩ w2).mono ?_;rintro e W ⟨rfl,b3⟩;have d3:=d2.trans (b3.mono d2.size);have z3:=b3.size;have hl:=hl2.below b3;replace q0:=(b3.block w.heap.size (by omega)).trans q0;replace q1:=(b3.block (w.heap.size+1) (by omega)).trans q1;have rR:=(b3.block (w.heap.size+2) (by omega)).trans q2;clear b3 d2 hl2 q2 c0 c1 a0 a1;by_cases h3:Bal.lt ⟨br,bn⟩ ⟨pr,pn⟩
   ·rw[decide_eq_true h3];have HE:Hid (BG ⟨⟨pr,pn⟩,l⟩ ⟨br,bn⟩=7):=by unfold Hid BG;rw[if_neg (fun g=>g h1),if_neg (fun g=>g h2),if_pos h3]
    go_wp2_with ((with_reducible (refine As ?_));refine wpList_store_row rfl 93 (.tmp 4) (.tmp 22) rfl (w.heap.size+2) #[.int .i64 0,.int .i64 0,.slice none 0 0] rfl rfl 93 _ rR (BK ⟨0,0⟩ (.slice none 0 0)) rfl hz3 ?_)
    have q9:=setRow_heap W (w.heap.size+2) _ (#[.int .i64 0,.int .i64 0,.slice none 0 0]) 93 _ rR;have d9:=Ai d3 (show w.heap.size≤w.heap.size+2 by omega) (#[.int .i64 0,.int .i64 0,.slice none 0 0]);have HZ:=HZero.out _ (by decide) HE.out;refine bodyPost_ret (Jh rfl _ _ (w.heap.size+2) 93 _ (0,0) _ rfl q9 underlying93 rfl (BK ⟨0,0⟩ (.slice none 0 0))) rfl ?_;rw[HE.out,HZ.1,HZ.2];exact⟨.slice none 0 0,.slice none 0 0,rfl,World.ownsRow_nil _ _ _ _,World.ownsRow_nil _ _ _ _,d9⟩
   ·rw[decide_eq_false h3];have HE:Hid (BG ⟨⟨pr,pn⟩,l⟩ ⟨br,bn⟩=0):=by unfold Hid BG;rw[if_neg (fun g=>g h1),if_neg (fun g=>g h2),if_neg h3]
    have HP:Hid (Ff ⟨⟨pr,pn⟩,l⟩ ⟨br,bn⟩=⟨br,bn⟩∧Fe ⟨⟨pr,pn⟩,l⟩ ⟨br,bn⟩=l):=⟨if_pos HE.out,if_pos HE.out⟩;have a2:W.cell? ⟨w.heap.size,2,none⟩=some (.slice ax M cp):=cell_of_row _ _ 2 _ _ _ q0;have rB:W.rangeAt (w.heap.size+1) 0 [.int .i64 br,.int .i64 bn]:=R2 (cell_of_row _ _ 0 _ _ _ q1) (cell_of_row _ _ 1 _ _ _ q1);have hle:w.heap.size+2≤W.heap.size:=by omega
    have ltR:w.heap.size+2<W.heap.size:=by omega
    clear h1 h2 h3 HZero;go_wp2_with fail
    apply TX (fun g c y W2=>W2.heap[w.heap.size+2]?=some (.cells #[.int .i64 br,.int .i64 bn,.slice g M c] 93)∧W2.ownsRow W.heap.size 163 8 (.slice g M c) l.length (vtL l)∧W2.ownsRow W.heap.size 163 8 y l.length (vtL l)∧Below (w.heap.size+2) W W2)
    ·intro K2 HK2;have ed0:Bw W W.drew:=(Below.refl _ _).drew;have ed:Below (w.heap.size+2) W W.drew:=ed0.mono hle;refine wp_region_held (S:=fun w'=>Below (w.heap.size+2) W w') (by kernel_rfl) ?_;have hS0:(fun w'=>Below (w.heap.size+2) W w') W.drew:=ed;refine Ag (i:=0) 23 (v:=.agg #[.int .i64 br,.int .i64 bn]) rfl rfl (by kernel_rfl) (by kernel_rfl) (by kernel_rfl) (fun _ _ _ h=>h) (yieldsIf_load_mid (by rfl) 90 (.tmp 3) rfl (w.heap.size+1) 0 rfl [.int .i64 br,.int .i64 bn] _ (fun w' hw'=>GL hw' (by omega) rB) underlying90 rfl JZ) hS0 ?_;simp only[Act.put,List.setIfInBounds_toArray,List.set_cons_zero,List.set_cons_succ];refine Ag (i:=1) 24 (v:=.pointer (some ⟨w.heap.size,2,none⟩)) rfl rfl (by kernel_rfl) (by kernel_rfl) (by kernel_rfl) (fun _ _ _ h=>h) (Or.inl ⟨by rfl,fun _ _=>by kernel_rfl⟩) hS0 ?_;simp only[Act.put,List.setIfInBounds_toArray,List.set_cons_zero,List.set_cons_succ];refine Ag (i:=2) 25 (v:=.slice ax M cp) rfl rfl (by kernel_rfl) (by kernel_rfl) (by kernel_rfl) (fun _ _ _ h=>h) (Gc (by rfl) 91 (.tmp 24) rfl _ underlying91 rfl ⟨w.heap.size,2,none⟩ rfl (.slice ax M cp) (fun w' hw'=>(hw'.cell (p:=⟨w.heap.size,2,none⟩) (show w.heap.size<w.heap.size+2 by omega)).trans a2)) hS0 ?_;simp only[Act.put,List.setIfInBounds_toArray,List.set_cons_zero,List.set_cons_succ];refine Ag (i:=5) 28 (v:=.pointer (some ⟨w.heap.size,2,none⟩)) rfl rfl (by kernel_rfl) (by kernel_rfl) (by kernel_rfl) (fun _ _ _ h=>h) (Or.inl ⟨by rfl,fun _ _=>by kernel_rfl⟩) hS0 ?_;simp only[Act.put,List.setIfInBounds_toArray,List.set_cons_zero,List.set_cons_succ];refine Ag (i:=6) 29 (v:=.slice ax M cp) rfl rfl (by kernel_rfl) (by kernel_rfl) (by kernel_rfl) (fun _ _ _ h=>h) (Gc (by rfl) 91 (.tmp 28) rfl _ underlying91 rfl ⟨w.heap.size,2,none⟩ rfl (.slice ax M cp) (fun w' hw'=>(hw'.cell (p:=⟨w.heap.size,2,none⟩) (show w.heap.size<w.heap.size+2 by omega)).trans a2)) hS0 ?_;simp only[Act.put,List.setIfInBounds_toArray,List.set_cons_zero,List.set_cons_succ];refine BE (i:=3) (by kernel_rfl) (GI (i:=3) (d:=26) (f:=150) (args:=#[.slice ax M cp]) rfl (by kernel_rfl) rfl (by kernel_rfl) ((Kj _ l _ (hl.below ed0)).mono ?_));rintro e' w5 ⟨x5,rfl,o5,b5⟩;have e5:Bw W w5:=ed0.trans (b5.mono ed0.size);have s5:=Sv.ofOwns o5 (by have:=HM.out;omega);obtain⟨a5,c5,h5⟩:=s5.shape;rw[HM.out]at h5
     subst h5;refine⟨_,rfl,e5.mono hle,?_⟩;simp only[Act.put,List.setIfInBounds_toArray,List.set_cons_zero,List.set_cons_succ];refine Ag (i:=4) 27 (v:=.agg #[.int .i64 br,.int .i64 bn,(.slice a5 M c5)]) rfl rfl (by kernel_rfl) (by kernel_rfl) (by kernel_rfl) (fun _ _ _ h=>h) (Or.inl ⟨by rfl,fun _ _=>by kernel_rfl⟩) (e5.mono hle) ?_;simp only[Act.put,List.setIfInBounds_toArray,List.set_cons_zero,List.set_cons_succ];refine BE (i:=7) (by kernel_rfl) (GI (i:=7) (d:=30) (f:=150) (args:=#[.slice ax M cp]) rfl (by kernel_rfl) rfl (by kernel_rfl) ((Kj _ l _ (hl.below e5)).mono ?_));rintro e' w6 ⟨x6,rfl,o6,b6⟩;have e6:Bw W w6:=e5.trans (b6.mono e5.size);have s6:=Sv.ofOwns o6 (by have:=HM.out;omega);have s56:=s5.below b6;refine⟨_,rfl,e6.mono hle,?_⟩;simp only[Act.put,List.setIfInBounds_toArray,List.set_cons_zero,List.set_cons_succ];have hone:(#[.int .i64 br,.int .i64 bn,(.slice a5 M c5)]:Array Value).all (·.oneCell')=true:=by simp[Value.oneCell']
     have rS:=(e6.block (w.heap.size+2) ltR).trans rR;have e7:Below (w.heap.size+2) W (w6.setRow (w.heap.size+2) #[.int .i64 br,.int .i64 bn,(.slice a5 M c5)]):=Ai (e6.mono hle) (Nat.le_refl _) _;have q7:=setRow_heap w6 (w.heap.size+2) _ (#[.int .i64 br,.int .i64 bn,(.slice a5 M c5)]) 93 _ rS;have t5:(w6.setRow (w.heap.size+2) #[.int .i64 br,.int .i64 bn,(.slice a5 M c5)]).ownsRow W.heap.size 163 8 (.slice a5 M c5) l.length (vtL l):=Bo (EN (EN o5 (fun k hk=>b6.block k (o5.lt k hk).2)) (fun k hk=>setRow_other _ _ _ _ (by have:=(o5.lt k hk).1;have:=ed0.size;omega))) ed0.size;have t6:(w6.setRow (w.heap.size+2) #[.int .i64 br,.int .i64 bn,(.slice a5 M c5)]).ownsRow W.heap.size 163 8 x6 l.length (vtL l):=Bo (EN o6 (fun k hk=>setRow_other _ _ _ _ (by have:=(o6.lt k hk).1;have:=e5.size;omega))) e5.size;refine BE (i:=8) (by kernel_rfl) (Hu (i:=8) rfl (by kernel_rfl) rfl 93 (.tmp 4) (.tmp 27) rfl (w.heap.size+2) #[.int .i64 br,.int .i64 bn,(.slice a5 M c5)] (by kernel_rfl) (by kernel_rfl) 93 _ rS (BK ⟨br,bn⟩ (.slice a5 M c5)) rfl hone ⟨e7,?_⟩);refine Ag (i:=9) 5 (v:=x6) rfl rfl (by kernel_rfl) (by kernel_rfl) (by kernel_rfl) (fun _ _ _ h=>h) (Or.inl ⟨by rfl,fun _ _=>by kernel_rfl⟩) e7 ?_;simp only[Act.put,List.setIfInBounds_toArray,List.set_cons_zero,List.set_cons_succ];refine Ag (i:=10) 6 (v:=.int .i64 0) rfl rfl (by kernel_rfl) (by kernel_rfl) (by kernel_rfl) (fun _ _ _ h=>h) (Or.inl ⟨by rfl,fun _ _=>by kernel_rfl⟩) e7 ?_;simp only[Act.put,List.setIfInBounds_toArray,List.set_cons_zero,List.set_cons_succ];exact wpAnyH_done (by kernel_rfl) (HK2.out a5 c5 x6 _ ⟨q7,t5,t6,e7⟩) _
    intro g c y W2 hW2;obtain⟨q7,t5,t6,e7⟩:=hW2;have d7:=d3.trans (e7.mono (by omega));clear rR q0 q1 a2 rB;go_wp2
    refine bodyPost_ret (Jh rfl _ _ (w.heap.size+2) 93 _ (0,0) _ rfl q7 underlying93 rfl (BK ⟨br,bn⟩ (.slice g M c))) rfl ?_;rw[HE.out,HP.out.1,HP.out.2];exact⟨.slice g M c,y,rfl,Bo t5 d3.size,Bo t6 d3.size,d7⟩
  ·rw[decide_eq_false h2];have HE:Hid (BG ⟨⟨pr,pn⟩,l⟩ ⟨br,bn⟩=2):=by unfold Hid BG;rw[if_neg (fun g=>g h1),if_pos h2]
   clear c0 c1 a0 a1;go_wp2_with ((with_reducible (refine As ?_));refine wpList_store_row rfl 93 (.tmp 4) (.tmp 17) rfl (w.heap.size+2) #[.int .i64 0,.int .i64 0,.slice none 0 0] rfl rfl 93 _ q2 (BK ⟨0,0⟩ (.slice none 0 0)) rfl hz3 ?_)
   have q9:=setRow_heap w2 (w.heap.size+2) _ (#[.int .i64 0,.int .i64 0,.slice none 0 0]) 93 _ q2;have d9:=Ai d2 (show w.heap.size≤w.heap.size+2 by omega) (#[.int .i64 0,.int .i64 0,.slice none 0 0]);have HZ:=HZero.out _ (by decide) HE.out;refine bodyPost_ret (Jh rfl _ _ (w.heap.size+2) 93 _ (0,0) _ rfl q9 underlying93 rfl (BK ⟨0,0⟩ (.slice none 0 0))) rfl ?_;rw[HE.out,HZ.1,HZ.2];exact⟨.slice none 0 0,.slice none 0 0,rfl,World.ownsRow_nil _ _ _ _,World.ownsRow_nil _ _ _ _,d9⟩
 ·rw[show Gd ⟨⟨pr,pn⟩,l⟩=5 from if_neg h1];have HE:Hid (BG ⟨⟨pr,pn⟩,l⟩ ⟨br,bn⟩=5):=by unfold Hid BG;rw[if_pos h1]
  clear c0 c1;go_wp2_with ((with_reducible (refine As ?_));refine wpList_store_row rfl 93 (.tmp 4) (.tmp 12) rfl (w.heap.size+2) #[.int .i64 0,.int .i64 0,.slice none 0 0] rfl rfl 93 _ q2 (BK ⟨0,0⟩ (.slice none 0 0)) rfl hz3 ?_)
  have q9:=setRow_heap w1 (w.heap.size+2) _ (#[.int .i64 0,.int .i64 0,.slice none 0 0]) 93 _ q2;have d9:=Ai d1 (show w.heap.size≤w.heap.size+2 by omega) (#[.int .i64 0,.int .i64 0,.slice none 0 0]);have HZ:=HZero.out _ (by decide) HE.out;refine bodyPost_ret (Jh rfl _ _ (w.heap.size+2) 93 _ (0,0) _ rfl q9 underlying93 rfl (BK ⟨0,0⟩ (.slice none 0 0))) rfl ?_;rw[HE.out,HZ.1,HZ.2];exact⟨.slice none 0 0,.slice none 0 0,rfl,World.ownsRow_nil _ _ _ _,World.ownsRow_nil _ _ _ _,d9⟩
theorem CJ(a:Acc)(b:Bal):(Fe a b).length≤a.vs.length:=by unfold Fe;split<;>simp
theorem Pj(p:Bal)(x:Value)(l:List Vt)(b:Bal)(w:World)(h:Sv w x l)(ht:NTab w) :
  Calls prog 116 #[.agg (acA p x),.agg (baA b)] w fun e w'=>∃ y z,e=.returned (.tuple #[.agg (acA (Ff ⟨p,l⟩ b) y),z,.int .i64 (BG ⟨p,l⟩ b)])∧Sv w' y (Fe ⟨p,l⟩ b)∧Sv w' z (Fe ⟨p,l⟩ b)∧Bw w w':=by
 refine(C6 p x l b w h ht).mono ?_;rintro e w' ⟨y,z,he,hy,hz,hb⟩;have h1:=CJ ⟨p,l⟩ b;have h2:=h.len;exact⟨y,z,he,Sv.ofOwns hy (Nat.le_trans h1 h2),Sv.ofOwns hz (Nat.le_trans h1 h2),hb⟩
end Go.Proofs.YtfhbkoflaekhpabGreatDoor
