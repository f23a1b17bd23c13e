/- Part 13 of the walk. -/
import Derived.Test.YtalbmmghmoggcabGreatDoorZ12
set_option maxRecDepth 100000
set_option maxHeartbeats 4000000
open Go.Proofs.Tryz
set_option linter.unusedVariables false
namespace Go.Proofs.YtalbmmghmoggcabGreatDoor
open Go.RowKit
section
variable{b i j k nb ob:Nat}{g:Gh}{ls:List Let}{p:Nod}{ts:List Tol}{w:World}
theorem Ed(h:NS i nb ob g w p ls ts){b:Bool}(hb:p.leads=b) :
  Calls prog 83 #[pt nb 0] w λe w'=>e=.returned (.bool b)/\Bw w w':=by subst hb;exact LB h
theorem CJ{W:World}{ty:TypeId}{dd:TypeDesc}{v:Value}(hu:prog.underlying ty=some dd)(hr:dd.isRow=false)(hc:W.cell? ⟨b,k,none⟩=some v):(Instr.loadAt ty (pt b k)).run prog W=.ok v W:=by
 have hagg:(isAgg ty).run prog W=.ok false W:=by
  unfold isAgg;rw[Sem.run_bind,run_underlying hu W];cases dd<;>first|rfl|(simp only[TypeDesc.isRow]at hr;cases hr)
 have hl:(loadVar ty ⟨b,k,none⟩).run prog W=.ok v W:=by simp[loadVar,hagg,hc,go_sem]
 simp only[Instr.loadAt,Instr.sureAddr,Sem.run_bind,Sem.run_pure,Result.andThen_ok,hl]
theorem UO(p:Nod)(l:List Cmd):(p.enqueue l).pend=p.pend:=by unfold Nod.enqueue;split<;>rfl
theorem K8(h:NS i nb ob g w p ls ts)(lb:Nat)(l:Let)(hl:BW g w lb l)(hk:l.kind=6)(hb:p.pend.length<100000000)(hb2:l.what.length<100000000)(hq:p.rnd.queue.length<=40) :
  Calls prog 47 #[pt nb 0,pt lb 0] w (NP i nb ob g w (.tuple #[]) (p.take l) ls ts):=by
 obtain⟨x,lt,tl,hN,hO,hg⟩:=h;refine gI (fn:=f47) (TN i) g func47 hg ?_;refine qN hN ?_;refine qO hO ?_;have hLL:=hl;obtain⟨vs,wh,hl1,hl2,hl3⟩:=hl;refine BF ⟨lb,.cells (Ev l vs wh) 140,.z,false⟩ (λ_=>⟨hl1.r,hl1.z,λh=>(by cases h),λh=>absurd rfl h⟩) (by kernel_rfl) ?_;refine qR [] 12 [0,0,0,0,5,0,3,2,4,4,6,8,2] λs1 g1 w1 c1=>?_;refine qS 5 [false,false,true,true,true] hN hO c1 (λN2=>I2 N2 l.what wh (hl3.ch (c1.nil (TN i)) (AW i)) hb2 hq) λg2 w2 x2 lt2 tl2 hN2 hO2 c2=>?_;have hn:=hN2.agreed.num;refine qR [] 15 [11,0,2,2,4,6,0,8,1,10,12,14,16,3,18,20] λs4 g4 w4 c4=>?_;by_cases h1:l.slot<(p.enqueue l.what).agreed.length
 .refine qI ((decide ((l.slot:Int)<(x2.agreed.n:Int)))) true (I' (by omega)) ?_;refine qR [] 3 [1] λs5 g5 w5 c5=>?_;rw[show p.take l=(p.enqueue l.what).wait (.tell l.src l.slot)from by unfold Nod.take;rw[hk];exact if_pos h1];refine Ae λK=>?_;obtain⟨z1,z2⟩:=K.isZ 1 (s1 0) (.cells #[pt nb 0] 68) false (by kernel_rfl);obtain⟨z3,z4⟩:=K.isZ 2 (s1 1) (.cells #[pt lb 0] 141) false (by kernel_rfl);have N6:NS i nb ob g5 w5 (p.enqueue l.what) ls ts:=(nsC hN2 hO2 (c4.n c5) K);refine qS0 2 [true,true,true,false,false] (AG N6 (by rw[UO];exact hb) _ _ (.tell l.src l.slot) ⟨(s1 0),(s1 1),lb,l,rfl,⟨z1,z2⟩,⟨z3,z4⟩,hLL.ch ((((c1.nil (TN i)).trans (c2)).n c4).n c5) (AW i),rfl,rfl⟩) λg6 w6 x6 lt6 tl6 hN6 hO6 c6=>?_;refine qR [] 1 [] λs8 g8 w8 c8=>?_;exact qF hN6 hO6 c8 ((((((c1.nil (TN i)).trans (c2)).n c4).n c5).trans (c6)).n c8)
 .refine qI ((decide ((l.slot:Int)<(x2.agreed.n:Int)))) false (D' (by omega)) ?_;refine qR [] 1 [] λs10 g10 w10 c10=>?_;refine qE (.tuple #[]) λK=>?_;rw[show p.take l=(p.enqueue l.what)from by unfold Nod.take;rw[hk];exact if_neg h1];exact⟨_,rfl,(nsC hN2 hO2 (c4.n c10) K),((((c1.nil (TN i)).trans (c2)).n c4).n c10)⟩
theorem Jj(h:NS i nb ob g w p ls ts){w0:World}(hB:Base w0 g w)(hT:Tabs w0)(lb:Nat)(l:Let)(hl:BW g w lb l)(hk:l.kind=1)(hs:l.src<5)(hb:(p.learn 0 l.what).agreed.length<=40)(hb2:l.what.length<=40)(hb3:(p.rnd.heard l.src).vs.length<100000000) :
  Calls prog 42 #[pt nb 0,pt lb 0] w (NP i nb ob g w (.tuple #[]) (p.take l) ls ts):=by
 obtain⟨kd,src,dst,bal,vote,votes,slot,what⟩:=l;simp only at hk hs hb hb2 hb3;obtain⟨x,lt,tl,hN,hO,hg⟩:=h;refine gI (fn:=f42) (TN i) g func42 hg ?_;refine qN hN ?_;refine qO hO ?_;obtain⟨vs,wh,hl1,hl2,hl3⟩:=hl;obtain⟨wa,wn,wc⟩:=wh;obtain rfl:wn=what.length:=hl3.len;have hba:p.agreed.length<=40:=fy (by unfold Nod.learn;rw[N'];omega) hb;refine BF ⟨lb,.cells (Ev (Let.mk kd src dst bal vote votes slot what) vs (S3.mk wa what.length wc)) 140,.z,false⟩ (λ_=>⟨hl1.r,hl1.z,λh=>(by cases h),λh=>absurd rfl h⟩) (by kernel_rfl) ?_;refine qR [] 7 [2] λs1 g1 w1 c1=>?_;refine qS 5 [false,false,true] hN hO c1 (λN2=>LC N2 0 what (S3.mk wa what.length wc) (hl3.ch (c1.nil (TN i)) (AW i)) (by omega) (by omega) (by omega)) λg2 w2 x2 lt2 tl2 hN2 hO2 c2=>?_;by_cases h1:(p.learn 0 what).leads=false
 .refine qR [] 5 [29,0] λs4 g4 w4 c4=>?_;refine Ae λK=>?_;have N6:NS i nb ob g4 w4 (p.learn 0 what) ls ts:=(nsC hN2 hO2 c4 K);refine qC 1 (Ed N6 h1) ?_;rintro e' w7 ⟨rfl,b7⟩;refine⟨_,rfl,b7,?_⟩;have c7:=Cg.ofBelow (B:=w.heap.size) (T:=[]) (g:=g4) b7;refine qR [] 29 [4,6,8,10,12,14,16,18,20,22,24,26,28,30,32,34,36,38,40,42,44,46,48,50,52,54,56] λs8 g8 w8 c8=>?_;refine qE (.tuple #[]) λK=>?_;rw[show p.take (Let.mk kd src dst bal vote votes slot what)=(p.learn 0 what)from by unfold Nod.take;rw[hk];exact if_pos (.inl h1)];exact⟨_,rfl,(nsC hN2 hO2 ((c4.n c7).n c8) K),(((((c1.nil (TN i)).trans (c2)).n c4).n c7).n c8)⟩
 .have h10:(p.learn 0 what).leads=true:=by simpa using h1
  refine qR [] 5 [29,0] λs10 g10 w10 c10=>?_;refine Ae λK=>?_;have N12:NS i nb ob g10 w10 (p.learn 0 what) ls ts:=(nsC hN2 hO2 c10 K);refine qC 1 (Ed N12 h10) ?_;rintro e' w13 ⟨rfl,b13⟩;refine⟨_,rfl,b13,?_⟩;have c13:=Cg.ofBelow (B:=w.heap.size) (T:=[]) (g:=g10) b13;refine qR [] 12 [4,6,8,10,12,14,0,16,18,20,22,24,26,1] λs14 g14 w14 c14=>?_;by_cases h2:bal≠(p.learn 0 what).rnd.bal
  .refine qT 14 (.bool true) (λ_=>(LR (x:=(.tmp 17)) (y:=(.tmp 23)) bal (p.learn 0 what).rnd.bal h2)) ?_;refine qR [] 16 [30,32,34,36,38,40,42,44,46,48,50,52,54,56] λs15 g15 w15 c15=>?_;refine qE (.tuple #[]) λK=>?_;rw[show p.take (Let.mk kd src dst bal vote votes slot what)=(p.learn 0 what)from by unfold Nod.take;rw[hk];exact if_pos (.inr (.inl h2))];exact⟨_,rfl,(nsC hN2 hO2 (((c10.n c13).n c14).n c15) K),((((((c1.nil (TN i)).trans (c2)).n c10).n c13).n c14).n c15)⟩
  .have h20:bal=(p.learn 0 what).rnd.bal:=by simpa using h2
   refine qT 14 (.bool false) (λ_=>(LQ (x:=(.tmp 17)) (y:=(.tmp 23)) bal (p.learn 0 what).rnd.bal h20)) ?_;refine qR [] 11 [30,32,34,36,38,40,42,0,44,46,48,50] λs17 g17 w17 c17=>?_;refine BG 69 (λg' w' e L=>e=[(0,pt nb 0),(1,pt lb 0),(38,.bool ((p.learn 0 what).rnd.pro src))]/\L=[⟨lb,.cells (Ev (Let.mk kd src dst bal vote votes slot what) vs (S3.mk wa what.length wc)) 140,.z,false⟩,⟨nb,.cells (Ax i ob (p.learn 0 what) x2) 95,.n 0 i,false⟩,⟨ob,.cells #[S3.v lt2,S3.v tl2] 65,.n 50 0,false⟩]/\True/\Cg w.heap.size ([]:List Tg) g17 w17 g' w') (by kernel_rfl) ?_ ?_
   .intro J hJ;rcases five hs with rfl|rfl|rfl|rfl|rfl <;>
    (refine qR [] 4 [52,54,1,56] λs19 g19 w19 c19=>?_;exact qB [true,true,true] λz K0 K=>hJ _ _ _ z _ ⟨rfl,rfl,trivial,(c19.nil ([]:List Tg))⟩ K)
   rintro g18 w18 _ z18 _ ⟨rfl,rfl,_,c18⟩;by_cases h3:(p.learn 0 what).rnd.pro src=true
   .refine qI (((p.learn 0 what).rnd.pro src)) true h3 ?_;refine qE (.tuple #[]) λK=>?_;rw[show p.take (Let.mk kd src dst bal vote votes slot what)=(p.learn 0 what)from by unfold Nod.take;rw[hk];exact if_pos (.inr (.inr h3))];exact⟨_,rfl,(nsC hN2 hO2 ((((c10.n c13).n c14).n c17).n c18) K),(((((((c1.nil (TN i)).trans (c2)).n c10).n c13).n c14).n c17).n c18)⟩
   .refine qI (((p.learn 0 what).rnd.pro src)) false (by simpa using h3) ?_;refine qR [] 15 [12,0,2,4,6,8,10,12,14,0,16,18,20,22,0] λs23 g23 w23 c23=>?_;refine qS 12 [true,false,false] hN2 hO2 (((((c10.n c13).n c14).n c17).n c18).n c23) (λN24=>NQ N24 (hB.ch ((((((((c1.nil (TN i)).trans (c2)).n c10).n c13).n c14).n c17).n c18).n c23) (AW i)) hT src hs votes vs (hl2.ch ((((((((c1.nil (TN i)).trans (c2)).n c10).n c13).n c14).n c17).n c18).n c23) (AW i)) hb3) λg24 w24 x24 lt24 tl24 hN24 hO24 c24=>?_;refine qR [] 17 [15,0,2,4,6,8,0,10,12,14,16,0,18,20,22,24,26] λs26 g26 w26 c26=>?_;refine BG 69 (λg' w' e L=>e=[(0,pt nb 0)]/\L=[⟨lb,.cells (Ev (Let.mk kd src dst bal vote votes slot what) vs (S3.mk wa what.length wc)) 140,.z,false⟩,⟨nb,.cells (Ax i ob ({ (p.learn 0 what)with rnd:={ (p.learn 0 what).rnd.hear src votes with taught:=upN (p.learn 0 what).rnd.taught src what.length } }) x24) 95,.n 0 i,false⟩,⟨ob,.cells #[S3.v lt24,S3.v tl24] 65,.n 50 0,false⟩]/\True/\Cg w.heap.size ([.n 0 i]:List Tg) g26 w26 g' w') (by kernel_rfl) ?_ ?_
    .intro J hJ;rcases five hs with rfl|rfl|rfl|rfl|rfl <;>
     (refine qR [.n 0 i] 3 [28,31,1,1] λs28 g28 w28 c28=>?_;exact qB [true,true,true] λz K0 K=>hJ _ _ _ z _ ⟨rfl,rfl,trivial,c28⟩ K)
    rintro g27 w27 _ z27 _ ⟨rfl,rfl,_,c27⟩;refine qR [] 2 [] λs29 g29 w29 c29=>?_;rw[show p.take (Let.mk kd src dst bal vote votes slot what)=Nod.learnC { (p.learn 0 what)with rnd:={ (p.learn 0 what).rnd.hear src votes with taught:=upN (p.learn 0 what).rnd.taught src what.length } }from by unfold Nod.take;rw[hk];exact if_neg (by rintro(h|h|h);exact h1 h;exact h2 h;exact h3 h)];refine Ae λK=>?_;have C31:=((c26.nil ([.n 0 i]:List Tg)).trans (c27)).n c29;have N30:NS i nb ob g29 w29 ({ (p.learn 0 what)with rnd:={ (p.learn 0 what).rnd.hear src votes with taught:=upN (p.learn 0 what).rnd.taught src what.length } }) ls ts:=⟨x24,lt24,tl24,K.ndu 1 hN24 C31,hO24.ch C31 (hn:=by simp<;>omega),K.new⟩;refine qS0 1 [true,false,false] (EI N30 (hB.ch ((((((((((((c1.nil (TN i)).trans (c2)).n c10).n c13).n c14).n c17).n c18).n c23).trans (c24)).n c26).trans (c27.mono (by simp[TN]))).n c29) (AW i)) hT hb) λg30 w30 x30 lt30 tl30 hN30 hO30 c30=>?_;refine qR [] 1 [] λs32 g32 w32 c32=>?_;exact qF hN30 hO30 c32 ((((((((((((((c1.nil (TN i)).trans (c2)).n c10).n c13).n c14).n c17).n c18).n c23).trans (c24)).n c26).trans (c27.mono (by simp[TN]))).n c29).trans (c30)).n c32)
def tkG:Nat->FuncId
 | 0=>41
 | 1=>42
 | 2=>43
 | 3=>44
 | 4=>45
 | 5=>46
 | _=>47
def tkV(k:Nat):Value:=.func (.func (tkG k)) #[] #[]
def tkL(j:Nat):List MapEntry:=(List.range j).map λ(k:Nat)=>{ key:=iv (k:Int),val:=tkV k,born:=k }
structure TkAt(g:Gh)(w:World)(b j:Nat):Prop where
 t:g.t b=.n 70 0
 k:g.k b=0
 row:w.heap[b]?=some (.map (tkL j).toArray j)
theorem TkAt.ch{B:Nat}{T:List Tg}{g':Gh}{w':World}(h:TkAt g w b j)(c:Cg B T g w g' w')(hn:Tg.n 70 0∉T:=by simp):TkAt g' w' b j :=
 have h1:=c.rc h.row h.t hn
 ⟨h1.2.1,h1.2.2.trans h.k,h1.1⟩
theorem Wv(h:k<7):k=0\/k=1\/k=2\/k=3\/k=4\/k=5\/k=6:=by omega
theorem OY(em:Bool)(k:Nat)(w:World):(Instr.checkKey em 10000 122 (iv (k:Int))).run prog w=.ok () w:=by kernel_rfl
theorem YT(h:j<7)(w:World):(Instr.findKey 122 (iv (j:Int)) (tkL j)).run prog w=.ok none w:=by
 rcases Wv h with rfl|rfl|rfl|rfl|rfl|rfl|rfl<;>kernel_rfl
theorem YS(h:j<7)(w:World):(Instr.findKey 122 (iv (j:Int)) (tkL 7)).run prog w=.ok (some (j,tkV j)) w:=by
 rcases Wv h with rfl|rfl|rfl|rfl|rfl|rfl|rfl<;>kernel_rfl
theorem cC(h:TkAt g w b j)(hj:j<7):∃ w',(Instr.mapUpdate 66 (.map (some b)) (iv (j:Int)) (tkV j)).run prog w=.ok () w'/\TkAt g w' b (j+1)/\(∀ B T,Tg.n 70 0∈T->Cg B T g w g w')/\w'.heap.size=w.heap.size:=by
 have hg:(getObj b).run prog w=.ok (.map (tkL j).toArray j) w:=by simp[getObj,Sem.run,h.row]
 have hs:=MapKept.run_setObj_map (P:=prog) (w:=w) (.map (tkL (j+1)).toArray (j+1)) h.row;have he:((tkL j).toArray.push { key:=iv (j:Int),val:=tkV j,born:=j })=(tkL (j+1)).toArray:=by simp[tkL,List.range_succ]
 refine⟨_,?_,⟨h.t,h.k,ChangeMaps.heap_setBlock_same h.row (.map (tkL (j+1)).toArray (j+1))⟩,λB T hT=>Cg.block h.row h.t h.k hT _,by simp[ChangeMaps.setBlock]⟩;rw[Instr.mapUpdate];simp only[Sem.run_bind,run_underlying underlying66,Result.andThen_ok,hg,OY,YT hj,he,hs];rfl
theorem rTk(hb:w.heap[b]?=some (.map (tkL 7).toArray 7))(hk:k<7):(Instr.lookup 66 (.map (some b)) (iv (k:Int)) false).run prog w=.ok (tkV k) w:=by
 have hg:(getObj b).run prog w=.ok (.map (tkL 7).toArray 7) w:=by simp[getObj,Sem.run,hb]
 simp[Instr.lookup,run_underlying underlying66,hg,OY,YS hk]
end
section
variable{fn:Func}{R:Ending->World->Prop}{B:Nat}{T:List Tg}{g:Gh}{w:World}
theorem dq{s:Xs}(i':Nat)(hsem:CK s i'=some (Instr.makeMap 66 none>>=λv=>pure (.value v)))
  (hob:(nxt s i' undef s.L).o.map Ob.l'=(nxt s i' undef s.L).o.map Ob.r')
  (hk:∀ b g' w',w.heap.size<=b->TkAt g' w' b 0->(∀ B T,Cg B T g w g' w')->(∀ b,w'.heap.size<=b->g'.t b=.z/\g'.k b=0)->GG prog fn R B T (nxt s i' (.map (some b)) s.L).s g' w'):GG prog fn R B T s g w:=by
 refine JQ i' s.L hob (BC hsem) λhK ops j o hop=>?_;have hr:(Instr.makeMap 66 none).run prog w=.ok (.map (some w.heap.size)) (w.alloc (.map #[] 0)):=by
  simp[Instr.makeMap,go_sem]
 have hC:∀ B T,Cg B T g w (Mr g w (.n 70 0) 0) (w.alloc (.map #[] 0)):=λB T =>
  ⟨rfl,rfl,rfl,by simp,λb hb=>.inl (if_neg (by omega)),λb hb=>by show _<=(if b=w.heap.size then _ else g.k b);rw[if_neg (by omega)];exact A' _,λb hb _ _=>if_neg (by omega),λb hb _ _=>heap_alloc_old w _ hb,λb hb j hj=>World.cell?_of_block (w:=w) (heap_alloc_old w _ hb)⟩
 have hG:∀ b,(w.alloc (.map #[] 0)).heap.size<=b->(Mr g w (.n 70 0) 0).t b=.z/\(Mr g w (.n 70 0) 0).k b=0:=λb hb=>by
  have hb':w.heap.size+1<=b:=by simpa using hb
  show(if b=w.heap.size then _ else g.t b)=.z/\(if b=w.heap.size then _ else g.k b)=0;rw[if_neg (by omega),if_neg (by omega)];exact hK.new b (by omega)
 refine⟨.map (some w.heap.size),_,Mr g w (.n 70 0) 0,.inl ?_,hK.ch (hC _ []) hG (by simp),hk _ _ _ (A' _) ⟨if_pos rfl,if_pos rfl,heap_alloc_new _ _⟩ hC hG⟩;rw[CP hsem hop,Sem.run_bind,hr,Result.andThen_ok];rfl
theorem Gd{s:Xs}(i':Nat){b j:Nat}(h:TkAt g w b j)(hj:j<7)(hsem:CK s i'=some (Instr.mapUpdate 66 (.map (some b)) (iv (j:Int)) (tkV j)>>=λ_=>pure .skip))
  (hob:(nxt s i' undef s.L).o.map Ob.l'=(nxt s i' undef s.L).o.map Ob.r')(hT:s.L.all (λy=>[Tg.n 70 0].all λt=>y.t.ne t)=true)
  (hk:∀ w',TkAt g w' b (j+1)->(∀ B T,Tg.n 70 0∈T->Cg B T g w g w')->GG prog fn R B T (nxt s i' undef s.L).s g w'):GG prog fn R B T s g w:=by
 refine JQ i' s.L hob (BC hsem) λhK ops i o hop=>?_;obtain⟨w',hr,h2,h3,h4⟩:=cC h hj;refine⟨undef,w',g,.inr ⟨?_,rfl⟩,hK.ch (h3 _ [Tg.n 70 0] (O'.2 rfl)) (λb hb=>hK.new b (by rw[h4]at hb;exact hb)) hT,hk w' h2 h3⟩;rw[CP hsem hop,Sem.run_bind,hr,Result.andThen_ok];rfl
end
def TM:List Tg:=[0,1,2,3,4].flatMap TN
theorem Em:Tg.z∉TM:=by simp[TM,TN]
theorem cR{i:Nat}(hi:i<5):∀ t∈TN i,t∈TM:=λt ht=>ja.2 ⟨i,by rcases five hi with rfl|rfl|rfl|rfl|rfl<;>simp,ht⟩
theorem cS{i j r:Nat}(h:j≠i)(hr:r<6):Tg.n r j∉TN i:=by simp[TN];omega
def mtA(nb:Nat->Nat)(ob tb:Nat):Array Value:=#[pt (nb 0) 0,pt (nb 1) 0,pt (nb 2) 0,pt (nb 3) 0,pt (nb 4) 0,pt ob 0,.map (some tb)]
structure MS(mb tb ob:Nat)(nb:Nat->Nat)(g:Gh)(w:World)(M:Meet):Prop where
 box:Box g w mb (mtA nb ob tb) 71
 tk:TkAt g w tb 7
 node:∀ i,i<5->∃ x,NodeAt g w i (nb i) ob x (M.node i)
 out:∃ lt tl,OutAt g w ob lt tl M.lets M.told
 new:Hs g w
def MP(mb tb ob:Nat)(nb:Nat->Nat)(g:Gh)(w:World)(v:Value)(M:Meet):Ending->World->Prop:=λe w'=>∃ g',e=.returned v/\MS mb tb ob nb g' w' M/\Cg w.heap.size TM g w g' w'
section
variable{mb tb ob i:Nat}{nb:Nat->Nat}{g g':Gh}{w w':World}{M:Meet}
section
theorem MS.ns(h:MS mb tb ob nb g w M)(hi:i<5):NS i (nb i) ob g w (M.node i) M.lets M.told :=
 let ⟨x,hx⟩:=h.node i hi
 let ⟨lt,tl,ho⟩:=h.out
 ⟨x,lt,tl,hx,ho,h.new⟩
variable{B:Nat}{ls:List Let}{p:Nod}{ts:List Tol}
theorem MS.ch0(h:MS mb tb ob nb g w M)(c:Cg B [] g w g' w')(hn:Hs g' w'):MS mb tb ob nb g' w' M :=
 ⟨h.box.ch c,h.tk.ch c,λi hi=>let ⟨x,hx⟩:=h.node i hi;⟨x,hx.ch c⟩,let ⟨lt,tl,ho⟩:=h.out;⟨lt,tl,ho.ch c⟩,hn⟩
theorem MS.of(h:MS mb tb ob nb g w M)(hi:i<5)(hn:NS i (nb i) ob g' w' p ls ts)(c:Cg B (TN i) g w g' w'):MS mb tb ob nb g' w' ⟨upN M.node i p,ls,ts⟩:=by
 obtain⟨x,lt,tl,h1,h2,h3⟩:=hn;refine⟨h.box.ch c (AW i),h.tk.ch c (by simp[TN]),λj hj=>?_,⟨lt,tl,h2⟩,h3⟩;by_cases e:j=i
 .subst e;exact⟨x,by show NodeAt g' w' j (nb j) ob x (upN M.node j p j);rw[cE];exact h1⟩
 .obtain⟨y,hy⟩:=h.node j hj;exact⟨y,by show NodeAt g' w' j (nb j) ob y (upN M.node i p j);rw[cG _ _ e];exact hy.ch c (AW i) λr hr=>cS e hr⟩
theorem MS.call(h:MS mb tb ob nb g w M)(hi:i<5){f:FuncId}{av:Array Value}{v:Value}(hc:Calls prog f av w (NP i (nb i) ob g w v p ls ts)):Calls prog f av w (MP mb tb ob nb g w v ⟨upN M.node i p,ls,ts⟩) :=
 hc.mono λe w' ⟨g',he,hn,c⟩=>⟨g',he,h.of hi hn c,c.mono (cR hi)⟩
theorem R3{W:World}(hr:W.heap[mb]?=some (.cells (mtA nb ob tb) 71)){j:Nat}(hj:j<5):W.cell? ⟨mb,j,none⟩=some (pt (nb j) 0):=by
 rcases five hj with rfl|rfl|rfl|rfl|rfl<;>(rw[cell_of_row _ _ _ _ _ _ hr];rfl)
end
end
theorem Cp(p:Bal)(x:Value)(l:List Vt)(b:Bal)(w:World)(h:Sv w x l)(ht:NTab w) :
  Calls prog 97 #[.agg (acA p x),.agg (baA b)] w λe w'=>∃ y z,e=.returned (.tuple #[.agg (acA (EO ⟨p,l⟩ b) y),z,.int .i64 (BN ⟨p,l⟩ b)])/\w'.ownsRow w.heap.size 138 8 y (EN ⟨p,l⟩ b).length (vtL (EN ⟨p,l⟩ b))/\w'.ownsRow w.heap.size 138 8 z (EN ⟨p,l⟩ b).length (vtL (EN ⟨p,l⟩ b))/\Bw w w':=by
 obtain⟨pr,pn⟩:=p;obtain⟨br,bn⟩:=b;have hlen:=h.len;obtain⟨ax,cp,rfl⟩:=h.shape;obtain⟨M,hM⟩:∃ M,l.length=M:=⟨_,rfl⟩;have HM:Hid (l.length=M):=hM;rw[hM]at h hlen ⊢
 clear hM;simp only[acA,baA];obtain⟨W0,hW0⟩:∃ W0,((w.alloc (.cells #[.int .i64 pr,.int .i64 pn,.slice ax M cp] 76)).alloc (.cells #[.int .i64 br,.int .i64 bn] 73)).alloc (.cells #[.int .i64 0,.int .i64 0,.slice none 0 0] 76)=W0:=⟨_,rfl⟩;obtain⟨r0,r1,r2,bb⟩:=Ow w (.cells #[.int .i64 pr,.int .i64 pn,.slice ax M cp] 76) (.cells #[.int .i64 br,.int .i64 bn] 73) (.cells #[.int .i64 0,.int .i64 0,.slice none 0 0] 76);have z0:W0.heap.size=w.heap.size+3:=by rw[<- hW0];simp
 rw[hW0]at r0 r1 r2 bb
 have hl0:=h.below bb;go_enter func97,ntmps97
 go_wp2_with ((with_reducible (refine Ar ?_));refine wpList_load_row rfl 76 _ rfl w.heap.size rfl 76 _ (0,0) _ r0 underlying76 rfl (BE ⟨pr,pn⟩ (.slice ax M cp)) ?_)
 clear hW0;refine(Hy ⟨pr,pn⟩ (.slice ax M cp) l W0 hl0 (ht.below bb)).mono ?_;rintro e w1 ⟨rfl,b1⟩;have d1:=bb.trans (b1.mono bb.size);have z1:=b1.size;have q0:=(b1.block w.heap.size (by omega)).trans r0;have q1:=(b1.block (w.heap.size+1) (by omega)).trans r1;have q2:=(b1.block (w.heap.size+2) (by omega)).trans r2;have hl1:=hl0.below b1;clear r0 r1 r2 b1 bb hl0;have c0:w1.cell? ⟨w.heap.size+1,0,none⟩=some (.int .i64 br):=cell_of_row _ _ 0 _ _ _ q1;have c1:w1.cell? ⟨w.heap.size+1,1,none⟩=some (.int .i64 bn):=cell_of_row _ _ 1 _ _ _ q1;have hz3:(#[.int .i64 0,.int .i64 0,.slice none 0 0]:Array Value).all (·.oneCell')=true:=by simp[Value.oneCell']
 have HZero:Hid (∀ E,E≠0->BN ⟨⟨pr,pn⟩,l⟩ ⟨br,bn⟩=E->EO ⟨⟨pr,pn⟩,l⟩ ⟨br,bn⟩=⟨0,0⟩/\EN ⟨⟨pr,pn⟩,l⟩ ⟨br,bn⟩=[]):=λE h1 h2=>⟨if_neg (by rw[h2];exact h1),if_neg (by rw[h2];exact h1)⟩;by_cases h1:AC ⟨⟨pr,pn⟩,l⟩
 .rw[show FF ⟨⟨pr,pn⟩,l⟩=0 from if_pos h1];go_wp2_with fail
  refine(Kb ⟨br,bn⟩ w1).mono ?_;rintro e w2 ⟨rfl,b2⟩;have d2:=d1.trans (b2.mono d1.size);have z2:=b2.size;have hl2:=hl1.below b2;replace q0:=(b2.block w.heap.size (by omega)).trans q0;replace q1:=(b2.block (w.heap.size+1) (by omega)).trans q1;replace q2:=(b2.block (w.heap.size+2) (by omega)).trans q2;have c0:w2.cell? ⟨w.heap.size+1,0,none⟩=some (.int .i64 br):=cell_of_row _ _ 0 _ _ _ q1;have c1:w2.cell? ⟨w.heap.size+1,1,none⟩=some (.int .i64 bn):=cell_of_row _ _ 1 _ _ _ q1;have a0:w2.cell? ⟨w.heap.size,0,none⟩=some (.int .i64 pr):=cell_of_row _ _ 0 _ _ _ q0;have a1:w2.cell? ⟨w.heap.size,1,none⟩=some (.int .i64 pn):=cell_of_row _ _ 1 _ _ _ q0;clear b2 d1 hl1;by_cases h2:Ad ⟨br,bn⟩
  .rw[I' h2];go_wp2_with fail
   refine(Dp ⟨br,bn⟩ ⟨pr,pn⟩ w2).mono ?_;rintro e W ⟨rfl,b3⟩;have d3:=d2.trans (b3.mono d2.size);have z3:=b3.size;have hl:=hl2.below b3;replace q0:=(b3.block w.heap.size (by omega)).trans q0;replace q1:=(b3.block (w.heap.size+1) (by omega)).trans q1;have rR:=(b3.block (w.heap.size+2) (by omega)).trans q2;clear b3 d2 hl2 q2 c0 c1 a0 a1;by_cases h3:Bal.lt ⟨br,bn⟩ ⟨pr,pn⟩
   .rw[I' h3];have HE:Hid (BN ⟨⟨pr,pn⟩,l⟩ ⟨br,bn⟩=7):=by unfold Hid BN;rw[if_neg (λg=>g h1),if_neg (λg=>g h2),if_pos h3]
    go_wp2_with ((with_reducible (refine Ar ?_));refine wpList_store_row rfl 76 (.tmp 4) (.tmp 22) rfl (w.heap.size+2) #[.int .i64 0,.int .i64 0,.slice none 0 0] rfl rfl 76 _ rR (BE ⟨0,0⟩ (.slice none 0 0)) rfl hz3 ?_)
    have q9:=setRow_heap W (w.heap.size+2) _ (#[.int .i64 0,.int .i64 0,.slice none 0 0]) 76 _ rR;have d9:=Ai d3 (show w.heap.size<=w.heap.size+2 by omega) (#[.int .i64 0,.int .i64 0,.slice none 0 0]);have HZ:=HZero.out _ (by decide) HE.out;refine bodyPost_ret (ID rfl _ _ (w.heap.size+2) 76 _ (0,0) _ rfl q9 underlying76 rfl (BE ⟨0,0⟩ (.slice none 0 0))) rfl ?_;rw[HE.out,HZ.1,HZ.2];exact⟨.slice none 0 0,.slice none 0 0,rfl,World.ownsRow_nil _ _ _ _,World.ownsRow_nil _ _ _ _,d9⟩
   .rw[D' h3];have HE:Hid (BN ⟨⟨pr,pn⟩,l⟩ ⟨br,bn⟩=0):=by unfold Hid BN;rw[if_neg (λg=>g h1),if_neg (λg=>g h2),if_neg h3]
    have HP:Hid (EO ⟨⟨pr,pn⟩,l⟩ ⟨br,bn⟩=⟨br,bn⟩/\EN ⟨⟨pr,pn⟩,l⟩ ⟨br,bn⟩=l):=⟨if_pos HE.out,if_pos HE.out⟩;have a2:W.cell? ⟨w.heap.size,2,none⟩=some (.slice ax M cp):=cell_of_row _ _ 2 _ _ _ q0;have rB:W.rangeAt (w.heap.size+1) 0 [.int .i64 br,.int .i64 bn]:=QC (cell_of_row _ _ 0 _ _ _ q1) (cell_of_row _ _ 1 _ _ _ q1);have hle:w.heap.size+2<=W.heap.size:=by omega
    have ltR:w.heap.size+2<W.heap.size:=by omega
    clear h1 h2 h3 HZero;go_wp2_with fail
    apply SZ (λg c y W2=>W2.heap[w.heap.size+2]?=some (.cells #[.int .i64 br,.int .i64 bn,.slice g M c] 76)/\W2.ownsRow W.heap.size 138 8 (.slice g M c) l.length (vtL l)/\W2.ownsRow W.heap.size 138 8 y l.length (vtL l)/\Below (w.heap.size+2) W W2)
    .intro K2 HK2;have ed0:Bw W W.drew:=(Below.refl _ _).drew;have ed:Below (w.heap.size+2) W W.drew:=ed0.mono hle;refine wp_region_held (S:=λw'=>Below (w.heap.size+2) W w') (by kernel_rfl) ?_;have hS0:(λw'=>Below (w.heap.size+2) W w') W.drew:=ed;refine Af (i:=0) 23 (v:=.agg #[.int .i64 br,.int .i64 bn]) rfl rfl (by kernel_rfl) (by kernel_rfl) (by kernel_rfl) (λ_ _ _ h=>h) (yieldsIf_load_mid (by rfl) 73 (.tmp 3) rfl (w.heap.size+1) 0 rfl [.int .i64 br,.int .i64 bn] _ (λw' hw'=>Gm hw' (by omega) rB) underlying73 rfl J6) hS0 ?_;simp only[Act.put,M',X',fu];refine Af (i:=1) 24 (v:=.pointer (some ⟨w.heap.size,2,none⟩)) rfl rfl (by kernel_rfl) (by kernel_rfl) (by kernel_rfl) (λ_ _ _ h=>h) (ig ⟨by rfl,λ_ _=>by kernel_rfl⟩) hS0 ?_;simp only[Act.put,M',X',fu];refine Af (i:=2) 25 (v:=.slice ax M cp) rfl rfl (by kernel_rfl) (by kernel_rfl) (by kernel_rfl) (λ_ _ _ h=>h) (FE (by rfl) 74 (.tmp 24) rfl _ underlying74 rfl ⟨w.heap.size,2,none⟩ rfl (.slice ax M cp) (λw' hw'=>(hw'.cell (p:=⟨w.heap.size,2,none⟩) (show w.heap.size<w.heap.size+2 by omega)).trans a2)) hS0 ?_;simp only[Act.put,M',X',fu];refine Af (i:=5) 28 (v:=.pointer (some ⟨w.heap.size,2,none⟩)) rfl rfl (by kernel_rfl) (by kernel_rfl) (by kernel_rfl) (λ_ _ _ h=>h) (ig ⟨by rfl,λ_ _=>by kernel_rfl⟩) hS0 ?_;simp only[Act.put,M',X',fu];refine Af (i:=6) 29 (v:=.slice ax M cp) rfl rfl (by kernel_rfl) (by kernel_rfl) (by kernel_rfl) (λ_ _ _ h=>h) (FE (by rfl) 74 (.tmp 28) rfl _ underlying74 rfl ⟨w.heap.size,2,none⟩ rfl (.slice ax M cp) (λw' hw'=>(hw'.cell (p:=⟨w.heap.size,2,none⟩) (show w.heap.size<w.heap.size+2 by omega)).trans a2)) hS0 ?_;simp only[Act.put,M',X',fu];refine Bz (i:=3) (by kernel_rfl) (Gk (i:=3) (d:=26) (f:=131) (args:=#[.slice ax M cp]) rfl (by kernel_rfl) rfl (by kernel_rfl) ((JH _ l _ (hl.below ed0)).mono ?_));rintro e' w5 ⟨x5,rfl,o5,b5⟩;have e5:Bw W w5:=ed0.trans (b5.mono ed0.size);have s5:=Sv.ofOwns o5 (by have:=HM.out;omega);obtain⟨a5,c5,h5⟩:=s5.shape;rw[HM.out]at h5
     subst h5;refine⟨_,rfl,e5.mono hle,?_⟩;simp only[Act.put,M',X',fu];refine Af (i:=4) 27 (v:=.agg #[.int .i64 br,.int .i64 bn,(.slice a5 M c5)]) rfl rfl (by kernel_rfl) (by kernel_rfl) (by kernel_rfl) (λ_ _ _ h=>h) (ig ⟨by rfl,λ_ _=>by kernel_rfl⟩) (e5.mono hle) ?_;simp only[Act.put,M',X',fu];refine Bz (i:=7) (by kernel_rfl) (Gk (i:=7) (d:=30) (f:=131) (args:=#[.slice ax M cp]) rfl (by kernel_rfl) rfl (by kernel_rfl) ((JH _ l _ (hl.below e5)).mono ?_));rintro e' w6 ⟨x6,rfl,o6,b6⟩;have e6:Bw W w6:=e5.trans (b6.mono e5.size);have s6:=Sv.ofOwns o6 (by have:=HM.out;omega);have s56:=s5.below b6;refine⟨_,rfl,e6.mono hle,?_⟩;simp only[Act.put,M',X',fu];have hone:(#[.int .i64 br,.int .i64 bn,(.slice a5 M c5)]:Array Value).all (·.oneCell')=true:=by simp[Value.oneCell']
     have rS:=(e6.block (w.heap.size+2) ltR).trans rR;have e7:Below (w.heap.size+2) W (w6.setRow (w.heap.size+2) #[.int .i64 br,.int .i64 bn,(.slice a5 M c5)]):=Ai (e6.mono hle) (A' _) _;have q7:=setRow_heap w6 (w.heap.size+2) _ (#[.int .i64 br,.int .i64 bn,(.slice a5 M c5)]) 76 _ rS;have t5:(w6.setRow (w.heap.size+2) #[.int .i64 br,.int .i64 bn,(.slice a5 M c5)]).ownsRow W.heap.size 138 8 (.slice a5 M c5) l.length (vtL l):=Bh (E3 (E3 o5 (λk hk=>b6.block k (o5.lt k hk).2)) (λk hk=>setRow_other _ _ _ _ (by have:=(o5.lt k hk).1;have:=ed0.size;omega))) ed0.size;have t6:(w6.setRow (w.heap.size+2) #[.int .i64 br,.int .i64 bn,(.slice a5 M c5)]).ownsRow W.heap.size 138 8 x6 l.length (vtL l):=Bh (E3 o6 (λk hk=>setRow_other _ _ _ _ (by have:=(o6.lt k hk).1;have:=e5.size;omega))) e5.size;refine Bz (i:=8) (by kernel_rfl) (GP (i:=8) rfl (by kernel_rfl) rfl 76 (.tmp 4) (.tmp 27) rfl (w.heap.size+2) #[.int .i64 br,.int .i64 bn,(.slice a5 M c5)] (by kernel_rfl) (by kernel_rfl) 76 _ rS (BE ⟨br,bn⟩ (.slice a5 M c5)) rfl hone ⟨e7,?_⟩);refine Af (i:=9) 5 (v:=x6) rfl rfl (by kernel_rfl) (by kernel_rfl) (by kernel_rfl) (λ_ _ _ h=>h) (ig ⟨by rfl,λ_ _=>by kernel_rfl⟩) e7 ?_;simp only[Act.put,M',X',fu];refine Af (i:=10) 6 (v:=.int .i64 0) rfl rfl (by kernel_rfl) (by kernel_rfl) (by kernel_rfl) (λ_ _ _ h=>h) (ig ⟨by rfl,λ_ _=>by kernel_rfl⟩) e7 ?_;simp only[Act.put,M',X',fu];exact wpAnyH_done (by kernel_rfl) (HK2.out a5 c5 x6 _ ⟨q7,t5,t6,e7⟩) _
    intro g c y W2 hW2;obtain⟨q7,t5,t6,e7⟩:=hW2;have d7:=d3.trans (e7.mono (by omega));clear rR q0 q1 a2 rB;go_wp2
    refine bodyPost_ret (ID rfl _ _ (w.heap.size+2) 76 _ (0,0) _ rfl q7 underlying76 rfl (BE ⟨br,bn⟩ (.slice g M c))) rfl ?_;rw[HE.out,HP.out.1,HP.out.2];exact⟨.slice g M c,y,rfl,Bh t5 d3.size,Bh t6 d3.size,d7⟩
  .rw[D' h2];have HE:Hid (BN ⟨⟨pr,pn⟩,l⟩ ⟨br,bn⟩=2):=by unfold Hid BN;rw[if_neg (λg=>g h1),if_pos h2]
   clear c0 c1 a0 a1;go_wp2_with ((with_reducible (refine Ar ?_));refine wpList_store_row rfl 76 (.tmp 4) (.tmp 17) rfl (w.heap.size+2) #[.int .i64 0,.int .i64 0,.slice none 0 0] rfl rfl 76 _ q2 (BE ⟨0,0⟩ (.slice none 0 0)) rfl hz3 ?_)
   have q9:=setRow_heap w2 (w.heap.size+2) _ (#[.int .i64 0,.int .i64 0,.slice none 0 0]) 76 _ q2;have d9:=Ai d2 (show w.heap.size<=w.heap.size+2 by omega) (#[.int .i64 0,.int .i64 0,.slice none 0 0]);have HZ:=HZero.out _ (by decide) HE.out;refine bodyPost_ret (ID rfl _ _ (w.heap.size+2) 76 _ (0,0) _ rfl q9 underlying76 rfl (BE ⟨0,0⟩ (.slice none 0 0))) rfl ?_;rw[HE.out,HZ.1,HZ.2];exact⟨.slice none 0 0,.slice none 0 0,rfl,World.ownsRow_nil _ _ _ _,World.ownsRow_nil _ _ _ _,d9⟩
 .rw[show FF ⟨⟨pr,pn⟩,l⟩=5 from if_neg h1];have HE:Hid (BN ⟨⟨pr,pn⟩,l⟩ ⟨br,bn⟩=5):=by unfold Hid BN;rw[if_pos h1]
  clear c0 c1;go_wp2_with ((with_reducible (refine Ar ?_));refine wpList_store_row rfl 76 (.tmp 4) (.tmp 12) rfl (w.heap.size+2) #[.int .i64 0,.int .i64 0,.slice none 0 0] rfl rfl 76 _ q2 (BE ⟨0,0⟩ (.slice none 0 0)) rfl hz3 ?_)
  have q9:=setRow_heap w1 (w.heap.size+2) _ (#[.int .i64 0,.int .i64 0,.slice none 0 0]) 76 _ q2;have d9:=Ai d1 (show w.heap.size<=w.heap.size+2 by omega) (#[.int .i64 0,.int .i64 0,.slice none 0 0]);have HZ:=HZero.out _ (by decide) HE.out;refine bodyPost_ret (ID rfl _ _ (w.heap.size+2) 76 _ (0,0) _ rfl q9 underlying76 rfl (BE ⟨0,0⟩ (.slice none 0 0))) rfl ?_;rw[HE.out,HZ.1,HZ.2];exact⟨.slice none 0 0,.slice none 0 0,rfl,World.ownsRow_nil _ _ _ _,World.ownsRow_nil _ _ _ _,d9⟩
theorem Cz(a:Acc)(b:Bal):(EN a b).length<=a.vs.length:=by unfold EN;split<;>simp
theorem O0(p:Bal)(x:Value)(l:List Vt)(b:Bal)(w:World)(h:Sv w x l)(ht:NTab w) :
  Calls prog 97 #[.agg (acA p x),.agg (baA b)] w λe w'=>∃ y z,e=.returned (.tuple #[.agg (acA (EO ⟨p,l⟩ b) y),z,.int .i64 (BN ⟨p,l⟩ b)])/\Sv w' y (EN ⟨p,l⟩ b)/\Sv w' z (EN ⟨p,l⟩ b)/\Bw w w':=by
 refine(Cp p x l b w h ht).mono ?_;rintro e w' ⟨y,z,he,hy,hz,hb⟩;have h1:=Cz ⟨p,l⟩ b;have h2:=h.len;exact⟨y,z,he,Sv.ofOwns hy (fy h1 h2),Sv.ofOwns hz (fy h1 h2),hb⟩
end Go.Proofs.YtalbmmghmoggcabGreatDoor
