/- Part 21 of the walk: what the functions of the program do, one by one. -/
import Derived.Test.YtakgfdbjgeopdaaGreatDoorZ20
set_option maxRecDepth 100000
set_option maxHeartbeats 4000000
open Go.Proofs.Tryz
set_option linter.unusedVariables false
namespace Go.Proofs.YtakgfdbjgeopdaaGreatDoor
open Go.RowKit
section
variable{P:Program}{md:Region.Mode}{ops:Array Oper}{Q:Exit→Act→World→Prop}{S:World→Prop}
theorem UA{i d:Nat}{o:Oper}{a:Act}{w:World}{K:Act→World→Prop}(ho:ops[i]?=some o)(hw:Region.wanted o (yielded ops a.tmps)=true)(hd:o.dst=some d)(t:TypeId)(m x:Operand)(hop:o.op=.lookup t m x false)
  (mv xv v:Value)(hm:a.eval m=mv)(hx:a.eval x=xv)(hrun:(Instr.lookup t mv xv false).run P w=.ok v w)(h:K (a.put (some d) v) w):wpOp P ops Q i K a w :=
 UB ho hw hd (by unfold execOp;simp only[hop,hm,hx,Sem.run_bind,hrun,Result.andThen_ok,Sem.run_pure]) h
theorem QK{i d:Nat}{o:Oper}{a:Act}{w w':World}{K:Act→World→Prop}(ho:ops[i]?=some o)(hw:Region.wanted o (yielded ops a.tmps)=true)(hd:o.dst=some d)(t:TypeId)(m x:Operand)(hop:o.op=.mapEntry t m x)
  (mv xv v:Value)(hm:a.eval m=mv)(hx:a.eval x=xv)(hrun:(Instr.mapEntry t mv xv).run P w=.ok v w')(h:K (a.put (some d) v) w'):wpOp P ops Q i K a w :=
 UB ho hw hd (by unfold execOp;simp only[hop,hm,hx,Sem.run_bind,hrun,Result.andThen_ok,Sem.run_pure]) h
theorem NJ{i:Nat}{o:Oper}{a:Act}{w w':World}{K:Act→World→Prop}(ho:ops[i]?=some o)(hw:Region.wanted o (yielded ops a.tmps)=true)(hd:o.dst=none)(t:TypeId)(m x y:Operand)(hop:o.op=.entryStore t m x y)
  (mv xv yv:Value)(hm:a.eval m=mv)(hx:a.eval x=xv)(hy:a.eval y=yv)(hrun:(Instr.entryStore t mv xv yv).run P w=.ok () w')(h:K a w'):wpOp P ops Q i K a w :=
 wpOp_step ho fun K' hK=>by
  rw[if_pos hw];unfold Oper.wp execOp;simp only[hop,hm,hx,hy,Sem.run_bind,hrun,Result.andThen_ok,Sem.run_pure];exact hK _ _ (by rw[hd];exact h)
end
theorem LM{ops:Array Oper}{S:World→Prop}{op:Oper}{a:Act}(hw:Region.wanted op (yielded ops a.tmps)=true)(x:Operand)(ho:op.op=.binOp .add 3 x (.const (.int .i64 1)) 3)(n m:Nat)(hx:a.eval x=.int .i64 (n:Int))(hm:m=n+1)(h0:n≤1000) :
  YieldsIf prog ops S op (.int .i64 (m:Int)) a :=
 .inl ⟨hw,fun w _=>by
  have hc:a.eval (.const (.int .i64 1))=.int .i64 1:=rfl;unfold execOp;simp only[ho,hx,hc];simp[go_sem];rw[IntKind.wrap_i64];omega⟩
theorem UG{P:Program}{id:Nat}{ops:Array Oper}{K:Act→World→Prop}{Q:Exit→Act→World→Prop}{a:Act}{w:World}(R:Nat→World→Prop){A:Nat→Act}
  (hreg:∀ K':Act→World→Prop,Hid (∀ x W2,R x W2→K' (A x) W2)→(Code.region id ops true).wp P (Exit.then K' Q) a w)(hrest:∀ x W2,R x W2→K (A x) W2):(Code.region id ops true).wp P (Exit.then K Q) a w:=hreg K hrest
def GA(l:List Vt)(m:Nat):Cmd:=((Hi l m).map (·.w)).getD ⟨0,0,0,0,0⟩
def GB(l:List Vt)(m:Nat):Int:=if(Hi l m).isSome then 0 else 9
theorem Lp{l:List Vt}{m:Nat}{v:Vt}(h:Hi l m=some v):GA l m=v.w∧GB l m=0:=by unfold GA GB;rw[h];exact⟨rfl,rfl⟩
theorem Lo{l:List Vt}{m:Nat}(h:Hi l m=none):GA l m=⟨0,0,0,0,0⟩∧GB l m=9:=by unfold GA GB;rw[h];exact⟨rfl,rfl⟩
theorem Gp:(prog.info? 25).map (·.size)=some 5:=by kernel_rfl
theorem ST:(prog.info? 115).map (·.size)=some 3:=by kernel_rfl
theorem NG(l:List Vt)(u v:Vt):Cv (l++[u]) v=if v=u then Cv l v+1 else Cv l v:=by
 unfold Cv;rw[List.countP_append];by_cases e:v=u
 ·subst e;simp
 ·rw[if_neg e];simp;exact fun g=>e g.symm
theorem Uw(x:Value)(ac:List Acc)(s:Int)(w:World)(h:Sac w x ac)(hn5:ac.length≤5)(hmay:∀ a∈ac,AE a) :
  Calls prog 232 #[x,.int .i64 s] w fun e w'=>e=.returned (.tuple #[.agg (cmC (GA (EG ac s) ac.length)),.int .i64 (GB (EG ac s) ac.length)])∧Below w.heap.size w w':=by
 have HMay:Hid (∀ a∈ac,AE a):=hmay;clear hmay;obtain⟨ax,cp,rfl⟩:=h.shape;obtain⟨N,hN⟩:∃ N,ac.length=N:=⟨_,rfl⟩;have HN:Hid (ac.length=N):=hN;rw[hN]at h hn5 ⊢
 clear hN;have hz5:(#[.int .i64 0,.int .i64 0,.int .i64 0,.int .i64 0,.int .i64 0]:Array Value).all (·.oneCell')=true:=by simp[Value.oneCell']
 have rr:=heap_alloc_new w (.cells #[.int .i64 0,.int .i64 0,.int .i64 0,.int .i64 0,.int .i64 0] 25);have bb:Below w.heap.size w (w.alloc (.cells #[.int .i64 0,.int .i64 0,.int .i64 0,.int .i64 0,.int .i64 0] 25)):=(Below.refl _ _).alloc (Nat.le_refl _) _;have z0:(w.alloc (.cells #[.int .i64 0,.int .i64 0,.int .i64 0,.int .i64 0,.int .i64 0] 25)).heap.size=w.heap.size+1:=by simp
 generalize hW0:w.alloc (.cells #[.int .i64 0,.int .i64 0,.int .i64 0,.int .i64 0,.int .i64 0] 25)=w1 at rr bb z0;have h0:=h.below bb;clear h;have b0:Below (w.heap.size+1) w1 (w1.alloc (.map #[] 0)):=(Below.refl _ _).alloc (by omega) _;have v0:CMap (w1.alloc (.map #[] 0)) (w.heap.size+1) []:=by rw[← z0];exact CMap.made _
 generalize hWA:w1.alloc (.map #[] 0)=WA at b0 v0;have hmm:=@run_makeMap prog;go_enter func232,ntmps232
 go_wp2_with fail
 clear hWA hW0 hmm;have hne:w.heap.size<w.heap.size+1:=by omega
 generalize hB:w.heap.size+1=B at b0 v0 z0 hne ⊢;have HB:Hid (B=w1.heap.size):=z0.symm;clear hB z0
 go_loopw [14] (fun iv wr=>∃ (j:Nat) (c:List Cnt),j≤N∧iv=.int .i64 (j:Int)∧CMap wr B c∧(∀ v,CK c v=Cv (Am ((ac.take j).map (·.vs)).flatten s) v)∧(∀ v,2*Cv (Am ((ac.take j).map (·.vs)).flatten s) v≤N)∧Below B w1 wr) (fun iv _=>((N:Int)-intOf iv).toNat)
 case atStart=>exact⟨0,[],by omega,rfl,v0,fun v=>rfl,fun v=>by simp[Cv,Am],b0⟩
 case round =>
  clear v0 b0;obtain⟨j,c,hj,rfl,hcm,hcnt,hle,hbel⟩:=hrel;have HC:Hid (∀ v,CK c v=Cv (Am ((ac.take j).map (·.vs)).flatten s) v):=hcnt;have HL:Hid (∀ v,2*Cv (Am ((ac.take j).map (·.vs)).flatten s) v≤N):=hle;clear hcnt hle;by_cases hjN:j<N
  ·have hji:(j:Int)<(N:Int):=by omega
   obtain⟨A,hA⟩:∃ A,ac[j]?=some A:=⟨_,List.getElem?_eq_getElem (by have:=HN.out;omega)⟩;obtain⟨b,off,y,rfl,ltb,hr0,hsy0⟩:=h0.spot j A hA;have hma:AE A:=HMay.out A (List.mem_iff_getElem?.2 ⟨j,hA⟩);obtain⟨⟨pr,pn⟩,l⟩:=A;simp only at hr0 hsy0;have hixA:=Ly b off N cp j hjN;obtain⟨ay,cy,hy⟩:=hsy0.shape;obtain⟨M,hM⟩:∃ M,l.length=M:=⟨_,rfl⟩;have HM:Hid (l.length=M):=hM;rw[hM]at hy
   subst hy;have HRise:Hid (B4 l):=hma.2.2;have HF:Hid (((ac.take (j+1)).map (·.vs)).flatten=((ac.take j).map (·.vs)).flatten++l):=Qh ac j _ hA;clear hA hM hma;have hrw:=FZ hbel (show b<B by rw[HB.out];exact ltb) hr0;have hsy:=hsy0.below (hbel.mono (by rw[HB.out];exact Nat.le_refl _));have bN:Below wr.heap.size wr (wr.alloc (.cells #[.int .i64 0,.int .i64 0,.slice none 0 0] 115)):=(Below.refl _ _).alloc (Nat.le_refl _) _;have rN:=heap_alloc_new wr (.cells #[.int .i64 0,.int .i64 0,.slice none 0 0] 115);have hone:(#[.int .i64 pr,.int .i64 pn,.slice ay M cy]:Array Value).all (·.oneCell')=true:=by simp[Value.oneCell']
   generalize hWN:wr.alloc (.cells #[.int .i64 0,.int .i64 0,.slice none 0 0] 115)=WN at bN rN
   go_upto_region 5 with((with_reducible (refine As ?_));first|(refine wpList_load_mid rfl 115 _ rfl b (off+3*j) rfl [.int .i64 pr,.int .i64 pn,.slice ay M cy] _ hrw underlying115 rfl ST ?_)|(refine wpList_store_row rfl 115 (.tmp 8) (.tmp 17) rfl wr.heap.size (#[.int .i64 pr,.int .i64 pn,.slice ay M cy]) rfl rfl 115 _ rN ST rfl hone ?_))
   clear hWN;have q:=setRow_heap WN wr.heap.size _ (#[.int .i64 pr,.int .i64 pn,.slice ay M cy]) 115 _ rN;replace bN:=Aj bN (Nat.le_refl _) (#[.int .i64 pr,.int .i64 pn,.slice ay M cy]);generalize WN.setRow wr.heap.size (#[.int .i64 pr,.int .i64 pn,.slice ay M cy])=W at q bN ⊢;have ltG:wr.heap.size<W.heap.size:=(Array.getElem?_eq_some_iff.1 q).1;have hcW:=hcm.below bN;have hszB:=hbel.size;have ltB:B<wr.heap.size:=hcm.lt;have eW:=hbel.trans (bN.mono (by omega));have sW:=hsy.below bN;generalize wr.heap.size=G at q ltG ltB ⊢;have c2:W.cell? ⟨G,2,none⟩=some (.slice ay M cy):=cell_of_row _ _ 2 _ _ _ q;clear rN hrw hixA bN hcm hsy hbel hszB;go_wp2_with fail
   refine(Iy _ l s W HRise.out sW).mono ?_;rintro e W2 ⟨p,rfl,hp,b2⟩;have HP:Hid (Plc l s p):=hp;have c2:=(b2.cell (p:=⟨G,2,none⟩) ltG).trans c2;have hc2:=hcW.below b2;have s2:=sW.below b2;have e2:=eW.trans (b2.mono (by omega));have ltG2:G<W2.heap.size:=Nat.lt_of_lt_of_le ltG b2.size;clear hp b2 hcW sW eW q ltG;go_wp2_with fail
   refine(Ir _ l p s W2 s2).mono ?_;rintro e W3 ⟨rfl,rfl⟩;generalize hh:Jy l p s=bh;cases bh
   ·have HT:Hid (Am ((ac.take (j+1)).map (·.vs)).flatten s=Am ((ac.take j).map (·.vs)).flatten s):=by
     unfold Hid;rw[HF.out,CH,Plc.ofSlot_no HRise.out HP.out (Jz hh),List.append_nil]
    clear hh;go_wp2
    go_roundw
    case rel=>exact⟨j+1,c,by omega,by go_num,hc2,by rw[HT.out];exact HC.out,by rw[HT.out];exact HL.out,e2⟩
    case measure=>simp[intOf];omega
   ·obtain⟨u,hu,hus⟩:=Lc hh;have HT:Hid (Am ((ac.take (j+1)).map (·.vs)).flatten s=Am ((ac.take j).map (·.vs)).flatten s++[u]):=by
     unfold Hid;rw[HF.out,CH,Plc.ofSlot_has HRise.out hu hus]
    have hpM:p<M:=by have:=(List.getElem?_eq_some_iff.1 hu).1;have:=HM.out;omega
    obtain⟨b4,o4,hay,ltb4,hr4⟩:=s2.spot p u hu;subst hay;have hix:=Dd b4 o4 M cy p hpM;have hi:=H7 u;have hcn:CK c u=Cv (Am ((ac.take j).map (·.vs)).flatten s) u:=HC.out u;have hn2:=HL.out u;obtain⟨n,hnn⟩:∃ n,Cv (Am ((ac.take j).map (·.vs)).flatten s) u=n:=⟨_,rfl⟩;rw[hnn]at hcn hn2
    have HN1:Hid (Cv (Am ((ac.take (j+1)).map (·.vs)).flatten s) u=n+1):=by unfold Hid;rw[HT.out,NG,if_pos rfl,hnn]
    have HNx:Hid (∀ v,Cv (Am ((ac.take (j+1)).map (·.vs)).flatten s) v=if v=u then n+1 else Cv (Am ((ac.take j).map (·.vs)).flatten s) v):=fun v=>by
     rw[HT.out,NG];split
     ·rename_i g;rw[g,hnn]
     ·rfl
    clear hu hus hh hnn HT;obtain⟨us,⟨ur,un⟩,⟨uk,uc,uq,um,ux⟩⟩:=u;simp only[vtC]at hr4 hi;have bN:Below W3.heap.size W3 (W3.alloc (.cells #[.int .i64 0,.int .i64 0,.int .i64 0,.int .i64 0,.int .i64 0,.int .i64 0,.int .i64 0,.int .i64 0] 175)):=(Below.refl _ _).alloc (Nat.le_refl _) _;have rN:=heap_alloc_new W3 (.cells #[.int .i64 0,.int .i64 0,.int .i64 0,.int .i64 0,.int .i64 0,.int .i64 0,.int .i64 0,.int .i64 0] 175);have hone8:(#[.int .i64 us,.int .i64 ur,.int .i64 un,.int .i64 uk,.int .i64 uc,.int .i64 uq,.int .i64 um,.int .i64 ux]:Array Value).all (·.oneCell')=true:=by simp[Value.oneCell']
    generalize hWN:W3.alloc (.cells #[.int .i64 0,.int .i64 0,.int .i64 0,.int .i64 0,.int .i64 0,.int .i64 0,.int .i64 0,.int .i64 0] 175)=WN at bN rN
    go_upto_region 8 with((with_reducible (refine As ?_));first|(refine wpList_load_mid rfl 175 _ rfl b4 (o4+8*p) rfl [.int .i64 us,.int .i64 ur,.int .i64 un,.int .i64 uk,.int .i64 uc,.int .i64 uq,.int .i64 um,.int .i64 ux] _ hr4 underlying175 rfl hi ?_)|(refine wpList_store_row rfl 175 (.tmp 10) (.tmp 32) rfl W3.heap.size (#[.int .i64 us,.int .i64 ur,.int .i64 un,.int .i64 uk,.int .i64 uc,.int .i64 uq,.int .i64 um,.int .i64 ux]) rfl rfl 175 _ rN hi rfl hone8 ?_))
    clear hWN;have q:=setRow_heap WN W3.heap.size _ (#[.int .i64 us,.int .i64 ur,.int .i64 un,.int .i64 uk,.int .i64 uc,.int .i64 uq,.int .i64 um,.int .i64 ux]) 175 _ rN;replace bN:=Aj bN (Nat.le_refl _) (#[.int .i64 us,.int .i64 ur,.int .i64 un,.int .i64 uk,.int .i64 uc,.int .i64 uq,.int .i64 um,.int .i64 ux]);generalize WN.setRow W3.heap.size (#[.int .i64 us,.int .i64 ur,.int .i64 un,.int .i64 uk,.int .i64 uc,.int .i64 uq,.int .i64 um,.int .i64 ux])=W at q bN ⊢;have ltG3:W3.heap.size<W.heap.size:=(Array.getElem?_eq_some_iff.1 q).1;have hcW:=hc2.below bN;have ltB3:B<W3.heap.size:=hc2.lt;have eW:=e2.trans (bN.mono (by omega));generalize W3.heap.size=G2 at q ltG3 ltB3 ⊢;clear rN hr4 hix bN hc2 e2 c2 s2 ltb4;apply UG (fun born W2=>∃ c',CMap W2 B c'∧(∀ u,CK c' u=if u=⟨us,⟨ur,un⟩,⟨uk,uc,uq,um,ux⟩⟩then n+1 else CK c u)∧W2.heap[G2]?=some (.cells (vtA ⟨us,⟨ur,un⟩,⟨uk,uc,uq,um,ux⟩⟩) 175 (0,0))∧Below B W W2)
    ·intro K2 HK2;refine wp_region_held (S:=fun w':World=>w'.heap[G2]?=some (.cells (vtA ⟨us,⟨ur,un⟩,⟨uk,uc,uq,um,ux⟩⟩) 175 (0,0))) (by kernel_rfl) ?_;have hS0:(fun w':World=>w'.heap[G2]?=some (.cells (vtA ⟨us,⟨ur,un⟩,⟨uk,uc,uq,um,ux⟩⟩) 175 (0,0))) W.drew:=q;have hcd:CMap W.drew B c:=hcW.keep rfl;refine Ac (i:=0) 33 (v:=.map (some B)) rfl rfl (by kernel_rfl) (by kernel_rfl) (by kernel_rfl) (fun _ _ _ h=>h) (Or.inl ⟨by rfl,fun _ _=>by kernel_rfl⟩) hS0 ?_;simp only[Act.put,List.setIfInBounds_toArray,List.set_cons_zero,List.set_cons_succ];refine Ac (i:=1) 34 (v:=.agg (vtA ⟨us,⟨ur,un⟩,⟨uk,uc,uq,um,ux⟩⟩)) rfl rfl (by kernel_rfl) (by kernel_rfl) (by kernel_rfl) (fun _ _ _ h=>h) (X9 (by rfl) (.tmp 10) rfl G2 rfl ⟨us,⟨ur,un⟩,⟨uk,uc,uq,um,ux⟩⟩ (fun w' hw'=>hw')) hS0 ?_;simp only[Act.put,List.setIfInBounds_toArray,List.set_cons_zero,List.set_cons_succ];obtain⟨ca,cd,born,w5,hrun5,hc5,ha5,hu5,b5,k5⟩:=hcd.entry ⟨us,⟨ur,un⟩,⟨uk,uc,uq,um,ux⟩⟩;have hn5:CK c ⟨us,⟨ur,un⟩,⟨uk,uc,uq,um,ux⟩⟩=n:=hcn;rw[hn5]at hrun5 hc5 hu5
     have hS5:w5.heap[G2]?=some (.cells (vtA ⟨us,⟨ur,un⟩,⟨uk,uc,uq,um,ux⟩⟩) 175 (0,0)):=(k5 G2 (by omega)).trans hS0;obtain⟨w6,hrun6,hc6,b6,k6⟩:=hc5.store (n+1);have hS6:w6.heap[G2]?=some (.cells (vtA ⟨us,⟨ur,un⟩,⟨uk,uc,uq,um,ux⟩⟩) 175 (0,0)):=(k6 G2 (by omega)).trans hS5;have hlk0:=hcd.look ⟨us,⟨ur,un⟩,⟨uk,uc,uq,um,ux⟩⟩;rw[hn5]at hlk0
     have hlk5:=hc5.look ⟨us,⟨ur,un⟩,⟨uk,uc,uq,um,ux⟩⟩;rw[hu5,hn5]at hlk5
     have RES:Hid (∃ c',CMap w6 B c'∧(∀ u,CK c' u=if u=⟨us,⟨ur,un⟩,⟨uk,uc,uq,um,ux⟩⟩then n+1 else CK c u)∧w6.heap[G2]?=some (.cells (vtA ⟨us,⟨ur,un⟩,⟨uk,uc,uq,um,ux⟩⟩) 175 (0,0))∧Below B W w6):=⟨_,hc6,fun u=>by rw[Rq (n:=n) ha5,hu5],hS6,((Below.refl B W).drew.trans b5).trans b6⟩;refine Wq (i:=2) (i':=4) (by kernel_rfl) (UA (i:=2) (d:=35) rfl (by kernel_rfl) rfl 295 (.tmp 33) (.tmp 34) rfl (.map (some B)) (.agg (vtA ⟨us,⟨ur,un⟩,⟨uk,uc,uq,um,ux⟩⟩)) (.int .i64 (n:Int)) (by kernel_rfl) (by kernel_rfl) hlk0 ⟨hS0,?_⟩) (QK (i:=4) (d:=37) rfl (by kernel_rfl) rfl 295 (.tmp 33) (.tmp 34) rfl (.map (some B)) (.agg (vtA ⟨us,⟨ur,un⟩,⟨uk,uc,uq,um,ux⟩⟩)) (.tuple #[.int .i64 (n:Int),.int .i64 (born:Int)]) (by kernel_rfl) (by kernel_rfl) hrun5 ⟨hS5,?_⟩)
     ·simp only[Act.put,List.setIfInBounds_toArray,List.set_cons_zero,List.set_cons_succ];refine Ac (i:=3) 36 (v:=.int .i64 ((n+1:Nat):Int)) rfl rfl (by kernel_rfl) (by kernel_rfl) (by kernel_rfl) (fun _ _ _ h=>h) (LM (by rfl) (.tmp 35) rfl n (n+1) rfl rfl (by omega)) hS0 ?_;simp only[Act.put,List.setIfInBounds_toArray,List.set_cons_zero,List.set_cons_succ];refine AM (i:=4) (by kernel_rfl) (QK (i:=4) (d:=37) rfl (by kernel_rfl) rfl 295 (.tmp 33) (.tmp 34) rfl (.map (some B)) (.agg (vtA ⟨us,⟨ur,un⟩,⟨uk,uc,uq,um,ux⟩⟩)) (.tuple #[.int .i64 (n:Int),.int .i64 (born:Int)]) (by kernel_rfl) (by kernel_rfl) hrun5 ⟨hS5,?_⟩);simp only[Act.put,List.setIfInBounds_toArray,List.set_cons_zero,List.set_cons_succ];refine Ac (i:=5) 38 (v:=.int .i64 (born:Int)) rfl rfl (by kernel_rfl) (by kernel_rfl) (by kernel_rfl) (fun _ _ _ h=>h) (Or.inl ⟨by rfl,fun _ _=>by kernel_rfl⟩) hS5 ?_;simp only[Act.put,List.setIfInBounds_toArray,List.set_cons_zero,List.set_cons_succ];refine AM (i:=6) (by kernel_rfl) (NJ (i:=6) rfl (by kernel_rfl) rfl 295 (.tmp 33) (.tmp 38) (.tmp 36) rfl (.map (some B)) (.int .i64 (born:Int)) (.int .i64 ((n+1:Nat):Int)) (by kernel_rfl) (by kernel_rfl) (by kernel_rfl) hrun6 ⟨hS6,?_⟩);exact wpAnyH_done (by kernel_rfl) (HK2.out born _ RES.out) _
     ·simp only[Act.put,List.setIfInBounds_toArray,List.set_cons_zero,List.set_cons_succ];refine Ac (i:=5) 38 (v:=.int .i64 (born:Int)) rfl rfl (by kernel_rfl) (by kernel_rfl) (by kernel_rfl) (fun _ _ _ h=>h) (Or.inl ⟨by rfl,fun _ _=>by kernel_rfl⟩) hS5 ?_;simp only[Act.put,List.setIfInBounds_toArray,List.set_cons_zero,List.set_cons_succ];refine AM (i:=2) (by kernel_rfl) (UA (i:=2) (d:=35) rfl (by kernel_rfl) rfl 295 (.tmp 33) (.tmp 34) rfl (.map (some B)) (.agg (vtA ⟨us,⟨ur,un⟩,⟨uk,uc,uq,um,ux⟩⟩)) (.int .i64 (n:Int)) (by kernel_rfl) (by kernel_rfl) hlk5 ⟨hS5,?_⟩);simp only[Act.put,List.setIfInBounds_toArray,List.set_cons_zero,List.set_cons_succ];refine Ac (i:=3) 36 (v:=.int .i64 ((n+1:Nat):Int)) rfl rfl (by kernel_rfl) (by kernel_rfl) (by kernel_rfl) (fun _ _ _ h=>h) (LM (by rfl) (.tmp 35) rfl n (n+1) rfl rfl (by omega)) hS5 ?_;simp only[Act.put,List.setIfInBounds_toArray,List.set_cons_zero,List.set_cons_succ];refine AM (i:=6) (by kernel_rfl) (NJ (i:=6) rfl (by kernel_rfl) rfl 295 (.tmp 33) (.tmp 38) (.tmp 36) rfl (.map (some B)) (.int .i64 (born:Int)) (.int .i64 ((n+1:Nat):Int)) (by kernel_rfl) (by kernel_rfl) (by kernel_rfl) hrun6 ⟨hS6,?_⟩);exact wpAnyH_done (by kernel_rfl) (HK2.out born _ RES.out) _
    intro born W5 hW5;obtain⟨c',hc5,hcc,q5,b5⟩:=hW5;have e5:=eW.trans b5;have hlk:=hc5.look ⟨us,⟨ur,un⟩,⟨uk,uc,uq,um,ux⟩⟩;rw[hcc,if_pos rfl]at hlk
    have HCC:Hid (∀ v,CK c' v=Cv (Am ((ac.take (j+1)).map (·.vs)).flatten s) v):=fun v=>by rw[hcc,HNx.out v,HC.out v]
    have HC5:Hid (CMap W5 B c'):=hc5;clear hcc hc5 q eW b5 hcW HC;have hcast:((n+1:Nat):Int)=(n:Int)+1:=by omega
    rw[hcast]at hlk
    by_cases hbig:N<2*(n+1)
    ·have HCH:Hid (GA (EG ac s) N=⟨uk,uc,uq,um,ux⟩∧GB (EG ac s) N=0):=by
      refine Lp (v:=⟨us,⟨ur,un⟩,⟨uk,uc,uq,um,ux⟩⟩) (ON ?_ ?_)
      ·have g:=Yh HMay.out s;rw[HN.out]at g
       exact g
      ·have g:=WL (Am ((ac.take (j+1)).map (·.vs)).flatten s) (Am ((ac.drop (j+1)).map (·.vs)).flatten s) ⟨us,⟨ur,un⟩,⟨uk,uc,uq,um,ux⟩⟩;rw[← CH,← List.flatten_append,← List.map_append,List.take_append_drop,HN1.out]at g
       show N<2*Cv (EG ac s) ⟨us,⟨ur,un⟩,⟨uk,uc,uq,um,ux⟩⟩;unfold EG;omega
     have hbigi:(N:Int)<2*((n:Int)+1):=by omega
     have x3:W5.cell? ⟨G2,3,none⟩=some (.int .i64 uk):=cell_of_row _ _ 3 _ _ _ q5;have x4:W5.cell? ⟨G2,4,none⟩=some (.int .i64 uc):=cell_of_row _ _ 4 _ _ _ q5;have x5:W5.cell? ⟨G2,5,none⟩=some (.int .i64 uq):=cell_of_row _ _ 5 _ _ _ q5;have x6:W5.cell? ⟨G2,6,none⟩=some (.int .i64 um):=cell_of_row _ _ 6 _ _ _ q5;have x7:W5.cell? ⟨G2,7,none⟩=some (.int .i64 ux):=cell_of_row _ _ 7 _ _ _ q5;have rR:=(e5.block w.heap.size hne).trans rr;have hone5:(#[.int .i64 uk,.int .i64 uc,.int .i64 uq,.int .i64 um,.int .i64 ux]:Array Value).all (·.oneCell')=true:=by simp[Value.oneCell']
     go_wp2_with ((with_reducible (refine As ?_));first|(refine wpList_load_row rfl 175 (.tmp 10) rfl G2 rfl 175 _ (0,0) _ q5 underlying175 rfl hi ?_)|(refine wpList_store_row rfl 25 (.tmp 4) (.tmp 47) rfl w.heap.size #[.int .i64 uk,.int .i64 uc,.int .i64 uq,.int .i64 um,.int .i64 ux] rfl rfl 25 _ rR Gp rfl hone5 ?_))
     have q9:=setRow_heap W5 w.heap.size _ (#[.int .i64 uk,.int .i64 uc,.int .i64 uq,.int .i64 um,.int .i64 ux]) 25 _ rR;have d9:=Aj (bb.trans (e5.mono (by omega))) (Nat.le_refl _) (#[.int .i64 uk,.int .i64 uc,.int .i64 uq,.int .i64 um,.int .i64 ux]);refine bodyPost_ret (EV rfl _ _ w.heap.size 25 _ (0,0) _ rfl q9 underlying25 rfl Gp) rfl ?_;rw[HCH.out.1,HCH.out.2];exact⟨rfl,d9⟩
    ·have hbigi:¬ (N:Int)<2*((n:Int)+1):=by omega
     have HL2:Hid (∀ v,2*Cv (Am ((ac.take (j+1)).map (·.vs)).flatten s) v≤N):=fun v=>by
      rw[HNx.out v];split
      ·omega
      ·exact HL.out v
     clear HNx HN1 HL;go_wp2_with ((with_reducible (refine As ?_));(refine wpList_load_row rfl 175 (.tmp 10) rfl G2 rfl 175 _ (0,0) _ q5 underlying175 rfl hi ?_))
     go_roundw
     case rel=>exact⟨j+1,c',by omega,by go_num,HC5.out,HCC.out,HL2.out,e5⟩
     case measure=>simp[intOf];omega
  ·have HCH:Hid (GA (EG ac s) N=⟨0,0,0,0,0⟩∧GB (EG ac s) N=9):=by
    refine Lo (Tr fun v=>?_);have g:=HL.out v;rw[List.take_of_length_le (by have:=HN.out;omega)]at g
    exact g
   have rR:=(hbel.block w.heap.size hne).trans rr;go_wp2_with ((with_reducible (refine As ?_));(refine wpList_store_row rfl 25 (.tmp 4) (.tmp 49) rfl w.heap.size #[.int .i64 0,.int .i64 0,.int .i64 0,.int .i64 0,.int .i64 0] rfl rfl 25 _ rR Gp rfl hz5 ?_))
   have q9:=setRow_heap wr w.heap.size _ (#[.int .i64 0,.int .i64 0,.int .i64 0,.int .i64 0,.int .i64 0]) 25 _ rR;have d9:=Aj (bb.trans (hbel.mono (by omega))) (Nat.le_refl _) (#[.int .i64 0,.int .i64 0,.int .i64 0,.int .i64 0,.int .i64 0]);refine bodyPost_ret (EV rfl _ _ w.heap.size 25 _ (0,0) _ rfl q9 underlying25 rfl Gp) rfl ?_;rw[HCH.out.1,HCH.out.2];exact⟨rfl,d9⟩
theorem Jj(x:Value)(ac:List Acc)(s:Int)(w:World)(h:Sac w x ac)(ht:NTab w) :
  Calls prog 201 #[x,.int .i64 s] w fun e w'=>e=.returned (.tuple #[.agg (cmC (Cp ac s)),.int .i64 (CQ ac s)])∧Below w.heap.size w w':=by
 have hlen:=h.len;obtain⟨ax,cp,rfl⟩:=h.shape;obtain⟨N,hN⟩:∃ N,ac.length=N:=⟨_,rfl⟩;have HN:Hid (ac.length=N):=hN;rw[hN]at h hlen ⊢
 clear hN;have hz5:(#[.int .i64 0,.int .i64 0,.int .i64 0,.int .i64 0,.int .i64 0]:Array Value).all (·.oneCell')=true:=by simp[Value.oneCell']
 have rr:=heap_alloc_new w (.cells #[.int .i64 0,.int .i64 0,.int .i64 0,.int .i64 0,.int .i64 0] 25);have bb:Below w.heap.size w (w.alloc (.cells #[.int .i64 0,.int .i64 0,.int .i64 0,.int .i64 0,.int .i64 0] 25)):=(Below.refl _ _).alloc (Nat.le_refl _) _;have z0:(w.alloc (.cells #[.int .i64 0,.int .i64 0,.int .i64 0,.int .i64 0,.int .i64 0] 25)).heap.size=w.heap.size+1:=by simp
 generalize hW0:w.alloc (.cells #[.int .i64 0,.int .i64 0,.int .i64 0,.int .i64 0,.int .i64 0] 25)=w1 at rr bb z0;have h0:=h.below bb;have t0:=ht.below bb;clear h ht;go_enter func201,ntmps201
 go_wp2_with fail
 clear hW0;refine(FS s _).mono ?_;rintro e w1 ⟨rfl,rfl⟩;by_cases h1:0≤s∧s≤39
 ·rw[decide_eq_true h1];by_cases h2:1≤(N:Int)∧(N:Int)≤5
  ·have HS:Hid ((0≤s∧s≤39)∧(1≤(ac.length:Int)∧(ac.length:Int)≤5)):=⟨h1,by rw[HN.out];exact h2⟩;obtain⟨h2a,h2b⟩:=h2;have k1:¬ (N:Int)<1:=by omega
   have k2:¬ (5:Int)<(N:Int):=by omega
   clear h1;go_wp2_with fail
   clear k1 k2
   go_loopw [25] (fun iv wr=>∃ j:Nat,j≤N∧iv=.int .i64 (j:Int)∧(∀ a∈ac.take j,AE a)∧Below w1.heap.size w1 wr) (fun iv _=>((N:Int)-intOf iv).toNat)
   case atStart=>exact⟨0,by omega,rfl,fun a ha=>by simp at ha,Below.refl _ _⟩
   case round =>
    obtain⟨j,hj,rfl,hmay,hbel⟩:=hrel;have HMJ:Hid (∀ a∈ac.take j,AE a):=hmay;clear hmay;have tr:=t0.below hbel;have hszr:=hbel.size;by_cases hjN:j<N
    ·have hji:(j:Int)<(N:Int):=by omega
     obtain⟨A,hA⟩:∃ A,ac[j]?=some A:=⟨_,List.getElem?_eq_getElem (by have:=HN.out;omega)⟩;obtain⟨b,off,y,rfl,ltb,hr0,hsy0⟩:=h0.spot j A hA;obtain⟨⟨pr,pn⟩,l⟩:=A;simp only at hr0 hsy0;have hixA:=Ly b off N cp j hjN;obtain⟨ay,cy,hy⟩:=hsy0.shape;obtain⟨M,hM⟩:∃ M,l.length=M:=⟨_,rfl⟩;rw[hM]at hy
     subst hy;have HJ:Hid (ac[j]?=some ⟨⟨pr,pn⟩,l⟩):=hA;clear hA hM;have hrw:=FZ hbel ltb hr0;have hsy:=hsy0.below hbel;have bN:Below wr.heap.size wr (wr.alloc (.cells #[.int .i64 0,.int .i64 0,.slice none 0 0] 115)):=(Below.refl _ _).alloc (Nat.le_refl _) _;have rN:=heap_alloc_new wr (.cells #[.int .i64 0,.int .i64 0,.slice none 0 0] 115);have hone:(#[.int .i64 pr,.int .i64 pn,.slice ay M cy]:Array Value).all (·.oneCell')=true:=by simp[Value.oneCell']
     generalize hWN:wr.alloc (.cells #[.int .i64 0,.int .i64 0,.slice none 0 0] 115)=WN at bN rN
     go_upto_region 6 with((with_reducible (refine As ?_));first|(refine wpList_load_mid rfl 115 _ rfl b (off+3*j) rfl [.int .i64 pr,.int .i64 pn,.slice ay M cy] _ hrw underlying115 rfl ST ?_)|(refine wpList_store_row rfl 115 (.tmp 7) (.tmp 28) rfl wr.heap.size (#[.int .i64 pr,.int .i64 pn,.slice ay M cy]) rfl rfl 115 _ rN ST rfl hone ?_))
     clear hWN;have q:=setRow_heap WN wr.heap.size _ (#[.int .i64 pr,.int .i64 pn,.slice ay M cy]) 115 _ rN;replace bN:=Aj bN (Nat.le_refl _) (#[.int .i64 pr,.int .i64 pn,.slice ay M cy]);generalize WN.setRow wr.heap.size (#[.int .i64 pr,.int .i64 pn,.slice ay M cy])=W at q bN ⊢;have eW:=hbel.trans (bN.mono hbel.size);have sW:=hsy.below bN;have tW:=tr.below bN;generalize wr.heap.size=G at q ⊢;clear rN hrw hixA bN hsy hbel tr;go_wp2_with ((with_reducible (refine As ?_));refine wpList_load_row rfl 115 _ rfl G rfl 115 _ (0,0) _ q underlying115 rfl ST ?_)
     refine(Hh ⟨pr,pn⟩ (.slice ay M cy) l W sW tW).mono ?_;rintro e W2 ⟨rfl,b2⟩;have e2:=eW.trans (b2.mono eW.size);clear b2 eW sW tW q;by_cases hA:AE ⟨⟨pr,pn⟩,l⟩
     ·rw[show F0 ⟨⟨pr,pn⟩,l⟩=0 from if_pos hA];have HMJ1:Hid (∀ a∈ac.take (j+1),AE a):=SH HJ.out HMJ.out hA;clear hA HMJ;go_wp2
      go_roundw
      case rel=>exact⟨j+1,by omega,by go_num,HMJ1.out,e2⟩
      case measure=>simp[intOf];omega
     ·rw[show F0 ⟨⟨pr,pn⟩,l⟩=5 from if_neg hA];have HF:Hid (Cp ac s=⟨0,0,0,0,0⟩∧CQ ac s=5):=Rm HS.out (fun g=>hA (g _ (List.mem_iff_getElem?.2 ⟨j,HJ.out⟩)));clear hA HMJ;have rR:=(e2.block w.heap.size (by omega)).trans rr;go_wp2_with ((with_reducible (refine As ?_));refine wpList_store_row rfl 25 (.tmp 4) (.tmp 33) rfl w.heap.size #[.int .i64 0,.int .i64 0,.int .i64 0,.int .i64 0,.int .i64 0] rfl rfl 25 _ rR Gp rfl hz5 ?_)
      have q9:=setRow_heap W2 w.heap.size _ (#[.int .i64 0,.int .i64 0,.int .i64 0,.int .i64 0,.int .i64 0]) 25 _ rR;have d9:=Aj (bb.trans (e2.mono (by omega))) (Nat.le_refl _) (#[.int .i64 0,.int .i64 0,.int .i64 0,.int .i64 0,.int .i64 0]);refine bodyPost_ret (EV rfl _ _ w.heap.size 25 _ (0,0) _ rfl q9 underlying25 rfl Gp) rfl ?_;rw[HF.out.1,HF.out.2];exact⟨rfl,d9⟩
    ·have HAll:Hid (∀ a∈ac,AE a):=by
      have g:=HMJ.out;rw[List.take_of_length_le (by have:=HN.out;omega)]at g
      exact g
     have HF:Hid (Cp ac s=GA (EG ac s) N∧CQ ac s=GB (EG ac s) N):=by
      have hn:=HN.out;cases ho:Hi (EG ac s) N with
      | none =>
       obtain⟨g1,g2⟩:=Tt HS.out HAll.out (by rw[hn];exact ho);obtain⟨g3,g4⟩:=Lo ho;exact⟨g1.trans g3.symm,g2.trans g4.symm⟩
      | some v =>
       obtain⟨g1,g2⟩:=Tu HS.out HAll.out (x:=v) (by rw[hn];exact ho);obtain⟨g3,g4⟩:=Lp ho;exact⟨g1.trans g3.symm,g2.trans g4.symm⟩
     clear HMJ;have dr:=bb.trans (hbel.mono (by omega));have rR:=(hbel.block w.heap.size (by omega)).trans rr;have hsac:=h0.below hbel;go_wp2_with fail
     refine(Uw _ ac s wr hsac (by have:=HN.out;omega) HAll.out).mono ?_;rintro e W2 ⟨rfl,b2⟩;rw[HN.out];have d2:=dr.trans (b2.mono dr.size);replace rR:=(b2.block w.heap.size (by omega)).trans rR;generalize GA (EG ac s) N=C at HF ⊢;generalize GB (EG ac s) N=E at HF ⊢;obtain⟨ck,cc,cs,cn,cv⟩:=C;have hone5:(#[.int .i64 ck,.int .i64 cc,.int .i64 cs,.int .i64 cn,.int .i64 cv]:Array Value).all (·.oneCell')=true:=by simp[Value.oneCell']
     simp only[cmC,cmA];go_wp2_with ((with_reducible (refine As ?_));refine wpList_store_row rfl 25 (.tmp 4) (.tmp 39) rfl w.heap.size #[.int .i64 ck,.int .i64 cc,.int .i64 cs,.int .i64 cn,.int .i64 cv] rfl rfl 25 _ rR Gp rfl hone5 ?_)
     have q9:=setRow_heap W2 w.heap.size _ (#[.int .i64 ck,.int .i64 cc,.int .i64 cs,.int .i64 cn,.int .i64 cv]) 25 _ rR;have d9:=Aj d2 (Nat.le_refl _) (#[.int .i64 ck,.int .i64 cc,.int .i64 cs,.int .i64 cn,.int .i64 cv]);refine bodyPost_ret (EV rfl _ _ w.heap.size 25 _ (0,0) _ rfl q9 underlying25 rfl Gp) rfl ?_;rw[HF.out.1,HF.out.2];exact⟨rfl,d9⟩
  ·have HF:Hid (Cp ac s=⟨0,0,0,0,0⟩∧CQ ac s=2):=Hj (fun g=>h2 (by have:=g.2;rw[HN.out]at this;exact this));clear h1;by_cases h3:(N:Int)<1
   ·clear h2;go_wp2_with ((with_reducible (refine As ?_));refine wpList_store_row rfl 25 (.tmp 4) (.tmp 22) rfl w.heap.size #[.int .i64 0,.int .i64 0,.int .i64 0,.int .i64 0,.int .i64 0] rfl rfl 25 _ rr Gp rfl hz5 ?_)
    have q9:=setRow_heap w1 w.heap.size _ (#[.int .i64 0,.int .i64 0,.int .i64 0,.int .i64 0,.int .i64 0]) 25 _ rr;have d9:=Aj bb (Nat.le_refl _) (#[.int .i64 0,.int .i64 0,.int .i64 0,.int .i64 0,.int .i64 0]);refine bodyPost_ret (EV rfl _ _ w.heap.size 25 _ (0,0) _ rfl q9 underlying25 rfl Gp) rfl ?_;rw[HF.out.1,HF.out.2];exact⟨rfl,d9⟩
   ·have h4:(5:Int)<(N:Int):=by omega
    clear h2;go_wp2_with ((with_reducible (refine As ?_));refine wpList_store_row rfl 25 (.tmp 4) (.tmp 22) rfl w.heap.size #[.int .i64 0,.int .i64 0,.int .i64 0,.int .i64 0,.int .i64 0] rfl rfl 25 _ rr Gp rfl hz5 ?_)
    have q9:=setRow_heap w1 w.heap.size _ (#[.int .i64 0,.int .i64 0,.int .i64 0,.int .i64 0,.int .i64 0]) 25 _ rr;have d9:=Aj bb (Nat.le_refl _) (#[.int .i64 0,.int .i64 0,.int .i64 0,.int .i64 0,.int .i64 0]);refine bodyPost_ret (EV rfl _ _ w.heap.size 25 _ (0,0) _ rfl q9 underlying25 rfl Gp) rfl ?_;rw[HF.out.1,HF.out.2];exact⟨rfl,d9⟩
 ·rw[decide_eq_false h1];have HF:Hid (Cp ac s=⟨0,0,0,0,0⟩∧CQ ac s=2):=Hj (fun g=>h1 g.1);clear h1;go_wp2_with ((with_reducible (refine As ?_));refine wpList_store_row rfl 25 (.tmp 4) (.tmp 22) rfl w.heap.size #[.int .i64 0,.int .i64 0,.int .i64 0,.int .i64 0,.int .i64 0] rfl rfl 25 _ rr Gp rfl hz5 ?_)
  have q9:=setRow_heap w1 w.heap.size _ (#[.int .i64 0,.int .i64 0,.int .i64 0,.int .i64 0,.int .i64 0]) 25 _ rr;have d9:=Aj bb (Nat.le_refl _) (#[.int .i64 0,.int .i64 0,.int .i64 0,.int .i64 0,.int .i64 0]);refine bodyPost_ret (EV rfl _ _ w.heap.size 25 _ (0,0) _ rfl q9 underlying25 rfl Gp) rfl ?_;rw[HF.out.1,HF.out.2];exact⟨rfl,d9⟩
end Go.Proofs.YtakgfdbjgeopdaaGreatDoor
