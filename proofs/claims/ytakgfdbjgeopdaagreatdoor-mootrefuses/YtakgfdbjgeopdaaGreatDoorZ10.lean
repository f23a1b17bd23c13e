/- Part 10 of the walk: what the functions of the program do, one by one. -/
import Derived.Test.YtakgfdbjgeopdaaGreatDoorZ9
set_option maxRecDepth 100000
set_option maxHeartbeats 4000000
open Go.Proofs.Tryz
set_option linter.unusedVariables false
namespace Go.Proofs.YtakgfdbjgeopdaaGreatDoor
open Go.RowKit
section
variable{P:Program}{ops:Array Oper}{Q:Exit→Act→World→Prop}
theorem Mb{o:Oper}{i:Nat}{f:Fm}{L:List Sh}{h:List Nat}(ho:ops[i]?=some o)(hob:∀ x∈(exQ P ops o f L h).2.2,x.ok)(W:World)(hw:AL L W∨(Ww o.op&&f.wants ops o)=false) :
  got P ops f.act W i=some (o.dst,(exQ P ops o f L h).1,W):=by
 unfold exQ at hob ⊢;cases hwt:f.wants ops o with
 | false =>
  simp only[cond_false];unfold got;simp only[ho,f.wanted,hwt,if_false,Bool.false_eq_true]
 | true =>
  rw[hwt]at hob hw
  simp only[cond_true]at hob ⊢;have hwt':Region.wanted o (yielded ops f.act.tmps)=true:=by rw[f.wanted,hwt]
  split at hob
  ·rename_i ty x hop
   simp only[];have hR:AL L W:=hw.resolve_right (by simp[hop,Ww]);have h1:=hob _ (List.mem_cons_self ..);have h2:=hob _ (List.mem_cons_of_mem _ (List.mem_cons_self ..));simp only[Ob.ok,Bool.and_eq_true]at h1 h2;obtain⟨⟨⟨⟨⟨b1,b2⟩,b3⟩,b4⟩,b5⟩,b6⟩:=h2;generalize hk:h.headD 0=k at *;have hkL:k<L.length:=by rw[Nat.blt,Nat.ble_eq]at b1;exact b1
   have hr:L.getD k default=L[k]:=by rw[List.getD_eq_getElem?_getD,List.getElem?_eq_getElem hkL];rfl
   rw[hr]at h1 b2 b5 ⊢
   have hrow:=hR L[k] (List.getElem_mem hkL);generalize L[k]=r at *;obtain⟨rg,ro,rt,rw'⟩:=r;cases ro with
   | cells cs t fr =>
    obtain⟨lo,hi⟩:=fr;simp only[Ce]at b2 ⊢;rw[Nat.ble_eq]at b2
    cases hu:P.underlying ty with
    | none=>rw[hu]at b4;cases b4
    | some dd =>
     cases hi':P.info? ty with
     | none=>rw[hi']at b3;cases b3
     | some inf =>
      have hsz:szT P ty=inf.size:=by unfold szT;rw[hi'];rfl
      have hrt:EY P ty=dd.isRow:=by unfold EY;rw[hu]
      have hx:f.act.eval x=pt rg (FW (f.ev x)):=by rw[f.eval];exact h1
      cases hrow':dd.isRow with
      | false =>
       rw[hrt,hrow',cond_false];have hoff:FW (f.ev x)<cs.size:=by rw[hrt,hrow',Bool.false_or]at b6;have:=Nat.eq_of_beq_eq_true b6;omega
       have hc:W.cell? ⟨rg,FW (f.ev x),none⟩=some (cs.getD (FW (f.ev x)) undef):=by
        rw[cell_of_row _ _ _ _ _ _ hrow,Array.getElem?_eq_getElem hoff,Array.getD_eq_getD_getElem?,Array.getElem?_eq_getElem hoff];rfl
       have hagg:(isAgg ty).run P W=.ok false W:=by
        unfold isAgg;rw[Sem.run_bind,run_underlying hu W];clear hob h1 hR;cases dd<;>first|rfl|(simp only[TypeDesc.isRow]at hrow';cases hrow')
       have hl:(loadVar ty ⟨rg,FW (f.ev x),none⟩).run P W=.ok (cs.getD (FW (f.ev x)) undef) W:=by
        generalize cs.getD (FW (f.ev x)) undef=v at *;generalize FW (f.ev x)=k0 at *;clear hob h1 hR;simp[loadVar,hagg,hc,go_sem]
       unfold got execOp;simp only[ho,hwt',if_true,hop,hx,Instr.loadAt,Instr.sureAddr,Sem.run_bind,Sem.run_pure,Result.andThen_ok,hl]
      | true =>
       rw[hrt,hrow',cond_true];have hlen:((cs.toList.drop (FW (f.ev x))).take (szT P ty)).length=szT P ty:=by rw[List.length_take,List.length_drop,Array.length_toList];omega
       have hc:=Oh hrow (FW (f.ev x)) ((cs.toList.drop (FW (f.ev x))).take (szT P ty)) (by rw[hlen]);have hz:(P.info? ty).map (·.size)=some (((cs.toList.drop (FW (f.ev x))).take (szT P ty))).length:=by rw[hi',hlen,hsz];rfl
       unfold got execOp;simp only[ho,hwt',if_true,hop,hx,Instr.loadAt,Instr.sureAddr,Sem.run_bind,Sem.run_pure,Result.andThen_ok,run_loadVar_mid W rg _ ty _ dd hc hu hrow' hz]
   | _=>cases b5
  ·rename_i hno
   have h1:=hob _ (List.mem_cons_self ..);simp only[Ob.ok]at h1;have h2:=congrFun h1 W;unfold got;simp only[ho,hwt',if_true,f.eval,h2]
theorem Kn.two{B:Nat}{g:Gh}{w:World}{L:List Sh}(h:Kn B g w L){i j:Nat}(hi:i<L.length)(hj:j<L.length)(hne:i≠j)(he:L[i].g=L[j].g):(L[i].t=.z∧L[i].w=false)∧L[j].t=.z∧L[j].w=false:=by
 have h1:=List.pairwise_iff_getElem.1 h.nod;rcases Nat.lt_or_gt_of_ne hne with hl|hl
 ·exact h1 i j hi hj hl he
 ·have:=h1 j i hj hi hl he.symm;exact⟨this.2,this.1⟩
theorem Kn.set{B:Nat}{g:Gh}{w w':World}{L:List Sh}{k:Nat}(hk:k<L.length)(hK:Kn B g w L)(hst:L[k].w=true∨L[k].t≠.z)(o':Obj)(ho:w'.heap[L[k].g]?=some o')(hO:Only L[k].g w w') :
  Kn B g w' (L.set k { L[k]with o:=o' }):=by
 have hd:∀ n (hn:n<L.length),n≠k→L[n].g≠L[k].g:=fun n hn hne he=>by
  have:=hK.two hn hk hne he;rcases hst with h|h
  ·rw[this.2.2]at h;cases h
  ·exact h this.2.1
 refine⟨fun x hx=>?_,?_,fun b hb=>hK.new b (by rw[← hO.size];exact hb),by rw[hO.size];exact hK.base⟩
 ·obtain⟨n,hn,rfl⟩:=List.getElem_of_mem hx;have hn':n<L.length:=by simpa using hn
  rw[List.getElem_set];split
  ·exact⟨ho,(hK.row _ (List.getElem_mem hk)).2⟩
  ·rename_i hne
   have h1:=hK.row _ (List.getElem_mem hn');refine⟨?_,h1.2⟩;rw[hO.other _ (hd n hn' (fun h=>hne h.symm))];exact h1.1
 ·rw[List.pairwise_iff_getElem];intro i j hi hj hij he;have hi':i<L.length:=by simpa using hi
  have hj':j<L.length:=by simpa using hj
  have hg:∀ n (hn:n<(L.set k { L[k]with o:=o' }).length) (hn':n<L.length),(L.set k { L[k]with o:=o' })[n].g=L[n].g∧(L.set k { L[k]with o:=o' })[n].t=L[n].t∧(L.set k { L[k]with o:=o' })[n].w=L[n].w:=fun n hn hn'=>by
   rw[List.getElem_set];split
   ·rename_i h;subst h;exact⟨rfl,rfl,rfl⟩
   ·exact⟨rfl,rfl,rfl⟩
  rw[(hg i hi hi').1,(hg j hj hj').1]at he
  have:=hK.two hi' hj' (by omega) he;rw[(hg i hi hi').2.1,(hg i hi hi').2.2,(hg j hj hj').2.1,(hg j hj hj').2.2];exact this
theorem Cg.only{B:Nat}{T:List Tg}{g0 g:Gh}{w0 w w':World}{b:Nat}(h:Cg B T g0 w0 g w)(hO:Only b w w')(hb:w0.heap.size≤b∨((g.t b∈T∨(g.t b=.l∧B≤b))∧g.k b=0)):Cg B T g0 w0 g w' :=
 ⟨hO.os.trans h.os,hO.tape.trans h.tape,hO.output.trans h.output,by rw[hO.size];exact h.size,h.tag_,h.kap,h.kat,fun c hc h1 h2=>by
  have hne:c≠b:=by
   rintro rfl;rcases hb with hb|⟨hb|hb,_⟩
   ·omega
   ·rw[h.tag hc h2]at hb;exact h1 hb
   ·rw[h.tag hc h2]at hb;have:=h2 hb.1;omega
  rw[hO.other c hne];exact h.same c hc h1 h2,fun c hc j hj=>by
  have hne:c≠b:=by
   rintro rfl;rcases hb with hb|⟨_,hb⟩
   ·omega
   ·have:=h.kap _ hc;omega
  rw[World.cell?_of_block (w:=w) (hO.other c hne)];exact h.pref c hc j hj⟩
theorem Kn.push{B:Nat}{g:Gh}{w:World}{L:List Sh}(hK:Kn B g w L)(o:Obj)(t:Tg)(b:Bool) :
  Kn B ⟨fun c=>if c=w.heap.size then t else g.t c,g.k⟩ (w.alloc o) (L++[⟨w.heap.size,o,t,b⟩]):=by
 have hlt:∀ x∈L,x.g<w.heap.size:=fun x hx=>rl (hK.row x hx).1;refine⟨fun x hx=>?_,?_,fun c hc=>?_,?_⟩
 ·rcases List.mem_append.1 hx with h|h
  ·have h1:=hK.row x h;have h2:=hlt x h;exact⟨by rw[Below.heap_alloc _ _ _ h2];exact h1.1,by show(if x.g=w.heap.size then t else g.t x.g)=_;rw[if_neg (by omega)];exact h1.2.1,h1.2.2.1,h1.2.2.2⟩
  ·obtain rfl:x=⟨w.heap.size,o,t,b⟩:=by simpa using h
   exact⟨heap_alloc_new _ _,if_pos rfl,fun _=>hK.base,fun _=>(hK.new _ (Nat.le_refl _)).2⟩
 ·rw[List.pairwise_append];refine⟨hK.nod,List.pairwise_singleton _ _,fun a ha c hc he=>?_⟩;have:=hlt a ha;rw[List.mem_singleton.1 hc]at he
  simp only at he;omega
 ·have h1:w.heap.size+1≤c:=by simpa using hc
  show(if c=w.heap.size then t else g.t c)=.z∧g.k c=0;rw[if_neg (by omega)];exact hK.new c (by omega)
 ·have:=hK.base;simp;omega
theorem Cg.push{B:Nat}{T:List Tg}{g0 g:Gh}{w0 w:World}(h:Cg B T g0 w0 g w)(o:Obj)(t:Tg):Cg B T g0 w0 ⟨fun c=>if c=w.heap.size then t else g.t c,g.k⟩ (w.alloc o) :=
 ⟨h.os,h.tape,h.output,by have:=h.size;simp;omega,fun b hb=>by
  show(if b=w.heap.size then t else g.t b)=_∨(_∧_∧(if b=w.heap.size then t else g.t b)=_);have:=h.size;rw[if_neg (by omega)];exact h.tag_ b hb,h.kap,h.kat,fun b hb h1 h2=>by
  have:=h.size;rw[Below.heap_alloc _ _ _ (by omega)];exact h.same b hb h1 h2,fun b hb j hj=>by
  have:=h.size;rw[World.cell?_of_block (w:=w) (Below.heap_alloc _ _ _ (by show b<_;omega))];exact h.pref b hb j hj⟩
theorem Pe{B:Nat}{T:List Tg}{g0 g:Gh}{w0 w:World}{o:Oper}{i:Nat}{f:Fm}{L:List Sh}{j:Nat}{h:List Nat}{gs:Nat→Nat}{K:Act→World→Prop}(ho:ops[i]?=some o)
  (hob:∀ x∈(exO P T gs ops o f L j h).o,x.ok)(hK:Kn B g w L)(hC:Cg B T g0 w0 g w)(hN:∀ x∈L,x.w=true→w0.heap.size≤x.g)(hj:∀ k,gs (j+k)=w.heap.size+k)
  (hk:∀ g' w',Kn B g' w' (exO P T gs ops o f L j h).L→Cg B T g0 w0 g' w'→(∀ x∈(exO P T gs ops o f L j h).L,x.w=true→w0.heap.size≤x.g)→(∀ k,gs ((exO P T gs ops o f L j h).j+k)=w'.heap.size+k)→K (exO P T gs ops o f L j h).f.act w') :
  wpOp P ops Q i K f.act w:=by
 unfold exO at hob hk;cases hs:f.wants ops o&&aO o.op with
 | true =>
  rw[hs]at hob hk
  simp only[cond_true]at hob hk;simp only[Bool.and_eq_true]at hs;obtain⟨hwt,hop'⟩:=hs;have hwt':Region.wanted o (yielded ops f.act.tmps)=true:=by rw[f.wanted,hwt]
  obtain⟨ty,x,y,hop⟩:∃ ty x y,o.op=.store ty x y:=by
   cases hh:o.op<;>rw[hh]at hop'<;>first|exact⟨_,_,_,rfl⟩|cases hop'
  unfold exS at hob hk;simp only[hop,stP]at hob hk;have h1:=hob _ (List.mem_cons_self ..);have h2:=hob _ (List.mem_cons_of_mem _ (List.mem_cons_self ..));have h3:=hob _ (List.mem_cons_of_mem _ (List.mem_cons_of_mem _ (List.mem_cons_self ..)));have h4:=hob _ (List.mem_cons_of_mem _ (List.mem_cons_of_mem _ (List.mem_cons_of_mem _ (List.mem_cons_self ..))));clear hob;simp only[Ob.ok,Bool.and_eq_true]at h1 h2 h3 h4;obtain⟨⟨⟨⟨⟨⟨⟨b1,b2⟩,b3⟩,b4⟩,b5⟩,b6⟩,b7⟩,b8⟩:=h4;generalize hkk:h.headD 0=k at *;have hkL:k<L.length:=by rw[Nat.blt,Nat.ble_eq]at b1;exact b1
  have hr:L.getD k default=L[k]:=by rw[List.getD_eq_getElem?_getD,List.getElem?_eq_getElem hkL];rfl
  rw[hr]at h1 h3 b2 b5 b8
  simp only[hr]at hk;have hrow:=hK.row L[k] (List.getElem_mem hkL);have hdn:o.dst=none:=by cases hd:o.dst with|none=>rfl|some _=>rw[hd]at b6;cases b6
  have hx:f.act.eval x=pt L[k].g (FW (f.ev x)):=by rw[f.eval];exact h1
  obtain⟨cs,t,hcs⟩:∃ cs t,L[k].o=.cells cs t (0,0):=by
   cases hh:L[k].o with
   | cells cs t fr =>
    obtain⟨lo,hi⟩:=fr;rw[hh]at b5
    cases lo with
    | zero=>cases hi with
     | zero=>exact⟨cs,t,rfl⟩
     | succ n=>cases b5
    | succ n=>cases b5
   | _=>rw[hh]at b5;cases b5
  simp only[hcs,Ce,XM]at b2 hk;have hrow1:=hrow.1;rw[hcs]at hrow1
  rw[Nat.ble_eq]at b2
  have hi:(P.info? ty).map (·.size)=some (cond (EY P ty) (f.ev y).cells #[f.ev y]).size:=by
   have:=Nat.eq_of_beq_eq_true b4;unfold szT at this;cases hh:P.info? ty with
   | none=>rw[hh]at b3;cases b3
   | some inf=>rw[hh]at this;rw[← this];rfl
  have hin:w0.heap.size≤L[k].g∨((g.t L[k].g∈T∨(g.t L[k].g=.l∧B≤L[k].g))∧g.k L[k].g=0):=by
   cases hw:L[k].w with
   | true=>exact .inl (hN _ (List.getElem_mem hkL) hw)
   | false =>
    rw[hw]at h3 b8
    simp only[cond_false,Bool.false_or,Bool.and_eq_true,Bool.not_eq_true']at h3 b8;have hz:L[k].t≠.z:=fun he=>by rw[he]at b8;cases b8.2
    refine .inr ⟨?_,hrow.2.2.2 hz⟩;rw[hrow.2.1];have hm:=b8.1;rw[Nat.ble_eq]at hm
    generalize h.tail.headD 0=m at *;cases m with
    | zero=>exact .inr ⟨h3,hrow.2.2.1 h3⟩
    | succ m =>
     left;rw[h3];show T.getD m .z∈T;rw[List.getD_eq_getElem?_getD,List.getElem?_eq_getElem (by omega)];exact List.getElem_mem _
  have hst:L[k].w=true∨L[k].t≠.z:=by
   cases hw:L[k].w with
   | true=>exact .inl rfl
   | false =>
    rw[hw]at b8
    simp only[Bool.false_or,Bool.and_eq_true,Bool.not_eq_true']at b8;exact .inr fun he=>by rw[he]at b8;cases b8.2
  have hnew:∀ o',∀ x∈L.set k { L[k]with o:=o' },x.w=true→w0.heap.size≤x.g:=fun o' x hx hxw=>by
   obtain⟨n,hn,rfl⟩:=List.getElem_of_mem hx;rw[List.getElem_set]at hxw ⊢
   split
   ·rename_i he;rw[if_pos he]at hxw;exact hN L[k] (List.getElem_mem hkL) hxw
   ·rename_i he;rw[if_neg he]at hxw;exact hN _ (List.getElem_mem (by simpa using hn)) hxw
  cases hrt:EY P ty with
  | false =>
   simp only[hrt,cond_false]at hi h2 b7 b2 hk;refine ZX (f.ev y) hrow1 ho hwt' hdn hop hx (by rw[f.eval]) hi (Nat.lt_of_succ_le b2) (by simpa using b7) rfl fun w' hw' hO=>?_;exact hk g w' (hK.set hkL hst _ hw' hO) (hC.only hO hin) (hnew _) (by rw[hO.size];exact hj)
  | true =>
   simp only[hrt,cond_true]at hi h2 b7 b2 hk;refine ZW (f.ev y).cells hrow1 ho hwt' hdn hop hx (by rw[f.eval];exact h2) hi b2 b7 rfl fun w' hw' hO=>?_;exact hk g w' (hK.set hkL hst _ hw' hO) (hC.only hO hin) (hnew _) (by rw[hO.size];exact hj)
 | false =>
  rw[hs]at hob hk
  simp only[cond_false]at hob hk;clear hs;cases hc:f.wants ops o&&XE o.op with
  | false =>
   rw[hc]at hob hk
   simp only[cond_false]at hob hk;have hq:=Mb (h:=h) ho (fun x hx=>hob x (List.mem_cons_of_mem _ hx)) w (.inl hK.rows);have hd:=hob _ (List.mem_cons_self ..);simp only[Ob.ok,Bool.or_eq_true,Bool.not_eq_true']at hd;have hfin:=hk g w hK hC hN hj;rw[Fm.act_put]at hfin
   cases hdd:o.dst with
   | some d=>rw[hdd]at hq hfin;exact ZV d _ hq hfin
   | none =>
    rw[hdd]at hd hfin
    have hw:f.wants ops o=false:=by simpa using hd
    unfold wpOp;rw[ho];simp only[f.wanted,hw,Bool.false_eq_true,if_false,hdd];exact hfin
  | true =>
   rw[hc]at hob hk
   simp only[cond_true]at hob hk;simp only[Bool.and_eq_true]at hc;have hwt':Region.wanted o (yielded ops f.act.tmps)=true:=by rw[f.wanted,hc.1]
   unfold exN at hob hk;have h1:=hob _ (List.mem_cons_self ..);have h2:=hob _ (List.mem_cons_of_mem _ (List.mem_cons_self ..));simp only[Ob.ok]at h1 h2;have h3:=congrFun h1 w;have hgs:gs j=w.heap.size:=by have:=hj 0;simpa using this
   cases hdd:o.dst with
   | none=>rw[hdd]at h2;cases h2
   | some d =>
    refine UB ho hwt' hdd (by rw[f.eval];exact h3) ?_;have hfin:=hk _ _ (by simp only[hgs];exact hK.push (YE ((execOp f.ev o).run P default)) _ true) (hC.push _ _) (fun x hx hxw=>?_) (fun k=>?_)
    ·simp only[hgs,hdd]at hfin;rw[← Fm.act_put];exact hfin
    ·rcases List.mem_append.1 hx with h5|h5
     ·exact hN x h5 hxw
     ·have h6:=List.mem_singleton.1 h5;rw[h6];show _≤gs j;rw[hgs];exact hC.size
    ·have:=hj (1+k);show gs (j+1+k)=_;rw[show j+1+k=j+(1+k)by omega,this];simp;omega
end
section
variable{P:Program}{fn:Func}{R:Ending→World→Prop}
theorem Kq.exit(id:Nat):∀ (K:List Kt) (a:Act) (w:World),TS id K=true→Kq P (bodyPost P fn R) (Sj id K) .normal a w→Kq P (bodyPost P fn R) K (.exit id) a w
 | [],a,w,h,_=>by cases h
 | .c x::K,a,w,h,hk=>Kq.exit id K a w h hk
 | .b i::K,a,w,h,hk=>by
  show(if id=i then Kq P (bodyPost P fn R) K .normal a w else Kq P (bodyPost P fn R) K (.exit id) a w);unfold TS at h;unfold Sj at hk;cases hb:Nat.beq i id with
  | true =>
   rw[hb]at hk
   rw[if_pos (Nat.eq_of_beq_eq_true hb).symm];exact hk
  | false =>
   rw[hb]at h hk
   rw[if_neg (fun he=>by subst he;rw[Nat.beq_refl]at hb;cases hb)];exact Kq.exit id K a w h hk
 | .o ops is::K,a,w,h,hk=>Kq.exit id K a w h hk
 | .x ops m Ld s L0::K,a,w,h,hk=>Kq.exit id K a w h hk
 | .y ops m Ld s L0 i::K,a,w,h,hk=>Kq.exit id K a w h hk
 | .j J::K,a,w,h,hk=>Kq.exit id K a w h hk
theorem Cg.drew{B:Nat}{T:List Tg}{g0 g:Gh}{w0 w:World}(h:Cg B T g0 w0 g w):Cg B T g0 w0 g w.drew:=⟨h.os,h.tape,h.output,h.size,h.tag_,h.kap,h.kat,h.same,h.pref⟩
theorem Kn.drew{B:Nat}{g:Gh}{w:World}{L:List Sh}(h:Kn B g w L):Kn B g w.drew L:=⟨h.row,h.nod,h.new,h.base⟩
theorem S9{ops:Array Oper}{e:Nat}{L0 L:List Sh}{Ld:Array Bool}{w:World}(h:AL L w)(hl:cond (Ld.getD e false) [] L0=cond (Ld.getD e false) [] (BX (L.take L0.length))):Sx [(e,AL L0)] Ld w:=by
 refine⟨fun hf=>?_,trivial⟩;rw[hf]at hl
 have hl':L0=BX (L.take L0.length):=hl;intro x hx;rw[hl']at hx
 obtain⟨y,hy,rfl⟩:=List.mem_map.1 hx;exact h y (List.mem_of_mem_take hy)
theorem aH{B:Nat}{T:List Tg}{g0:Gh}{w0:World}(gs:Nat→Nat):∀ (m:Nat) (s:Xs) (j:Nat) (h:List Nat) (g:Gh) (w:World),(∀ x∈(rn P T gs m s j h).o,x.ok)→Kn B g w s.L→Cg B T g0 w0 g w →
  (∀ x∈s.L,x.w=true→w0.heap.size≤x.g)→(∀ k,gs (j+k)=w.heap.size+k) →
  (∀ g' w',Kn B g' w' (rn P T gs m s j h).s.L→Cg B T g0 w0 g' w'→Kq P (bodyPost P fn R) (rn P T gs m s j h).s.K .normal (rn P T gs m s j h).s.f.act w') →
  Kq P (bodyPost P fn R) s.K .normal s.f.act w:=by
 intro m;induction m with
 | zero=>intro s j h g w _ hK hC _ _ hk;exact hk g w hK hC
 | succ m ih =>
  intro s j h g w hob hK hC hN hj hk;obtain⟨K,f,L⟩:=s;unfold rn at hob hk;cases K with
  | nil=>exact absurd (hob _ (List.mem_cons_self ..)) (by simp[Ob.ok])
  | cons t K =>
   cases t with
   | c x =>
    cases x with
    | skip=>exact wp_skip (ih ⟨K,f,L⟩ j h g w hob hK hC hN hj hk)
    | seq x y=>exact wp_seq (ih ⟨.c x::.c y::K,f,L⟩ j h g w hob hK hC hN hj hk)
    | block id x=>exact wp_block (ih ⟨.c x::.b id::K,f,L⟩ j h g w hob hK hC hN hj hk)
    | exit id =>
     refine wp_exit (Kq.exit id K _ _ (hob _ (List.mem_cons_self ..)) ?_);exact ih ⟨Sj id K,f,L⟩ j h g w (fun x hx=>hob x (List.mem_cons_of_mem _ hx)) hK hC hN hj hk
    | cond c x y =>
     simp only at hob hk;split at hob
     ·rename_i t ht
      simp only[ht]at hk;have hc:f.act.eval c=.bool t:=by rw[f.eval];exact ht
      have h1:=ih ⟨.c (cond t x y)::K,f,L⟩ j h g w hob hK hC hN hj hk;refine wp_cond hc ?_;cases t<;>exact h1
     ·exact absurd (hob _ (List.mem_cons_self ..)) (by simp[Ob.ok])
    | region id ops d =>
     cases d with
     | false =>
      refine wp_region ?_;rw[List.range_eq_range',← List.range_eq_range'];exact ih ⟨.o ops (List.range ops.size)::K,f,L⟩ j h g w hob hK hC hN hj hk
     | true =>
      refine X7 [(h.headD 0,AL (BX L))] (hob _ (List.mem_cons_self ..)) ?_;exact ih ⟨.x ops ops.size (Array.replicate ops.size false) (h.headD 0) (BX L)::K,f,L⟩ j h.tail g w.drew (fun x hx=>hob x (List.mem_cons_of_mem _ hx)) hK.drew hC.drew hN hj hk
    | _=>exact absurd (hob _ (List.mem_cons_self ..)) (by simp[Ob.ok])
   | b id=>exact ih ⟨K,f,L⟩ j h g w hob hK hC hN hj hk
   | j J=>exact absurd (hob _ (List.mem_cons_self ..)) (by simp[Ob.ok])
   | o ops is =>
    cases is with
    | nil=>exact ih ⟨K,f,L⟩ j h g w hob hK hC hN hj hk
    | cons i is =>
     simp only at hob hk;cases ho:ops[i]? with
     | none=>rw[ho]at hob;exact absurd (hob _ (List.mem_cons_self ..)) (by simp[Ob.ok])
     | some o =>
      simp only[ho]at hob hk;show wpOps P ops (Kq P (bodyPost P fn R) K) (i::is) f.act w;rw[wpOps_cons];refine Pe (h:=h) (j:=j) (gs:=gs) ho (fun x hx=>hob x (List.mem_append_left _ hx)) hK hC hN hj fun g' w' hK' hC' hN' hj'=>?_;exact ih ⟨.o ops is::K,_,_⟩ _ _ g' w' (fun x hx=>hob x (List.mem_append_right _ hx)) hK' hC' hN' hj' hk
   | y ops u Ld e L0 i =>
    simp only at hob hk;cases ho:ops[i]? with
    | none=>rw[ho]at hob;exact absurd (hob _ (List.mem_cons_self ..)) (by simp[Ob.ok])
    | some o =>
     simp only[ho]at hob hk;have h2:=hob _ (List.mem_cons_self ..);simp only[Ob.ok]at h2;show wpOp P ops (Kq P (bodyPost P fn R) K) i (fun a w=>Sx [(e,AL L0)] (Ld.setIfInBounds i true) w∧Bf P .any ops (Kq P (bodyPost P fn R) K) [(e,AL L0)] u (Ld.setIfInBounds i true) a w) f.act w;refine Pe (h:=h) (j:=j) (gs:=gs) ho (fun x hx=>hob x (List.mem_cons_of_mem _ (List.mem_append_left _ hx))) hK hC hN hj fun g' w' hK' hC' hN' hj'=>?_;exact⟨S9 (ops:=ops) hK'.rows h2,ih ⟨.x ops u (Ld.setIfInBounds i true) e L0::K,_,_⟩ _ _ g' w' (fun x hx=>hob x (List.mem_cons_of_mem _ (List.mem_append_right _ hx))) hK' hC' hN' hj' hk⟩
   | x ops u Ld e L0 =>
    cases u with
    | zero =>
     have h1:=hob _ (List.mem_cons_self ..);simp only[Ob.ok,List.isEmpty_iff]at h1;exact⟨h1,ih ⟨K,f,L⟩ j h g w (fun x hx=>hob x (List.mem_cons_of_mem _ hx)) hK hC hN hj hk⟩
    | succ u =>
     simp only at hob hk;generalize hi:h.headD 0/2=i at *;cases ho:ops[i]? with
     | none=>rw[ho]at hob;exact absurd (hob _ (List.mem_cons_self ..)) (by simp[Ob.ok])
     | some o =>
      simp only[ho]at hob hk;have hQ:∀ c a d v w,Kq P (bodyPost P fn R) K (.panic c) (a.put (some d) v) w→Kq P (bodyPost P fn R) K (.panic c) a w:=fun c a d v w=>Kq.panic K c a (some d) v w;cases hm:Nat.beq (h.headD 0%2) 0 with
      | true =>
       simp only[hm,cond_true]at hob hk;have h1:=hob _ (List.mem_cons_self ..);have h2:=hob _ (List.mem_cons_of_mem _ (List.mem_cons_self ..));have h3:∀ x∈(exQ P ops o f L0 h.tail).2.2,x.ok:=fun x hx=>hob x (List.mem_cons_of_mem _ (List.mem_cons_of_mem _ (List.mem_append_left _ hx)));have h4:=fun x hx=>hob x (List.mem_cons_of_mem _ (List.mem_cons_of_mem _ (List.mem_append_right _ hx)));simp only[Ob.ok,Bool.and_eq_true]at h1 h2;obtain⟨⟨h1,h1d⟩,h1e⟩:=h1;have hS:Sx [(e,AL L0)] Ld w:=S9 (ops:=ops) hK.rows h2;have hrest:=ih ⟨.x ops u (Ld.setIfInBounds i true) e L0::K,f.put o.dst (exQ P ops o f L0 h.tail).1,L⟩ j _ g w h4 hK hC hN hj hk;simp only[Fm.act_put]at hrest;cases hdd:o.dst with
       | none=>rw[hdd]at h1d;cases h1d
       | some d =>
        rw[hdd]at hrest
        unfold tkB at h1;simp only[Bool.and_eq_true]at h1;obtain⟨ns,⟨⟨⟨⟨t1,t2⟩,t3⟩,t4⟩,t5⟩⟩:=h1;cases hld:Ww o.op&&f.wants ops o with
        | false =>
         rw[hld,cond_false]at t5
         refine xB0 u [i] [(d,(exQ P ops o f L0 h.tail).1)] (fun W=>?_) ns ?_ rfl rfl hQ hS hrest
         ·have hg:=Mb (h:=h.tail) ho h3 W (.inr hld);rw[hdd]at hg
          simp only[Pm,wants,List.map_cons,List.map_nil,hg]
         ·simp only[Kc,List.map_cons,List.map_nil,List.all_cons,List.all_nil,Bool.and_true,Bool.and_eq_true];exact⟨⟨⟨⟨t1,t2⟩,t3⟩,t4⟩,t5⟩
        | true =>
         rw[hld,cond_true]at t5
         rw[hld]at h1e
         have hef:Ld.getD e false=false:=by simpa using h1e
         refine xC0 u i d (T9 ops i) (exQ P ops o f L0 h.tail).1 (fun W hW=>?_) (hS.1 hef) ns ?_ rfl hQ hS hrest
         ·have hg:=Mb (h:=h.tail) ho h3 W (.inl hW);rw[hdd]at hg
          exact hg
         ·simp only[List.map_cons,List.map_nil,List.all_cons,List.all_nil,Bool.and_true,Bool.and_eq_true]at t5 ⊢;exact⟨⟨⟨⟨t1,t2⟩,t3⟩,t4⟩,t5⟩
      | false =>
       simp only[hm,cond_false]at hob hk;have h1:=hob _ (List.mem_cons_self ..);have h2:=hob _ (List.mem_cons_of_mem _ (List.mem_cons_self ..));have h3:=fun x hx=>hob x (List.mem_cons_of_mem _ (List.mem_cons_of_mem _ (List.mem_append_left _ hx)));have h4:=fun x hx=>hob x (List.mem_cons_of_mem _ (List.mem_cons_of_mem _ (List.mem_append_right _ hx)));simp only[Ob.ok]at h1 h2;have hr:Region.ready .any ops Ld=[i]:=by
        split at h1
        ·rename_i k hk;rw[hk,Nat.eq_of_beq_eq_true h1]
        ·cases h1
       refine xS0 u i hr rfl ?_;refine Pe (h:=h.tail) (j:=j) (gs:=gs) ho h3 hK hC hN hj fun g' w' hK' hC' hN' hj'=>?_;exact⟨S9 (ops:=ops) hK'.rows h2,ih ⟨.x ops u (Ld.setIfInBounds i true) e L0::K,_,_⟩ _ _ g' w' h4 hK' hC' hN' hj' hk⟩
end
end Go.Proofs.YtakgfdbjgeopdaaGreatDoor
