/- Part 9 of the walk. -/
import Derived.Laws.AppendOwn
import Derived.Test.YtaeckakjdagddadGreatDoorZ8
set_option maxRecDepth 100000
set_option maxHeartbeats 4000000
set_option linter.unusedVariables false
namespace Go.Proofs.YtaeckakjdagddadGreatDoor
open Go.RowKit
section
variable{P:Program}{fn:Func}{R:Ending→World→Prop}{B:Nat}{T:List Tg}{g:Gh}{w:World}
theorem Kn.clr{L:List Sh}(h:Kn B g w L):Kn B g w (Bj L):=by
 refine⟨fun x hx=>?_,?_,h.new,h.base⟩
 ·obtain⟨y,hy,rfl⟩:=List.mem_map.1 hx;exact h.row y hy
 ·unfold Bj;rw[List.pairwise_map];exact h.nod.imp fun hh he=>⟨⟨(hh he).1.1,rfl⟩,(hh he).2.1,rfl⟩
def rn0(P:Program)(T:List Tg)(gs:Nat→Nat)(m:Nat)(s:Xs)(h:List Nat):Rz:=rn P T gs m ⟨s.K,s.f,Bj s.L⟩ 0 h
theorem YD{s:Xs}(T':List Tg)(m:Nat)(h:List Nat)(hob:∀ gs,(rn0 P T' gs m s h).o.map Ob.l'=(rn0 P T' gs m s h).o.map Ob.r')(hk:∀ gs g' w',Cg B T' g w g' w'→GG P fn R B T (rn0 P T' gs m s h).s g' w'):GG P fn R B T s g w:=by
 refine⟨fun hK=>?_⟩;refine fy (fun k=>w.heap.size+k) m ⟨s.K,s.f,Bj s.L⟩ 0 h g w (Ob.all (hob _)) hK.clr (Cg.refl B T' g w) ?_ (fun k=>by simp) fun g' w' hK' hC'=>(hk _ g' w' hC').ex hK';intro x hx hxw;obtain⟨y,hy,rfl⟩:=List.mem_map.1 hx;cases hxw
theorem Ae{s:Xs}(h:Kn B g w s.L→GG P fn R B T s g w):GG P fn R B T s g w:=⟨fun hK=>(h hK).ex hK⟩
def opN(s:Xs)(i':Nat):Option (Array Oper × Nat × Oper):=match s.K with
 | .o ops (i::_)::_=>match ops[i]? with|some o=>some (ops,i,o)|none=>none
 | .x ops _ _ _ _::_=>match ops[i']? with|some o=>some (ops,i',o)|none=>none
 | .y ops _ _ _ _ i::_=>match ops[i]? with|some o=>some (ops,i,o)|none=>none
 | _=>none
def nxt(s:Xs)(i':Nat)(v:Value)(L:List Sh):Rz:=match s.K with
 | .o ops (i::is)::K=>match ops[i]? with|some o=>⟨⟨.o ops is::K,s.f.put o.dst v,L⟩,[.b (s.f.wants ops o)]⟩|none=>⟨s,[.b false]⟩
 | .x ops (u+1) Ld e L0::K=>match ops[i']? with
  | some o =>
   let Ld':=Ld.setIfInBounds i' true
   ⟨⟨.x ops u Ld' e L0::K,s.f.put o.dst v,L⟩,[.b (s.f.wants ops o),.b (match Region.ready .any ops Ld with|[k]=>Nat.beq k i'|_=>false),.l (cond (Ld'.getD e false) [] L0) (cond (Ld'.getD e false) [] (Bj (L.take L0.length)))]⟩
  | none=>⟨s,[.b false]⟩
 | .y ops u Ld e L0 i::K=>match ops[i]? with
  | some o =>
   let Ld':=Ld.setIfInBounds i true
   ⟨⟨.x ops u Ld' e L0::K,s.f.put o.dst v,L⟩,[.b (s.f.wants ops o),.l (cond (Ld'.getD e false) [] L0) (cond (Ld'.getD e false) [] (Bj (L.take L0.length)))]⟩
  | none=>⟨s,[.b false]⟩
 | _=>⟨s,[.b false]⟩
theorem QT{s:Xs}{ops:Array Oper}{i' i:Nat}{o:Oper}(hop:opN s i'=some (ops,i,o))(L:List Sh)(hob:(nxt s i' undef L).o.map Ob.l'=(nxt s i' undef L).o.map Ob.r')
  (h:∀ (Q:Exit→Act→World→Prop) (K:Act→World→Prop),ops[i]?=some o→Region.wanted o (yielded ops s.f.act.tmps)=true→(∀ v g' w',Kn B g' w' L→GG P fn R B T (nxt s i' v L).s g' w'→K (s.f.act.put o.dst v) w')→wpOp P ops Q i K s.f.act w):GG P fn R B T s g w:=by
 refine⟨fun hK=>?_⟩;obtain⟨K,f,L1⟩:=s;have hall:=Ob.all hob;unfold opN at hop;unfold nxt at hall h;cases K with
 | nil=>cases hop
 | cons t K =>
  cases t with
  | o ops1 is =>
   cases is with
   | nil=>cases hop
   | cons i1 is =>
    simp only at hop hall h;cases ho:ops1[i1]? with
    | none=>rw[ho]at hop;cases hop
    | some o1 =>
     rw[ho]at hop
     simp only[Option.some.injEq,Prod.mk.injEq]at hop;obtain⟨rfl,rfl,rfl⟩:=hop;simp only[ho]at hall;have hw:=hall _ (List.mem_cons_self ..);show wpOps P ops1 (Kq P (bodyPost P fn R) K) (i1::is) f.act w;rw[wpOps_cons];refine h _ _ ho (by rw[f.wanted];exact hw) fun v g' w' hK' hG=>?_;simp only[ho]at hG;have:=hG.ex hK';rw[Fm.act_put]at this
     exact this
  | y ops1 u Ld e L0 i1 =>
   simp only at hop hall h;cases ho:ops1[i1]? with
   | none=>rw[ho]at hop;cases hop
   | some o1 =>
    rw[ho]at hop
    simp only[Option.some.injEq,Prod.mk.injEq]at hop;obtain⟨rfl,rfl,rfl⟩:=hop;simp only[ho]at hall;have hw:=hall _ (List.mem_cons_self ..);have h2:=hall _ (List.mem_cons_of_mem _ (List.mem_cons_self ..));simp only[Ob.ok]at hw h2;show wpOp P ops1 (Kq P (bodyPost P fn R) K) i1 (fun a w=>Sx [(e,AK L0)] (Ld.setIfInBounds i1 true) w∧Bf P .any ops1 (Kq P (bodyPost P fn R) K) [(e,AK L0)] u (Ld.setIfInBounds i1 true) a w) f.act w;refine h _ _ ho (by rw[f.wanted];exact hw) fun v g' w' hK' hG=>?_;simp only[ho]at hG;have:=hG.ex hK';rw[Fm.act_put]at this
    exact⟨Uv (ops:=ops1) hK'.rows h2,this⟩
  | x ops1 u Ld e L0 =>
   cases u with
   | zero=>exact absurd (hall _ (List.mem_cons_self ..)) (by simp[Ob.ok])
   | succ u =>
    simp only at hop hall h;cases ho:ops1[i']? with
    | none=>rw[ho]at hop;cases hop
    | some o1 =>
     rw[ho]at hop
     simp only[Option.some.injEq,Prod.mk.injEq]at hop;obtain⟨rfl,rfl,rfl⟩:=hop;simp only[ho]at hall;have hw:=hall _ (List.mem_cons_self ..);have h1:=hall _ (List.mem_cons_of_mem _ (List.mem_cons_self ..));have h2:=hall _ (List.mem_cons_of_mem _ (List.mem_cons_of_mem _ (List.mem_cons_self ..)));simp only[Ob.ok]at hw h1 h2;have hr:Region.ready .any ops1 Ld=[i']:=by
      split at h1
      ·rename_i k hk;rw[hk,Nat.eq_of_beq_eq_true h1]
      ·cases h1
     refine xS0 u i' hr rfl ?_;refine h _ _ ho (by rw[f.wanted];exact hw) fun v g' w' hK' hG=>?_;simp only[ho]at hG;have:=hG.ex hK';rw[Fm.act_put]at this
     exact⟨Uv (ops:=ops1) hK'.rows h2,this⟩
  | _=>cases hop
def Tg.ne:Tg→Tg→Bool
 | .z,.z=>false
 | .l,.l=>false
 | .n r _,.n r' _=>!Nat.beq r r'
 | _,_=>true
theorem Tg.ne_ne{a b:Tg}(h:a.ne b=true):a≠b:=by
 rintro rfl;cases a with
 | z=>cases h
 | l=>cases h
 | n r i=>simp[Tg.ne,Nat.beq_refl]at h
def Ay:List Bool→List Sh→List Sh
 | true::m,x::L=>x::Ay m L
 | false::m,_::L=>Ay m L
 | _,_=>[]
theorem CL:∀ (m:List Bool) (L:List Sh),(Ay m L).Sublist L
 | true::m,x::L=>(CL m L).cons_cons x
 | false::m,x::L=>(CL m L).cons x
 | [],L=>by unfold Ay;exact List.nil_sublist _
 | true::m,[]=>List.nil_sublist _
 | false::m,[]=>List.nil_sublist _
theorem Cg.n{g' g'':Gh}{w' w'':World}(h:Cg B T g w g' w')(k:Cg B [] g' w' g'' w''):Cg B T g w g'' w'':=h.trans (k.mono fun _ h=>absurd h List.not_mem_nil)
theorem Cg.m{T':List Tg}{g' g'':Gh}{w' w'':World}(h:Cg B T g w g' w')(k:Cg B T' g' w' g'' w'')(hT:∀ t∈T',t∈T:=by simp):Cg B T g w g'' w'':=h.trans (k.mono hT)
theorem Cg.nil{g':Gh}{w':World}(h:Cg B [] g w g' w')(T:List Tg):Cg B T g w g' w':=h.mono fun _ h=>absurd h List.not_mem_nil
theorem Kn.sub{L L':List Sh}(h:Kn B g w L)(hs:L'.Sublist L):Kn B g w L':=⟨fun x hx=>h.row x (hs.subset hx),h.nod.sublist hs,h.new,h.base⟩
theorem Kn.ch{T':List Tg}{g':Gh}{w':World}{L:List Sh}(h:Kn B g w L)(c:Cg w.heap.size T' g w g' w')(hn:∀ b,w'.heap.size≤b→g'.t b=.z∧g'.k b=0)(hT:L.all (fun x=>T'.all fun t=>x.t.ne t)=true):Kn B g' w' L:=by
 refine⟨fun x hx=>?_,h.nod,hn,Nat.le_trans h.base c.size⟩;have h1:=h.row x hx;have hlt:=rl h1.1;have hnot:g.t x.g∉T':=by
  rw[h1.2.1];intro hm;have h2:=List.all_eq_true.1 (List.all_eq_true.1 hT x hx) _ hm;exact Tg.ne_ne h2 rfl
 exact⟨(c.same _ hlt hnot (fun _=>hlt)).trans h1.1,(c.tag hlt (fun _=>hlt)).trans h1.2.1,h1.2.2.1,fun hz=>(c.kat _ hlt hnot (fun _=>hlt)).trans (h1.2.2.2 hz)⟩
theorem Kn.below{L:List Sh}{w':World}(h:Kn B g w L)(b:Below w.heap.size w w'):Kn B g w' L :=
 ⟨fun x hx=>⟨rB b (h.row x hx).1,(h.row x hx).2⟩,h.nod,fun c hc=>h.new c (Nat.le_trans b.size hc),Nat.le_trans h.base b.size⟩
def Cz(P:Program)(s:Xs)(i':Nat)(W:World):Option (Result Next):=(opN s i').map fun x=>(execOp s.f.ev x.2.2).run P W
theorem Oc{s:Xs}{i':Nat}{r:World→Result Next}(h:∀ W,Cz P s i' W=some (r W)):∃ ops i o,opN s i'=some (ops,i,o)∧∀ W,(execOp s.f.ev o).run P W=r W:=by
 unfold Cz at h;cases hx:opN s i' with
 | none=>have:=h default;rw[hx]at this;cases this
 | some x =>
  obtain⟨ops,i,o⟩:=x;exact⟨ops,i,o,rfl,fun W=>by have:=h W;rw[hx]at this;simpa using this⟩
def Kc(s:Xs)(i':Nat):Bool:=match opN s i' with|some x=>x.2.2.dst.isSome|none=>false
theorem cC{s:Xs}(i':Nat)(f:FuncId)(args:Array Value)(hr:∀ W,Cz P s i' W=some (.ok (.enter f args) W))(hd:Kc s i'=true)(hob:(nxt s i' undef s.L).o.map Ob.l'=(nxt s i' undef s.L).o.map Ob.r')
  {C:Ending→World→Prop}(hc:Calls P f args w C)(hk:∀ e w',C e w'→∃ v,e=.returned v∧Below w.heap.size w w'∧GG P fn R B T (nxt s i' v s.L).s g w'):GG P fn R B T s g w:=by
 obtain⟨ops,i,o,hop,hrun⟩:=Oc hr;refine Ae fun hK=>QT hop s.L hob fun Q K ho hw h=>?_;unfold Kc at hd;rw[hop]at hd
 cases hdd:o.dst with
 | none=>simp only[hdd]at hd;cases hd
 | some d =>
  refine Gx ho hw hdd (by rw[s.f.eval];exact hrun w) (hc.mono fun e w' he=>?_);obtain⟨v,hv,hb,hG⟩:=hk e w' he;refine⟨v,hv,?_⟩;have:=h v g w' (hK.below hb) hG;rw[hdd]at this
  exact this
theorem Qx{s:Xs}(i':Nat)(f:FuncId)(args:Array Value)(T':List Tg)(m:List Bool)(hr:∀ W,Cz P s i' W=some (.ok (.enter f args) W))(hd:Kc s i'=true)(hob:(nxt s i' undef (Ay m s.L)).o.map Ob.l'=(nxt s i' undef (Ay m s.L)).o.map Ob.r')
  (hT:(Ay m s.L).all (fun x=>T'.all fun t=>x.t.ne t)=true)
  {C:Ending→World→Prop}(hc:Calls P f args w C)(hk:∀ e w',C e w'→∃ v g',e=.returned v∧Cg w.heap.size T' g w g' w'∧(∀ b,w'.heap.size≤b→g'.t b=.z∧g'.k b=0)∧GG P fn R B T (nxt s i' v (Ay m s.L)).s g' w'):GG P fn R B T s g w:=by
 obtain⟨ops,i,o,hop,hrun⟩:=Oc hr;refine Ae fun hK=>QT hop (Ay m s.L) hob fun Q K ho hw h=>?_;unfold Kc at hd;rw[hop]at hd
 cases hdd:o.dst with
 | none=>simp only[hdd]at hd;cases hd
 | some d =>
  refine Gx ho hw hdd (by rw[s.f.eval];exact hrun w) (hc.mono fun e w' he=>?_);obtain⟨v,g',hv,hch,hn,hG⟩:=hk e w' he;refine⟨v,hv,?_⟩;have:=h v g' w' ((hK.sub (CL m s.L)).ch hch hn hT) hG;rw[hdd]at this
  exact this
theorem Kk{s:Xs}(i':Nat)(L:List Sh)(hob:(nxt s i' undef L).o.map Ob.l'=(nxt s i' undef L).o.map Ob.r')(hs:(opN s i').isSome=true)
  (h:Kn B g w s.L→∀ ops i o,opN s i'=some (ops,i,o)→∃ v w' g',((execOp s.f.ev o).run P w=.ok (.value v) w'∨((execOp s.f.ev o).run P w=.ok .skip w'∧v=undef))∧Kn B g' w' L∧GG P fn R B T (nxt s i' v L).s g' w'):GG P fn R B T s g w:=by
 cases hop:opN s i' with
 | none=>rw[hop]at hs;cases hs
 | some x =>
  obtain⟨ops,i,o⟩:=x;refine Ae fun hK=>QT hop L hob fun Q K ho hw h'=>?_;obtain⟨v,w',g',hrun,hK',hG⟩:=h hK ops i o hop;have hfin:=h' v g' w' hK' hG;unfold wpOp;rw[ho];simp only[hw,if_true];refine .inl ?_;unfold Oper.wp;rw[s.f.eval];rcases hrun with hrun|⟨hrun,rfl⟩
  ·rw[hrun,Oper.upon_value];exact hfin
  ·rw[hrun,Oper.upon_skip];exact hfin
theorem gFm{s:Xs}(e:List (Nat × Value))(he:e.map (fun p=>lk s.f.z s.f.e p.1)=e.map (·.2))(h:∀ z,GG P fn R B T ⟨s.K,⟨s.f.n,e,z⟩,s.L⟩ g w):GG P fn R B T s g w:=by
 refine⟨fun hK=>?_⟩;have h1:=(h (lk s.f.z s.f.e)).ex hK;have h2:(⟨s.f.n,e,lk s.f.z s.f.e⟩:Fm).act=s.f.act:=by
  unfold Fm.act;simp only[Act.mk.injEq,and_true]
  congr 1
  refine List.map_congr_left fun t _=>?_;clear h h1;induction e with
  | nil=>rfl
  | cons p r ih =>
   simp only[List.map_cons,List.cons.injEq]at he;show cond (Nat.beq p.1 t) p.2 (lk (lk s.f.z s.f.e) r t)=lk s.f.z s.f.e t;cases hb:Nat.beq p.1 t with
   | true=>rw[cond_true,← he.1,Nat.eq_of_beq_eq_true hb]
   | false=>rw[cond_false];exact ih he.2
 simp only at h1;rw[h2]at h1
 exact h1
theorem GS{s:Xs}(m:List Bool)(h:GG P fn R B T ⟨s.K,s.f,Ay m s.L⟩ g w):GG P fn R B T s g w:=⟨fun hK=>h.ex (hK.sub (CL m s.L))⟩
theorem BH{s:Xs}(x:Sh)(hx:Kn B g w s.L→w.heap[x.g]?=some x.o∧g.t x.g=x.t∧(x.t=.l→B≤x.g)∧(x.t≠.z→g.k x.g=0))(hT:(!x.w&&(x.t.isZ||s.L.all (fun y=>x.t.ne y.t)))=true)(h:GG P fn R B T ⟨s.K,s.f,Bj s.L++[x]⟩ g w):GG P fn R B T s g w:=by
 refine⟨fun hK=>h.ex ⟨fun y hy=>?_,?_,hK.new,hK.base⟩⟩
 ·rcases List.mem_append.1 hy with h1|h1
  ·exact hK.clr.row y h1
  ·rw[List.mem_singleton.1 h1];exact hx hK
 ·show(Bj s.L++[x]).Pairwise _;simp only[Bool.and_eq_true,Bool.not_eq_true',Bool.or_eq_true]at hT;rw[List.pairwise_append];refine⟨hK.clr.nod,List.pairwise_singleton _ _,fun a ha c hc he=>?_⟩;rw[List.mem_singleton.1 hc]at he ⊢
  obtain⟨y,hy,rfl⟩:=List.mem_map.1 ha;have h2:=(hK.row y hy).2.1;have h3:=(hx hK).2.1;simp only at he ⊢;rw[he,h3]at h2
  rcases hT.2 with hz|hn
  ·have:x.t=.z:=by cases hh:x.t with|z=>rfl|l=>rw[hh]at hz;cases hz|n r i=>rw[hh]at hz;cases hz
   exact⟨⟨h2▸this,trivial⟩,this,hT.1⟩
  ·exact absurd h2 (Tg.ne_ne (List.all_eq_true.1 hn y hy))
theorem Kq.ret{R':Exit→Act→World→Prop}:∀ (K:List Kt) (a:Act) (w:World),R' .ret a w→Kq P R' K .ret a w
 | [],a,w,h=>h
 | .c x::K,a,w,h=>Kq.ret K a w h
 | .b id::K,a,w,h=>Kq.ret K a w h
 | .o ops is::K,a,w,h=>Kq.ret K a w h
 | .x ops m Ld s L0::K,a,w,h=>Kq.ret K a w h
 | .y ops m Ld s L0 i::K,a,w,h=>Kq.ret K a w h
 | .j J::K,a,w,h=>Kq.ret K a w h
def Lu:List Kt→Bool|[]=>true|.c .ret::_=>true|_=>false
theorem Tz{s:Xs}(v:Value)(hs:Lu s.K=true)(hr:Kn B g w s.L→(results fn s.f.act.tmps).run P w=.ok v w)(h:Kn B g w s.L→R (.returned v) w):GG P fn R B T s g w:=by
 refine⟨fun hK=>?_⟩;obtain⟨K,f,L⟩:=s;cases K with
 | nil=>exact⟨rfl,v,hr hK,h hK⟩
 | cons t K =>
  cases t with
  | c x =>
   cases x with
   | ret=>exact wp_ret (Kq.ret K _ _ ⟨rfl,v,hr hK,h hK⟩)
   | _=>cases hs
  | _=>cases hs
def MM:Nat→List Value→List (Nat × Value)
 | _,[]=>[]
 | i,v::r=>(i,v)::MM (i+1) r
theorem Sg:∀ (l:List Value) (i t:Nat),lk (fun _=>undef) (MM i l) t=if i≤t then l.getD (t-i) undef else undef
 | [],i,t=>by simp[MM,lk]
 | v::r,i,t=>by
  unfold MM lk;cases hb:Nat.beq i t with
  | true=>obtain rfl:=Nat.eq_of_beq_eq_true hb;simp
  | false =>
   have hne:i≠t:=fun he=>by rw[he,Nat.beq_refl]at hb;cases hb
   rw[cond_false,Sg r (i+1) t];by_cases h:i≤t
   ·rw[if_pos h,if_pos (by omega),show t-i=(t-(i+1))+1 by omega];simp
   ·rw[if_neg h,if_neg (by omega)]
theorem gb{n:Nat}{args:Array Value}(hn:args.size≤n):(⟨n,MM 0 args.toList,fun _=>undef⟩:Fm).act={ tmps:=args++Array.replicate (n-args.size) undef,defers:=[] }:=by
 unfold Fm.act;simp only[Act.mk.injEq,and_true];apply Array.ext_getElem?;intro i;simp only[List.getElem?_toArray,List.getElem?_map,Array.getElem?_append,Array.getElem?_replicate];by_cases hi:i<n
 ·rw[List.getElem?_range hi];simp only[Option.map_some,Sg,Nat.zero_le,if_true,Nat.sub_zero];by_cases ha:i<args.size
  ·rw[if_pos ha,List.getD_eq_getElem?_getD];simp[ha]
  ·rw[if_neg ha,if_pos (by omega),List.getD_eq_getElem?_getD];simp[ha]
 ·rw[List.getElem?_eq_none (by simpa using hi),if_neg (by omega),if_neg (by omega)];rfl
def NW(fn:Func):Code:=match fn.body with|some c=>c|none=>.skip
theorem gIn{f:FuncId}{args:Array Value}(T:List Tg)(g:Gh)(hf:P.funcs[f]?=some fn)(hb:fn.body.isSome=true)(hn:Nat.ble args.size fn.ntmps=true)(hg:∀ b,w.heap.size≤b→g.t b=.z∧g.k b=0)(h:GG P fn R w.heap.size T ⟨[.c (NW fn)],⟨fn.ntmps,MM 0 args.toList,fun _=>undef⟩,[]⟩ g w):Calls P f args w R:=by
 cases hh:fn.body with
 | none=>rw[hh]at hb;cases hb
 | some c =>
  refine calls_of_wp hf hh ?_;have h1:=h.ex ⟨(fun x hx=>absurd hx List.not_mem_nil),List.Pairwise.nil,hg,Nat.le_refl _⟩;simp only[gb (by rw[Nat.ble_eq]at hn;exact hn)]at h1;unfold NW at h1;rw[hh]at h1
  exact h1
theorem gI{f:FuncId}{args:Array Value}(T:List Tg)(g:Gh)(hf:P.funcs[f]?=some fn)(hg:∀ b,w.heap.size≤b→g.t b=.z∧g.k b=0)(h:GG P fn R w.heap.size T ⟨[.c (NW fn)],⟨fn.ntmps,MM 0 args.toList,fun _=>undef⟩,[]⟩ g w)(hb:fn.body.isSome=true:=by kernel_rfl)(hn:Nat.ble args.size fn.ntmps=true:=by kernel_rfl):Calls P f args w R:=gIn T g hf hb hn hg h
end
section
variable{P:Program}{fn:Func}{R:Ending→World→Prop}{B:Nat}{T:List Tg}{g:Gh}{w:World}
theorem GR{s:Xs}(b:Nat)(o:Obj)(r i:Nat)(h1:w.heap[b]?=some o)(h2:g.t b=.n r i)(h3:g.k b=0)(hT:s.L.all (fun y=>(Tg.n r i).ne y.t)=true)(h:GG P fn R B T ⟨s.K,s.f,Bj s.L++[⟨b,o,.n r i,false⟩]⟩ g w):GG P fn R B T s g w :=
 BH ⟨b,o,.n r i,false⟩ (fun _=>⟨h1,h2,fun h=>(by cases h),fun _=>h3⟩) (by show(true&&(false||_))=true;rw[Bool.false_or,Bool.true_and];exact hT) h
theorem YE{s:Xs}(i':Nat)(v:Value)(h:Kn B g w s.L→Cz P s i' w=some (.ok (.value v) w))(hob:(nxt s i' undef s.L).o.map Ob.l'=(nxt s i' undef s.L).o.map Ob.r')(hk:GG P fn R B T (nxt s i' v s.L).s g w):GG P fn R B T s g w:=by
 refine Ae fun hK=>?_;have h1:=h hK;unfold Cz at h1;refine Kk i' s.L hob ?_ fun _ ops i o hop=>?_
 ·cases hx:opN s i' with
  | none=>rw[hx]at h1;cases h1
  | some x=>rfl
 ·rw[hop]at h1
  exact⟨v,w,g,.inl (by simpa using h1),hK,hk⟩
def tkN(s:Xs)(i':Nat)(v:Value)(ld:Bool):Rz:=match s.K with
 | .x ops (u+1) Ld e L0::K=>match ops[i']? with
  | some o=>⟨⟨.x ops u (Ld.setIfInBounds i' true) e L0::K,s.f.put o.dst v,s.L⟩,[.b (s.f.wants ops o),.b (tkB ops Ld e i' ld&&o.dst.isSome&&(!ld||!Ld.getD e false)),.l (cond (Ld.getD e false) [] L0) (cond (Ld.getD e false) [] (Bj (s.L.take L0.length)))]⟩
  | none=>⟨s,[.b false]⟩
 | _=>⟨s,[.b false]⟩
def Xm(s:Xs):List Sh:=match s.K with|.x _ _ _ _ L0::_=>L0|_=>[]
theorem O9{s:Xs}(i':Nat)(v:Value)(ld:Bool)(h:∀ W,(ld=true→AK (Xm s) W)→Cz P s i' W=some (.ok (.value v) W))(hob:(tkN s i' undef ld).o.map Ob.l'=(tkN s i' undef ld).o.map Ob.r')(hk:GG P fn R B T (tkN s i' v ld).s g w):GG P fn R B T s g w:=by
 refine⟨fun hK=>?_⟩;obtain⟨K,f,L⟩:=s;have hall:=Ob.all hob;have hk':=hk.ex;unfold tkN at hall hk';unfold Cz opN Xm at h;cases K with
 | nil=>exact absurd (hall _ (List.mem_cons_self ..)) (by simp[Ob.ok])
 | cons t K =>
  cases t with
  | x ops u Ld e L0 =>
   cases u with
   | zero=>exact absurd (hall _ (List.mem_cons_self ..)) (by simp[Ob.ok])
   | succ u =>
    simp only at hall hk' h;cases ho:ops[i']? with
    | none=>rw[ho]at hall;exact absurd (hall _ (List.mem_cons_self ..)) (by simp[Ob.ok])
    | some o =>
     simp only[ho,Option.map_some,Option.some.injEq]at hall hk' h;have hw:=hall _ (List.mem_cons_self ..);have h1:=hall _ (List.mem_cons_of_mem _ (List.mem_cons_self ..));have h2:=hall _ (List.mem_cons_of_mem _ (List.mem_cons_of_mem _ (List.mem_cons_self ..)));simp only[Ob.ok,Bool.and_eq_true]at hw h1 h2;obtain⟨⟨h1,h1d⟩,h1e⟩:=h1;have hw':Region.wanted o (yielded ops f.act.tmps)=true:=by rw[f.wanted];exact hw
     have hS:Sx [(e,AK L0)] Ld w:=Uv (ops:=ops) hK.rows h2;have hrest:=hk' hK;simp only[Fm.act_put]at hrest;have hQ:∀ c a d v w,Kq P (bodyPost P fn R) K (.panic c) (a.put (some d) v) w→Kq P (bodyPost P fn R) K (.panic c) a w:=fun c a d v w=>Kq.panic K c a (some d) v w;cases hdd:o.dst with
     | none=>rw[hdd]at h1d;cases h1d
     | some d =>
      rw[hdd]at hrest
      unfold tkB at h1;simp only[Bool.and_eq_true]at h1;obtain⟨ns,⟨⟨⟨⟨t1,t2⟩,t3⟩,t4⟩,t5⟩⟩:=h1;have hgot:∀ W,(ld=true→AK L0 W)→got P ops f.act W i'=some (some d,v,W):=fun W hW=>by
       unfold got;simp only[ho,hw',if_true,f.eval,h W hW,hdd]
      cases ld with
      | false =>
       rw[cond_false]at t5
       refine xB0 u [i'] [(d,v)] (fun W=>?_) ns ?_ rfl rfl hQ hS hrest
       ·simp only[Q3,wants,List.map_cons,List.map_nil,hgot W (fun h=>by cases h)]
       ·simp only[KW,List.map_cons,List.map_nil,List.all_cons,List.all_nil,Bool.and_true,Bool.and_eq_true];exact⟨⟨⟨⟨t1,t2⟩,t3⟩,t4⟩,t5⟩
      | true =>
       rw[cond_true]at t5
       have hef:Ld.getD e false=false:=by simpa using h1e
       refine xC0 u i' d (V9 ops i') v (fun W hW=>hgot W (fun _=>hW)) (hS.1 hef) ns ?_ rfl hQ hS hrest;simp only[List.map_cons,List.map_nil,List.all_cons,List.all_nil,Bool.and_true,Bool.and_eq_true]at t5 ⊢;exact⟨⟨⟨⟨t1,t2⟩,t3⟩,t4⟩,t5⟩
  | _=>exact absurd (hall _ (List.mem_cons_self ..)) (by simp[Ob.ok])
def Ot(s:Xs):Value:=match s.K with|.c (.cond c _ _)::_=>s.f.ev c|_=>undef
def JY(s:Xs)(t:Bool):Xs:=match s.K with|.c (.cond _ x y)::K=>⟨.c (cond t x y)::K,s.f,s.L⟩|_=>s
theorem gIf{s:Xs}(b t:Bool)(hb:b=t)(hc:Ot s=.bool b)(h:GG P fn R B T (JY s t) g w):GG P fn R B T s g w:=by
 subst hb;refine⟨fun hK=>?_⟩;obtain⟨K,f,L⟩:=s;unfold Ot at hc;have h':=h.ex;unfold JY at h';cases K with
 | nil=>cases hc
 | cons t K =>
  cases t with
  | c x =>
   cases x with
   | cond c x y =>
    simp only at hc h';have h1:=h' hK;refine wp_cond (t:=b) (by rw[f.eval];exact hc) ?_;cases b<;>exact h1
   | _=>cases hc
  | _=>cases hc
theorem Wq{p:Nat→Prop}:∀ k,p k→∃ m,p m∧∀ j,p j→m≤j:=by
 intro k;induction k using Nat.strongRecOn with
 | _ k ih =>
  intro hk;by_cases h:∃ j,j<k∧p j
  ·obtain⟨j,hj,hp⟩:=h;exact ih j hj hp
  ·exact⟨k,hk,fun j hj=>Nat.le_of_not_lt fun hl=>h ⟨j,hl,hj⟩⟩
theorem eK{c:Code}{Q:Exit→Act→World→Prop}(Inv:Nat→Act→World→Prop)(round:∀ k a w,Inv k a w→c.wp P (Exit.then (fun a' w'=>∃ k',k'<k∧Inv k' a' w') Q) a w)(k:Nat)(a:Act)(w:World)(h:Inv k a w):(Code.loop c).wp P Q a w:=by
 classical
 have hl:∀ a w,(∃ k,Inv k a w)→∃ m,Inv m a w∧∀ j,Inv j a w→m≤j:=fun a w ⟨k,hk⟩=>Wq k hk
 let μ:Act→World→Nat:=fun a w=>if h:∃ k,Inv k a w then Classical.choose (hl a w h)else 0
 refine wp_loop (fun a w=>∃ k,Inv k a w) μ ⟨k,h⟩ fun a w hI=>?_;have hμ:μ a w=Classical.choose (hl a w hI):=dif_pos hI;refine wp_mono (round _ a w (Classical.choose_spec (hl a w hI)).1) fun e a' w' hq=>?_;cases e with
 | normal =>
  obtain⟨k',hlt,hk'⟩:=hq;refine⟨⟨k',hk'⟩,?_⟩;have hI':∃ k,Inv k a' w':=⟨k',hk'⟩;have hμ':μ a' w'=Classical.choose (hl a' w' hI'):=dif_pos hI';show μ a' w'<μ a w;rw[hμ,hμ'];exact Nat.lt_of_le_of_lt ((Classical.choose_spec (hl a' w' hI')).2 k' hk') hlt
 | _=>exact hq
theorem eC{K:List Kt}{body:Code}{n:Nat}(Inv:Nat→Gh→World→List (Nat × Value)→List Sh→Prop)
  (round:∀ k g w e z L,Inv k g w e L→∀ J:Act→World→Prop,(∀ k' g' w' e' z' L',k'<k→Inv k' g' w' e' L'→Kn B g' w' L'→J (⟨n,e',z'⟩:Fm).act w')→GG P fn R B T ⟨.c body::.j J::K,⟨n,e,z⟩,L⟩ g w)
  {k:Nat}{e:List (Nat × Value)}{z:Nat→Value}{L:List Sh}(h:Inv k g w e L):GG P fn R B T ⟨.c (.loop body)::K,⟨n,e,z⟩,L⟩ g w:=by
 refine⟨fun hK=>?_⟩;refine eK (fun k a w=>∃ g e z L,Inv k g w e L∧Kn B g w L∧a=(⟨n,e,z⟩:Fm).act) (fun k a w hI=>?_) k _ w ⟨g,e,z,L,h,hK,rfl⟩;obtain⟨g,e,z,L,hI,hK,rfl⟩:=hI;exact(round k g w e z L hI (fun a' w'=>∃ k',k'<k∧∃ g e z L,Inv k' g w' e L∧Kn B g w' L∧a'=(⟨n,e,z⟩:Fm).act) (fun k' g' w' e' z' L' hlt hI' hK'=>⟨k',hlt,g',e',z',L',hI',hK',rfl⟩)).ex hK
end
structure S3 where
 a:Option Addr
 n:Nat
 c:Nat
abbrev S3.v(x:S3):Value:=.slice x.a x.n x.c
def s30:S3:=⟨none,0,0⟩
def H8(g:Gh)(w:World):Prop:=∀ b,w.heap.size≤b→g.t b=.z∧g.k b=0
structure OwnS(g:Gh)(w:World)(τ:Tg)(kp:Bool)(e:TypeId)(sz:Nat)(x:S3)(xs:List Value):Prop where
 len:xs.length=x.n*sz
 ex:(x.a=none∧x.n=0∧x.c=0)∨∃ b cur,x.a=some ⟨b,0,none⟩∧w.heap[b]?=some (.cells cur e (0,0))∧x.n≤x.c∧x.c≤maxLen∧cur.size=x.c*sz∧cur.toList.take (x.n*sz)=xs∧g.t b=τ∧g.k b=(if kp then xs.length else 0)
theorem OwnS.nil(g:Gh)(w:World)(τ:Tg)(kp:Bool)(e:TypeId)(sz:Nat):OwnS g w τ kp e sz s30 []:=⟨by simp[s30],.inl ⟨rfl,rfl,rfl⟩⟩
theorem OwnS.ch{B:Nat}{T:List Tg}{g g':Gh}{w w':World}{τ:Tg}{kp:Bool}{e:TypeId}{sz:Nat}{x:S3}{xs:List Value}(h:OwnS g w τ kp e sz x xs)(c:Cg B T g w g' w')(hτ:τ∉T:=by simp)(hl:τ≠.l:=by simp):OwnS g' w' τ kp e sz x xs:=by
 refine⟨h.len,?_⟩;rcases h.ex with h1|⟨b,cur,h1,h2,h3,h4,h5,h6,h7,h8⟩
 ·exact .inl h1
 ·have hb:=rl h2;exact .inr ⟨b,cur,h1,(c.same b hb (by rw[h7];exact hτ) (by rw[h7];exact fun h=>absurd h hl)).trans h2,h3,h4,h5,h6,(c.tag hb (by rw[h7];exact fun h=>absurd h hl)).trans h7,by rw[c.kat b hb (by rw[h7];exact hτ) (by rw[h7];exact fun h=>absurd h hl)];exact h8⟩
theorem OwnS.cell{g:Gh}{w:World}{τ:Tg}{kp:Bool}{e:TypeId}{sz:Nat}{x:S3}{xs:List Value}(h:OwnS g w τ kp e sz x xs){j:Nat}{u:Value}(hj:xs[j]?=some u):∃ b,x.a=some ⟨b,0,none⟩∧b<w.heap.size∧w.cell? ⟨b,j,none⟩=some u:=by
 have hlt:j<xs.length:=(List.getElem?_eq_some_iff.1 hj).1;rcases h.ex with⟨h1,h2,h3⟩|⟨b,cur,h1,h2,h3,h4,h5,h6,h7,h8⟩
 ·rw[h.len,h2]at hlt;omega
 ·refine⟨b,h1,rl h2,?_⟩;rw[cell_of_row _ _ _ _ _ _ h2];rw[← h6,List.getElem?_take]at hj
  split at hj
  ·simpa using hj
  ·cases hj
section
variable{P:Program}{B:Nat}{T:List Tg}{g:Gh}{w:World}
def MY(g:Gh)(w:World)(τ:Tg)(k:Nat):Gh:=⟨fun b=>if b=w.heap.size then τ else g.t b,fun b=>if b=w.heap.size then k else g.k b⟩
def eB(g:Gh)(b k:Nat):Gh:=⟨g.t,fun c=>if c=b then k else g.k c⟩
theorem ga{τ:Tg}{kp:Bool}{x:S3}{xs:List Value}(t ty e:TypeId)(sz bytes:Nat)(z:Value)(ht:P.underlying t=some (.slice e))(hinfo:(P.info? e).map (fun i=>(i.zero,i.size,i.bytes))=some (some z,sz,bytes))(hzs:z.cells.size=sz)(hsz:0<sz)
  (hτ:τ∈T)(hx:OwnS g w τ kp e sz x xs)(hg:H8 g w)(a:Addr)(m c:Nat)(news:List Value)(hm:0<m)(hl:news.length=m*sz)(hnews:∀ j u,news[j]?=some u→w.cell? (a.add j)=some u)(h1:∀ u∈news,u.oneCell'=true)
  (h63:x.n+m≤maxLen)(hbytes:(x.n+m)*bytes≤140737488355328) :
  ∃ x' w' g',(Builtin.append_ #[t,t] ty #[x.v,.slice (some a) m c]).run P w=.ok (S3.v x') w'∧OwnS g' w' τ kp e sz x' (xs++news)∧x'.n=x.n+m∧Cg B T g w g' w'∧H8 g' w':=by
 obtain⟨i,hi,hz,hs,hby⟩:∃ i,P.info? e=some i∧i.zero=some z∧i.size=sz∧i.bytes=bytes:=by
  cases hh:P.info? e with
  | none=>rw[hh]at hinfo;cases hinfo
  | some i=>rw[hh]at hinfo;simp only[Option.map_some,Option.some.injEq,Prod.mk.injEq]at hinfo;exact⟨i,rfl,hinfo.1,hinfo.2.1,hinfo.2.2⟩
 subst hs;subst hby
 obtain⟨xa,xn,xc⟩:=x;have hlen:(xs++news).length=(xn+m)*i.size:=by rw[List.length_append,hx.len,hl,Nat.add_mul]
 have hmx:xn+m≤9223372036854775807:=by simp only[maxLen]at h63;show xn+m≤_;omega
 have grown:∀ old,old<xn+m→∃ x' g',S3.v x'=.slice (some ⟨w.heap.size,0,none⟩) (xn+m) (grownCap w (xn+m) old e)∧OwnS g' (w.drew.alloc (.cells (xs.toArray++news.toArray++Builtin.zeroCells z.cells (grownCap w (xn+m) old e-(xn+m))) e)) τ kp e i.size x' (xs++news)∧x'.n=xn+m ∧
   Cg B T g w g' (w.drew.alloc (.cells (xs.toArray++news.toArray++Builtin.zeroCells z.cells (grownCap w (xn+m) old e-(xn+m))) e))∧H8 g' (w.drew.alloc (.cells (xs.toArray++news.toArray++Builtin.zeroCells z.cells (grownCap w (xn+m) old e-(xn+m))) e)):=by
  intro old ho;have hge:=grownCap_ge w (xn+m) old e;have hcm:grownCap w (xn+m) old e≤maxLen:=grownCap_le_maxLen w (xn+m) old e h63;refine⟨⟨some ⟨w.heap.size,0,none⟩,xn+m,grownCap w (xn+m) old e⟩,MY g w τ (if kp then(xs++news).length else 0),rfl,⟨hlen,.inr ⟨w.heap.size,_,rfl,heap_alloc_new w.drew _,hge,hcm,?_,?_,if_pos rfl,if_pos rfl⟩⟩,rfl,⟨rfl,rfl,rfl,by simp,fun b hb=>.inl (if_neg (by omega)),fun b hb=>?_,fun b hb _ _=>if_neg (by omega),fun b hb _ _=>heap_alloc_old w.drew _ hb,fun b hb j hj=>World.cell?_of_block (w:=w) (heap_alloc_old w.drew _ hb)⟩,fun b hb=>?_⟩
  ·simp only[Array.size_append,List.size_toArray,size_zeroCells,hzs,hx.len,hl,← Nat.add_mul]
   congr 1
   omega
  ·simp only[Array.toList_append,List.append_assoc];rw[← List.append_assoc,← hlen];exact List.take_left
  ·show _≤(if b=w.heap.size then _ else g.k b);rw[if_neg (by omega)];exact Nat.le_refl _
  ·have hb':w.heap.size+1≤b:=by simpa using hb
   show(if b=w.heap.size then τ else g.t b)=.z∧(if b=w.heap.size then _ else g.k b)=0;rw[if_neg (by omega),if_neg (by omega)];exact hg b (by omega)
 rcases hx.ex with⟨h2,h3,h4⟩|⟨b,cur,h2,h3,h4,h5,h6,h7,h8,h9⟩
 ·simp only at h2 h3 h4;subst h2 h3 h4;have hxs:xs=[]:=List.eq_nil_of_length_eq_zero (by simpa using hx.len);subst hxs;have hr:=run_append_nil (P:=P) w t ty e i z ht hi hz a m c news hl hnews (by omega) (by omega) (by have hb:=hbytes;simp only[Nat.zero_add]at hb;omega);obtain⟨x',g',hv,hrest⟩:=grown 0 (by omega);simp only[Nat.zero_add,List.nil_append,Array.empty_append]at hv hrest ⊢;exact⟨x',_,g',by rw[hv];exact hr,hrest⟩
 ·simp only at h2 h4 h5 h6 h7;subst h2;by_cases hroom:xn+m≤xc
  ·have hfit:xn*i.size+news.length≤cur.size:=by rw[hl,h6,← Nat.add_mul];exact Nat.mul_le_mul_right _ hroom
   have hr:=run_append_room (P:=P) w t ty e i ht hi b xn xc cur h3 a m c news hl hnews h1 hroom hfit;refine⟨⟨some ⟨b,0,none⟩,xn+m,xc⟩,_,eB g b (if kp then(xs++news).length else 0),hr,⟨hlen,.inr ⟨b,_,rfl,setRow_heap w b cur _ e _ h3,hroom,h5,?_,?_,h8,if_pos rfl⟩⟩,rfl,⟨rfl,rfl,rfl,by simp,fun _ _=>.inl rfl,fun d hd=>?_,fun d hd hd1 _=>if_neg (fun e=>hd1 (by rw[e,h8];exact hτ)),fun d hd hd1 _=>setRow_other w b d _ (fun e=>hd1 (by rw[e,h8];exact hτ)),fun d hd j hj=>?_⟩,fun d hd=>?_⟩
   ·simp only[List.size_toArray,List.length_append,List.length_take,List.length_drop,Array.length_toList];omega
   ·rw[h7,← hlen];exact List.take_left
   ·show g.k d≤(if d=b then _ else g.k d);split
    ·rename_i he;rw[he,h9];cases kp<;>simp
    ·exact Nat.le_refl _
   ·by_cases he:d=b
    ·subst he;rw[h9]at hj
     cases kp with
     | false=>simp at hj
     | true =>
      simp only[if_true]at hj;rw[cell_of_row _ _ _ _ _ _ (setRow_heap w d cur _ e _ h3),cell_of_row _ _ _ _ _ _ h3];simp only[List.getElem?_toArray,h7];rw[List.append_assoc,List.getElem?_append_left hj,← h7,List.getElem?_take,if_pos (by have:=hx.len;simp only at this;omega)];simp
    ·exact World.cell?_of_block (w:=w) (setRow_other w b d _ he)
   ·have hd':w.heap.size≤d:=by simpa using hd
    show g.t d=.z∧(if d=b then _ else g.k d)=0;have:=rl h3;rw[if_neg (by omega)];exact hg d hd'
  ·have holds:∀ j u,xs[j]?=some u→w.cell? ((⟨b,0,none⟩:Addr).add j)=some u:=fun j u hj=>by
    obtain⟨b',hb',_,hc⟩:=hx.cell hj;simp only[Option.some.injEq,Addr.mk.injEq,and_true]at hb';subst hb';have:(⟨b,0,none⟩:Addr).add j=⟨b,j,none⟩:=by unfold Addr.add;split<;>simp_all
    rw[this];exact hc
   have hr:=run_append_grow (P:=P) w t ty e i z ht hi hz ⟨b,0,none⟩ xn xc xs hx.len holds a m c news hl hnews (by omega) (by omega) (growslice_fits (by omega) hbytes);obtain⟨x',g',hv,hrest⟩:=grown xc (by omega);exact⟨x',_,g',by rw[hv];exact hr,hrest⟩
end
section
variable{P:Program}{fn:Func}{R:Ending→World→Prop}{B:Nat}{T:List Tg}{g:Gh}{w:World}
theorem Kn.at{L:List Sh}(h:Kn B g w L)(k:Nat){x:Sh}(hx:L[k]?=some x):w.heap[x.g]?=some x.o:=(h.row x (List.mem_of_getElem? hx)).1
theorem Kn.ats{L:List Sh}(h:Kn B g w L)(k b:Nat)(cs:Array Value)(e:TypeId)(t:Tg)(v:Bool)(hx:L[k]?=some ⟨b,.cells cs e,t,v⟩):w.heap[b]?=some (.cells cs e):=h.at k hx
theorem Kn.isN{L:List Sh}(h:Kn B g w L)(k b:Nat)(o:Obj)(r i:Nat)(hx:L[k]?=some ⟨b,o,.n r i,false⟩):w.heap[b]?=some o∧g.t b=.n r i∧g.k b=0 :=
 have h1:=h.row _ (List.mem_of_getElem? hx)
 ⟨h1.1,h1.2.1,h1.2.2.2 (by simp)⟩
theorem Kn.isZ{L:List Sh}(h:Kn B g w L)(k b:Nat)(o:Obj)(v:Bool)(hx:L[k]?=some ⟨b,o,.z,v⟩):w.heap[b]?=some o∧g.t b=.z :=
 have h1:=h.row _ (List.mem_of_getElem? hx)
 ⟨h1.1,h1.2.1⟩
theorem BY{L:List Sh}(h:Kn B g w L)(k b:Nat)(news:List Value)(e:TypeId)(t:Tg)(v:Bool)(hx:L[k]?=some ⟨b,.cells news.toArray e,t,v⟩):∀ j u,news[j]?=some u→w.cell? ((⟨b,0,none⟩:Addr).add j)=some u:=by
 intro j u hj;have h1:=h.at k hx;have:(⟨b,0,none⟩:Addr).add j=⟨b,j,none⟩:=by unfold Addr.add;split<;>simp_all
 rw[this,cell_of_row _ _ _ _ _ _ h1];simpa using hj
def CP(s:Xs)(i':Nat):Option (Sem Next):=(opN s i').map fun x=>execOp s.f.ev x.2.2
theorem CT{s:Xs}{i':Nat}{S:Sem Next}(h:CP s i'=some S){ops:Array Oper}{i:Nat}{o:Oper}(ho:opN s i'=some (ops,i,o)):execOp s.f.ev o=S:=by
 unfold CP at h;rw[ho]at h
 simpa using h
theorem BE{s:Xs}{i':Nat}{S:Sem Next}(h:CP s i'=some S):(opN s i').isSome=true:=by
 unfold CP at h;cases hx:opN s i' with
 | none=>rw[hx]at h;cases h
 | some x=>rfl
theorem Jn{s:Xs}(i':Nat){τ:Tg}{kp:Bool}{x:S3}{xs:List Value}(t ty e:TypeId)(sz bytes:Nat)(z:Value)(a:Addr)(m c:Nat)(news:List Value)(hx:OwnS g w τ kp e sz x xs)
  (hsem:CP s i'=some (Builtin.append_ #[t,t] ty #[x.v,.slice (some a) m c]>>=fun v=>pure (.value v)))(hob:(nxt s i' undef s.L).o.map Ob.l'=(nxt s i' undef s.L).o.map Ob.r')(hT:s.L.all (fun y=>[τ].all fun t=>y.t.ne t)=true)
  (ht:P.underlying t=some (.slice e))(hinfo:(P.info? e).map (fun i=>(i.zero,i.size,i.bytes))=some (some z,sz,bytes))(hzs:Nat.beq z.cells.size sz=true)(hsz:0<sz)(hm:0<m)(hl:news.length=m*sz)(h1:∀ u∈news,u.oneCell'=true)
  (hnews:Kn B g w s.L→∀ j u,news[j]?=some u→w.cell? (a.add j)=some u)(h63:x.n+m≤maxLen)(hbytes:(x.n+m)*bytes≤140737488355328)
  (hk:∀ x' g' w',OwnS g' w' τ kp e sz x' (xs++news)→x'.n=x.n+m→(∀ B T,τ∈T→Cg B T g w g' w')→H8 g' w'→GG P fn R B T (nxt s i' (S3.v x') s.L).s g' w'):GG P fn R B T s g w:=by
 refine Kk i' s.L hob (BE hsem) fun hK ops i o hop=>?_;obtain⟨x',w',g',hr,h2,h3,h4,h5⟩:=ga (P:=P) (B:=w.heap.size) (T:=[τ]) t ty e sz bytes z ht hinfo (Nat.eq_of_beq_eq_true hzs) hsz (List.mem_singleton.2 rfl) hx hK.new a m c news hm hl (hnews hK) h1 h63 hbytes;refine⟨x'.v,w',g',.inl ?_,hK.ch h4 h5 hT,hk x' g' w' h2 h3 (fun B T hT=>(h4.ret (B:=B)).mono fun t ht=>by rw[List.mem_singleton.1 ht];exact hT) h5⟩;rw[CT hsem hop,Sem.run_bind,hr,Result.andThen_ok];rfl
end
end Go.Proofs.YtaeckakjdagddadGreatDoor
