/- Part 9 of the walk: what the functions of the program do, one by one. -/
import Derived.Test.YtakgfdbjgeopdaaGreatDoorZ8
set_option maxRecDepth 100000
set_option maxHeartbeats 4000000
open Go.Proofs.Tryz
set_option linter.unusedVariables false
namespace Go.Proofs.YtakgfdbjgeopdaaGreatDoor
open Go.RowKit
section
variable{P:Program}{ops:Array Oper}{Q:Exit→Act→World→Prop}{md:Region.Mode}{S:List (Nat × (World→Prop))}
def pts:Act→List (Nat × Value)→Act
 | a,[]=>a
 | a,p::r=>pts (a.put (some p.1) p.2) r
def got(P:Program)(ops:Array Oper)(a:Act)(w:World)(i:Nat):Option (Option Tmp × Value × World) :=
 match ops[i]? with
 | none=>none
 | some o=>if Region.wanted o (yielded ops a.tmps)then(match(execOp a.eval o).run P w with
   | .ok (.value v) w'=>some (o.dst,v,w')
   | _=>none)else some (o.dst,undef,w)
def Pm(P:Program)(ops:Array Oper)(w:World):List Nat→List (Nat × Value)→Act→List (Option (Option Tmp × Value × World))
 | i::is,p::ps,a=>got P ops a w i::Pm P ops w is ps (a.put (some p.1) p.2)
 | _,_,_=>[]
def wants(w:World)(ps:List (Nat × Value)):List (Option (Option Tmp × Value × World)):=ps.map fun p=>some (some p.1,p.2,w)
theorem Pk{a:Act}{i d:Nat}{v:Value}{S0:World→Prop}(h:∀ w,got P ops a w i=some (some d,v,w)):∃ o,ops[i]?=some o∧o.dst=some d∧YieldsIf P ops S0 o v a:=by
 cases ho:ops[i]? with
 | none=>have:=h default;unfold got at this;rw[ho]at this;cases this
 | some o =>
  by_cases hw:Region.wanted o (yielded ops a.tmps)=true
  ·have key:∀ w,o.dst=some d∧(execOp a.eval o).run P w=.ok (.value v) w:=fun w=>by
    have h1:=h w;unfold got at h1;rw[ho]at h1
    simp only[hw,if_true]at h1;split at h1
    ·rename_i v' w' hr
     simp only[Option.some.injEq,Prod.mk.injEq]at h1;obtain⟨h2,rfl,rfl⟩:=h1;exact⟨h2,hr⟩
    ·cases h1
   exact⟨o,rfl,(key default).1,.inl ⟨hw,fun w _=>(key w).2⟩⟩
  ·have h1:=h default;unfold got at h1;rw[ho]at h1
   simp only[hw,if_false,Option.some.injEq,Prod.mk.injEq,Bool.false_eq_true]at h1;exact⟨o,rfl,h1.1,.inr ⟨by simpa using hw,h1.2.1.symm⟩⟩
def Kc(md:Region.Mode)(ops:Array Oper)(gs:List Nat):List Nat→Array Bool→Bool
 | [],_=>true
 | i::is,L=>Region.free md ops L i&&(Region.ready md ops L).contains i&&gs.all (· != i)&&decide (L.size=ops.size)&&(L.getD i true==false)&&Kc md ops gs is (L.setIfInBounds i true)
def bR(L:Array Bool)(is:List Nat):Array Bool:=is.foldl (fun L i=>L.setIfInBounds i true) L
theorem XR{i:Nat}{S:List (Nat × (World→Prop))}(h:(S.map (·.1)).all (· != i)=true):S.all (fun c=>c.1 != i)=true:=by
 rw[List.all_map]at h
 exact h
theorem xB0{m:Nat}{L:Array Bool}{a:Act}{w:World}(n:Nat)(is:List Nat)(ps:List (Nat × Value))(h:∀ w,Pm P ops w is ps a=wants w ps)(hs:Region.noSelect ops=true)(hb:Kc md ops (S.map (·.1)) is L=true)
  (hm:m=n+ps.length)(hl:is.length=ps.length)(hQ:∀ c a d v w,Q (.panic c) (a.put (some d) v) w→Q (.panic c) a w)(hS:Sx S L w)(hk:Bf P md ops Q S n (bR L is) (pts a ps) w):Bf P md ops Q S m L a w:=by
 subst hm;induction is generalizing L a ps with
 | nil =>
  obtain rfl:ps=[]:=List.eq_nil_of_length_eq_zero hl.symm;exact hk
 | cons i is ih =>
  cases ps with
  | nil=>cases hl
  | cons p r =>
   have h1:∀ w,got P ops a w i=some (some p.1,p.2,w):=fun w=>by
    have:=h w;simp only[Pm,wants,List.map_cons,List.cons.injEq]at this;exact this.1
   have h2:∀ w,Pm P ops w is r (a.put (some p.1) p.2)=wants w r:=fun w=>by
    have:=h w;simp only[Pm,wants,List.map_cons,List.cons.injEq]at this;exact this.2
   obtain⟨o,ho,hd,hy⟩:=Pk (S0:=Sd [i] ops.size S) h1;simp only[Kc,Bool.and_eq_true]at hb;obtain⟨⟨⟨⟨⟨b1,b2⟩,b3⟩,b4⟩,b5⟩,b6⟩:=hb;have hS':Sx S (L.setIfInBounds i true) w:=by
    have hg:=XR b3;clear hk ih h h1 h2 hy b1 b2 b3 b4 b5 b6;induction S with
    | nil=>trivial
    | cons c r ih =>
     simp only[List.all_cons,Bool.and_eq_true,bne_iff_ne,ne_eq]at hg;refine⟨fun hc=>hS.1 ?_,ih hS.2 hg.2⟩;rw[Array.getD_eq_getD_getElem?]at hc ⊢
     rw[Array.getElem?_setIfInBounds_ne (fun e=>hg.1 e.symm)]at hc
     exact hc
   refine XN p.1 [i] ho hd hs b1 b2 (fun c a w hq=>hQ c _ _ _ w hq) ?_ hy hS (ih r h2 b6 (by simpa using hl) hS' hk);rw[XR b3,b4];simp[Kj];simpa using b5
abbrev iv(n:Int):Value:=.int .i64 n
abbrev pt(b o:Nat):Value:=.pointer (some ⟨b,o,none⟩)
abbrev sn:Value:=.slice none 0 0
theorem xS0{m:Nat}{L:Array Bool}{a:Act}{w:World}(n i:Nat)(hr:Region.ready md ops L=[i])(hm:m=n+1)(h:wpOp P ops Q i (fun a' w'=>Sx S (L.setIfInBounds i true) w'∧Bf P md ops Q S n (L.setIfInBounds i true) a' w') a w):Bf P md ops Q S m L a w:=by subst hm;exact bZ hr h
theorem Oh{w:World}{b:Nat}{arr:Array Value}{t:TypeId}{fr:Nat × Nat}(h:w.heap[b]?=some (.cells arr t fr))(k:Nat)(cs:List Value)(hc:(arr.toList.drop k).take cs.length=cs):w.rangeAt b k cs:=fun j u hj=>by
 rw[cell_of_row _ _ (k+j) _ _ _ h];have hjl:j<cs.length:=(List.getElem?_eq_some_iff.1 hj).1;rw[← hc,List.getElem?_take,if_pos hjl,List.getElem?_drop]at hj
 simpa using hj
theorem V1{w:World}{b:Nat}{arr:Array Value}{t:TypeId}(h:w.heap[b]?=some (.cells arr t (0,0)))(k n:Nat)(hn:k+n≤arr.size):w.there b k n:=fun j hj =>
 ⟨by rw[cell_of_row _ _ (k+j) _ _ _ h,Array.getElem?_eq_getElem (by omega)];rfl,frozen_of_row _ _ (k+j) _ _ h⟩
def WX(arr:Array Value):Nat→List Value→Array Value
 | _,[]=>arr
 | k,v::r=>WX (arr.setIfInBounds k v) (k+1) r
theorem YQ{w:World}{b:Nat}{t:TypeId}(vs:List Value):∀ {arr:Array Value} (k:Nat) (h:w.heap[b]?=some (.cells arr t (0,0))),(w.setCells b k vs).heap[b]?=some (.cells (WX arr k vs) t (0,0)):=by
 induction vs generalizing w with
 | nil=>intro arr k h;exact h
 | cons v r ih=>intro arr k h;exact ih (k+1) (heap_setCell_same w b k arr t v h)
theorem YP{w:World}{b:Nat}{t:TypeId}{arr:Array Value}(k:Nat)(v:Value)(h:w.heap[b]?=some (.cells arr t (0,0))):(w.setCell ⟨b,k,none⟩ v).heap[b]?=some (.cells (arr.setIfInBounds k v) t (0,0)):=heap_setCell_same w b k arr t v h
theorem Sq{w:World}{t e:TypeId}{b k n c z i:Nat}(hu:P.underlying t=some (.slice e))(he:P.elem t=e)(hi:(P.info? e).map (·.size)=some z)(h:i<n)(j:Nat)(hj:k+z*i=j):(Instr.indexAt t (.slice (some ⟨b,k,none⟩) n c) (iv (i:Int))).run P w=.ok (pt b j) w:=by
 have hs:(Go.sizeOf e).run P w=.ok z w:=by
  cases hx:P.info? e with
  | none=>rw[hx]at hi;cases hi
  | some x=>rw[hx]at hi;simp at hi;simp[Go.sizeOf,typeInfo,hx,hi]
 rw[run_indexAt_slice (P:=P) w t _ n c .i64 _ (by rw[he];exact hu),if_pos ⟨by omega,by omega⟩,he,hs];simp[Result.andThen,Addr.add_mid,Nat.mul_comm,← hj]
theorem ai{w:World}{src dst:TypeId}{k k':IntKind}{n:Int}(hs:(P.underlying src).isSome=true)(hd:P.underlying dst=some (.int k'))(hk:P.intKind dst=k')(h:k'.wrap n=n):(convert src dst (.int k n)).run P w=.ok (.int k' n) w:=by
 rw[run_convert_int (P:=P) w src dst k n hs (by rw[hk];exact hd),hk,h]
theorem xC0{m:Nat}{L:Array Bool}{a:Act}{w:World}{s:Nat}{C:World→Prop}{S':List (Nat × (World→Prop))}(n i d:Nat)(D:List Nat)(v:Value)(h:∀ W,C W→got P ops a W i=some (some d,v,W))(hw:C w)(hs:Region.noSelect ops=true)
  (hb:(Region.free md ops L i&&(Region.ready md ops L).contains i&&(((s,C)::S':List (Nat × (World→Prop))).map (·.1)).all (· != i)&&decide (L.size=ops.size)&&(D.contains i&&(D.contains s||decide (ops.size≤s))&&Kj md ops i D&&D.all fun j=>L.getD j true==false))=true)
  (hm:m=n+1)(hQ:∀ c a d v w,Q (.panic c) (a.put (some d) v) w→Q (.panic c) a w)(hS:Sx ((s,C)::S') L w)(hk:Bf P md ops Q ((s,C)::S') n (L.setIfInBounds i true) (a.put (some d) v) w) :
  Bf P md ops Q ((s,C)::S') m L a w:=by
 subst hm;simp only[Bool.and_eq_true]at hb;obtain⟨⟨⟨⟨b1,b2⟩,b3⟩,b4⟩,⟨⟨⟨c1,c2⟩,c3⟩,c4⟩⟩:=hb;cases ho:ops[i]? with
 | none=>have h:=h w hw;unfold got at h;rw[ho]at h;cases h
 | some o =>
  have key:∀ W,C W→o.dst=some d∧((Region.wanted o (yielded ops a.tmps)=true∧(execOp a.eval o).run P W=.ok (.value v) W)∨(Region.wanted o (yielded ops a.tmps)=false∧v=undef)):=fun W hW=>by
   have h:=h W hW;unfold got at h;rw[ho]at h
   simp only at h;split at h
   ·rename_i hw
    split at h
    ·rename_i v' w' hr
     simp only[Option.some.injEq,Prod.mk.injEq]at h;obtain⟨h1,rfl,rfl⟩:=h;exact⟨h1,.inl ⟨hw,hr⟩⟩
    ·cases h
   ·rename_i hw
    simp only[Option.some.injEq,Prod.mk.injEq]at h;exact⟨h.1,.inr ⟨by simpa using hw,h.2.1.symm⟩⟩
  refine XN d D ho (key w hw).1 hs b1 b2 (fun c a w hq=>hQ c _ _ _ w hq) ?_ ?_ hS hk
  ·rw[XR b3,b4,c1,c3,c4];rfl
  ·by_cases hw2:Region.wanted o (yielded ops a.tmps)=true
   ·refine .inl ⟨hw2,fun w2 h2=>?_⟩;rcases(key w2 (h2.1 c2)).2 with h3|h3
    ·exact h3.2
    ·rw[hw2]at h3;cases h3.1
   ·rcases(key w hw).2 with h3|h3
    ·exact absurd h3.1 hw2
    ·exact .inr h3
theorem Of{w:World}{t:TypeId}{x y:Operand}{m n:Int}{b:Bool}(h:(m==n)=b):(do Go.eqGuard .eql t x y (iv m) (iv n);Go.binOp .eql t (iv m) (iv n):Sem Value).run P w=.ok (.bool b) w:=by
 subst h;rfl
theorem rl{w:World}{g:Nat}{o:Obj}(h:w.heap[g]?=some o):g<w.heap.size:=(Array.getElem?_eq_some_iff.1 h).1
theorem rB{w w':World}{g:Nat}{o:Obj}(b:Below w.heap.size w w')(h:w.heap[g]?=some o):w'.heap[g]?=some o:=(b.block _ (rl h)).trans h
theorem ZW{i:Nat}{o:Oper}{a:Act}{w:World}{K:Act→World→Prop}{ty:TypeId}{x y:Operand}{g k:Nat}{t:TypeId}{old new:Array Value}(cells:Array Value)(hg:w.heap[g]?=some (.cells old t (0,0)))(ho:ops[i]?=some o)(hw:Region.wanted o (yielded ops a.tmps)=true)(hd:o.dst=none)(hop:o.op=.store ty x y)
  (hx:a.eval x=pt g k)(hy:a.eval y=.agg cells)(hi:(P.info? ty).map (·.size)=some cells.size)(hold:k+cells.size≤old.size)(h1:cells.all (·.oneCell')=true)(hn:WX old k cells.toList=new)
  (h:∀ w',w'.heap[g]?=some (.cells new t)→Only g w w'→K a w'):wpOp P ops Q i K a w :=
 PE ho hw hd ty x y hop g k cells hx hy (V1 hg k _ hold) hi h1 (h _ (by rw[← hn];exact YQ _ _ hg) (Only.store _ _ _ _))
theorem ZX{i:Nat}{o:Oper}{a:Act}{w:World}{K:Act→World→Prop}{ty:TypeId}{x y:Operand}{g k:Nat}{t:TypeId}{old new:Array Value}(v:Value)(hg:w.heap[g]?=some (.cells old t (0,0)))(ho:ops[i]?=some o)(hw:Region.wanted o (yielded ops a.tmps)=true)(hd:o.dst=none)(hop:o.op=.store ty x y)
  (hx:a.eval x=pt g k)(hy:a.eval y=v)(hi:(P.info? ty).map (·.size)=some 1)(hold:k<old.size)(h1:v.oneCell'=true)(hn:old.setIfInBounds k v=new)
  (h:∀ w',w'.heap[g]?=some (.cells new t)→Only g w w'→K a w'):wpOp P ops Q i K a w :=
 PF ho hw hd ty x y hop g k v old[k] hx hy (by rw[cell_of_row _ _ k _ _ _ hg,Array.getElem?_eq_getElem hold]) (frozen_of_row _ _ k _ _ hg) hi h1 (h _ (by rw[← hn];exact YP k v hg) (Only.one _ _ _ _))
theorem ZV{i:Nat}{a:Act}{w:World}{K:Act→World→Prop}(d:Nat)(v:Value)(h:got P ops a w i=some (some d,v,w))(hk:K (a.put (some d) v) w):wpOp P ops Q i K a w:=by
 unfold got at h;unfold wpOp;cases ho:ops[i]? with
 | none=>rw[ho]at h;cases h
 | some o =>
  rw[ho]at h
  simp only;simp only at h;split
  ·rename_i hw
   simp only[hw,if_true]at h;split at h
   ·rename_i v' w' hr
    simp only[Option.some.injEq,Prod.mk.injEq]at h;obtain⟨h2,rfl,rfl⟩:=h;refine .inl ?_;unfold Oper.wp;rw[hr,Oper.upon_value,h2];exact hk
   ·cases h
  ·rename_i hw
   simp only[hw,if_false,Option.some.injEq,Prod.mk.injEq,Bool.false_eq_true]at h;obtain⟨h2,rfl,_⟩:=h;rw[h2];exact hk
theorem Sr{w:World}{t:TypeId}{x y:Operand}{m n:Int}{b:Bool}(h:(m != n)=b):(do Go.eqGuard .neq t x y (iv m) (iv n);Go.binOp .neq t (iv m) (iv n):Sem Value).run P w=.ok (.bool b) w:=by
 subst h;rfl
theorem rLt{w:World}{t:TypeId}{x y:Operand}{m n:Int}{b:Bool}(h:decide (m<n)=b):(do Go.eqGuard .lss t x y (iv m) (iv n);Go.binOp .lss t (iv m) (iv n):Sem Value).run P w=.ok (.bool b) w:=by
 subst h;rfl
end
structure Fm where
 n:Nat
 e:List (Nat × Value)
 z:Nat→Value
def lk(z:Nat→Value):List (Nat × Value)→Nat→Value
 | [],t=>z t
 | p::r,t=>cond (Nat.beq p.1 t) p.2 (lk z r t)
def Fm.act(f:Fm):Act:={ tmps:=((List.range f.n).map (lk f.z f.e)).toArray,defers:=[] }
def Fm.ev(f:Fm):Operand→Value
 | .tmp t=>cond (Nat.blt t f.n) (lk f.z f.e t) undef
 | .const v=>v
 | .global g=>.pointer (some ⟨g,0,none⟩)
 | .func k=>.func (.func k) #[] #[]
def Fm.put(f:Fm)(d:Option Tmp)(v:Value):Fm:=match d with|some d=>⟨f.n,(d,v)::f.e,f.z⟩|none=>f
theorem Fm.eval(f:Fm):f.act.eval=f.ev:=by
 funext x
 cases x with
 | tmp t =>
  show((List.range f.n).map (lk f.z f.e)).toArray.getD t undef=_;rw[Array.getD_eq_getD_getElem?];simp only[List.getElem?_toArray,List.getElem?_map];show _=cond (Nat.blt t f.n) (lk f.z f.e t) undef;by_cases h:t<f.n
  ·have hb:Nat.blt t f.n=true:=(by rw[Nat.blt,Nat.ble_eq];exact h);rw[List.getElem?_range h,hb];rfl
  ·have hb:Nat.blt t f.n=false:=Bool.eq_false_iff.2 fun g=>h (by rw[Nat.blt,Nat.ble_eq]at g;exact g);rw[List.getElem?_eq_none (by simpa using h),hb];rfl
 | const v=>rfl
 | global g=>rfl
 | func k=>rfl
theorem Fm.act_put(f:Fm)(d:Option Tmp)(v:Value):(f.put d v).act=f.act.put d v:=by
 cases d with
 | none=>rfl
 | some d =>
  unfold Fm.put Fm.act Act.put;simp only[Act.mk.injEq,and_true];apply Array.ext_getElem?;intro i;rw[Array.getElem?_setIfInBounds];simp only[List.getElem?_toArray,List.getElem?_map,List.size_toArray,List.length_map,List.length_range];by_cases hi:i<f.n
  ·rw[List.getElem?_range hi];by_cases hd:d=i
   ·subst hd;simp[lk,hi]
   ·rw[if_neg hd];simp only[Option.map_some,lk,show Nat.beq d i=false from Bool.eq_false_iff.2 fun g=>hd (Nat.eq_of_beq_eq_true g),cond_false]
  ·rw[List.getElem?_eq_none (by simpa using hi)];by_cases hd:d=i
   ·subst hd;simp[hi]
   ·rw[if_neg hd];rfl
def aY(f:Fm)(want:Bool):Option Tmp→Bool
 | none=>false
 | some d=>match f.ev (.tmp d)with
  | .bool b=>b==want
  | _=>false
theorem XA(f:Fm)(want:Bool)(x:Option Tmp):((match x.bind (f.act.tmps[·]?)with|some (.bool b)=>some b|_=>none)==some want)=aY f want x:=by
 cases x with
 | none=>rfl
 | some d =>
  have hd:f.act.eval (.tmp d)=f.ev (.tmp d):=by rw[f.eval]
  have h2:f.act.eval (.tmp d)=(f.act.tmps[d]?).getD undef:=Array.getD_eq_getD_getElem? ..;rw[h2]at hd
  show((match f.act.tmps[d]? with|some (.bool b)=>some b|_=>none)==some want)=(match f.ev (.tmp d)with|.bool b=>b==want|_=>false);rw[← hd];cases f.act.tmps[d]? with
  | none=>rfl
  | some v=>cases v<;>rfl
def Fm.wants(f:Fm)(ops:Array Oper)(o:Oper):Bool :=
 match o.guard with
 | none=>true
 | some (j,want)=>aY f want ((ops[j]?).bind (·.dst))
theorem Fm.wanted(f:Fm)(ops:Array Oper)(o:Oper):Region.wanted o (yielded ops f.act.tmps)=f.wants ops o:=by
 unfold Region.wanted Fm.wants;cases o.guard with
 | none=>rfl
 | some p=>exact XA f p.2 ((ops[p.1]?).bind (·.dst))
inductive Tg where
 | z
 | l
 | n (r i:Nat)
def Tg.isZ:Tg→Bool|.z=>true|_=>false
structure Sh where
 g:Nat
 o:Obj
 t:Tg
 w:Bool
instance:Inhabited Sh:=⟨⟨0,default,.z,false⟩⟩
structure Gh where
 t:Nat→Tg
 k:Nat→Nat
structure Cg(B:Nat)(T:List Tg)(g:Gh)(w:World)(g':Gh)(w':World):Prop where
 os:w'.os=w.os
 tape:w'.tape=w.tape
 output:w'.output=w.output
 size:w.heap.size≤w'.heap.size
 tag_:∀ b,b<w.heap.size→g'.t b=g.t b∨(g.t b=.l∧B≤b∧g'.t b=.z)
 kap:∀ b,b<w.heap.size→g.k b≤g'.k b
 kat:∀ b,b<w.heap.size→g.t b∉T→(g.t b=.l→b<B)→g'.k b=g.k b
 same:∀ b,b<w.heap.size→g.t b∉T→(g.t b=.l→b<B)→w'.heap[b]?=w.heap[b]?
 pref:∀ b,b<w.heap.size→∀ j,j<g.k b→w'.cell? ⟨b,j,none⟩=w.cell? ⟨b,j,none⟩
theorem Cg.tag{B:Nat}{T:List Tg}{g g':Gh}{w w':World}(h:Cg B T g w g' w'){b:Nat}(hb:b<w.heap.size)(hn:g.t b=.l→b<B):g'.t b=g.t b:=by
 rcases h.tag_ b hb with h1|⟨h1,h2,_⟩
 ·exact h1
 ·have:=hn h1;omega
theorem Cg.refl(B:Nat)(T:List Tg)(g:Gh)(w:World):Cg B T g w g w:=⟨rfl,rfl,rfl,Nat.le_refl _,fun _ _=>.inl rfl,fun _ _=>Nat.le_refl _,fun _ _ _ _=>rfl,fun _ _ _ _=>rfl,fun _ _ _ _=>rfl⟩
theorem Cg.trans{B:Nat}{T:List Tg}{g g' g'':Gh}{w w' w'':World}(h:Cg B T g w g' w')(k:Cg B T g' w' g'' w''):Cg B T g w g'' w'' :=
 have hs:∀ {b},b<w.heap.size→b<w'.heap.size:=fun hb=>Nat.lt_of_lt_of_le hb h.size
 ⟨k.os.trans h.os,k.tape.trans h.tape,k.output.trans h.output,Nat.le_trans h.size k.size,fun b hb=>by
  rcases h.tag_ b hb with h1|⟨h1,h2,h3⟩
  ·rcases k.tag_ b (hs hb)with k1|⟨k1,k2,k3⟩
   ·exact .inl (k1.trans h1)
   ·exact .inr ⟨h1▸k1,k2,k3⟩
  ·rcases k.tag_ b (hs hb)with k1|⟨k1,k2,k3⟩
   ·exact .inr ⟨h1,h2,k1.trans h3⟩
   ·exact .inr ⟨h1,h2,k3⟩,
  fun b hb=>Nat.le_trans (h.kap b hb) (k.kap b (hs hb)),
  fun b hb h1 h2=>(k.kat b (hs hb) (by rw[h.tag hb h2];exact h1) (by rw[h.tag hb h2];exact h2)).trans (h.kat b hb h1 h2),
  fun b hb h1 h2=>(k.same b (hs hb) (by rw[h.tag hb h2];exact h1) (by rw[h.tag hb h2];exact h2)).trans (h.same b hb h1 h2),
  fun b hb j hj=>(k.pref b (hs hb) j (Nat.lt_of_lt_of_le hj (h.kap b hb))).trans (h.pref b hb j hj)⟩
theorem Cg.mono{B:Nat}{T T':List Tg}{g g':Gh}{w w':World}(h:Cg B T g w g' w')(hT:∀ t∈T,t∈T'):Cg B T' g w g' w' :=
 ⟨h.os,h.tape,h.output,h.size,h.tag_,h.kap,fun b hb h1 h2=>h.kat b hb (fun h3=>h1 (hT _ h3)) h2,fun b hb h1 h2=>h.same b hb (fun h3=>h1 (hT _ h3)) h2,h.pref⟩
theorem Cg.ret{B:Nat}{T:List Tg}{g g':Gh}{w w':World}(h:Cg w.heap.size T g w g' w'):Cg B T g w g' w' :=
 ⟨h.os,h.tape,h.output,h.size,fun b hb=>.inl (h.tag hb (fun _=>hb)),h.kap,fun b hb h1 _=>h.kat b hb h1 (fun _=>hb),fun b hb h1 _=>h.same b hb h1 (fun _=>hb),h.pref⟩
theorem Cg.ofBelow{B:Nat}{T:List Tg}{g:Gh}{w w':World}(h:Below w.heap.size w w'):Cg B T g w g w' :=
 ⟨h.os,h.tape,h.output,h.size,fun _ _=>.inl rfl,fun _ _=>Nat.le_refl _,fun _ _ _ _=>rfl,fun b hb _ _=>h.block b hb,fun b hb j _=>World.cell?_of_block (w:=w) (h.block b hb)⟩
theorem Cg.below{T:List Tg}{g g':Gh}{w w':World}(h:Cg w.heap.size T g w g' w')(hT:∀ b,b<w.heap.size→g.t b∉T):Below w.heap.size w w' :=
 ⟨h.os,h.tape,h.output,h.size,fun b hb=>h.same b hb (hT b hb) (fun _=>hb)⟩
structure Kn(B:Nat)(g:Gh)(w:World)(L:List Sh):Prop where
 row:∀ x∈L,w.heap[x.g]?=some x.o∧g.t x.g=x.t∧(x.t=.l→B≤x.g)∧(x.t≠.z→g.k x.g=0)
 nod:L.Pairwise fun x y=>x.g=y.g→(x.t=.z∧x.w=false)∧y.t=.z∧y.w=false
 new:∀ b,w.heap.size≤b→g.t b=.z∧g.k b=0
 base:B≤w.heap.size
def AL(L:List Sh)(w:World):Prop:=∀ x∈L,w.heap[x.g]?=some x.o
theorem Kn.rows{B:Nat}{g:Gh}{w:World}{L:List Sh}(h:Kn B g w L):AL L w:=fun x hx=>(h.row x hx).1
inductive Kt where
 | c (x:Code)
 | b (id:Nat)
 | o (ops:Array Oper) (is:List Nat)
 | x (ops:Array Oper) (m:Nat) (Ld:Array Bool) (s:Nat) (L0:List Sh)
 | y (ops:Array Oper) (m:Nat) (Ld:Array Bool) (s:Nat) (L0:List Sh) (i:Nat)
 | j (J:Act→World→Prop)
def Kq(P:Program)(R:Exit→Act→World→Prop):List Kt→Exit→Act→World→Prop
 | []=>R
 | .c x::K=>Exit.then (x.wp P (Kq P R K)) (Kq P R K)
 | .b id::K=>Exit.inBlock id (Kq P R K)
 | .o ops is::K=>Exit.then (wpOps P ops (Kq P R K) is) (Kq P R K)
 | .x ops m Ld s L0::K=>Exit.then (Bf P .any ops (Kq P R K) [(s,AL L0)] m Ld) (Kq P R K)
 | .y ops m Ld s L0 i::K=>Exit.then (wpOp P ops (Kq P R K) i (fun a w=>Sx [(s,AL L0)] (Ld.setIfInBounds i true) w∧Bf P .any ops (Kq P R K) [(s,AL L0)] m (Ld.setIfInBounds i true) a w)) (Kq P R K)
 | .j J::K=>Exit.then J (Kq P R K)
structure Xs where
 K:List Kt
 f:Fm
 L:List Sh
structure GG(P:Program)(fn:Func)(R:Ending→World→Prop)(B:Nat)(T:List Tg)(s:Xs)(g:Gh)(w:World):Prop where
 ex:Kn B g w s.L→Kq P (bodyPost P fn R) s.K .normal s.f.act w
theorem Kq.panic{P:Program}{fn:Func}{R:Ending→World→Prop}:∀ (K:List Kt) (c:List PanicEntry) (a:Act) (d:Option Tmp) (v:Value) (w:World),Kq P (bodyPost P fn R) K (.panic c) (a.put d v) w→Kq P (bodyPost P fn R) K (.panic c) a w
 | [],c,a,d,v,w,h=>by
  have hd:(a.put d v).defers=a.defers:=by cases d<;>rfl
  exact⟨hd▸h.1,h.2⟩
 | .c x::K,c,a,d,v,w,h=>Kq.panic K c a d v w h
 | .b id::K,c,a,d,v,w,h=>Kq.panic K c a d v w h
 | .o ops is::K,c,a,d,v,w,h=>Kq.panic K c a d v w h
 | .x ops m Ld s L0::K,c,a,d,v,w,h=>Kq.panic K c a d v w h
 | .y ops m Ld s L0 i::K,c,a,d,v,w,h=>Kq.panic K c a d v w h
 | .j J::K,c,a,d,v,w,h=>Kq.panic K c a d v w h
inductive Ob where
 | r (x y:World→Result Next)
 | v (x y:Value)
 | t (x y:Tg)
 | l (x y:List Sh)
 | b (x:Bool)
inductive Oe where
 | r (x:World→Result Next)
 | v (x:Value)
 | t (x:Tg)
 | l (x:List Sh)
 | b (x:Bool)
def Ob.l':Ob→Oe|.r x _=>.r x|.v x _=>.v x|.t x _=>.t x|.l x _=>.l x|.b x=>.b x
def Ob.r':Ob→Oe|.r _ x=>.r x|.v _ x=>.v x|.t _ x=>.t x|.l _ x=>.l x|.b _=>.b true
def Ob.ok:Ob→Prop|.r x y=>x=y|.v x y=>x=y|.t x y=>x=y|.l x y=>x=y|.b x=>x=true
theorem Ob.all{l:List Ob}(h:l.map Ob.l'=l.map Ob.r'):∀ o∈l,o.ok:=by
 intro o ho;have h1:∀ o∈l,o.l'=o.r':=List.map_inj_left.1 h;have h2:=h1 o ho;cases o<;>simp only[Ob.l',Ob.r',Oe.r.injEq,Oe.v.injEq,Oe.t.injEq,Oe.l.injEq,Oe.b.injEq]at h2<;>exact h2
def FW:Value→Nat|.pointer (some a)=>a.off|_=>0
def Ce:Obj→Array Value|.cells c _ _=>c|_=>#[]
def Du:Obj→Bool|.cells _ _ (0,0)=>true|_=>false
def XM:Obj→Array Value→Obj|.cells _ t f,c=>.cells c t f|o,_=>o
def szT(P:Program)(ty:TypeId):Nat:=((P.info? ty).map (·.size)).getD 0
def EY(P:Program)(ty:TypeId):Bool:=match P.underlying ty with|some d=>d.isRow|none=>false
def reA:Value→Nat→Value
 | .pointer (some a),g=>.pointer (some { a with block:=g })
 | .slice (some a) n c,g=>.slice (some { a with block:=g }) n c
 | .map (some _),g=>.map (some g)
 | v,_=>v
def X0:Result Next→Value|.ok (.value v) _=>v|_=>undef
def YE:Result Next→Obj|.ok _ w=>(w.heap[0]?).getD default|_=>default
def XE:Op→Bool|.alloc _|.box _ _|.buildSlice _ _ _|.makeSlice _ _ _|.makeMap _ _=>true|_=>false
def aO:Op→Bool|.store _ _ _=>true|_=>false
def bV(i:Nat):Nat→Tg|0=>.z|1=>.l|r+2=>.n r i
structure Rs where
 f:Fm
 L:List Sh
 j:Nat
 h:List Nat
 o:List Ob
def exQ(P:Program)(ops:Array Oper)(o:Oper)(f:Fm)(L:List Sh)(h:List Nat):Value × List Nat × List Ob :=
 cond (f.wants ops o) (match o.op with
  | .load ty x =>
   let r:=L.getD (h.headD 0) default
   let off:=FW (f.ev x)
   (cond (EY P ty) (.agg (((Ce r.o).toList.drop off).take (szT P ty)).toArray) ((Ce r.o).getD off undef),h.tail,
    [.v (f.ev x) (pt r.g off),.b (Nat.blt (h.headD 0) L.length&&Nat.ble (off+szT P ty) (Ce r.o).size&&(P.info? ty).isSome&&(P.underlying ty).isSome&&Du r.o&&(EY P ty||Nat.beq (szT P ty) 1))])
  | _=>let q:=(execOp f.ev o).run P default;(X0 q,h,[.r (fun w=>(execOp f.ev o).run P w) (fun w=>.ok (.value (X0 q)) w)]))
  (undef,h,[])
def stP:Op→TypeId × Operand × Operand|.store t x y=>(t,x,y)|_=>(0,.tmp 0,.tmp 0)
def exS(P:Program)(T:List Tg)(o:Oper)(f:Fm)(L:List Sh)(j:Nat)(h:List Nat):Rs :=
 let ty:=(stP o.op).1
 let x:=(stP o.op).2.1
 let r:=L.getD (h.headD 0) default
 let off:=FW (f.ev x)
 let v:=f.ev (stP o.op).2.2
 let cs:=cond (EY P ty) v.cells #[v]
 let m:=h.tail.headD 0
 ⟨f,L.set (h.headD 0) { r with o:=XM r.o (WX (Ce r.o) off cs.toList) },j,h.tail.tail,
  [.v (f.ev x) (pt r.g off),.v v (cond (EY P ty) (.agg cs) v),.t (cond r.w .l r.t) (cond r.w .l ((Tg.l::T).getD m .z)),
   .b (Nat.blt (h.headD 0) L.length&&Nat.ble (off+cs.size) (Ce r.o).size&&(P.info? ty).isSome&&Nat.beq (szT P ty) cs.size&&Du r.o&&o.dst.isNone&&cs.all (·.oneCell')&&(r.w||(Nat.ble m T.length&&!r.t.isZ)))]⟩
def exN(P:Program)(gs:Nat→Nat)(o:Oper)(f:Fm)(L:List Sh)(j:Nat)(h:List Nat):Rs :=
 let q:=(execOp f.ev o).run P default
 ⟨f.put o.dst (reA (X0 q) (gs j)),L++[⟨gs j,YE q,bV (h.tail.headD 0) (h.headD 0),true⟩],j+1,h.tail.tail,
  [.r (fun w=>(execOp f.ev o).run P w) (fun w=>.ok (.value (reA (X0 q) w.heap.size)) (w.alloc (YE q))),.b o.dst.isSome]⟩
def exO(P:Program)(T:List Tg)(gs:Nat→Nat)(ops:Array Oper)(o:Oper)(f:Fm)(L:List Sh)(j:Nat)(h:List Nat):Rs :=
 cond (f.wants ops o&&aO o.op) (exS P T o f L j h) (cond (f.wants ops o&&XE o.op) (exN P gs o f L j h)
  (let q:=exQ P ops o f L h;⟨f.put o.dst q.1,L,j,q.2.1,.b (o.dst.isSome||!f.wants ops o)::q.2.2⟩))
def Sj(id:Nat):List Kt→List Kt
 | []=>[]
 | .b i::K=>cond (Nat.beq i id) K (Sj id K)
 | _::K=>Sj id K
def TS(id:Nat):List Kt→Bool
 | []=>false
 | .b i::K=>cond (Nat.beq i id) true (TS id K)
 | _::K=>TS id K
def T9(ops:Array Oper)(i:Nat):List Nat :=
 (List.range ops.size).foldl (fun D j=>cond (match ops[j]? with|none=>false|some o=>o.after.any fun e=>Region.binds .any e&&D.contains e.on) (j::D) D) [i]
def tkB(ops:Array Oper)(Ld:Array Bool)(s i:Nat)(ld:Bool):Bool :=
 Region.noSelect ops&&(Region.free .any ops Ld i&&(Region.ready .any ops Ld).contains i&&(s != i)&&decide (Ld.size=ops.size) &&
  (cond ld (let D:=T9 ops i;D.contains i&&(D.contains s||decide (ops.size≤s))&&Kj .any ops i D&&D.all fun j=>Ld.getD j true==false) (Ld.getD i true==false)))
def Ww:Op→Bool|.load _ _=>true|_=>false
def BX(L:List Sh):List Sh:=L.map fun x=>⟨x.g,x.o,x.t,false⟩
structure Rz where
 s:Xs
 o:List Ob
def rn(P:Program)(T:List Tg)(gs:Nat→Nat):Nat→Xs→Nat→List Nat→Rz
 | 0,s,_,_=>⟨s,[]⟩
 | m+1,s,j,h=>match s.K with
  | []=>⟨s,[.b false]⟩
  | .c x::K=>match x with
   | .skip=>rn P T gs m ⟨K,s.f,s.L⟩ j h
   | .seq x y=>rn P T gs m ⟨.c x::.c y::K,s.f,s.L⟩ j h
   | .block id x=>rn P T gs m ⟨.c x::.b id::K,s.f,s.L⟩ j h
   | .exit id=>let r:=rn P T gs m ⟨Sj id K,s.f,s.L⟩ j h;⟨r.s,.b (TS id K)::r.o⟩
   | .cond c x y=>match s.f.ev c with
    | .bool t=>rn P T gs m ⟨.c (cond t x y)::K,s.f,s.L⟩ j h
    | _=>⟨s,[.b false]⟩
   | .region _ ops false=>rn P T gs m ⟨.o ops (List.range ops.size)::K,s.f,s.L⟩ j h
   | .region _ ops true=>let r:=rn P T gs m ⟨.x ops ops.size (Array.replicate ops.size false) (h.headD 0) (BX s.L)::K,s.f,s.L⟩ j h.tail;⟨r.s,.b (P.follows .mixedOrders)::r.o⟩
   | _=>⟨s,[.b false]⟩
  | .b _::K=>rn P T gs m ⟨K,s.f,s.L⟩ j h
  | .j _::_=>⟨s,[.b false]⟩
  | .o _ []::K=>rn P T gs m ⟨K,s.f,s.L⟩ j h
  | .o ops (i::is)::K=>match ops[i]? with
   | none=>⟨s,[.b false]⟩
   | some o=>let q:=exO P T gs ops o s.f s.L j h;let r:=rn P T gs m ⟨.o ops is::K,q.f,q.L⟩ q.j q.h;⟨r.s,q.o++r.o⟩
  | .y ops u Ld e L0 i::K=>match ops[i]? with
   | none=>⟨s,[.b false]⟩
   | some o =>
    let q:=exO P T gs ops o s.f s.L j h
    let Ld':=Ld.setIfInBounds i true
    let r:=rn P T gs m ⟨.x ops u Ld' e L0::K,q.f,q.L⟩ q.j q.h
    ⟨r.s,.l (cond (Ld'.getD e false) [] L0) (cond (Ld'.getD e false) [] (BX (q.L.take L0.length)))::(q.o++r.o)⟩
  | .x ops 0 Ld _ _::K=>let r:=rn P T gs m ⟨K,s.f,s.L⟩ j h;⟨r.s,.b (Region.ready .any ops Ld).isEmpty::r.o⟩
  | .x ops (u+1) Ld e L0::K =>
   let i:=h.headD 0/2
   let Ld':=Ld.setIfInBounds i true
   match ops[i]? with
   | none=>⟨s,[.b false]⟩
   | some o=>cond (Nat.beq (h.headD 0%2) 0)
    (let q:=exQ P ops o s.f L0 h.tail
     let r:=rn P T gs m ⟨.x ops u Ld' e L0::K,s.f.put o.dst q.1,s.L⟩ j q.2.1
     let d:=Ww o.op&&s.f.wants ops o
     ⟨r.s,.b (tkB ops Ld e i d&&o.dst.isSome&&(!d||!Ld.getD e false))::.l (cond (Ld.getD e false) [] L0) (cond (Ld.getD e false) [] (BX (s.L.take L0.length)))::(q.2.2++r.o)⟩)
    (let q:=exO P T gs ops o s.f s.L j h.tail
     let r:=rn P T gs m ⟨.x ops u Ld' e L0::K,q.f,q.L⟩ q.j q.h
     ⟨r.s,.b (match Region.ready .any ops Ld with|[k]=>Nat.beq k i|_=>false)::.l (cond (Ld'.getD e false) [] L0) (cond (Ld'.getD e false) [] (BX (q.L.take L0.length)))::(q.o++r.o)⟩)
end Go.Proofs.YtakgfdbjgeopdaaGreatDoor
