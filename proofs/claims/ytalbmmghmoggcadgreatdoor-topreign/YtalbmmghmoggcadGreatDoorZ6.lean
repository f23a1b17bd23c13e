/- Part 6 of the walk. -/
import Derived.OrdersHeld
import Derived.Laws.AppendOwn
import Derived.Test.YtalbmmghmoggcadGreatDoorZ4
set_option maxRecDepth 100000
set_option maxHeartbeats 4000000
set_option linter.unusedVariables false
namespace Go.Proofs.YtalbmmghmoggcadGreatDoor
open Go.RowKit
section
def Sx:List (Nat × (World->Prop))->Array Bool->World->Prop
 | [],_,_=>True
 | c::r,L,w=>(L.getD c.1 false=false->c.2 w)/\Sx r L w
variable{L:Array Bool}{l:List (Nat × (World->Prop))}{w:World}
theorem Sx.set{i:Nat}(h:l.all (λc=>c.1 != i)=true)(hs:Sx l (L.setIfInBounds i true) w):Sx l L w:=by
 induction l with
 | nil=>trivial
 | cons c r ih =>
  simp only[ku,iZ,bne_iff_ne,ne_eq]at h;refine⟨λhc=>hs.1 ?_,ih h.2 hs.2⟩;rw[jw]at hc ⊢
  rw[j1 (λe=>h.1 e.symm)];exact hc
def Sd(D:List Nat)(n:Nat):List (Nat × (World->Prop))->World->Prop
 | [],_=>True
 | c::r,w=>((D.contains c.1||decide (n<=c.1))=true->c.2 w)/\Sd D n r w
theorem Sx.sd{D:List Nat}{n:Nat}(hn:L.size=n)(hD:∀ j∈D,L.getD j true=false)(hs:Sx l L w):Sd D n l w:=by
 induction l with
 | nil=>trivial
 | cons c r ih =>
  refine⟨λh=>hs.1 ?_,ih hs.2⟩;simp only[kK,lP,decide_eq_true_eq]at h;rcases h with h|h
  .have h1:=hD _ h;rw[jw]at h1 ⊢
   cases hx:L[c.1]? with
   | none=>rfl
   | some b=>rw[hx]at h1;simpa using h1
  .rw[jw,Array.getElem?_eq_none (by omega)];rfl
end
section
variable{P:Program}{ops:Array Oper}{Q:Exit->Act->World->Prop}{md:Region.Mode}{S:List (Nat × (World->Prop))}
section
def Bp(P:Program)(md:Region.Mode)(ops:Array Oper)(Q:Exit->Act->World->Prop)(S:List (Nat × (World->Prop))):Nat->Array Bool->Act->World->Prop
 | 0,listed,a,w=>Region.ready md ops listed=[]/\Q .normal a w
 | fuel+1,listed,a,w =>
  (Region.ready md ops listed=[]->Q .normal a w) /\
  ∀ i∈Region.ready md ops listed,wpOp P ops Q i (λa' w'=>Sx S (listed.setIfInBounds i true) w'/\Bp P md ops Q S fuel (listed.setIfInBounds i true) a' w') a w
theorem ND:∀ (fuel:Nat) (listed:Array Bool) (a:Act) (w:World),Bp P md ops Q S fuel listed a w->wpAny P md ops Q fuel listed a w
 | 0,_,_,_,h=>h
 | fuel+1,_,_,_,h=>⟨h.1,λi hi=>wpOp_mono (λa' w' h'=>ND fuel _ a' w' h'.2) (h.2 i hi)⟩
def LU(md:Region.Mode)(ops:Array Oper)(i:Nat)(D:List Nat):Bool :=
 D.all λj=>j==i||(match ops[j]? with
  | none=>false
  | some o=>o.after.any λe=>Region.binds md e&&D.contains e.on)
variable{L:Array Bool}{a:Act}{fuel i:Nat}{oi:Oper}{v:Value}{w:World}
theorem OE(D:List Nat)(hi:ops[i]?=some oi)(hsel:∀ (j:Nat) (o:Oper) cs b,ops[j]?=some o->o.op≠.select cs b)(hQ:∀ c a w,Q (.panic c) (a.put oi.dst v) w->Q (.panic c) a w)(hiD:i∈D)(hD:LU md ops i D=true)(hg:S.all (λc=>c.1 != i)=true) :
  ∀ (fuel:Nat) (listed:Array Bool) (a:Act) (w:World),listed.size=ops.size ->
   (∀ j oj,ops[j]?=some oj->j≠i->listed.getD j true=false->(∀ e∈oj.after,Region.binds md e=true->e.on≠i)->oi.apart ops oj=true) ->
   i∈Region.ready md ops listed->(∀ j∈D,listed.getD j true=false)->YieldsIf P ops (Sd D ops.size S) oi v a->Sx S listed w ->
   Bp P md ops Q S fuel (listed.setIfInBounds i true) (a.put oi.dst v) w->Bp P md ops Q S (fuel+1) listed a w:=by
 intro fuel;induction fuel with
 | zero =>
  intro listed a w hsz _ hr hun hy hS H;have hS':Sx S (listed.setIfInBounds i true) w:=by
   clear H hy hun hr;induction S with
   | nil=>trivial
   | cons c r ih =>
    simp only[ku,iZ,bne_iff_ne,ne_eq]at hg;refine⟨λhc=>hS.1 ?_,ih hg.2 hS.2⟩;rw[jw]at hc ⊢
    rw[j1 (λe=>hg.1 e.symm)]at hc
    exact hc
  refine⟨λh=>(by rw[h]at hr;cases hr),λj hj=>?_⟩;by_cases hji:j=i
  .subst hji;exact hy.wpOp hi (hS.sd hsz hun) ⟨hS',H⟩
  .have:=ready_mono hj hji;rw[H.1]at this
   cases this
 | succ fuel ih =>
  intro listed a w hsz hfree hr hun hy hS H;have hS':Sx S (listed.setIfInBounds i true) w:=by
   clear H hy hun hr ih;induction S with
   | nil=>trivial
   | cons c r ih =>
    simp only[ku,iZ,bne_iff_ne,ne_eq]at hg;refine⟨λhc=>hS.1 ?_,ih hg.2 hS.2⟩;rw[jw]at hc ⊢
    rw[j1 (λe=>hg.1 e.symm)]at hc
    exact hc
  refine⟨λh=>(by rw[h]at hr;cases hr),λj hj=>?_⟩;by_cases hji:j=i
  .subst hji;exact hy.wpOp hi (hS.sd hsz hun) ⟨hS',H⟩
  .have h1:=H.2 j (ready_mono hj hji);obtain⟨hjun,oj,hoj,hall⟩:=mem_ready.1 hj;have hup:∀ k∈D,∀ e∈oj.after,Region.binds md e=true->e.on≠k:=λk hk e he hb heq=>by
    have h1:=hall e he hb;have h0:=hun k hk;rw[heq]at h1
    rcases jt k listed.size with h'|h'
    .simp[h']at h0 h1;rw[h0]at h1;cases h1
    .simp[Array.getElem?_eq_none h']at h1
   have hnot:∀ e∈oj.after,Region.binds md e=true->e.on≠i:=hup i hiD;have hjD:j∉D:=λhm=>by
    have h3:=jS.1 hD j hm;simp only[kK,beq_iff_eq,hoj,Array.any_eq_true,iZ,lP]at h3;rcases h3 with h3|⟨x,hx,h4,h5⟩
    .exact hji h3
    .exact hup _ h5 oj.after[x] (Array.getElem_mem hx) h4 rfl
   have h2:=wpOp_putIf hoj (hfree j oj hoj hji hjun hnot) (λcs b=>hsel i oi cs b hi) (λcs b=>hsel j oj cs b hoj) hQ hy h1;have hfree':∀ k ok,ops[k]?=some ok->k≠i->(listed.setIfInBounds j true).getD k true=false ->
     (∀ e∈ok.after,Region.binds md e=true->e.on≠i)->oi.apart ops ok=true:=λk ok hk hki hu hno=>by
    refine hfree k ok hk hki ?_ hno;by_cases hjk:j=k
    .subst hjk;exact hjun
    .rw[getD_set_ne true hjk]at hu;exact hu
   have hun':∀ k∈D,(listed.setIfInBounds j true).getD k true=false:=λk hk=>by
    rw[getD_set_ne true (show j≠k from λe=>hjD (by rw[e];exact hk))];exact hun k hk
   refine wpOp_mono (λa' w' h3=>?_) h2;have hc:=Array.setIfInBounds_comm (xs:=listed) true true hji;have hsj:Sx S (listed.setIfInBounds j true) w':=Sx.set hg (by rw[hc];exact h3.2.1);refine⟨hsj,ih (listed.setIfInBounds j true) a' w' (by rw[Array.size_setIfInBounds];exact hsz) hfree' (ready_mono hr (Ne.symm hji)) hun' h3.1 hsj ?_⟩;rw[hc];exact h3.2.2
theorem cV(d:Nat)(D:List Nat){listed:Array Bool}(hi:ops[i]?=some oi)(hd:oi.dst=some d)(hs:Region.noSelect ops=true)(hf:Region.free md ops listed i=true)(hr:(Region.ready md ops listed).contains i=true)(hQ:∀ c a w,Q (.panic c) (a.put (some d) v) w->Q (.panic c) a w)(hb:(D.contains i&&LU md ops i D&&S.all (λc=>c.1 != i)&&decide (listed.size=ops.size)&&D.all λj=>listed.getD j true==false)=true)(hy:YieldsIf P ops (Sd D ops.size S) oi v a)(hS:Sx S listed w)(h:Bp P md ops Q S fuel (listed.setIfInBounds i true) (a.put (some d) v) w):Bp P md ops Q S (fuel+1) listed a w:=by
 simp only[iZ,lP,decide_eq_true_eq,jS,beq_iff_eq]at hb;obtain⟨⟨⟨⟨h1,h2⟩,h3⟩,h4⟩,h5⟩:=hb;exact OE D hi (Region.noSelect_spec hs) (by rw[hd];exact hQ) h1 h2 (jS.2 h3) fuel listed a w h4 (Region.free_spec hi hf) (by simpa using hr) h5 hy hS (by rw[hd];exact h)
theorem iK(hr:Region.ready md ops L=[i])(h:wpOp P ops Q i (λa' w'=>Sx S (L.setIfInBounds i true) w'/\Bp P md ops Q S fuel (L.setIfInBounds i true) a' w') a w):Bp P md ops Q S (fuel+1) L a w :=
 ⟨λh0=>absurd (hr▸h0) (by simp),hr▸(λj hj=>by
  obtain rfl:j=i:=by simpa using hj
  exact h)⟩
theorem iL{i':Nat}(hr:Region.ready md ops L=[i,i'])(h:wpOp P ops Q i (λa' w'=>Sx S (L.setIfInBounds i true) w'/\Bp P md ops Q S fuel (L.setIfInBounds i true) a' w') a w)(h':wpOp P ops Q i' (λa' w'=>Sx S (L.setIfInBounds i' true) w'/\Bp P md ops Q S fuel (L.setIfInBounds i' true) a' w') a w):Bp P md ops Q S (fuel+1) L a w :=
 ⟨λh0=>absurd (hr▸h0) (by simp),hr▸(λj hj=>by
  rcases(show j=i\/j=i' by simpa using hj)with rfl|rfl
  .exact h
  .exact h')⟩
theorem co(S:List (Nat × (World->Prop))){id:Nat}(hm:P.follows .mixedOrders=true)(h:Bp P .any ops Q S ops.size (Array.replicate ops.size false) a w.drew):(Code.region id ops true).wp P Q a w :=
 wp_region_any hm (ND _ _ _ _ h)
end
end
section
variable{P:Program}{ops:Array Oper}{Q:Exit->Act->World->Prop}{md:Region.Mode}{S:List (Nat × (World->Prop))}
section
def pts:Act->List (Nat × Value)->Act
 | a,[]=>a
 | a,p::r=>pts (a.put (some p.1) p.2) r
def got(P:Program)(ops:Array Oper)(a:Act)(w:World)(i:Nat):Option (Option Tmp × Value × World) :=
 match ops[i]? with
 | none=>none
 | some o=>if Region.wanted o (yielded ops a.tmps)then(match(execOp a.eval o).run P w with
   | .ok (.value v) w'=>some (o.dst,v,w')
   | _=>none)else some (o.dst,undef,w)
def Rq(P:Program)(ops:Array Oper)(w:World):List Nat->List (Nat × Value)->Act->List (Option (Option Tmp × Value × World))
 | i::is,p::ps,a=>got P ops a w i::Rq P ops w is ps (a.put (some p.1) p.2)
 | _,_,_=>[]
def wants(w:World)(ps:List (Nat × Value)):List (Option (Option Tmp × Value × World)):=ps.map λp=>some (some p.1,p.2,w)
variable{K:Act->World->Prop}{L:Array Bool}{a:Act}{arr new old:Array Value}{b g i k:Nat}{m n:Int}{o:Obj}{t ty:TypeId}{w:World}{x y:Operand}
theorem Rp{d:Nat}{v:Value}{S0:World->Prop}(h:∀ w,got P ops a w i=some (some d,v,w)):∃ o,ops[i]?=some o/\o.dst=some d/\YieldsIf P ops S0 o v a:=by
 cases ho:ops[i]? with
 | none=>have:=h default;unfold got at this;rw[ho]at this;cases this
 | some o =>
  by_cases hw:Region.wanted o (yielded ops a.tmps)=true
  .have key:∀ w,o.dst=some d/\(execOp a.eval o).run P w=.ok (.value v) w:=λw=>by
    have h1:=h w;unfold got at h1;rw[ho]at h1
    simp only[hw,if_true]at h1;split at h1
    .rename_i v' w' hr
     simp only[X',jE]at h1;obtain⟨h2,rfl,rfl⟩:=h1;exact⟨h2,hr⟩
    .cases h1
   exact⟨o,rfl,(key default).1,.inl ⟨hw,λw _=>(key w).2⟩⟩
  .have h1:=h default;unfold got at h1;rw[ho]at h1
   simp only[hw,if_false,X',jE,lA]at h1;exact⟨o,rfl,h1.1,.inr ⟨by simpa using hw,h1.2.1.symm⟩⟩
def LH(md:Region.Mode)(ops:Array Oper)(gs:List Nat):List Nat->Array Bool->Bool
 | [],_=>true
 | i::is,L=>Region.free md ops L i&&(Region.ready md ops L).contains i&&gs.all (· != i)&&decide (L.size=ops.size)&&(L.getD i true==false)&&LH md ops gs is (L.setIfInBounds i true)
def iD(L:Array Bool)(is:List Nat):Array Bool:=is.foldl (λL i=>L.setIfInBounds i true) L
theorem df{S:List (Nat × (World->Prop))}(h:(S.map (·.1)).all (· != i)=true):S.all (λc=>c.1 != i)=true:=by
 rw[List.all_map]at h
 exact h
theorem xB0{m:Nat}(n:Nat)(is:List Nat)(ps:List (Nat × Value))(h:∀ w,Rq P ops w is ps a=wants w ps)(hs:Region.noSelect ops=true)(hb:LH md ops (S.map (·.1)) is L=true)(hm:m=n+ps.length)(hl:is.length=ps.length)(hQ:∀ c a d v w,Q (.panic c) (a.put (some d) v) w->Q (.panic c) a w)(hS:Sx S L w)(hk:Bp P md ops Q S n (iD L is) (pts a ps) w):Bp P md ops Q S m L a w:=by
 subst hm;induction is generalizing L a ps with
 | nil =>
  obtain rfl:ps=[]:=iN hl.symm;exact hk
 | cons i is ih =>
  cases ps with
  | nil=>cases hl
  | cons p r =>
   have h1:∀ w,got P ops a w i=some (some p.1,p.2,w):=λw=>by
    have:=h w;simp only[Rq,wants,ji,kL]at this;exact this.1
   have h2:∀ w,Rq P ops w is r (a.put (some p.1) p.2)=wants w r:=λw=>by
    have:=h w;simp only[Rq,wants,ji,kL]at this;exact this.2
   obtain⟨o,ho,hd,hy⟩:=Rp (S0:=Sd [i] ops.size S) h1;simp only[LH,iZ]at hb;obtain⟨⟨⟨⟨⟨b1,b2⟩,b3⟩,b4⟩,b5⟩,b6⟩:=hb;have hS':Sx S (L.setIfInBounds i true) w:=by
    have hg:=df b3;clear hk ih h h1 h2 hy b1 b2 b3 b4 b5 b6;induction S with
    | nil=>trivial
    | cons c r ih =>
     simp only[ku,iZ,bne_iff_ne,ne_eq]at hg;refine⟨λhc=>hS.1 ?_,ih hS.2 hg.2⟩;rw[jw]at hc ⊢
     rw[j1 (λe=>hg.1 e.symm)]at hc
     exact hc
   refine cV p.1 [i] ho hd hs b1 b2 (λc a w hq=>hQ c _ _ _ w hq) ?_ hy hS (ih r h2 b6 (by simpa using hl) hS' hk);rw[df b3,b4];simp[LU];simpa using b5
abbrev iv(n:Int):Value:=.int .i64 n
abbrev pt(b o:Nat):Value:=.pointer (some ⟨b,o,none⟩)
abbrev sn:Value:=.slice none 0 0
theorem xS0{m:Nat}(n i:Nat)(hr:Region.ready md ops L=[i])(hm:m=n+1)(h:wpOp P ops Q i (λa' w'=>Sx S (L.setIfInBounds i true) w'/\Bp P md ops Q S n (L.setIfInBounds i true) a' w') a w):Bp P md ops Q S m L a w:=by subst hm;exact iK hr h
theorem Qa{fr:Nat × Nat}(h:w.heap[b]?=some (.cells arr t fr))(k:Nat)(cs:List Value)(hc:(arr.toList.drop k).take cs.length=cs):w.rangeAt b k cs:=λj u hj=>by
 rw[cell_of_row _ _ (k+j) _ _ _ h];have hjl:j<cs.length:=(Q'.1 hj).1;rw[<- hc,jL,if_pos hjl,jB]at hj
 simpa using hj
theorem YD(h:w.heap[b]?=some (.cells arr t (0,0)))(k n:Nat)(hn:k+n<=arr.size):w.there b k n:=λj hj =>
 ⟨by rw[cell_of_row _ _ (k+j) _ _ _ h,ki (by omega)];rfl,frozen_of_row _ _ (k+j) _ _ h⟩
def aQ(arr:Array Value):Nat->List Value->Array Value
 | _,[]=>arr
 | k,v::r=>aQ (arr.setIfInBounds k v) (k+1) r
theorem eI(vs:List Value):∀ {arr:Array Value} (k:Nat) (h:w.heap[b]?=some (.cells arr t (0,0))),(w.setCells b k vs).heap[b]?=some (.cells (aQ arr k vs) t (0,0)):=by
 induction vs generalizing w with
 | nil=>intro arr k h;exact h
 | cons v r ih=>intro arr k h;exact ih (k+1) (heap_setCell_same w b k arr t v h)
theorem eH(k:Nat)(v:Value)(h:w.heap[b]?=some (.cells arr t (0,0))):(w.setCell ⟨b,k,none⟩ v).heap[b]?=some (.cells (arr.setIfInBounds k v) t (0,0)):=heap_setCell_same w b k arr t v h
theorem PZ{e:TypeId}{n c z:Nat}(hu:P.underlying t=some (.slice e))(he:P.elem t=e)(hi:(P.info? e).map (·.size)=some z)(h:i<n)(j:Nat)(hj:k+z*i=j):(Instr.indexAt t (.slice (some ⟨b,k,none⟩) n c) (iv (i:Int))).run P w=.ok (pt b j) w:=by
 have hs:(Go.sizeOf e).run P w=.ok z w:=by
  cases hx:P.info? e with
  | none=>rw[hx]at hi;cases hi
  | some x=>rw[hx]at hi;simp at hi;simp[Go.sizeOf,typeInfo,hx,hi]
 rw[run_indexAt_slice (P:=P) w t _ n c .i64 _ (by rw[he];exact hu),if_pos ⟨by omega,by omega⟩,he,hs];simp[Result.andThen,Addr.add_mid,Nat.mul_comm,<- hj]
theorem cL{src dst:TypeId}{k k':IntKind}(hs:(P.underlying src).isSome=true)(hd:P.underlying dst=some (.int k'))(hk:P.intKind dst=k')(h:k'.wrap n=n):(convert src dst (.int k n)).run P w=.ok (.int k' n) w:=by
 rw[run_convert_int (P:=P) w src dst k n hs (by rw[hk];exact hd),hk,h]
theorem xC0{m:Nat}{s:Nat}{C:World->Prop}{S':List (Nat × (World->Prop))}(n i d:Nat)(D:List Nat)(v:Value)(h:∀ W,C W->got P ops a W i=some (some d,v,W))(hw:C w)(hs:Region.noSelect ops=true)(hb:(Region.free md ops L i&&(Region.ready md ops L).contains i&&(((s,C)::S':List (Nat × (World->Prop))).map (·.1)).all (· != i)&&decide (L.size=ops.size)&&(D.contains i&&(D.contains s||decide (ops.size<=s))&&LU md ops i D&&D.all λj=>L.getD j true==false))=true)(hm:m=n+1)(hQ:∀ c a d v w,Q (.panic c) (a.put (some d) v) w->Q (.panic c) a w)(hS:Sx ((s,C)::S') L w)(hk:Bp P md ops Q ((s,C)::S') n (L.setIfInBounds i true) (a.put (some d) v) w) :
  Bp P md ops Q ((s,C)::S') m L a w:=by
 subst hm;simp only[iZ]at hb;obtain⟨⟨⟨⟨b1,b2⟩,b3⟩,b4⟩,⟨⟨⟨c1,c2⟩,c3⟩,c4⟩⟩:=hb;cases ho:ops[i]? with
 | none=>have h:=h w hw;unfold got at h;rw[ho]at h;cases h
 | some o =>
  have key:∀ W,C W->o.dst=some d/\((Region.wanted o (yielded ops a.tmps)=true/\(execOp a.eval o).run P W=.ok (.value v) W)\/(Region.wanted o (yielded ops a.tmps)=false/\v=undef)):=λW hW=>by
   have h:=h W hW;unfold got at h;rw[ho]at h
   simp only at h;split at h
   .rename_i hw
    split at h
    .rename_i v' w' hr
     simp only[X',jE]at h;obtain⟨h1,rfl,rfl⟩:=h;exact⟨h1,.inl ⟨hw,hr⟩⟩
    .cases h
   .rename_i hw
    simp only[X',jE]at h;exact⟨h.1,.inr ⟨by simpa using hw,h.2.1.symm⟩⟩
  refine cV d D ho (key w hw).1 hs b1 b2 (λc a w hq=>hQ c _ _ _ w hq) ?_ ?_ hS hk
  .rw[df b3,b4,c1,c3,c4];rfl
  .by_cases hw2:Region.wanted o (yielded ops a.tmps)=true
   .refine .inl ⟨hw2,λw2 h2=>?_⟩;rcases(key w2 (h2.1 c2)).2 with h3|h3
    .exact h3.2
    .rw[hw2]at h3;cases h3.1
   .rcases(key w hw).2 with h3|h3
    .exact absurd h3.1 hw2
    .exact .inr h3
theorem Mr{b:Bool}(h:(m==n)=b):(do Go.eqGuard .eql t x y (iv m) (iv n);Go.binOp .eql t (iv m) (iv n):Sem Value).run P w=.ok (.bool b) w:=by
 subst h;rfl
theorem rl(h:w.heap[g]?=some o):g<w.heap.size:=(H'.1 h).1
theorem rB{w':World}(b:Bw w w')(h:w.heap[g]?=some o):w'.heap[g]?=some o:=(b.block _ (rl h)).trans h
theorem gf{o:Oper}(cells:Array Value)(hg:w.heap[g]?=some (.cells old t (0,0)))(ho:ops[i]?=some o)(hw:Region.wanted o (yielded ops a.tmps)=true)(hd:o.dst=none)(hop:o.op=.store ty x y)(hx:a.eval x=pt g k)(hy:a.eval y=.agg cells)(hi:(P.info? ty).map (·.size)=some cells.size)(hold:k+cells.size<=old.size)(h1:cells.all (·.oneCell')=true)(hn:aQ old k cells.toList=new)(h:∀ w',w'.heap[g]?=some (.cells new t)->Only g w w'->K a w'):wpOp P ops Q i K a w :=
 RJ ho hw hd ty x y hop g k cells hx hy (YD hg k _ hold) hi h1 (h _ (by rw[<- hn];exact eI _ _ hg) (Only.store _ _ _ _))
theorem gg{o:Oper}(v:Value)(hg:w.heap[g]?=some (.cells old t (0,0)))(ho:ops[i]?=some o)(hw:Region.wanted o (yielded ops a.tmps)=true)(hd:o.dst=none)(hop:o.op=.store ty x y)(hx:a.eval x=pt g k)(hy:a.eval y=v)(hi:(P.info? ty).map (·.size)=some 1)(hold:k<old.size)(h1:v.oneCell'=true)(hn:old.setIfInBounds k v=new)(h:∀ w',w'.heap[g]?=some (.cells new t)->Only g w w'->K a w'):wpOp P ops Q i K a w :=
 RK ho hw hd ty x y hop g k v old[k] hx hy (by rw[cell_of_row _ _ k _ _ _ hg,ki hold]) (frozen_of_row _ _ k _ _ hg) hi h1 (h _ (by rw[<- hn];exact eH k v hg) (Only.one _ _ _ _))
theorem ge(d:Nat)(v:Value)(h:got P ops a w i=some (some d,v,w))(hk:K (a.put (some d) v) w):wpOp P ops Q i K a w:=by
 unfold got at h;unfold wpOp;cases ho:ops[i]? with
 | none=>rw[ho]at h;cases h
 | some o =>
  rw[ho]at h
  simp only;simp only at h;split
  .rename_i hw
   simp only[hw,if_true]at h;split at h
   .rename_i v' w' hr
    simp only[X',jE]at h;obtain⟨h2,rfl,rfl⟩:=h;refine .inl ?_;unfold Oper.wp;rw[hr,Oper.upon_value,h2];exact hk
   .cases h
  .rename_i hw
   simp only[hw,if_false,X',jE,lA]at h;obtain⟨h2,rfl,_⟩:=h;rw[h2];exact hk
theorem GY{b:Bool}(h:(m != n)=b):(do Go.eqGuard .neq t x y (iv m) (iv n);Go.binOp .neq t (iv m) (iv n):Sem Value).run P w=.ok (.bool b) w:=by
 subst h;rfl
theorem rLt{b:Bool}(h:decide (m<n)=b):(do Go.eqGuard .lss t x y (iv m) (iv n);Go.binOp .lss t (iv m) (iv n):Sem Value).run P w=.ok (.bool b) w:=by
 subst h;rfl
theorem rGe{b:Bool}(h:decide (n<=m)=b):(do Go.eqGuard .geq t x y (iv m) (iv n);Go.binOp .geq t (iv m) (iv n):Sem Value).run P w=.ok (.bool b) w:=by
 subst h;rfl
end
end
section
structure Fm where
 n:Nat
 e:List (Nat × Value)
 z:Nat->Value
def lk(z:Nat->Value):List (Nat × Value)->Nat->Value
 | [],t=>z t
 | p::r,t=>cond (Nat.beq p.1 t) p.2 (lk z r t)
def Fm.act(f:Fm):Act:={ tmps:=((List.range f.n).map (lk f.z f.e)).toArray,defers:=[] }
def Fm.ev(f:Fm):Operand->Value
 | .tmp t=>cond (Nat.blt t f.n) (lk f.z f.e t) undef
 | .const v=>v
 | .global g=>.pointer (some ⟨g,0,none⟩)
 | .func k=>.func (.func k) #[] #[]
def Fm.put(f:Fm)(d:Option Tmp)(v:Value):Fm:=match d with|some d=>⟨f.n,(d,v)::f.e,f.z⟩|none=>f
theorem Fm.eval(f:Fm):f.act.eval=f.ev:=by
 funext x
 cases x with
 | tmp t =>
  show((List.range f.n).map (lk f.z f.e)).toArray.getD t undef=_;rw[jw];simp only[jF,jh];show _=cond (Nat.blt t f.n) (lk f.z f.e t) undef;by_cases h:t<f.n
  .have hb:Nat.blt t f.n=true:=(by rw[Nat.blt,lF];exact h);rw[j8 h,hb];rfl
  .have hb:Nat.blt t f.n=false:=kO.2 λg=>h (by rw[Nat.blt,lF]at g;exact g);rw[j3 (by simpa using h),hb];rfl
 | const v=>rfl
 | global g=>rfl
 | func k=>rfl
theorem Fm.act_put(f:Fm)(d:Option Tmp)(v:Value):(f.put d v).act=f.act.put d v:=by
 cases d with
 | none=>rfl
 | some d =>
  unfold Fm.put Fm.act Act.put;simp only[Act.mk.injEq,and_true];apply kD;intro i;rw[Array.getElem?_setIfInBounds];simp only[jF,jh,ko,jc,List.length_range];by_cases hi:i<f.n
  .rw[j8 hi];by_cases hd:d=i
   .subst hd;simp[lk,hi]
   .rw[if_neg hd];simp only[jC,lk,show Nat.beq d i=false from kO.2 λg=>hd (ja g),cond_false]
  .rw[j3 (by simpa using hi)];by_cases hd:d=i
   .subst hd;simp[hi]
   .rw[if_neg hd];rfl
def ii(f:Fm)(want:Bool):Option Tmp->Bool
 | none=>false
 | some d=>match f.ev (.tmp d)with
  | .bool b=>b==want
  | _=>false
theorem cA(f:Fm)(want:Bool)(x:Option Tmp):((match x.bind (f.act.tmps[·]?)with|some (.bool b)=>some b|_=>none)==some want)=ii f want x:=by
 cases x with
 | none=>rfl
 | some d =>
  have hd:f.act.eval (.tmp d)=f.ev (.tmp d):=by rw[f.eval]
  have h2:f.act.eval (.tmp d)=(f.act.tmps[d]?).getD undef:=jw ..;rw[h2]at hd
  show((match f.act.tmps[d]? with|some (.bool b)=>some b|_=>none)==some want)=(match f.ev (.tmp d)with|.bool b=>b==want|_=>false);rw[<- hd];cases f.act.tmps[d]? with
  | none=>rfl
  | some v=>cases v<;>rfl
def Fm.wants(f:Fm)(ops:Array Oper)(o:Oper):Bool :=
 match o.guard with
 | none=>true
 | some (j,want)=>ii f want ((ops[j]?).bind (·.dst))
theorem Fm.wanted(f:Fm)(ops:Array Oper)(o:Oper):Region.wanted o (yielded ops f.act.tmps)=f.wants ops o:=by
 unfold Region.wanted Fm.wants;cases o.guard with
 | none=>rfl
 | some p=>exact cA f p.2 ((ops[p.1]?).bind (·.dst))
inductive Tg where
 | z
 | l
 | n (r i:Nat)
def Tg.isZ:Tg->Bool|.z=>true|_=>false
structure Sh where
 g:Nat
 o:Obj
 t:Tg
 w:Bool
instance:Inhabited Sh:=⟨⟨0,default,.z,false⟩⟩
structure Gh where
 t:Nat->Tg
 k:Nat->Nat
structure Cg(B:Nat)(T:List Tg)(g:Gh)(w:World)(g':Gh)(w':World):Prop where
 os:w'.os=w.os
 tape:w'.tape=w.tape
 output:w'.output=w.output
 size:w.heap.size<=w'.heap.size
 tag_:∀ b,b<w.heap.size->g'.t b=g.t b\/(g.t b=.l/\B<=b/\g'.t b=.z)
 kap:∀ b,b<w.heap.size->g.k b<=g'.k b
 kat:∀ b,b<w.heap.size->g.t b∉T->(g.t b=.l->b<B)->g'.k b=g.k b
 same:∀ b,b<w.heap.size->g.t b∉T->(g.t b=.l->b<B)->w'.heap[b]?=w.heap[b]?
 pref:∀ b,b<w.heap.size->∀ j,j<g.k b->w'.cell? ⟨b,j,none⟩=w.cell? ⟨b,j,none⟩
variable{B:Nat}{T:List Tg}{g g':Gh}{w w':World}
theorem Cg.tag(h:Cg B T g w g' w'){b:Nat}(hb:b<w.heap.size)(hn:g.t b=.l->b<B):g'.t b=g.t b:=by
 rcases h.tag_ b hb with h1|⟨h1,h2,_⟩
 .exact h1
 .have:=hn h1;omega
theorem Cg.refl(B:Nat)(T:List Tg)(g:Gh)(w:World):Cg B T g w g w:=⟨rfl,rfl,rfl,A' _,λ_ _=>.inl rfl,λ_ _=>A' _,λ_ _ _ _=>rfl,λ_ _ _ _=>rfl,λ_ _ _ _=>rfl⟩
theorem Cg.trans{g'':Gh}{w'':World}(h:Cg B T g w g' w')(k:Cg B T g' w' g'' w''):Cg B T g w g'' w'' :=
 have hs:∀ {b},b<w.heap.size->b<w'.heap.size:=λhb=>Z' hb h.size
 ⟨k.os.trans h.os,k.tape.trans h.tape,k.output.trans h.output,iP h.size k.size,λb hb=>by
  rcases h.tag_ b hb with h1|⟨h1,h2,h3⟩
  .rcases k.tag_ b (hs hb)with k1|⟨k1,k2,k3⟩
   .exact .inl (k1.trans h1)
   .exact .inr ⟨h1▸k1,k2,k3⟩
  .rcases k.tag_ b (hs hb)with k1|⟨k1,k2,k3⟩
   .exact .inr ⟨h1,h2,k1.trans h3⟩
   .exact .inr ⟨h1,h2,k3⟩,
  λb hb=>iP (h.kap b hb) (k.kap b (hs hb)),
  λb hb h1 h2=>(k.kat b (hs hb) (by rw[h.tag hb h2];exact h1) (by rw[h.tag hb h2];exact h2)).trans (h.kat b hb h1 h2),
  λb hb h1 h2=>(k.same b (hs hb) (by rw[h.tag hb h2];exact h1) (by rw[h.tag hb h2];exact h2)).trans (h.same b hb h1 h2),
  λb hb j hj=>(k.pref b (hs hb) j (Z' hj (h.kap b hb))).trans (h.pref b hb j hj)⟩
theorem Cg.mono{T':List Tg}(h:Cg B T g w g' w')(hT:∀ t∈T,t∈T'):Cg B T' g w g' w' :=
 ⟨h.os,h.tape,h.output,h.size,h.tag_,h.kap,λb hb h1 h2=>h.kat b hb (λh3=>h1 (hT _ h3)) h2,λb hb h1 h2=>h.same b hb (λh3=>h1 (hT _ h3)) h2,h.pref⟩
theorem Cg.ret(h:Cg w.heap.size T g w g' w'):Cg B T g w g' w' :=
 ⟨h.os,h.tape,h.output,h.size,λb hb=>.inl (h.tag hb (λ_=>hb)),h.kap,λb hb h1 _=>h.kat b hb h1 (λ_=>hb),λb hb h1 _=>h.same b hb h1 (λ_=>hb),h.pref⟩
theorem Cg.ofBelow(h:Bw w w'):Cg B T g w g w' :=
 ⟨h.os,h.tape,h.output,h.size,λ_ _=>.inl rfl,λ_ _=>A' _,λ_ _ _ _=>rfl,λb hb _ _=>h.block b hb,λb hb j _=>World.cell?_of_block (w:=w) (h.block b hb)⟩
theorem Cg.below(h:Cg w.heap.size T g w g' w')(hT:∀ b,b<w.heap.size->g.t b∉T):Bw w w' :=
 ⟨h.os,h.tape,h.output,h.size,λb hb=>h.same b hb (hT b hb) (λ_=>hb)⟩
structure Kn(B:Nat)(g:Gh)(w:World)(L:List Sh):Prop where
 row:∀ x∈L,w.heap[x.g]?=some x.o/\g.t x.g=x.t/\(x.t=.l->B<=x.g)/\(x.t≠.z->g.k x.g=0)
 nod:L.Pairwise λx y=>x.g=y.g->(x.t=.z/\x.w=false)/\y.t=.z/\y.w=false
 new:∀ b,w.heap.size<=b->g.t b=.z/\g.k b=0
 base:B<=w.heap.size
def AP(L:List Sh)(w:World):Prop:=∀ x∈L,w.heap[x.g]?=some x.o
theorem Kn.rows{L:List Sh}(h:Kn B g w L):AP L w:=λx hx=>(h.row x hx).1
inductive Kt where
 | c (x:Code)
 | b (id:Nat)
 | o (ops:Array Oper) (is:List Nat)
 | x (ops:Array Oper) (m:Nat) (Ld:Array Bool) (s:Nat) (L0:List Sh)
 | y (ops:Array Oper) (m:Nat) (Ld:Array Bool) (s:Nat) (L0:List Sh) (i:Nat)
 | j (J:Act->World->Prop)
def Kq(P:Program)(R:Exit->Act->World->Prop):List Kt->Exit->Act->World->Prop
 | []=>R
 | .c x::K=>Exit.then (x.wp P (Kq P R K)) (Kq P R K)
 | .b id::K=>Exit.inBlock id (Kq P R K)
 | .o ops is::K=>Exit.then (wpOps P ops (Kq P R K) is) (Kq P R K)
 | .x ops m Ld s L0::K=>Exit.then (Bp P .any ops (Kq P R K) [(s,AP L0)] m Ld) (Kq P R K)
 | .y ops m Ld s L0 i::K=>Exit.then (wpOp P ops (Kq P R K) i (λa w=>Sx [(s,AP L0)] (Ld.setIfInBounds i true) w/\Bp P .any ops (Kq P R K) [(s,AP L0)] m (Ld.setIfInBounds i true) a w)) (Kq P R K)
 | .j J::K=>Exit.then J (Kq P R K)
structure Xs where
 K:List Kt
 f:Fm
 L:List Sh
structure GG(P:Program)(fn:Func)(R:Ending->World->Prop)(B:Nat)(T:List Tg)(s:Xs)(g:Gh)(w:World):Prop where
 ex:Kn B g w s.L->Kq P (bodyPost P fn R) s.K .normal s.f.act w
theorem Kq.panic{P:Program}{fn:Func}{R:Ending->World->Prop}:∀ (K:List Kt) (c:List PanicEntry) (a:Act) (d:Option Tmp) (v:Value) (w:World),Kq P (bodyPost P fn R) K (.panic c) (a.put d v) w->Kq P (bodyPost P fn R) K (.panic c) a w
 | [],c,a,d,v,w,h=>by
  have hd:(a.put d v).defers=a.defers:=by cases d<;>rfl
  exact⟨hd▸h.1,h.2⟩
 | .c x::K,c,a,d,v,w,h=>Kq.panic K c a d v w h
 | .b id::K,c,a,d,v,w,h=>Kq.panic K c a d v w h
 | .o ops is::K,c,a,d,v,w,h=>Kq.panic K c a d v w h
 | .x ops m Ld s L0::K,c,a,d,v,w,h=>Kq.panic K c a d v w h
 | .y ops m Ld s L0 i::K,c,a,d,v,w,h=>Kq.panic K c a d v w h
 | .j J::K,c,a,d,v,w,h=>Kq.panic K c a d v w h
inductive Ob where
 | r (x y:World->Result Next)
 | v (x y:Value)
 | t (x y:Tg)
 | l (x y:List Sh)
 | b (x:Bool)
inductive Oe where
 | r (x:World->Result Next)
 | v (x:Value)
 | t (x:Tg)
 | l (x:List Sh)
 | b (x:Bool)
def Ob.l':Ob->Oe|.r x _=>.r x|.v x _=>.v x|.t x _=>.t x|.l x _=>.l x|.b x=>.b x
def Ob.r':Ob->Oe|.r _ x=>.r x|.v _ x=>.v x|.t _ x=>.t x|.l _ x=>.l x|.b _=>.b true
def Ob.ok:Ob->Prop|.r x y=>x=y|.v x y=>x=y|.t x y=>x=y|.l x y=>x=y|.b x=>x=true
theorem Ob.all{l:List Ob}(h:l.map Ob.l'=l.map Ob.r'):∀ o∈l,o.ok:=by
 intro o ho;have h1:∀ o∈l,o.l'=o.r':=List.map_inj_left.1 h;have h2:=h1 o ho;cases o<;>simp only[Ob.l',Ob.r',Oe.r.injEq,Oe.v.injEq,Oe.t.injEq,Oe.l.injEq,Oe.b.injEq]at h2<;>exact h2
def GP:Value->Nat|.pointer (some a)=>a.off|_=>0
def CD:Obj->Array Value|.cells c _ _=>c|_=>#[]
def DL:Obj->Bool|.cells _ _ (0,0)=>true|_=>false
def cU:Obj->Array Value->Obj|.cells _ t f,c=>.cells c t f|o,_=>o
def szT(P:Program)(ty:TypeId):Nat:=((P.info? ty).map (·.size)).getD 0
def FM(P:Program)(ty:TypeId):Bool:=match P.underlying ty with|some d=>d.isRow|none=>false
def reA:Value->Nat->Value
 | .pointer (some a),g=>.pointer (some { a with block:=g })
 | .slice (some a) n c,g=>.slice (some { a with block:=g }) n c
 | .map (some _),g=>.map (some g)
 | v,_=>v
def bV:Result Next->Value|.ok (.value v) _=>v|_=>undef
def ei:Result Next->Obj|.ok _ w=>(w.heap[0]?).getD default|_=>default
def cH:Op->Bool|.alloc _|.box _ _|.buildSlice _ _ _|.makeSlice _ _ _|.makeMap _ _=>true|_=>false
def gP:Op->Bool|.store _ _ _=>true|_=>false
def iH(i:Nat):Nat->Tg|0=>.z|1=>.l|r+2=>.n r i
structure Rs where
 f:Fm
 L:List Sh
 j:Nat
 h:List Nat
 o:List Ob
def exQ(P:Program)(ops:Array Oper)(o:Oper)(f:Fm)(L:List Sh)(h:List Nat):Value × List Nat × List Ob :=
 cond (f.wants ops o) (match o.op with
  | .load ty x =>
   let r:=L.getD (h.headD 0) default
   let off:=GP (f.ev x)
   (cond (FM P ty) (.agg (((CD r.o).toList.drop off).take (szT P ty)).toArray) ((CD r.o).getD off undef),h.tail,
    [.v (f.ev x) (pt r.g off),.b (Nat.blt (h.headD 0) L.length&&Nat.ble (off+szT P ty) (CD r.o).size&&(P.info? ty).isSome&&(P.underlying ty).isSome&&DL r.o&&(FM P ty||Nat.beq (szT P ty) 1))])
  | _=>let q:=(execOp f.ev o).run P default;(bV q,h,[.r (λw=>(execOp f.ev o).run P w) (λw=>.ok (.value (bV q)) w)]))
  (undef,h,[])
def stP:Op->TypeId × Operand × Operand|.store t x y=>(t,x,y)|_=>(0,.tmp 0,.tmp 0)
def exS(P:Program)(T:List Tg)(o:Oper)(f:Fm)(L:List Sh)(j:Nat)(h:List Nat):Rs :=
 let ty:=(stP o.op).1
 let x:=(stP o.op).2.1
 let r:=L.getD (h.headD 0) default
 let off:=GP (f.ev x)
 let v:=f.ev (stP o.op).2.2
 let cs:=cond (FM P ty) v.cells #[v]
 let m:=h.tail.headD 0
 ⟨f,L.set (h.headD 0) { r with o:=cU r.o (aQ (CD r.o) off cs.toList) },j,h.tail.tail,
  [.v (f.ev x) (pt r.g off),.v v (cond (FM P ty) (.agg cs) v),.t (cond r.w .l r.t) (cond r.w .l ((Tg.l::T).getD m .z)),
   .b (Nat.blt (h.headD 0) L.length&&Nat.ble (off+cs.size) (CD r.o).size&&(P.info? ty).isSome&&Nat.beq (szT P ty) cs.size&&DL r.o&&o.dst.isNone&&cs.all (·.oneCell')&&(r.w||(Nat.ble m T.length&&!r.t.isZ)))]⟩
def exN(P:Program)(gs:Nat->Nat)(o:Oper)(f:Fm)(L:List Sh)(j:Nat)(h:List Nat):Rs :=
 let q:=(execOp f.ev o).run P default
 ⟨f.put o.dst (reA (bV q) (gs j)),L++[⟨gs j,ei q,iH (h.tail.headD 0) (h.headD 0),true⟩],j+1,h.tail.tail,
  [.r (λw=>(execOp f.ev o).run P w) (λw=>.ok (.value (reA (bV q) w.heap.size)) (w.alloc (ei q))),.b o.dst.isSome]⟩
def exO(P:Program)(T:List Tg)(gs:Nat->Nat)(ops:Array Oper)(o:Oper)(f:Fm)(L:List Sh)(j:Nat)(h:List Nat):Rs :=
 cond (f.wants ops o&&gP o.op) (exS P T o f L j h) (cond (f.wants ops o&&cH o.op) (exN P gs o f L j h)
  (let q:=exQ P ops o f L h;⟨f.put o.dst q.1,L,j,q.2.1,.b (o.dst.isSome||!f.wants ops o)::q.2.2⟩))
def UR(id:Nat):List Kt->List Kt
 | []=>[]
 | .b i::K=>cond (Nat.beq i id) K (UR id K)
 | _::K=>UR id K
def WR(id:Nat):List Kt->Bool
 | []=>false
 | .b i::K=>cond (Nat.beq i id) true (WR id K)
 | _::K=>WR id K
def Ww(ops:Array Oper)(i:Nat):List Nat :=
 (List.range ops.size).foldl (λD j=>cond (match ops[j]? with|none=>false|some o=>o.after.any λe=>Region.binds .any e&&D.contains e.on) (j::D) D) [i]
def tkB(ops:Array Oper)(Ld:Array Bool)(s i:Nat)(ld:Bool):Bool :=
 Region.noSelect ops&&(Region.free .any ops Ld i&&(Region.ready .any ops Ld).contains i&&(s != i)&&decide (Ld.size=ops.size) &&
  (cond ld (let D:=Ww ops i;D.contains i&&(D.contains s||decide (ops.size<=s))&&LU .any ops i D&&D.all λj=>Ld.getD j true==false) (Ld.getD i true==false)))
def ZV:Op->Bool|.load _ _=>true|_=>false
def B0(L:List Sh):List Sh:=L.map λx=>⟨x.g,x.o,x.t,false⟩
structure Rz where
 s:Xs
 o:List Ob
def rn(P:Program)(T:List Tg)(gs:Nat->Nat):Nat->Xs->Nat->List Nat->Rz
 | 0,s,_,_=>⟨s,[]⟩
 | m+1,s,j,h=>match s.K with
  | []=>⟨s,[.b false]⟩
  | .c x::K=>match x with
   | .skip=>rn P T gs m ⟨K,s.f,s.L⟩ j h
   | .seq x y=>rn P T gs m ⟨.c x::.c y::K,s.f,s.L⟩ j h
   | .block id x=>rn P T gs m ⟨.c x::.b id::K,s.f,s.L⟩ j h
   | .exit id=>let r:=rn P T gs m ⟨UR id K,s.f,s.L⟩ j h;⟨r.s,.b (WR id K)::r.o⟩
   | .cond c x y=>match s.f.ev c with
    | .bool t=>rn P T gs m ⟨.c (cond t x y)::K,s.f,s.L⟩ j h
    | _=>⟨s,[.b false]⟩
   | .region _ ops false=>rn P T gs m ⟨.o ops (List.range ops.size)::K,s.f,s.L⟩ j h
   | .region _ ops true=>let r:=rn P T gs m ⟨.x ops ops.size (Array.replicate ops.size false) (h.headD 0) (B0 s.L)::K,s.f,s.L⟩ j h.tail;⟨r.s,.b (P.follows .mixedOrders)::r.o⟩
   | _=>⟨s,[.b false]⟩
  | .b _::K=>rn P T gs m ⟨K,s.f,s.L⟩ j h
  | .j _::_=>⟨s,[.b false]⟩
  | .o _ []::K=>rn P T gs m ⟨K,s.f,s.L⟩ j h
  | .o ops (i::is)::K=>match ops[i]? with
   | none=>⟨s,[.b false]⟩
   | some o=>let q:=exO P T gs ops o s.f s.L j h;let r:=rn P T gs m ⟨.o ops is::K,q.f,q.L⟩ q.j q.h;⟨r.s,q.o++r.o⟩
  | .y ops u Ld e L0 i::K=>match ops[i]? with
   | none=>⟨s,[.b false]⟩
   | some o =>
    let q:=exO P T gs ops o s.f s.L j h
    let Ld':=Ld.setIfInBounds i true
    let r:=rn P T gs m ⟨.x ops u Ld' e L0::K,q.f,q.L⟩ q.j q.h
    ⟨r.s,.l (cond (Ld'.getD e false) [] L0) (cond (Ld'.getD e false) [] (B0 (q.L.take L0.length)))::(q.o++r.o)⟩
  | .x ops 0 Ld _ _::K=>let r:=rn P T gs m ⟨K,s.f,s.L⟩ j h;⟨r.s,.b (Region.ready .any ops Ld).isEmpty::r.o⟩
  | .x ops (u+1) Ld e L0::K =>
   let i:=h.headD 0/2
   let Ld':=Ld.setIfInBounds i true
   match ops[i]? with
   | none=>⟨s,[.b false]⟩
   | some o=>cond (Nat.beq (h.headD 0%2) 0)
    (let q:=exQ P ops o s.f L0 h.tail
     let r:=rn P T gs m ⟨.x ops u Ld' e L0::K,s.f.put o.dst q.1,s.L⟩ j q.2.1
     let d:=ZV o.op&&s.f.wants ops o
     ⟨r.s,.b (tkB ops Ld e i d&&o.dst.isSome&&(!d||!Ld.getD e false))::.l (cond (Ld.getD e false) [] L0) (cond (Ld.getD e false) [] (B0 (s.L.take L0.length)))::(q.2.2++r.o)⟩)
    (let q:=exO P T gs ops o s.f s.L j h.tail
     let r:=rn P T gs m ⟨.x ops u Ld' e L0::K,q.f,q.L⟩ q.j q.h
     ⟨r.s,.b (match Region.ready .any ops Ld with|[k]=>Nat.beq k i|_=>false)::.l (cond (Ld'.getD e false) [] L0) (cond (Ld'.getD e false) [] (B0 (q.L.take L0.length)))::(q.o++r.o)⟩)
end
section
variable{P:Program}{ops:Array Oper}{Q:Exit->Act->World->Prop}
section
variable{B i j:Nat}{L:List Sh}{T:List Tg}{f:Fm}{g g0:Gh}{h:List Nat}{o:Oper}{w w' w0:World}
theorem NU(ho:ops[i]?=some o)(hob:∀ x∈(exQ P ops o f L h).2.2,x.ok)(W:World)(hw:AP L W\/(ZV o.op&&f.wants ops o)=false) :
  got P ops f.act W i=some (o.dst,(exQ P ops o f L h).1,W):=by
 unfold exQ at hob ⊢;cases hwt:f.wants ops o with
 | false =>
  simp only[cond_false];unfold got;simp only[ho,f.wanted,hwt,if_false,lA]
 | true =>
  rw[hwt]at hob hw
  simp only[cond_true]at hob ⊢;have hwt':Region.wanted o (yielded ops f.act.tmps)=true:=by rw[f.wanted,hwt]
  split at hob
  .rename_i ty x hop
   simp only[];have hR:AP L W:=hw.resolve_right (by simp[hop,ZV]);have h1:=hob _ (U' ..);have h2:=hob _ (P' _ (U' ..));simp only[Ob.ok,iZ]at h1 h2;obtain⟨⟨⟨⟨⟨b1,b2⟩,b3⟩,b4⟩,b5⟩,b6⟩:=h2;generalize hk:h.headD 0=k at *;have hkL:k<L.length:=by rw[Nat.blt,lF]at b1;exact b1
   have hr:L.getD k default=L[k]:=by rw[jd,E' hkL];rfl
   rw[hr]at h1 b2 b5 ⊢
   have hrow:=hR L[k] (jr hkL);generalize L[k]=r at *;obtain⟨rg,ro,rt,rw'⟩:=r;cases ro with
   | cells cs t fr =>
    obtain⟨lo,hi⟩:=fr;simp only[CD]at b2 ⊢;rw[lF]at b2
    cases hu:P.underlying ty with
    | none=>rw[hu]at b4;cases b4
    | some dd =>
     cases hi':P.info? ty with
     | none=>rw[hi']at b3;cases b3
     | some inf =>
      have hsz:szT P ty=inf.size:=by unfold szT;rw[hi'];rfl
      have hrt:FM P ty=dd.isRow:=by unfold FM;rw[hu]
      have hx:f.act.eval x=pt rg (GP (f.ev x)):=by rw[f.eval];exact h1
      cases hrow':dd.isRow with
      | false =>
       rw[hrt,hrow',cond_false];have hoff:GP (f.ev x)<cs.size:=by rw[hrt,hrow',lx]at b6;have:=ja b6;omega
       have hc:W.cell? ⟨rg,GP (f.ev x),none⟩=some (cs.getD (GP (f.ev x)) undef):=by
        rw[cell_of_row _ _ _ _ _ _ hrow,ki hoff,jw,ki hoff];rfl
       have hagg:(isAgg ty).run P W=.ok false W:=by
        unfold isAgg;rw[Sem.run_bind,run_underlying hu W];clear hob h1 hR;cases dd<;>first|rfl|(simp only[TypeDesc.isRow]at hrow';cases hrow')
       have hl:(loadVar ty ⟨rg,GP (f.ev x),none⟩).run P W=.ok (cs.getD (GP (f.ev x)) undef) W:=by
        generalize cs.getD (GP (f.ev x)) undef=v at *;generalize GP (f.ev x)=k0 at *;clear hob h1 hR;simp[loadVar,hagg,hc,go_sem]
       unfold got execOp;simp only[ho,hwt',if_true,hop,hx,Instr.loadAt,Instr.sureAddr,Sem.run_bind,Sem.run_pure,Result.andThen_ok,hl]
      | true =>
       rw[hrt,hrow',cond_true];have hlen:((cs.toList.drop (GP (f.ev x))).take (szT P ty)).length=szT P ty:=by rw[iO,iQ,jW];omega
       have hc:=Qa hrow (GP (f.ev x)) ((cs.toList.drop (GP (f.ev x))).take (szT P ty)) (by rw[hlen]);have hz:(P.info? ty).map (·.size)=some (((cs.toList.drop (GP (f.ev x))).take (szT P ty))).length:=by rw[hi',hlen,hsz];rfl
       unfold got execOp;simp only[ho,hwt',if_true,hop,hx,Instr.loadAt,Instr.sureAddr,Sem.run_bind,Sem.run_pure,Result.andThen_ok,run_loadVar_mid W rg _ ty _ dd hc hu hrow' hz]
   | _=>cases b5
  .rename_i hno
   have h1:=hob _ (U' ..);simp only[Ob.ok]at h1;have h2:=congrFun h1 W;unfold got;simp only[ho,hwt',if_true,f.eval,h2]
theorem Kn.two(h:Kn B g w L)(hi:i<L.length)(hj:j<L.length)(hne:i≠j)(he:L[i].g=L[j].g):(L[i].t=.z/\L[i].w=false)/\L[j].t=.z/\L[j].w=false:=by
 have h1:=jN.1 h.nod;rcases Nat.lt_or_gt_of_ne hne with hl|hl
 .exact h1 i j hi hj hl he
 .have:=h1 j i hj hi hl he.symm;exact⟨this.2,this.1⟩
theorem Kn.set{k:Nat}(hk:k<L.length)(hK:Kn B g w L)(hst:L[k].w=true\/L[k].t≠.z)(o':Obj)(ho:w'.heap[L[k].g]?=some o')(hO:Only L[k].g w w') :
  Kn B g w' (L.set k { L[k]with o:=o' }):=by
 have hd:∀ n (hn:n<L.length),n≠k->L[n].g≠L[k].g:=λn hn hne he=>by
  have:=hK.two hn hk hne he;rcases hst with h|h
  .rw[this.2.2]at h;cases h
  .exact h this.2.1
 refine⟨λx hx=>?_,?_,λb hb=>hK.new b (by rw[<- hO.size];exact hb),by rw[hO.size];exact hK.base⟩
 .obtain⟨n,hn,rfl⟩:=kw hx;have hn':n<L.length:=by simpa using hn
  rw[j9];split
  .exact⟨ho,(hK.row _ (jr hk)).2⟩
  .rename_i hne
   have h1:=hK.row _ (jr hn');refine⟨?_,h1.2⟩;rw[hO.other _ (hd n hn' (λh=>hne h.symm))];exact h1.1
 .rw[jN];intro i j hi hj hij he;have hi':i<L.length:=by simpa using hi
  have hj':j<L.length:=by simpa using hj
  have hg:∀ n (hn:n<(L.set k { L[k]with o:=o' }).length) (hn':n<L.length),(L.set k { L[k]with o:=o' })[n].g=L[n].g/\(L.set k { L[k]with o:=o' })[n].t=L[n].t/\(L.set k { L[k]with o:=o' })[n].w=L[n].w:=λn hn hn'=>by
   rw[j9];split
   .rename_i h;subst h;exact⟨rfl,rfl,rfl⟩
   .exact⟨rfl,rfl,rfl⟩
  rw[(hg i hi hi').1,(hg j hj hj').1]at he
  have:=hK.two hi' hj' (by omega) he;rw[(hg i hi hi').2.1,(hg i hi hi').2.2,(hg j hj hj').2.1,(hg j hj hj').2.2];exact this
theorem Cg.only{b:Nat}(h:Cg B T g0 w0 g w)(hO:Only b w w')(hb:w0.heap.size<=b\/((g.t b∈T\/(g.t b=.l/\B<=b))/\g.k b=0)):Cg B T g0 w0 g w' :=
 ⟨hO.os.trans h.os,hO.tape.trans h.tape,hO.output.trans h.output,by rw[hO.size];exact h.size,h.tag_,h.kap,h.kat,λc hc h1 h2=>by
  have hne:c≠b:=by
   rintro rfl;rcases hb with hb|⟨hb|hb,_⟩
   .omega
   .rw[h.tag hc h2]at hb;exact h1 hb
   .rw[h.tag hc h2]at hb;have:=h2 hb.1;omega
  rw[hO.other c hne];exact h.same c hc h1 h2,λc hc j hj=>by
  have hne:c≠b:=by
   rintro rfl;rcases hb with hb|⟨_,hb⟩
   .omega
   .have:=h.kap _ hc;omega
  rw[World.cell?_of_block (w:=w) (hO.other c hne)];exact h.pref c hc j hj⟩
theorem Kn.push(hK:Kn B g w L)(o:Obj)(t:Tg)(b:Bool) :
  Kn B ⟨λc=>if c=w.heap.size then t else g.t c,g.k⟩ (w.alloc o) (L++[⟨w.heap.size,o,t,b⟩]):=by
 have hlt:∀ x∈L,x.g<w.heap.size:=λx hx=>rl (hK.row x hx).1;refine⟨λx hx=>?_,?_,λc hc=>?_,?_⟩
 .rcases V'.1 hx with h|h
  .have h1:=hK.row x h;have h2:=hlt x h;exact⟨by rw[Below.heap_alloc _ _ _ h2];exact h1.1,by show(if x.g=w.heap.size then t else g.t x.g)=_;rw[if_neg (by omega)];exact h1.2.1,h1.2.2.1,h1.2.2.2⟩
  .obtain rfl:x=⟨w.heap.size,o,t,b⟩:=by simpa using h
   exact⟨heap_alloc_new _ _,if_pos rfl,λ_=>hK.base,λ_=>(hK.new _ (A' _)).2⟩
 .rw[km];refine⟨hK.nod,lC _ _,λa ha c hc he=>?_⟩;have:=hlt a ha;rw[O'.1 hc]at he
  simp only at he;omega
 .have h1:w.heap.size+1<=c:=by simpa using hc
  show(if c=w.heap.size then t else g.t c)=.z/\g.k c=0;rw[if_neg (by omega)];exact hK.new c (by omega)
 .have:=hK.base;simp;omega
theorem Cg.push(h:Cg B T g0 w0 g w)(o:Obj)(t:Tg):Cg B T g0 w0 ⟨λc=>if c=w.heap.size then t else g.t c,g.k⟩ (w.alloc o) :=
 ⟨h.os,h.tape,h.output,by have:=h.size;simp;omega,λb hb=>by
  show(if b=w.heap.size then t else g.t b)=_\/(_/\_/\(if b=w.heap.size then t else g.t b)=_);have:=h.size;rw[if_neg (by omega)];exact h.tag_ b hb,h.kap,h.kat,λb hb h1 h2=>by
  have:=h.size;rw[Below.heap_alloc _ _ _ (by omega)];exact h.same b hb h1 h2,λb hb j hj=>by
  have:=h.size;rw[World.cell?_of_block (w:=w) (Below.heap_alloc _ _ _ (by show b<_;omega))];exact h.pref b hb j hj⟩
theorem Rg{gs:Nat->Nat}{K:Act->World->Prop}(ho:ops[i]?=some o)(hob:∀ x∈(exO P T gs ops o f L j h).o,x.ok)(hK:Kn B g w L)(hC:Cg B T g0 w0 g w)(hN:∀ x∈L,x.w=true->w0.heap.size<=x.g)(hj:∀ k,gs (j+k)=w.heap.size+k)(hk:∀ g' w',Kn B g' w' (exO P T gs ops o f L j h).L->Cg B T g0 w0 g' w'->(∀ x∈(exO P T gs ops o f L j h).L,x.w=true->w0.heap.size<=x.g)->(∀ k,gs ((exO P T gs ops o f L j h).j+k)=w'.heap.size+k)->K (exO P T gs ops o f L j h).f.act w') :
  wpOp P ops Q i K f.act w:=by
 unfold exO at hob hk;cases hs:f.wants ops o&&gP o.op with
 | true =>
  rw[hs]at hob hk
  simp only[cond_true]at hob hk;simp only[iZ]at hs;obtain⟨hwt,hop'⟩:=hs;have hwt':Region.wanted o (yielded ops f.act.tmps)=true:=by rw[f.wanted,hwt]
  obtain⟨ty,x,y,hop⟩:∃ ty x y,o.op=.store ty x y:=by
   cases hh:o.op<;>rw[hh]at hop'<;>first|exact⟨_,_,_,rfl⟩|cases hop'
  unfold exS at hob hk;simp only[hop,stP]at hob hk;have h1:=hob _ (U' ..);have h2:=hob _ (P' _ (U' ..));have h3:=hob _ (P' _ (P' _ (U' ..)));have h4:=hob _ (P' _ (P' _ (P' _ (U' ..))));clear hob;simp only[Ob.ok,iZ]at h1 h2 h3 h4;obtain⟨⟨⟨⟨⟨⟨⟨b1,b2⟩,b3⟩,b4⟩,b5⟩,b6⟩,b7⟩,b8⟩:=h4;generalize hkk:h.headD 0=k at *;have hkL:k<L.length:=by rw[Nat.blt,lF]at b1;exact b1
  have hr:L.getD k default=L[k]:=by rw[jd,E' hkL];rfl
  rw[hr]at h1 h3 b2 b5 b8
  simp only[hr]at hk;have hrow:=hK.row L[k] (jr hkL);have hdn:o.dst=none:=by cases hd:o.dst with|none=>rfl|some _=>rw[hd]at b6;cases b6
  have hx:f.act.eval x=pt L[k].g (GP (f.ev x)):=by rw[f.eval];exact h1
  obtain⟨cs,t,hcs⟩:∃ cs t,L[k].o=.cells cs t (0,0):=by
   cases hh:L[k].o with
   | cells cs t fr =>
    obtain⟨lo,hi⟩:=fr;rw[hh]at b5
    cases lo with
    | zero=>cases hi with
     | zero=>exact⟨cs,t,rfl⟩
     | succ n=>cases b5
    | succ n=>cases b5
   | _=>rw[hh]at b5;cases b5
  simp only[hcs,CD,cU]at b2 hk;have hrow1:=hrow.1;rw[hcs]at hrow1
  rw[lF]at b2
  have hi:(P.info? ty).map (·.size)=some (cond (FM P ty) (f.ev y).cells #[f.ev y]).size:=by
   have:=ja b4;unfold szT at this;cases hh:P.info? ty with
   | none=>rw[hh]at b3;cases b3
   | some inf=>rw[hh]at this;rw[<- this];rfl
  have hin:w0.heap.size<=L[k].g\/((g.t L[k].g∈T\/(g.t L[k].g=.l/\B<=L[k].g))/\g.k L[k].g=0):=by
   cases hw:L[k].w with
   | true=>exact .inl (hN _ (jr hkL) hw)
   | false =>
    rw[hw]at h3 b8
    simp only[cond_false,lx,iZ,lG]at h3 b8;have hz:L[k].t≠.z:=λhe=>by rw[he]at b8;cases b8.2
    refine .inr ⟨?_,hrow.2.2.2 hz⟩;rw[hrow.2.1];have hm:=b8.1;rw[lF]at hm
    generalize h.tail.headD 0=m at *;cases m with
    | zero=>exact .inr ⟨h3,hrow.2.2.1 h3⟩
    | succ m =>
     left;rw[h3];show T.getD m .z∈T;rw[jd,E' (by omega)];exact jr _
  have hst:L[k].w=true\/L[k].t≠.z:=by
   cases hw:L[k].w with
   | true=>exact .inl rfl
   | false =>
    rw[hw]at b8
    simp only[lx,iZ,lG]at b8;exact .inr λhe=>by rw[he]at b8;cases b8.2
  have hnew:∀ o',∀ x∈L.set k { L[k]with o:=o' },x.w=true->w0.heap.size<=x.g:=λo' x hx hxw=>by
   obtain⟨n,hn,rfl⟩:=kw hx;rw[j9]at hxw ⊢
   split
   .rename_i he;rw[if_pos he]at hxw;exact hN L[k] (jr hkL) hxw
   .rename_i he;rw[if_neg he]at hxw;exact hN _ (jr (by simpa using hn)) hxw
  cases hrt:FM P ty with
  | false =>
   simp only[hrt,cond_false]at hi h2 b7 b2 hk;refine gg (f.ev y) hrow1 ho hwt' hdn hop hx (by rw[f.eval]) hi (Nat.lt_of_succ_le b2) (by simpa using b7) rfl λw' hw' hO=>?_;exact hk g w' (hK.set hkL hst _ hw' hO) (hC.only hO hin) (hnew _) (by rw[hO.size];exact hj)
  | true =>
   simp only[hrt,cond_true]at hi h2 b7 b2 hk;refine gf (f.ev y).cells hrow1 ho hwt' hdn hop hx (by rw[f.eval];exact h2) hi b2 b7 rfl λw' hw' hO=>?_;exact hk g w' (hK.set hkL hst _ hw' hO) (hC.only hO hin) (hnew _) (by rw[hO.size];exact hj)
 | false =>
  rw[hs]at hob hk
  simp only[cond_false]at hob hk;clear hs;cases hc:f.wants ops o&&cH o.op with
  | false =>
   rw[hc]at hob hk
   simp only[cond_false]at hob hk;have hq:=NU (h:=h) ho (λx hx=>hob x (P' _ hx)) w (.inl hK.rows);have hd:=hob _ (U' ..);simp only[Ob.ok,kK,lG]at hd;have hfin:=hk g w hK hC hN hj;rw[Fm.act_put]at hfin
   cases hdd:o.dst with
   | some d=>rw[hdd]at hq hfin;exact ge d _ hq hfin
   | none =>
    rw[hdd]at hd hfin
    have hw:f.wants ops o=false:=by simpa using hd
    unfold wpOp;rw[ho];simp only[f.wanted,hw,lA,if_false,hdd];exact hfin
  | true =>
   rw[hc]at hob hk
   simp only[cond_true]at hob hk;simp only[iZ]at hc;have hwt':Region.wanted o (yielded ops f.act.tmps)=true:=by rw[f.wanted,hc.1]
   unfold exN at hob hk;have h1:=hob _ (U' ..);have h2:=hob _ (P' _ (U' ..));simp only[Ob.ok]at h1 h2;have h3:=congrFun h1 w;have hgs:gs j=w.heap.size:=by have:=hj 0;simpa using this
   cases hdd:o.dst with
   | none=>rw[hdd]at h2;cases h2
   | some d =>
    refine XE ho hwt' hdd (by rw[f.eval];exact h3) ?_;have hfin:=hk _ _ (by simp only[hgs];exact hK.push (ei ((execOp f.ev o).run P default)) _ true) (hC.push _ _) (λx hx hxw=>?_) (λk=>?_)
    .simp only[hgs,hdd]at hfin;rw[<- Fm.act_put];exact hfin
    .rcases V'.1 hx with h5|h5
     .exact hN x h5 hxw
     .have h6:=O'.1 h5;rw[h6];show _<=gs j;rw[hgs];exact hC.size
    .have:=hj (1+k);show gs (j+1+k)=_;rw[show j+1+k=j+(1+k)by omega,this];simp;omega
end
end
section
variable{P:Program}{fn:Func}{R:Ending->World->Prop}
section
theorem Kq.exit(id:Nat):∀ (K:List Kt) (a:Act) (w:World),WR id K=true->Kq P (bodyPost P fn R) (UR id K) .normal a w->Kq P (bodyPost P fn R) K (.exit id) a w
 | [],a,w,h,_=>by cases h
 | .c x::K,a,w,h,hk=>Kq.exit id K a w h hk
 | .b i::K,a,w,h,hk=>by
  show(if id=i then Kq P (bodyPost P fn R) K .normal a w else Kq P (bodyPost P fn R) K (.exit id) a w);unfold WR at h;unfold UR at hk;cases hb:Nat.beq i id with
  | true =>
   rw[hb]at hk
   rw[if_pos (ja hb).symm];exact hk
  | false =>
   rw[hb]at h hk
   rw[if_neg (λhe=>by subst he;rw[mz]at hb;cases hb)];exact Kq.exit id K a w h hk
 | .o ops is::K,a,w,h,hk=>Kq.exit id K a w h hk
 | .x ops m Ld s L0::K,a,w,h,hk=>Kq.exit id K a w h hk
 | .y ops m Ld s L0 i::K,a,w,h,hk=>Kq.exit id K a w h hk
 | .j J::K,a,w,h,hk=>Kq.exit id K a w h hk
variable{B:Nat}{L:List Sh}{T:List Tg}{g g0:Gh}{w w0:World}
theorem Cg.drew(h:Cg B T g0 w0 g w):Cg B T g0 w0 g w.drew:=⟨h.os,h.tape,h.output,h.size,h.tag_,h.kap,h.kat,h.same,h.pref⟩
theorem Kn.drew(h:Kn B g w L):Kn B g w.drew L:=⟨h.row,h.nod,h.new,h.base⟩
theorem Vk{ops:Array Oper}{e:Nat}{L0:List Sh}{Ld:Array Bool}(h:AP L w)(hl:cond (Ld.getD e false) [] L0=cond (Ld.getD e false) [] (B0 (L.take L0.length))):Sx [(e,AP L0)] Ld w:=by
 refine⟨λhf=>?_,trivial⟩;rw[hf]at hl
 have hl':L0=B0 (L.take L0.length):=hl;intro x hx;rw[hl']at hx
 obtain⟨y,hy,rfl⟩:=ju.1 hx;exact h y (jb hy)
theorem gH(gs:Nat->Nat):∀ (m:Nat) (s:Xs) (j:Nat) (h:List Nat) (g:Gh) (w:World),(∀ x∈(rn P T gs m s j h).o,x.ok)->Kn B g w s.L->Cg B T g0 w0 g w ->
  (∀ x∈s.L,x.w=true->w0.heap.size<=x.g)->(∀ k,gs (j+k)=w.heap.size+k) ->
  (∀ g' w',Kn B g' w' (rn P T gs m s j h).s.L->Cg B T g0 w0 g' w'->Kq P (bodyPost P fn R) (rn P T gs m s j h).s.K .normal (rn P T gs m s j h).s.f.act w') ->
  Kq P (bodyPost P fn R) s.K .normal s.f.act w:=by
 intro m;induction m with
 | zero=>intro s j h g w _ hK hC _ _ hk;exact hk g w hK hC
 | succ m ih =>
  intro s j h g w hob hK hC hN hj hk;obtain⟨K,f,L⟩:=s;unfold rn at hob hk;cases K with
  | nil=>exact absurd (hob _ (U' ..)) (by simp[Ob.ok])
  | cons t K =>
   cases t with
   | c x =>
    cases x with
    | skip=>exact wp_skip (ih ⟨K,f,L⟩ j h g w hob hK hC hN hj hk)
    | seq x y=>exact wp_seq (ih ⟨.c x::.c y::K,f,L⟩ j h g w hob hK hC hN hj hk)
    | block id x=>exact wp_block (ih ⟨.c x::.b id::K,f,L⟩ j h g w hob hK hC hN hj hk)
    | exit id =>
     refine wp_exit (Kq.exit id K _ _ (hob _ (U' ..)) ?_);exact ih ⟨UR id K,f,L⟩ j h g w (λx hx=>hob x (P' _ hx)) hK hC hN hj hk
    | cond c x y =>
     simp only at hob hk;split at hob
     .rename_i t ht
      simp only[ht]at hk;have hc:f.act.eval c=.bool t:=by rw[f.eval];exact ht
      have h1:=ih ⟨.c (cond t x y)::K,f,L⟩ j h g w hob hK hC hN hj hk;refine wp_cond hc ?_;cases t<;>exact h1
     .exact absurd (hob _ (U' ..)) (by simp[Ob.ok])
    | region id ops d =>
     cases d with
     | false =>
      refine wp_region ?_;rw[List.range_eq_range',<- List.range_eq_range'];exact ih ⟨.o ops (List.range ops.size)::K,f,L⟩ j h g w hob hK hC hN hj hk
     | true =>
      refine co [(h.headD 0,AP (B0 L))] (hob _ (U' ..)) ?_;exact ih ⟨.x ops ops.size (Array.replicate ops.size false) (h.headD 0) (B0 L)::K,f,L⟩ j h.tail g w.drew (λx hx=>hob x (P' _ hx)) hK.drew hC.drew hN hj hk
    | _=>exact absurd (hob _ (U' ..)) (by simp[Ob.ok])
   | b id=>exact ih ⟨K,f,L⟩ j h g w hob hK hC hN hj hk
   | j J=>exact absurd (hob _ (U' ..)) (by simp[Ob.ok])
   | o ops is =>
    cases is with
    | nil=>exact ih ⟨K,f,L⟩ j h g w hob hK hC hN hj hk
    | cons i is =>
     simp only at hob hk;cases ho:ops[i]? with
     | none=>rw[ho]at hob;exact absurd (hob _ (U' ..)) (by simp[Ob.ok])
     | some o =>
      simp only[ho]at hob hk;show wpOps P ops (Kq P (bodyPost P fn R) K) (i::is) f.act w;rw[wpOps_cons];refine Rg (h:=h) (j:=j) (gs:=gs) ho (λx hx=>hob x (jl _ hx)) hK hC hN hj λg' w' hK' hC' hN' hj'=>?_;exact ih ⟨.o ops is::K,_,_⟩ _ _ g' w' (λx hx=>hob x (jx _ hx)) hK' hC' hN' hj' hk
   | y ops u Ld e L0 i =>
    simp only at hob hk;cases ho:ops[i]? with
    | none=>rw[ho]at hob;exact absurd (hob _ (U' ..)) (by simp[Ob.ok])
    | some o =>
     simp only[ho]at hob hk;have h2:=hob _ (U' ..);simp only[Ob.ok]at h2;show wpOp P ops (Kq P (bodyPost P fn R) K) i (λa w=>Sx [(e,AP L0)] (Ld.setIfInBounds i true) w/\Bp P .any ops (Kq P (bodyPost P fn R) K) [(e,AP L0)] u (Ld.setIfInBounds i true) a w) f.act w;refine Rg (h:=h) (j:=j) (gs:=gs) ho (λx hx=>hob x (P' _ (jl _ hx))) hK hC hN hj λg' w' hK' hC' hN' hj'=>?_;exact⟨Vk (ops:=ops) hK'.rows h2,ih ⟨.x ops u (Ld.setIfInBounds i true) e L0::K,_,_⟩ _ _ g' w' (λx hx=>hob x (P' _ (jx _ hx))) hK' hC' hN' hj' hk⟩
   | x ops u Ld e L0 =>
    cases u with
    | zero =>
     have h1:=hob _ (U' ..);simp only[Ob.ok,List.isEmpty_iff]at h1;exact⟨h1,ih ⟨K,f,L⟩ j h g w (λx hx=>hob x (P' _ hx)) hK hC hN hj hk⟩
    | succ u =>
     simp only at hob hk;generalize hi:h.headD 0/2=i at *;cases ho:ops[i]? with
     | none=>rw[ho]at hob;exact absurd (hob _ (U' ..)) (by simp[Ob.ok])
     | some o =>
      simp only[ho]at hob hk;have hQ:∀ c a d v w,Kq P (bodyPost P fn R) K (.panic c) (a.put (some d) v) w->Kq P (bodyPost P fn R) K (.panic c) a w:=λc a d v w=>Kq.panic K c a (some d) v w;cases hm:Nat.beq (h.headD 0%2) 0 with
      | true =>
       simp only[hm,cond_true]at hob hk;have h1:=hob _ (U' ..);have h2:=hob _ (P' _ (U' ..));have h3:∀ x∈(exQ P ops o f L0 h.tail).2.2,x.ok:=λx hx=>hob x (P' _ (P' _ (jl _ hx)));have h4:=λx hx=>hob x (P' _ (P' _ (jx _ hx)));simp only[Ob.ok,iZ]at h1 h2;obtain⟨⟨h1,h1d⟩,h1e⟩:=h1;have hS:Sx [(e,AP L0)] Ld w:=Vk (ops:=ops) hK.rows h2;have hrest:=ih ⟨.x ops u (Ld.setIfInBounds i true) e L0::K,f.put o.dst (exQ P ops o f L0 h.tail).1,L⟩ j _ g w h4 hK hC hN hj hk;simp only[Fm.act_put]at hrest;cases hdd:o.dst with
       | none=>rw[hdd]at h1d;cases h1d
       | some d =>
        rw[hdd]at hrest
        unfold tkB at h1;simp only[iZ]at h1;obtain⟨ns,⟨⟨⟨⟨t1,t2⟩,t3⟩,t4⟩,t5⟩⟩:=h1;cases hld:ZV o.op&&f.wants ops o with
        | false =>
         rw[hld,cond_false]at t5
         refine xB0 u [i] [(d,(exQ P ops o f L0 h.tail).1)] (λW=>?_) ns ?_ rfl rfl hQ hS hrest
         .have hg:=NU (h:=h.tail) ho h3 W (.inr hld);rw[hdd]at hg
          simp only[Rq,wants,ji,jX,hg]
         .simp only[LH,ji,jX,ku,mA,mg,iZ];exact⟨⟨⟨⟨t1,t2⟩,t3⟩,t4⟩,t5⟩
        | true =>
         rw[hld,cond_true]at t5
         rw[hld]at h1e
         have hef:Ld.getD e false=false:=by simpa using h1e
         refine xC0 u i d (Ww ops i) (exQ P ops o f L0 h.tail).1 (λW hW=>?_) (hS.1 hef) ns ?_ rfl hQ hS hrest
         .have hg:=NU (h:=h.tail) ho h3 W (.inl hW);rw[hdd]at hg
          exact hg
         .simp only[ji,jX,ku,mA,mg,iZ]at t5 ⊢;exact⟨⟨⟨⟨t1,t2⟩,t3⟩,t4⟩,t5⟩
      | false =>
       simp only[hm,cond_false]at hob hk;have h1:=hob _ (U' ..);have h2:=hob _ (P' _ (U' ..));have h3:=λx hx=>hob x (P' _ (P' _ (jl _ hx)));have h4:=λx hx=>hob x (P' _ (P' _ (jx _ hx)));simp only[Ob.ok]at h1 h2;have hr:Region.ready .any ops Ld=[i]:=by
        split at h1
        .rename_i k hk;rw[hk,ja h1]
        .cases h1
       refine xS0 u i hr rfl ?_;refine Rg (h:=h.tail) (j:=j) (gs:=gs) ho h3 hK hC hN hj λg' w' hK' hC' hN' hj'=>?_;exact⟨Vk (ops:=ops) hK'.rows h2,ih ⟨.x ops u (Ld.setIfInBounds i true) e L0::K,_,_⟩ _ _ g' w' h4 hK' hC' hN' hj' hk⟩
end
end
section
variable{P:Program}{fn:Func}{R:Ending->World->Prop}{B:Nat}{T:List Tg}{g:Gh}{w:World}
section
variable{C:Ending->World->Prop}{L:List Sh}{T':List Tg}{args:Array Value}{f:FuncId}{g' g'':Gh}{i':Nat}{s:Xs}{w' w'':World}
theorem Kn.clr(h:Kn B g w L):Kn B g w (B0 L):=by
 refine⟨λx hx=>?_,?_,h.new,h.base⟩
 .obtain⟨y,hy,rfl⟩:=ju.1 hx;exact h.row y hy
 .unfold B0;rw[List.pairwise_map];exact h.nod.imp λhh he=>⟨⟨(hh he).1.1,rfl⟩,(hh he).2.1,rfl⟩
def rn0(P:Program)(T:List Tg)(gs:Nat->Nat)(m:Nat)(s:Xs)(h:List Nat):Rz:=rn P T gs m ⟨s.K,s.f,B0 s.L⟩ 0 h
theorem ZK(T':List Tg)(m:Nat)(h:List Nat)(hob:∀ gs,(rn0 P T' gs m s h).o.map Ob.l'=(rn0 P T' gs m s h).o.map Ob.r')(hk:∀ gs g' w',Cg B T' g w g' w'->GG P fn R B T (rn0 P T' gs m s h).s g' w'):GG P fn R B T s g w:=by
 refine⟨λhK=>?_⟩;refine gH (λk=>w.heap.size+k) m ⟨s.K,s.f,B0 s.L⟩ 0 h g w (Ob.all (hob _)) hK.clr (Cg.refl B T' g w) ?_ (λk=>by simp) λg' w' hK' hC'=>(hk _ g' w' hC').ex hK';intro x hx hxw;obtain⟨y,hy,rfl⟩:=ju.1 hx;cases hxw
theorem Ag(h:Kn B g w s.L->GG P fn R B T s g w):GG P fn R B T s g w:=⟨λhK=>(h hK).ex hK⟩
def opN(s:Xs)(i':Nat):Option (Array Oper × Nat × Oper):=match s.K with
 | .o ops (i::_)::_=>match ops[i]? with|some o=>some (ops,i,o)|none=>none
 | .x ops _ _ _ _::_=>match ops[i']? with|some o=>some (ops,i',o)|none=>none
 | .y ops _ _ _ _ i::_=>match ops[i]? with|some o=>some (ops,i,o)|none=>none
 | _=>none
def nxt(s:Xs)(i':Nat)(v:Value)(L:List Sh):Rz:=match s.K with
 | .o ops (i::is)::K=>match ops[i]? with|some o=>⟨⟨.o ops is::K,s.f.put o.dst v,L⟩,[.b (s.f.wants ops o)]⟩|none=>⟨s,[.b false]⟩
 | .x ops (u+1) Ld e L0::K=>match ops[i']? with
  | some o =>
   let Ld':=Ld.setIfInBounds i' true
   ⟨⟨.x ops u Ld' e L0::K,s.f.put o.dst v,L⟩,[.b (s.f.wants ops o),.b (match Region.ready .any ops Ld with|[k]=>Nat.beq k i'|_=>false),.l (cond (Ld'.getD e false) [] L0) (cond (Ld'.getD e false) [] (B0 (L.take L0.length)))]⟩
  | none=>⟨s,[.b false]⟩
 | .y ops u Ld e L0 i::K=>match ops[i]? with
  | some o =>
   let Ld':=Ld.setIfInBounds i true
   ⟨⟨.x ops u Ld' e L0::K,s.f.put o.dst v,L⟩,[.b (s.f.wants ops o),.l (cond (Ld'.getD e false) [] L0) (cond (Ld'.getD e false) [] (B0 (L.take L0.length)))]⟩
  | none=>⟨s,[.b false]⟩
 | _=>⟨s,[.b false]⟩
theorem RI{ops:Array Oper}{i:Nat}{o:Oper}(hop:opN s i'=some (ops,i,o))(L:List Sh)(hob:(nxt s i' undef L).o.map Ob.l'=(nxt s i' undef L).o.map Ob.r')(h:∀ (Q:Exit->Act->World->Prop) (K:Act->World->Prop),ops[i]?=some o->Region.wanted o (yielded ops s.f.act.tmps)=true->(∀ v g' w',Kn B g' w' L->GG P fn R B T (nxt s i' v L).s g' w'->K (s.f.act.put o.dst v) w')->wpOp P ops Q i K s.f.act w):GG P fn R B T s g w:=by
 refine⟨λhK=>?_⟩;obtain⟨K,f,L1⟩:=s;have hall:=Ob.all hob;unfold opN at hop;unfold nxt at hall h;cases K with
 | nil=>cases hop
 | cons t K =>
  cases t with
  | o ops1 is =>
   cases is with
   | nil=>cases hop
   | cons i1 is =>
    simp only at hop hall h;cases ho:ops1[i1]? with
    | none=>rw[ho]at hop;cases hop
    | some o1 =>
     rw[ho]at hop
     simp only[X',jE]at hop;obtain⟨rfl,rfl,rfl⟩:=hop;simp only[ho]at hall;have hw:=hall _ (U' ..);show wpOps P ops1 (Kq P (bodyPost P fn R) K) (i1::is) f.act w;rw[wpOps_cons];refine h _ _ ho (by rw[f.wanted];exact hw) λv g' w' hK' hG=>?_;simp only[ho]at hG;have:=hG.ex hK';rw[Fm.act_put]at this
     exact this
  | y ops1 u Ld e L0 i1 =>
   simp only at hop hall h;cases ho:ops1[i1]? with
   | none=>rw[ho]at hop;cases hop
   | some o1 =>
    rw[ho]at hop
    simp only[X',jE]at hop;obtain⟨rfl,rfl,rfl⟩:=hop;simp only[ho]at hall;have hw:=hall _ (U' ..);have h2:=hall _ (P' _ (U' ..));simp only[Ob.ok]at hw h2;show wpOp P ops1 (Kq P (bodyPost P fn R) K) i1 (λa w=>Sx [(e,AP L0)] (Ld.setIfInBounds i1 true) w/\Bp P .any ops1 (Kq P (bodyPost P fn R) K) [(e,AP L0)] u (Ld.setIfInBounds i1 true) a w) f.act w;refine h _ _ ho (by rw[f.wanted];exact hw) λv g' w' hK' hG=>?_;simp only[ho]at hG;have:=hG.ex hK';rw[Fm.act_put]at this
    exact⟨Vk (ops:=ops1) hK'.rows h2,this⟩
  | x ops1 u Ld e L0 =>
   cases u with
   | zero=>exact absurd (hall _ (U' ..)) (by simp[Ob.ok])
   | succ u =>
    simp only at hop hall h;cases ho:ops1[i']? with
    | none=>rw[ho]at hop;cases hop
    | some o1 =>
     rw[ho]at hop
     simp only[X',jE]at hop;obtain⟨rfl,rfl,rfl⟩:=hop;simp only[ho]at hall;have hw:=hall _ (U' ..);have h1:=hall _ (P' _ (U' ..));have h2:=hall _ (P' _ (P' _ (U' ..)));simp only[Ob.ok]at hw h1 h2;have hr:Region.ready .any ops1 Ld=[i']:=by
      split at h1
      .rename_i k hk;rw[hk,ja h1]
      .cases h1
     refine xS0 u i' hr rfl ?_;refine h _ _ ho (by rw[f.wanted];exact hw) λv g' w' hK' hG=>?_;simp only[ho]at hG;have:=hG.ex hK';rw[Fm.act_put]at this
     exact⟨Vk (ops:=ops1) hK'.rows h2,this⟩
  | _=>cases hop
def Tg.ne:Tg->Tg->Bool
 | .z,.z=>false
 | .l,.l=>false
 | .n r _,.n r' _=>!Nat.beq r r'
 | _,_=>true
theorem Tg.ne_ne{a b:Tg}(h:a.ne b=true):a≠b:=by
 rintro rfl;cases a with
 | z=>cases h
 | l=>cases h
 | n r i=>simp[Tg.ne,Nat.beq_refl]at h
def AF:List Bool->List Sh->List Sh
 | true::m,x::L=>x::AF m L
 | false::m,_::L=>AF m L
 | _,_=>[]
theorem Db:∀ (m:List Bool) (L:List Sh),(AF m L).Sublist L
 | true::m,x::L=>(Db m L).cons_cons x
 | false::m,x::L=>(Db m L).cons x
 | [],L=>by unfold AF;exact mm _
 | true::m,[]=>mm _
 | false::m,[]=>mm _
theorem Cg.n(h:Cg B T g w g' w')(k:Cg B [] g' w' g'' w''):Cg B T g w g'' w'':=h.trans (k.mono λ_ h=>absurd h M')
theorem Cg.m(h:Cg B T g w g' w')(k:Cg B T' g' w' g'' w'')(hT:∀ t∈T',t∈T:=by simp):Cg B T g w g'' w'':=h.trans (k.mono hT)
theorem Cg.nil(h:Cg B [] g w g' w')(T:List Tg):Cg B T g w g' w':=h.mono λ_ h=>absurd h M'
theorem Kn.sub{L':List Sh}(h:Kn B g w L)(hs:L'.Sublist L):Kn B g w L':=⟨λx hx=>h.row x (hs.subset hx),h.nod.sublist hs,h.new,h.base⟩
theorem Kn.ch(h:Kn B g w L)(c:Cg w.heap.size T' g w g' w')(hn:∀ b,w'.heap.size<=b->g'.t b=.z/\g'.k b=0)(hT:L.all (λx=>T'.all λt=>x.t.ne t)=true):Kn B g' w' L:=by
 refine⟨λx hx=>?_,h.nod,hn,iP h.base c.size⟩;have h1:=h.row x hx;have hlt:=rl h1.1;have hnot:g.t x.g∉T':=by
  rw[h1.2.1];intro hm;have h2:=jS.1 (jS.1 hT x hx) _ hm;exact Tg.ne_ne h2 rfl
 exact⟨(c.same _ hlt hnot (λ_=>hlt)).trans h1.1,(c.tag hlt (λ_=>hlt)).trans h1.2.1,h1.2.2.1,λhz=>(c.kat _ hlt hnot (λ_=>hlt)).trans (h1.2.2.2 hz)⟩
theorem Kn.below(h:Kn B g w L)(b:Below w.heap.size w w'):Kn B g w' L :=
 ⟨λx hx=>⟨rB b (h.row x hx).1,(h.row x hx).2⟩,h.nod,λc hc=>h.new c (iP b.size hc),iP h.base b.size⟩
def CW(P:Program)(s:Xs)(i':Nat)(W:World):Option (Result Next):=(opN s i').map λx=>(execOp s.f.ev x.2.2).run P W
theorem OO{r:World->Result Next}(h:∀ W,CW P s i' W=some (r W)):∃ ops i o,opN s i'=some (ops,i,o)/\∀ W,(execOp s.f.ev o).run P W=r W:=by
 unfold CW at h;cases hx:opN s i' with
 | none=>have:=h default;rw[hx]at this;cases this
 | some x =>
  obtain⟨ops,i,o⟩:=x;exact⟨ops,i,o,rfl,λW=>by have:=h W;rw[hx]at this;simpa using this⟩
def Mf(s:Xs)(i':Nat):Bool:=match opN s i' with|some x=>x.2.2.dst.isSome|none=>false
theorem dM(i':Nat)(f:FuncId)(args:Array Value)(hr:∀ W,CW P s i' W=some (.ok (.enter f args) W))(hd:Mf s i'=true)(hob:(nxt s i' undef s.L).o.map Ob.l'=(nxt s i' undef s.L).o.map Ob.r')(hc:Calls P f args w C)(hk:∀ e w',C e w'->∃ v,e=.returned v/\Below w.heap.size w w'/\GG P fn R B T (nxt s i' v s.L).s g w'):GG P fn R B T s g w:=by
 obtain⟨ops,i,o,hop,hrun⟩:=OO hr;refine Ag λhK=>RI hop s.L hob λQ K ho hw h=>?_;unfold Mf at hd;rw[hop]at hd
 cases hdd:o.dst with
 | none=>simp only[hdd]at hd;cases hd
 | some d =>
  refine GR ho hw hdd (by rw[s.f.eval];exact hrun w) (hc.mono λe w' he=>?_);obtain⟨v,hv,hb,hG⟩:=hk e w' he;refine⟨v,hv,?_⟩;have:=h v g w' (hK.below hb) hG;rw[hdd]at this
  exact this
theorem Rm(i':Nat)(f:FuncId)(args:Array Value)(T':List Tg)(m:List Bool)(hr:∀ W,CW P s i' W=some (.ok (.enter f args) W))(hd:Mf s i'=true)(hob:(nxt s i' undef (AF m s.L)).o.map Ob.l'=(nxt s i' undef (AF m s.L)).o.map Ob.r')(hT:(AF m s.L).all (λx=>T'.all λt=>x.t.ne t)=true)(hc:Calls P f args w C)(hk:∀ e w',C e w'->∃ v g',e=.returned v/\Cg w.heap.size T' g w g' w'/\(∀ b,w'.heap.size<=b->g'.t b=.z/\g'.k b=0)/\GG P fn R B T (nxt s i' v (AF m s.L)).s g' w'):GG P fn R B T s g w:=by
 obtain⟨ops,i,o,hop,hrun⟩:=OO hr;refine Ag λhK=>RI hop (AF m s.L) hob λQ K ho hw h=>?_;unfold Mf at hd;rw[hop]at hd
 cases hdd:o.dst with
 | none=>simp only[hdd]at hd;cases hd
 | some d =>
  refine GR ho hw hdd (by rw[s.f.eval];exact hrun w) (hc.mono λe w' he=>?_);obtain⟨v,g',hv,hch,hn,hG⟩:=hk e w' he;refine⟨v,hv,?_⟩;have:=h v g' w' ((hK.sub (Db m s.L)).ch hch hn hT) hG;rw[hdd]at this
  exact this
theorem KO(i':Nat)(L:List Sh)(hob:(nxt s i' undef L).o.map Ob.l'=(nxt s i' undef L).o.map Ob.r')(hs:(opN s i').isSome=true)(h:Kn B g w s.L->∀ ops i o,opN s i'=some (ops,i,o)->∃ v w' g',((execOp s.f.ev o).run P w=.ok (.value v) w'\/((execOp s.f.ev o).run P w=.ok .skip w'/\v=undef))/\Kn B g' w' L/\GG P fn R B T (nxt s i' v L).s g' w'):GG P fn R B T s g w:=by
 cases hop:opN s i' with
 | none=>rw[hop]at hs;cases hs
 | some x =>
  obtain⟨ops,i,o⟩:=x;refine Ag λhK=>RI hop L hob λQ K ho hw h'=>?_;obtain⟨v,w',g',hrun,hK',hG⟩:=h hK ops i o hop;have hfin:=h' v g' w' hK' hG;unfold wpOp;rw[ho];simp only[hw,if_true];refine .inl ?_;unfold Oper.wp;rw[s.f.eval];rcases hrun with hrun|⟨hrun,rfl⟩
  .rw[hrun,Oper.upon_value];exact hfin
  .rw[hrun,Oper.upon_skip];exact hfin
theorem gFm(e:List (Nat × Value))(he:e.map (λp=>lk s.f.z s.f.e p.1)=e.map (·.2))(h:∀ z,GG P fn R B T ⟨s.K,⟨s.f.n,e,z⟩,s.L⟩ g w):GG P fn R B T s g w:=by
 refine⟨λhK=>?_⟩;have h1:=(h (lk s.f.z s.f.e)).ex hK;have h2:(⟨s.f.n,e,lk s.f.z s.f.e⟩:Fm).act=s.f.act:=by
  unfold Fm.act;simp only[Act.mk.injEq,and_true]
  congr 1
  refine lW λt _=>?_;clear h h1;induction e with
  | nil=>rfl
  | cons p r ih =>
   simp only[ji,kL]at he;show cond (Nat.beq p.1 t) p.2 (lk (lk s.f.z s.f.e) r t)=lk s.f.z s.f.e t;cases hb:Nat.beq p.1 t with
   | true=>rw[cond_true,<- he.1,ja hb]
   | false=>rw[cond_false];exact ih he.2
 simp only at h1;rw[h2]at h1
 exact h1
theorem Hs(m:List Bool)(h:GG P fn R B T ⟨s.K,s.f,AF m s.L⟩ g w):GG P fn R B T s g w:=⟨λhK=>h.ex (hK.sub (Db m s.L))⟩
theorem BW(x:Sh)(hx:Kn B g w s.L->w.heap[x.g]?=some x.o/\g.t x.g=x.t/\(x.t=.l->B<=x.g)/\(x.t≠.z->g.k x.g=0))(hT:(!x.w&&(x.t.isZ||s.L.all (λy=>x.t.ne y.t)))=true)(h:GG P fn R B T ⟨s.K,s.f,B0 s.L++[x]⟩ g w):GG P fn R B T s g w:=by
 refine⟨λhK=>h.ex ⟨λy hy=>?_,?_,hK.new,hK.base⟩⟩
 .rcases V'.1 hy with h1|h1
  .exact hK.clr.row y h1
  .rw[O'.1 h1];exact hx hK
 .show(B0 s.L++[x]).Pairwise _;simp only[iZ,lG,kK]at hT;rw[km];refine⟨hK.clr.nod,lC _ _,λa ha c hc he=>?_⟩;rw[O'.1 hc]at he ⊢
  obtain⟨y,hy,rfl⟩:=ju.1 ha;have h2:=(hK.row y hy).2.1;have h3:=(hx hK).2.1;simp only at he ⊢;rw[he,h3]at h2
  rcases hT.2 with hz|hn
  .have:x.t=.z:=by cases hh:x.t with|z=>rfl|l=>rw[hh]at hz;cases hz|n r i=>rw[hh]at hz;cases hz
   exact⟨⟨h2▸this,trivial⟩,this,hT.1⟩
  .exact absurd h2 (Tg.ne_ne (jS.1 hn y hy))
theorem Kq.ret{R':Exit->Act->World->Prop}:∀ (K:List Kt) (a:Act) (w:World),R' .ret a w->Kq P R' K .ret a w
 | [],a,w,h=>h
 | .c x::K,a,w,h=>Kq.ret K a w h
 | .b id::K,a,w,h=>Kq.ret K a w h
 | .o ops is::K,a,w,h=>Kq.ret K a w h
 | .x ops m Ld s L0::K,a,w,h=>Kq.ret K a w h
 | .y ops m Ld s L0 i::K,a,w,h=>Kq.ret K a w h
 | .j J::K,a,w,h=>Kq.ret K a w h
def Mg:List Kt->Bool|[]=>true|.c .ret::_=>true|_=>false
theorem Ul(v:Value)(hs:Mg s.K=true)(hr:Kn B g w s.L->(results fn s.f.act.tmps).run P w=.ok v w)(h:Kn B g w s.L->R (.returned v) w):GG P fn R B T s g w:=by
 refine⟨λhK=>?_⟩;obtain⟨K,f,L⟩:=s;cases K with
 | nil=>exact⟨rfl,v,hr hK,h hK⟩
 | cons t K =>
  cases t with
  | c x =>
   cases x with
   | ret=>exact wp_ret (Kq.ret K _ _ ⟨rfl,v,hr hK,h hK⟩)
   | _=>cases hs
  | _=>cases hs
def NH:Nat->List Value->List (Nat × Value)
 | _,[]=>[]
 | i,v::r=>(i,v)::NH (i+1) r
theorem Tc:∀ (l:List Value) (i t:Nat),lk (λ_=>undef) (NH i l) t=if i<=t then l.getD (t-i) undef else undef
 | [],i,t=>by simp[NH,lk]
 | v::r,i,t=>by
  unfold NH lk;cases hb:Nat.beq i t with
  | true=>obtain rfl:=ja hb;simp
  | false =>
   have hne:i≠t:=λhe=>by rw[he,mz]at hb;cases hb
   rw[cond_false,Tc r (i+1) t];by_cases h:i<=t
   .rw[if_pos h,if_pos (by omega),show t-i=(t-(i+1))+1 by omega];simp
   .rw[if_neg h,if_neg (by omega)]
theorem ir{n:Nat}(hn:args.size<=n):(⟨n,NH 0 args.toList,λ_=>undef⟩:Fm).act={ tmps:=args++Array.replicate (n-args.size) undef,defers:=[] }:=by
 unfold Fm.act;simp only[Act.mk.injEq,and_true];apply kD;intro i;simp only[jF,jh,Array.getElem?_append,Array.getElem?_replicate];by_cases hi:i<n
 .rw[j8 hi];simp only[jC,Tc,jf,if_true,Nat.sub_zero];by_cases ha:i<args.size
  .rw[if_pos ha,jd];simp[ha]
  .rw[if_neg ha,if_pos (by omega),jd];simp[ha]
 .rw[j3 (by simpa using hi),if_neg (by omega),if_neg (by omega)];rfl
def OK(fn:Func):Code:=match fn.body with|some c=>c|none=>.skip
theorem gIn(T:List Tg)(g:Gh)(hf:P.funcs[f]?=some fn)(hb:fn.body.isSome=true)(hn:Nat.ble args.size fn.ntmps=true)(hg:∀ b,w.heap.size<=b->g.t b=.z/\g.k b=0)(h:GG P fn R w.heap.size T ⟨[.c (OK fn)],⟨fn.ntmps,NH 0 args.toList,λ_=>undef⟩,[]⟩ g w):Calls P f args w R:=by
 cases hh:fn.body with
 | none=>rw[hh]at hb;cases hb
 | some c =>
  refine calls_of_wp hf hh ?_;have h1:=h.ex ⟨(λx hx=>absurd hx M'),List.Pairwise.nil,hg,A' _⟩;simp only[ir (by rw[lF]at hn;exact hn)]at h1;unfold OK at h1;rw[hh]at h1
  exact h1
theorem gI(T:List Tg)(g:Gh)(hf:P.funcs[f]?=some fn)(hg:∀ b,w.heap.size<=b->g.t b=.z/\g.k b=0)(h:GG P fn R w.heap.size T ⟨[.c (OK fn)],⟨fn.ntmps,NH 0 args.toList,λ_=>undef⟩,[]⟩ g w)(hb:fn.body.isSome=true:=by kernel_rfl)(hn:Nat.ble args.size fn.ntmps=true:=by kernel_rfl):Calls P f args w R:=gIn T g hf hb hn hg h
end
end
section
variable{P:Program}{fn:Func}{R:Ending->World->Prop}{B:Nat}{T:List Tg}{g:Gh}{w:World}
section
variable{s:Xs}
theorem Hr(b:Nat)(o:Obj)(r i:Nat)(h1:w.heap[b]?=some o)(h2:g.t b=.n r i)(h3:g.k b=0)(hT:s.L.all (λy=>(Tg.n r i).ne y.t)=true)(h:GG P fn R B T ⟨s.K,s.f,B0 s.L++[⟨b,o,.n r i,false⟩]⟩ g w):GG P fn R B T s g w :=
 BW ⟨b,o,.n r i,false⟩ (λ_=>⟨h1,h2,λh=>(by cases h),λ_=>h3⟩) (by show(true&&(false||_))=true;rw[lx,Bool.true_and];exact hT) h
theorem ZL(i':Nat)(v:Value)(h:Kn B g w s.L->CW P s i' w=some (.ok (.value v) w))(hob:(nxt s i' undef s.L).o.map Ob.l'=(nxt s i' undef s.L).o.map Ob.r')(hk:GG P fn R B T (nxt s i' v s.L).s g w):GG P fn R B T s g w:=by
 refine Ag λhK=>?_;have h1:=h hK;unfold CW at h1;refine KO i' s.L hob ?_ λ_ ops i o hop=>?_
 .cases hx:opN s i' with
  | none=>rw[hx]at h1;cases h1
  | some x=>rfl
 .rw[hop]at h1
  exact⟨v,w,g,.inl (by simpa using h1),hK,hk⟩
def tkN(s:Xs)(i':Nat)(v:Value)(ld:Bool):Rz:=match s.K with
 | .x ops (u+1) Ld e L0::K=>match ops[i']? with
  | some o=>⟨⟨.x ops u (Ld.setIfInBounds i' true) e L0::K,s.f.put o.dst v,s.L⟩,[.b (s.f.wants ops o),.b (tkB ops Ld e i' ld&&o.dst.isSome&&(!ld||!Ld.getD e false)),.l (cond (Ld.getD e false) [] L0) (cond (Ld.getD e false) [] (B0 (s.L.take L0.length)))]⟩
  | none=>⟨s,[.b false]⟩
 | _=>⟨s,[.b false]⟩
def Yj(s:Xs):List Sh:=match s.K with|.x _ _ _ _ L0::_=>L0|_=>[]
theorem Pq(i':Nat)(v:Value)(ld:Bool)(h:∀ W,(ld=true->AP (Yj s) W)->CW P s i' W=some (.ok (.value v) W))(hob:(tkN s i' undef ld).o.map Ob.l'=(tkN s i' undef ld).o.map Ob.r')(hk:GG P fn R B T (tkN s i' v ld).s g w):GG P fn R B T s g w:=by
 refine⟨λhK=>?_⟩;obtain⟨K,f,L⟩:=s;have hall:=Ob.all hob;have hk':=hk.ex;unfold tkN at hall hk';unfold CW opN Yj at h;cases K with
 | nil=>exact absurd (hall _ (U' ..)) (by simp[Ob.ok])
 | cons t K =>
  cases t with
  | x ops u Ld e L0 =>
   cases u with
   | zero=>exact absurd (hall _ (U' ..)) (by simp[Ob.ok])
   | succ u =>
    simp only at hall hk' h;cases ho:ops[i']? with
    | none=>rw[ho]at hall;exact absurd (hall _ (U' ..)) (by simp[Ob.ok])
    | some o =>
     simp only[ho,jC,X']at hall hk' h;have hw:=hall _ (U' ..);have h1:=hall _ (P' _ (U' ..));have h2:=hall _ (P' _ (P' _ (U' ..)));simp only[Ob.ok,iZ]at hw h1 h2;obtain⟨⟨h1,h1d⟩,h1e⟩:=h1;have hw':Region.wanted o (yielded ops f.act.tmps)=true:=by rw[f.wanted];exact hw
     have hS:Sx [(e,AP L0)] Ld w:=Vk (ops:=ops) hK.rows h2;have hrest:=hk' hK;simp only[Fm.act_put]at hrest;have hQ:∀ c a d v w,Kq P (bodyPost P fn R) K (.panic c) (a.put (some d) v) w->Kq P (bodyPost P fn R) K (.panic c) a w:=λc a d v w=>Kq.panic K c a (some d) v w;cases hdd:o.dst with
     | none=>rw[hdd]at h1d;cases h1d
     | some d =>
      rw[hdd]at hrest
      unfold tkB at h1;simp only[iZ]at h1;obtain⟨ns,⟨⟨⟨⟨t1,t2⟩,t3⟩,t4⟩,t5⟩⟩:=h1;have hgot:∀ W,(ld=true->AP L0 W)->got P ops f.act W i'=some (some d,v,W):=λW hW=>by
       unfold got;simp only[ho,hw',if_true,f.eval,h W hW,hdd]
      cases ld with
      | false =>
       rw[cond_false]at t5
       refine xB0 u [i'] [(d,v)] (λW=>?_) ns ?_ rfl rfl hQ hS hrest
       .simp only[Rq,wants,ji,jX,hgot W (λh=>by cases h)]
       .simp only[LH,ji,jX,ku,mA,mg,iZ];exact⟨⟨⟨⟨t1,t2⟩,t3⟩,t4⟩,t5⟩
      | true =>
       rw[cond_true]at t5
       have hef:Ld.getD e false=false:=by simpa using h1e
       refine xC0 u i' d (Ww ops i') v (λW hW=>hgot W (λ_=>hW)) (hS.1 hef) ns ?_ rfl hQ hS hrest;simp only[ji,jX,ku,mA,mg,iZ]at t5 ⊢;exact⟨⟨⟨⟨t1,t2⟩,t3⟩,t4⟩,t5⟩
  | _=>exact absurd (hall _ (U' ..)) (by simp[Ob.ok])
def OZ(s:Xs):Value:=match s.K with|.c (.cond c _ _)::_=>s.f.ev c|_=>undef
def K9(s:Xs)(t:Bool):Xs:=match s.K with|.c (.cond _ x y)::K=>⟨.c (cond t x y)::K,s.f,s.L⟩|_=>s
theorem gIf(b t:Bool)(hb:b=t)(hc:OZ s=.bool b)(h:GG P fn R B T (K9 s t) g w):GG P fn R B T s g w:=by
 subst hb;refine⟨λhK=>?_⟩;obtain⟨K,f,L⟩:=s;unfold OZ at hc;have h':=h.ex;unfold K9 at h';cases K with
 | nil=>cases hc
 | cons t K =>
  cases t with
  | c x =>
   cases x with
   | cond c x y =>
    simp only at hc h';have h1:=h' hK;refine wp_cond (t:=b) (by rw[f.eval];exact hc) ?_;cases b<;>exact h1
   | _=>cases hc
  | _=>cases hc
theorem Xr{p:Nat->Prop}:∀ k,p k->∃ m,p m/\∀ j,p j->m<=j:=by
 intro k;induction k using Nat.strongRecOn with
 | _ k ih =>
  intro hk;by_cases h:∃ j,j<k/\p j
  .obtain⟨j,hj,hp⟩:=h;exact ih j hj hp
  .exact⟨k,hk,λj hj=>mo λhl=>h ⟨j,hl,hj⟩⟩
theorem ga{c:Code}{Q:Exit->Act->World->Prop}(Inv:Nat->Act->World->Prop)(round:∀ k a w,Inv k a w->c.wp P (Exit.then (λa' w'=>∃ k',k'<k/\Inv k' a' w') Q) a w)(k:Nat)(a:Act)(w:World)(h:Inv k a w):(Code.loop c).wp P Q a w:=by
 classical
 have hl:∀ a w,(∃ k,Inv k a w)->∃ m,Inv m a w/\∀ j,Inv j a w->m<=j:=λa w ⟨k,hk⟩=>Xr k hk
 let μ:Act->World->Nat:=λa w=>if h:∃ k,Inv k a w then Classical.choose (hl a w h)else 0
 refine wp_loop (λa w=>∃ k,Inv k a w) μ ⟨k,h⟩ λa w hI=>?_;have hμ:μ a w=Classical.choose (hl a w hI):=dif_pos hI;refine wp_mono (round _ a w (Classical.choose_spec (hl a w hI)).1) λe a' w' hq=>?_;cases e with
 | normal =>
  obtain⟨k',hlt,hk'⟩:=hq;refine⟨⟨k',hk'⟩,?_⟩;have hI':∃ k,Inv k a' w':=⟨k',hk'⟩;have hμ':μ a' w'=Classical.choose (hl a' w' hI'):=dif_pos hI';show μ a' w'<μ a w;rw[hμ,hμ'];exact l7 ((Classical.choose_spec (hl a' w' hI')).2 k' hk') hlt
 | _=>exact hq
theorem fS{K:List Kt}{body:Code}{n:Nat}(Inv:Nat->Gh->World->List (Nat × Value)->List Sh->Prop)(round:∀ k g w e z L,Inv k g w e L->∀ J:Act->World->Prop,(∀ k' g' w' e' z' L',k'<k->Inv k' g' w' e' L'->Kn B g' w' L'->J (⟨n,e',z'⟩:Fm).act w')->GG P fn R B T ⟨.c body::.j J::K,⟨n,e,z⟩,L⟩ g w){k:Nat}{e:List (Nat × Value)}{z:Nat->Value}{L:List Sh}(h:Inv k g w e L):GG P fn R B T ⟨.c (.loop body)::K,⟨n,e,z⟩,L⟩ g w:=by
 refine⟨λhK=>?_⟩;refine ga (λk a w=>∃ g e z L,Inv k g w e L/\Kn B g w L/\a=(⟨n,e,z⟩:Fm).act) (λk a w hI=>?_) k _ w ⟨g,e,z,L,h,hK,rfl⟩;obtain⟨g,e,z,L,hI,hK,rfl⟩:=hI;exact(round k g w e z L hI (λa' w'=>∃ k',k'<k/\∃ g e z L,Inv k' g w' e L/\Kn B g w' L/\a'=(⟨n,e,z⟩:Fm).act) (λk' g' w' e' z' L' hlt hI' hK'=>⟨k',hlt,g',e',z',L',hI',hK',rfl⟩)).ex hK
end
end
section
structure S3 where
 a:Option Addr
 n:Nat
 c:Nat
abbrev S3.v(x:S3):Value:=.slice x.a x.n x.c
def s30:S3:=⟨none,0,0⟩
def Iy(g:Gh)(w:World):Prop:=∀ b,w.heap.size<=b->g.t b=.z/\g.k b=0
structure OwnS(g:Gh)(w:World)(τ:Tg)(kp:Bool)(e:TypeId)(sz:Nat)(x:S3)(xs:List Value):Prop where
 len:xs.length=x.n*sz
 ex:(x.a=none/\x.n=0/\x.c=0)\/∃ b cur,x.a=some ⟨b,0,none⟩/\w.heap[b]?=some (.cells cur e (0,0))/\x.n<=x.c/\x.c<=maxLen/\cur.size=x.c*sz/\cur.toList.take (x.n*sz)=xs/\g.t b=τ/\g.k b=(if kp then xs.length else 0)
theorem OwnS.nil(g:Gh)(w:World)(τ:Tg)(kp:Bool)(e:TypeId)(sz:Nat):OwnS g w τ kp e sz s30 []:=⟨by simp[s30],.inl ⟨rfl,rfl,rfl⟩⟩
variable{e:TypeId}{g:Gh}{kp:Bool}{sz:Nat}{w:World}{x:S3}{xs:List Value}{τ:Tg}
theorem OwnS.ch{B:Nat}{T:List Tg}{g':Gh}{w':World}(h:OwnS g w τ kp e sz x xs)(c:Cg B T g w g' w')(hτ:τ∉T:=by simp)(hl:τ≠.l:=by simp):OwnS g' w' τ kp e sz x xs:=by
 refine⟨h.len,?_⟩;rcases h.ex with h1|⟨b,cur,h1,h2,h3,h4,h5,h6,h7,h8⟩
 .exact .inl h1
 .have hb:=rl h2;exact .inr ⟨b,cur,h1,(c.same b hb (by rw[h7];exact hτ) (by rw[h7];exact λh=>absurd h hl)).trans h2,h3,h4,h5,h6,(c.tag hb (by rw[h7];exact λh=>absurd h hl)).trans h7,by rw[c.kat b hb (by rw[h7];exact hτ) (by rw[h7];exact λh=>absurd h hl)];exact h8⟩
theorem OwnS.cell(h:OwnS g w τ kp e sz x xs){j:Nat}{u:Value}(hj:xs[j]?=some u):∃ b,x.a=some ⟨b,0,none⟩/\b<w.heap.size/\w.cell? ⟨b,j,none⟩=some u:=by
 have hlt:j<xs.length:=(Q'.1 hj).1;rcases h.ex with⟨h1,h2,h3⟩|⟨b,cur,h1,h2,h3,h4,h5,h6,h7,h8⟩
 .rw[h.len,h2]at hlt;omega
 .refine⟨b,h1,rl h2,?_⟩;rw[cell_of_row _ _ _ _ _ _ h2];rw[<- h6,jL]at hj
  split at hj
  .simpa using hj
  .cases hj
end
section
variable{P:Program}{B:Nat}{T:List Tg}{g:Gh}{w:World}
def NW(g:Gh)(w:World)(τ:Tg)(k:Nat):Gh:=⟨λb=>if b=w.heap.size then τ else g.t b,λb=>if b=w.heap.size then k else g.k b⟩
def fR(g:Gh)(b k:Nat):Gh:=⟨g.t,λc=>if c=b then k else g.k c⟩
theorem iq{τ:Tg}{kp:Bool}{x:S3}{xs:List Value}(t ty e:TypeId)(sz bytes:Nat)(z:Value)(ht:P.underlying t=some (.slice e))(hinfo:(P.info? e).map (λi=>(i.zero,i.size,i.bytes))=some (some z,sz,bytes))(hzs:z.cells.size=sz)(hsz:0<sz)
  (hτ:τ∈T)(hx:OwnS g w τ kp e sz x xs)(hg:Iy g w)(a:Addr)(m c:Nat)(news:List Value)(hm:0<m)(hl:news.length=m*sz)(hnews:∀ j u,news[j]?=some u->w.cell? (a.add j)=some u)(h1:∀ u∈news,u.oneCell'=true)
  (h63:x.n+m<=maxLen)(hbytes:(x.n+m)*bytes<=140737488355328) :
  ∃ x' w' g',(Builtin.append_ #[t,t] ty #[x.v,.slice (some a) m c]).run P w=.ok (S3.v x') w'/\OwnS g' w' τ kp e sz x' (xs++news)/\x'.n=x.n+m/\Cg B T g w g' w'/\Iy g' w':=by
 obtain⟨i,hi,hz,hs,hby⟩:∃ i,P.info? e=some i/\i.zero=some z/\i.size=sz/\i.bytes=bytes:=by
  cases hh:P.info? e with
  | none=>rw[hh]at hinfo;cases hinfo
  | some i=>rw[hh]at hinfo;simp only[jC,X',jE]at hinfo;exact⟨i,rfl,hinfo.1,hinfo.2.1,hinfo.2.2⟩
 subst hs;subst hby
 obtain⟨xa,xn,xc⟩:=x;have hlen:(xs++news).length=(xn+m)*i.size:=by rw[G',hx.len,hl,lH]
 have hmx:xn+m<=9223372036854775807:=by simp only[maxLen]at h63;show xn+m<=_;omega
 have grown:∀ old,old<xn+m->∃ x' g',S3.v x'=.slice (some ⟨w.heap.size,0,none⟩) (xn+m) (grownCap w (xn+m) old e)/\OwnS g' (w.drew.alloc (.cells (xs.toArray++news.toArray++Builtin.zeroCells z.cells (grownCap w (xn+m) old e-(xn+m))) e)) τ kp e i.size x' (xs++news)/\x'.n=xn+m /\
   Cg B T g w g' (w.drew.alloc (.cells (xs.toArray++news.toArray++Builtin.zeroCells z.cells (grownCap w (xn+m) old e-(xn+m))) e))/\Iy g' (w.drew.alloc (.cells (xs.toArray++news.toArray++Builtin.zeroCells z.cells (grownCap w (xn+m) old e-(xn+m))) e)):=by
  intro old ho;have hge:=grownCap_ge w (xn+m) old e;have hcm:grownCap w (xn+m) old e<=maxLen:=grownCap_le_maxLen w (xn+m) old e h63;refine⟨⟨some ⟨w.heap.size,0,none⟩,xn+m,grownCap w (xn+m) old e⟩,NW g w τ (if kp then(xs++news).length else 0),rfl,⟨hlen,.inr ⟨w.heap.size,_,rfl,heap_alloc_new w.drew _,hge,hcm,?_,?_,if_pos rfl,if_pos rfl⟩⟩,rfl,⟨rfl,rfl,rfl,by simp,λb hb=>.inl (if_neg (by omega)),λb hb=>?_,λb hb _ _=>if_neg (by omega),λb hb _ _=>heap_alloc_old w.drew _ hb,λb hb j hj=>World.cell?_of_block (w:=w) (heap_alloc_old w.drew _ hb)⟩,λb hb=>?_⟩
  .simp only[Array.size_append,ko,size_zeroCells,hzs,hx.len,hl,<- lH]
   congr 1
   omega
  .simp only[Array.toList_append,iR];rw[<- iR,<- hlen];exact l9
  .show _<=(if b=w.heap.size then _ else g.k b);rw[if_neg (by omega)];exact A' _
  .have hb':w.heap.size+1<=b:=by simpa using hb
   show(if b=w.heap.size then τ else g.t b)=.z/\(if b=w.heap.size then _ else g.k b)=0;rw[if_neg (by omega),if_neg (by omega)];exact hg b (by omega)
 rcases hx.ex with⟨h2,h3,h4⟩|⟨b,cur,h2,h3,h4,h5,h6,h7,h8,h9⟩
 .simp only at h2 h3 h4;subst h2 h3 h4;have hxs:xs=[]:=iN (by simpa using hx.len);subst hxs;have hr:=run_append_nil (P:=P) w t ty e i z ht hi hz a m c news hl hnews (by omega) (by omega) (by have hb:=hbytes;simp only[jm]at hb;omega);obtain⟨x',g',hv,hrest⟩:=grown 0 (by omega);simp only[jm,j5,Array.empty_append]at hv hrest ⊢;exact⟨x',_,g',by rw[hv];exact hr,hrest⟩
 .simp only at h2 h4 h5 h6 h7;subst h2;by_cases hroom:xn+m<=xc
  .have hfit:xn*i.size+news.length<=cur.size:=by rw[hl,h6,<- lH];exact kn _ hroom
   have hr:=run_append_room (P:=P) w t ty e i ht hi b xn xc cur h3 a m c news hl hnews h1 hroom hfit;refine⟨⟨some ⟨b,0,none⟩,xn+m,xc⟩,_,fR g b (if kp then(xs++news).length else 0),hr,⟨hlen,.inr ⟨b,_,rfl,setRow_heap w b cur _ e _ h3,hroom,h5,?_,?_,h8,if_pos rfl⟩⟩,rfl,⟨rfl,rfl,rfl,by simp,λ_ _=>.inl rfl,λd hd=>?_,λd hd hd1 _=>if_neg (λe=>hd1 (by rw[e,h8];exact hτ)),λd hd hd1 _=>setRow_other w b d _ (λe=>hd1 (by rw[e,h8];exact hτ)),λd hd j hj=>?_⟩,λd hd=>?_⟩
   .simp only[ko,G',iO,iQ,jW];omega
   .rw[h7,<- hlen];exact l9
   .show g.k d<=(if d=b then _ else g.k d);split
    .rename_i he;rw[he,h9];cases kp<;>simp
    .exact A' _
   .by_cases he:d=b
    .subst he;rw[h9]at hj
     cases kp with
     | false=>simp at hj
     | true =>
      simp only[if_true]at hj;rw[cell_of_row _ _ _ _ _ _ (setRow_heap w d cur _ e _ h3),cell_of_row _ _ _ _ _ _ h3];simp only[jF,h7];rw[iR,iT hj,<- h7,jL,if_pos (by have:=hx.len;simp only at this;omega)];simp
    .exact World.cell?_of_block (w:=w) (setRow_other w b d _ he)
   .have hd':w.heap.size<=d:=by simpa using hd
    show g.t d=.z/\(if d=b then _ else g.k d)=0;have:=rl h3;rw[if_neg (by omega)];exact hg d hd'
  .have holds:∀ j u,xs[j]?=some u->w.cell? ((⟨b,0,none⟩:Addr).add j)=some u:=λj u hj=>by
    obtain⟨b',hb',_,hc⟩:=hx.cell hj;simp only[X',Addr.mk.injEq,and_true]at hb';subst hb';have:(⟨b,0,none⟩:Addr).add j=⟨b,j,none⟩:=by unfold Addr.add;split<;>simp_all
    rw[this];exact hc
   have hr:=run_append_grow (P:=P) w t ty e i z ht hi hz ⟨b,0,none⟩ xn xc xs hx.len holds a m c news hl hnews (by omega) (by omega) (growslice_fits (by omega) hbytes);obtain⟨x',g',hv,hrest⟩:=grown xc (by omega);exact⟨x',_,g',by rw[hv];exact hr,hrest⟩
end
end Go.Proofs.YtalbmmghmoggcadGreatDoor
