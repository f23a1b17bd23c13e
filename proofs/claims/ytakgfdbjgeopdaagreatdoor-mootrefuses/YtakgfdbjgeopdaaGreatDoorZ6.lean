/- Part 6 of the walk: what the functions of the program do, one by one. -/
import Derived.Deep.RegionLaw
import Derived.Deep.RegionHeld3
import Derived.Laws.CopyRow
import Derived.Deep.Cut
import Derived.Test.YtakgfdbjgeopdaaGreatDoorZ5
set_option maxRecDepth 100000
set_option maxHeartbeats 4000000
open Go.Proofs.Tryz
set_option linter.unusedVariables false
namespace Go.Proofs.YtakgfdbjgeopdaaGreatDoor
open Go.RowKit
theorem TY:(prog.info? 4).map (·.size)=some 1:=by kernel_rfl
theorem YV(w:World):(Go.sizeOf 4).run prog w=.ok 1 w:=by
 have h:=TY;cases hi:prog.info? 4 with
 | none=>rw[hi]at h;cases h
 | some i =>
  rw[hi]at h
  simp only[Option.map_some,Option.some.injEq]at h;simp[sizeOf,typeInfo,hi,h]
theorem Ta(B d:Nat)(hd:d≤8):∃ ad,(∀ W,(Instr.sliceAt 53 (.pointer (some ⟨B,1,none⟩)) (some (.int .i64 (d:Int))) none none).run prog W=.ok (.slice (some ad) (8-d) (8-d)) W)∧(0<8-d→ad=⟨B,1+d,none⟩):=by
 refine⟨if 8=d then⟨B,1,none⟩else(⟨B,1,none⟩:Addr).add (d*1),fun W=>?_,fun h=>?_⟩
 ·have e1:prog.arrayLen 53=8:=by kernel_rfl
  have e2:prog.elem 53=4:=by kernel_rfl
  rw[run_sliceAt_array_l (P:=prog) W 53 _ underlying53 .i64 _ (by omega) (by rw[e1];omega),e1,e2,YV];simp[Result.andThen,slicedAt]
 ·rw[if_neg (by omega),Nat.mul_one];exact Addr.add_mid B 1 d
theorem TT(w:World)(a b c:Obj):(((w.alloc a).alloc b).alloc c).heap[w.heap.size]?=some a∧(((w.alloc a).alloc b).alloc c).heap[w.heap.size+1]?=some b∧(((w.alloc a).alloc b).alloc c).heap[w.heap.size+1+1]?=some c:=by
 have hb:Below ((w.alloc a).alloc b).heap.size ((w.alloc a).alloc b) (((w.alloc a).alloc b).alloc c):=(Below.refl _ _).alloc (Nat.le_refl _) _;have hz:((w.alloc a).alloc b).heap.size=w.heap.size+1+1:=by simp
 have h2:=heap_alloc_new ((w.alloc a).alloc b) c;rw[hz]at h2 hb
 exact⟨(hb.block _ (by omega)).trans (heap_alloc2_old _ _ _),(hb.block _ (by omega)).trans (heap_alloc2_new _ _ _),h2⟩
theorem SP(n:Int)(l:List Bool)(hl:l.length=8)(d:Nat)(h1:1≤d)(h8:d≤8):(splice [.int .i64 n,.bool false,.bool false,.bool false,.bool false,.bool false,.bool false,.bool false,.bool false] 1 ((l.drop d).map Value.bool)).toArray=wA n (l.drop d++List.replicate d false):=by
 obtain⟨b0,b1,b2,b3,b4,b5,b6,b7,rfl⟩:=FC l hl;have:d=1∨d=2∨d=3∨d=4∨d=5∨d=6∨d=7∨d=8:=by omega
 rcases this with rfl|rfl|rfl|rfl|rfl|rfl|rfl|rfl<;>rfl
theorem PY(t n:Int)(l:List Bool)(w:World)(hl:l.length=8)(t0:0≤t)(t1:t≤1073741824)(n0:t<n)(n1:n≤1073741824)(d:Nat)(hd:d=min (n-t).toNat 8) :
  Calls prog 199 #[.agg (wA t l),.int .i64 n] w fun e w'=>e=.returned (.agg (wA n (l.drop d++List.replicate d false)))∧Below w.heap.size w w':=by
 obtain⟨b0,b1,b2,b3,b4,b5,b6,b7,rfl⟩:=FC l hl;simp only[wA,List.map];go_enter func199,ntmps199
 have hm:(if 8<n-t then 8 else n-t)=(d:Int):=by split<;>omega
 have hwr:IntKind.i64.wrap (n-t)=n-t:=by rw[IntKind.wrap_i64];omega
 have hdz:1≤d∧d≤8:=by omega
 obtain⟨ad,hsl,had⟩:=Ta w.heap.size d (by omega);clear hd;have HR:Hid (∀ w':World,Below (w.heap.size+1+1) (((w.alloc (.cells (wA t [b0,b1,b2,b3,b4,b5,b6,b7]) 190)).alloc (.cells (wA 0 [false,false,false,false,false,false,false,false]) 190)).alloc (.cells (wA n [false,false,false,false,false,false,false,false]) 190)).drew w'→Below w.heap.size w w'∧w'.heap[w.heap.size+1]?=some (.cells (wA 0 [false,false,false,false,false,false,false,false]) 190 (0,0))):=by
  intro w' hb;obtain⟨_,e1,_⟩:=TT w (.cells (wA t [b0,b1,b2,b3,b4,b5,b6,b7]) 190) (.cells (wA 0 [false,false,false,false,false,false,false,false]) 190) (.cells (wA n [false,false,false,false,false,false,false,false]) 190);refine⟨((((Below.refl _ _).alloc (Nat.le_refl _) _).alloc (by simp) _).alloc (by simp;omega) _).drew.trans (hb.mono (by omega)),?_⟩;exact(hb.block (w.heap.size+1) (by omega)).trans e1
 have HC:Hid (∀ j v,(([b0,b1,b2,b3,b4,b5,b6,b7].drop d).map Value.bool)[j]?=some v→(((w.alloc (.cells (wA t [b0,b1,b2,b3,b4,b5,b6,b7]) 190)).alloc (.cells (wA 0 [false,false,false,false,false,false,false,false]) 190)).alloc (.cells (wA n [false,false,false,false,false,false,false,false]) 190)).drew.cell? (ad.add j)=some v):=by
  intro j v hj;have hjl:j<8-d:=by simpa using(List.getElem?_eq_some_iff.1 hj).1
  rw[had (by omega),Addr.add_mid];obtain⟨e0,_,_⟩:=TT w (.cells (wA t [b0,b1,b2,b3,b4,b5,b6,b7]) 190) (.cells (wA 0 [false,false,false,false,false,false,false,false]) 190) (.cells (wA n [false,false,false,false,false,false,false,false]) 190);have h1:=(cell_of_row _ _ (1+(d+j)) _ _ _ e0).trans (IZ t _ (d+j) (by simp;omega));rw[Nat.add_assoc];refine Eq.trans h1 ?_;rw[List.getElem?_map,List.getElem?_drop]at hj
  rw[← hj,List.getD,List.getElem?_eq_getElem (show d+j<[b0,b1,b2,b3,b4,b5,b6,b7].length by simp;omega)];rfl
 obtain⟨_,_,e2⟩:=TT w (.cells (wA t [b0,b1,b2,b3,b4,b5,b6,b7]) 190) (.cells (wA 0 [false,false,false,false,false,false,false,false]) 190) (.cells (wA n [false,false,false,false,false,false,false,false]) 190);have HG:Hid _:=e2;clear e2;go_wp2_with fail
 go_region_law (refine step_copy_splice rfl (.tmp 9) (.tmp 16) 279 279 rfl 4 underlying279 TY _ _ _ _ _ _ rfl rfl (w.heap.size+1+1) 1 [.int .i64 n,.bool false,.bool false,.bool false,.bool false,.bool false,.bool false,.bool false,.bool false] 190 HG.out (([b0,b1,b2,b3,b4,b5,b6,b7].drop d).map Value.bool) (by simp) (fun hp=>⟨rfl,ad,rfl,HC.out⟩) (by simp;omega) (by intro v hv;obtain⟨x,_,rfl⟩:=List.mem_map.1 hv;rfl) (w.heap.size+1+1) _ (Below.refl _ _) (Nat.le_refl _) ?_;intro w4 H4 hb4)
 obtain⟨d4,r4⟩:=HR.out w4 hb4;have hl8:([b0,b1,b2,b3,b4,b5,b6,b7].drop d++List.replicate d false).length=8:=by simp;omega
 have h4:=H4.out;rw[SP n _ rfl d hdz.1 hdz.2]at h4
 generalize hR:[b0,b1,b2,b3,b4,b5,b6,b7].drop d++List.replicate d false=R at hl8 h4;have HRR:Hid ([b0,b1,b2,b3,b4,b5,b6,b7].drop d++List.replicate d false=R):=hR;clear hR;have hi:=I9 (t:=n) hl8;have hz:=(Array.getElem?_eq_some_iff.1 h4).1;clear HR HC HG hb4 H4;go_wp2_with (first
  | (refine wpList_load_row rfl 190 _ rfl (w.heap.size+1+1) rfl 190 _ (0,0) _ h4 underlying190 rfl hi ?_)
  | (refine wpList_store_row rfl 190 _ _ rfl (w.heap.size+1) _ rfl rfl 190 _ r4 hi (by rw[CZ,CZ,hl8];rfl) (MF n R) ?_))
 exact bodyPost_ret (v:=.agg (wA n R)) (results_cell_row rfl _ _ (w.heap.size+1) 190 _ (0,0) _ rfl (setRow_heap w4 (w.heap.size+1) _ _ 190 _ r4) underlying190 rfl hi) rfl ⟨by rw[← HRR.out];rfl,below_setRow d4 (by omega) _⟩
theorem Zm(t:Int)(l:List Bool)(i:Nat)(x:Bool):(wA t l).setIfInBounds (1+i) (.bool x)=wA t (l.set i x):=by
 apply Array.ext';rw[Nat.add_comm];simp[wA,List.map_set]
theorem O6{w:World}{g:Nat}{t:Int}{l:List Bool}{ty:TypeId}(h:w.heap[g]?=some (.cells (wA t l) ty (0,0)))(k:Nat)(x:Bool) :
  (w.setCell ⟨g,1+k,none⟩ (.bool x)).heap[g]?=some (.cells (wA t (l.set k x)) ty (0,0)):=by
 rw[heap_setCell_same _ _ _ _ _ _ h,Zm]
theorem Nu{a b:List Bool}(ha:a.length=8)(hb:b.length=8)(h:∀ k,k<8→a.getD k false=b.getD k false):a=b:=by
 apply List.ext_getElem (by omega);intro k h1 h2;have:=h k (by omega);simpa[List.getD,List.getElem?_eq_getElem h1,List.getElem?_eq_getElem h2]using this
theorem Oq(l:List Bool)(i k:Nat)(x:Bool)(hi:i<l.length):(l.set i x).getD k false=if k=i then x else l.getD k false:=by
 rw[List.getD,List.getElem?_set,List.getD];by_cases h:i=k
 ·subst h;simp[hi]
 ·rw[if_neg h,if_neg (fun e=>h e.symm)]
theorem Vw(t n:Int)(l:List Bool)(hl:l.length=8)(h1:n<t)(i:Nat)(hi:i<8)(hn:n=t-8+(i:Int)):IM t l n=l.set i true∧F5 t n=t:=by
 have hT:F5 t n=t:=by unfold F5;rw[if_neg (by omega)]
 refine⟨Nu (DD _ _ _) (by simp[hl]) fun k hk=>?_,hT⟩;rw[QR _ _ _ _ hk,hT,Mm t l k hk,Oq _ _ _ _ (by omega)];by_cases h:k=i
 ·rw[if_pos h,decide_eq_true (by omega)];rfl
 ·rw[if_neg h,decide_eq_false (by omega)];rfl
theorem PX(l:List Bool)(hl:l.length=8)(d k:Nat)(hk:k<8)(hd:d≤8):(l.drop d++List.replicate d false).getD k false=if d+k<8 then l.getD (d+k) false else false:=by
 by_cases h:d+k<8
 ·rw[if_pos h,List.getD,List.getElem?_append_left (by simp;omega),List.getElem?_drop,List.getD]
 ·rw[if_neg h,List.getD,List.getElem?_append_right (by simp;omega),List.getElem?_replicate];split<;>rfl
theorem SG(t n:Int)(l:List Bool)(hl:l.length=8)(h1:t≤n)(d:Nat)(hd:d=min (n+1-t).toNat 8):IM t l n=(l.drop d++List.replicate d false).set 7 true∧F5 t n=n+1:=by
 have hT:F5 t n=n+1:=by unfold F5;rw[if_pos h1]
 refine⟨Nu (DD _ _ _) (by simp;omega) fun k hk=>?_,hT⟩;rw[QR _ _ _ _ hk,hT,Oq _ _ _ _ (by simp;omega),PX l hl d k hk (by omega)];by_cases h:k=7
 ·rw[if_pos h,decide_eq_true (by omega)];rfl
 ·rw[if_neg h,decide_eq_false (by omega),Bool.false_or];by_cases h2:d+k<8
  ·rw[if_pos h2,show n+1-8+(k:Int)=t-8+((d+k:Nat):Int)by omega,Mm _ _ _ h2]
  ·rw[if_neg h2,QE (by omega)]
end Go.Proofs.YtakgfdbjgeopdaaGreatDoor
namespace Go.Proofs.YtakgfdbjgeopdaaGreatDoor
structure Lac where
 k:Int
 n:Int
 a:Int
 p:Int
 d:List Int
def D3(k:Int):Bool:=decide (k=1∨k=2∨k=3∨k=9∨k=8)
def D0(k:Int):Bool:=decide (4≤k∧k≤6)
def DL(k:Int):Bool:=decide (k=8)
def AQ(x:Lac):Int :=
 if ¬ (1≤x.k∧x.k≤9)then 4
 else if(D3 x.k=true∧¬ (0≤x.n∧x.n≤4))∨(D0 x.k=true∧¬ (0≤x.a∧x.a≤1048576))∨(DL x.k=true∧¬ (0≤x.p∧x.p≤100000))then 2
 else if 2000<x.d.length then 1
 else if(D3 x.k=false∧x.n≠0)∨(D0 x.k=false∧x.a≠0)∨(DL x.k=false∧x.p≠0)∨(x.k≠1∧x.d≠[])then 3
 else 0
structure LacOk(x:Lac):Prop where
 k:1≤x.k∧x.k≤9
 n:D3 x.k=true→0≤x.n∧x.n≤4
 a:D0 x.k=true→0≤x.a∧x.a≤1048576
 p:DL x.k=true→0≤x.p∧x.p≤100000
 d:x.d.length≤2000
 n0:D3 x.k=false→x.n=0
 a0:D0 x.k=false→x.a=0
 p0:DL x.k=false→x.p=0
 d0:x.k≠1→x.d=[]
theorem WB{x:Lac}:AQ x=0↔LacOk x:=by
 unfold AQ;constructor
 ·intro h;by_cases h1:1≤x.k∧x.k≤9
  ·rw[if_neg (fun e=>e h1)]at h
   by_cases h2:(D3 x.k=true∧¬ (0≤x.n∧x.n≤4))∨(D0 x.k=true∧¬ (0≤x.a∧x.a≤1048576))∨(DL x.k=true∧¬ (0≤x.p∧x.p≤100000))
   ·rw[if_pos h2]at h;omega
   ·rw[if_neg h2]at h
    by_cases h3:2000<x.d.length
    ·rw[if_pos h3]at h;omega
    ·rw[if_neg h3]at h
     by_cases h4:(D3 x.k=false∧x.n≠0)∨(D0 x.k=false∧x.a≠0)∨(DL x.k=false∧x.p≠0)∨(x.k≠1∧x.d≠[])
     ·rw[if_pos h4]at h;omega
     ·simp only[not_or,not_and,Decidable.not_not]at h2 h4;exact⟨h1,fun e=>by have:=h2.1 e;omega,fun e=>by have:=h2.2.1 e;omega,fun e=>by have:=h2.2.2 e;omega,by omega,h4.1,h4.2.1,h4.2.2.1,h4.2.2.2⟩
  ·rw[if_pos h1]at h;omega
 ·intro h;rw[if_neg (fun e=>e h.k),if_neg,if_neg (by have:=h.d;omega),if_neg]
  ·rintro(⟨h1,h2⟩|⟨h1,h2⟩|⟨h1,h2⟩|⟨h1,h2⟩)
   ·exact h2 (h.n0 h1)
   ·exact h2 (h.a0 h1)
   ·exact h2 (h.p0 h1)
   ·exact h2 (h.d0 h1)
  ·rintro(⟨h1,h2⟩|⟨h1,h2⟩|⟨h1,h2⟩)
   ·exact h2 (h.n h1)
   ·exact h2 (h.a h1)
   ·exact h2 (h.p h1)
def Ra(k:Int):List Int :=
 if k=1 then[115,117,98,109,105,116]else if k=2 then[108,101,97,100]else if k=3 then[115,116,101,112]else if k=4 then[99,97,114,114,121]else if k=5 then[108,111,115,101]
 else if k=6 then[100,111,117,98,108,101]else if k=7 then[97,108,108]else if k=8 then[99,114,97,115,104]else if k=9 then[115,116,97,114,116]else[]
end Go.Proofs.YtakgfdbjgeopdaaGreatDoor
namespace Go.Proofs.YtakgfdbjgeopdaaGreatDoor
open Go.RowKit
section
variable{P:Program}{md:Region.Mode}{ops:Array Oper}{Q:Exit→Act→World→Prop}{S:World→Prop}
theorem UB{i d:Nat}{o:Oper}{a:Act}{w w':World}{v:Value}{K:Act→World→Prop}(ho:ops[i]?=some o)(hw:Region.wanted o (yielded ops a.tmps)=true)(hd:o.dst=some d)
  (hrun:(execOp a.eval o).run P w=.ok (.value v) w')(h:K (a.put (some d) v) w'):wpOp P ops Q i K a w :=
 wpOp_step ho fun K' hK=>by
  rw[if_pos hw];unfold Oper.wp;rw[hrun,Oper.upon_value];exact hK _ _ (by rw[hd];exact h)
theorem Dq{i d:Nat}{o:Oper}{a:Act}{w:World}{f:FuncId}{args:Array Value}{K:Act→World→Prop}(ho:ops[i]?=some o)(hw:Region.wanted o (yielded ops a.tmps)=true)(hd:o.dst=some d)
  (hrun:(execOp a.eval o).run P w=.ok (.enter f args) w)(h:Calls P f args w fun e w'=>∃ v,e=.returned v∧K (a.put (some d) v) w'):wpOp P ops Q i K a w :=
 wpOp_step ho fun K' hK=>by
  rw[if_pos hw];unfold Oper.wp;rw[hrun,Oper.upon_enter];refine h.mono fun e w' hh=>?_;obtain⟨v,rfl,hv⟩:=hh;exact hK _ _ (by rw[hd];exact hv)
theorem Er{i:Nat}{o:Oper}{a:Act}{w:World}{K:Act→World→Prop}(ho:ops[i]?=some o)(hw:Region.wanted o (yielded ops a.tmps)=true)(hd:o.dst=none)(ty:TypeId)(x y:Operand)(hop:o.op=.store ty x y)
  (g:Nat)(cells:Array Value)(hx:a.eval x=.pointer (some ⟨g,0,none⟩))(hy:a.eval y=.agg cells)
  (t:TypeId)(old:Array Value)(hg:w.heap[g]?=some (.cells old t (0,0)))(hi:(P.info? ty).map (·.size)=some cells.size)
  (hold:old.size=cells.size)(h1:cells.all (·.oneCell')=true)(h:K a (w.setRow g cells)):wpOp P ops Q i K a w :=
 wpOp_step ho fun K' hK=>by
  rw[if_pos hw];exact wp_store_row ty x y hop g cells hx hy t old hg hi hold h1 (hK _ _ (by rw[hd];exact h))
theorem AM{i fuel:Nat}{L:Array Bool}{a:Act}{w:World}(hr:Region.ready md ops L=[i])
  (h:wpOp P ops Q i (fun a' w'=>S w'∧wpAnyH P md ops Q S fuel (L.setIfInBounds i true) a' w') a w):wpAnyH P md ops Q S (fuel+1) L a w :=
 wpAnyH_all hr (by simp) (fun j hj=>by
  obtain rfl:j=i:=by simpa using hj
  exact h)
theorem Wq{i i' fuel:Nat}{L:Array Bool}{a:Act}{w:World}(hr:Region.ready md ops L=[i,i'])
  (h:wpOp P ops Q i (fun a' w'=>S w'∧wpAnyH P md ops Q S fuel (L.setIfInBounds i true) a' w') a w)
  (h':wpOp P ops Q i' (fun a' w'=>S w'∧wpAnyH P md ops Q S fuel (L.setIfInBounds i' true) a' w') a w):wpAnyH P md ops Q S (fuel+1) L a w :=
 wpAnyH_all hr (by simp) (fun j hj=>by
  rcases(show j=i∨j=i' by simpa using hj)with rfl|rfl
  ·exact h
  ·exact h')
theorem Ac{i:Nat}(d:Nat){oi:Oper}{v:Value}{fuel:Nat}{listed:Array Bool}{a:Act}{w:World}(hi:ops[i]?=some oi)(hd:oi.dst=some d)
  (hs:Region.noSelect ops=true)(hf:Region.free md ops listed i=true)(hr:(Region.ready md ops listed).contains i=true)
  (hQ:∀ c a w,Q (.panic c) (a.put (some d) v) w→Q (.panic c) a w)(hy:YieldsIf P ops S oi v a)(hS:S w)
  (h:wpAnyH P md ops Q S fuel (listed.setIfInBounds i true) (a.put (some d) v) w):wpAnyH P md ops Q S (fuel+1) listed a w :=
 wpAnyH_take hi hs hf hr (by rw[hd];exact hQ) hy hS (by rw[hd];exact h)
theorem Fz{op:Oper}{a:Act}(hw:Region.wanted op (yielded ops a.tmps)=true)(ty:TypeId)(x:Operand)(ho:op.op=.load ty x)(d:TypeDesc)(hu:P.underlying ty=some d)(hd:d.isRow=false)
  (p:Addr)(hx:a.eval x=.pointer (some p))(v:Value)(hS:∀ w,S w→w.cell? p=some v):YieldsIf P ops S op v a :=
 .inl ⟨hw,fun w hw'=>by
  have hagg:(isAgg ty).run P w=.ok false w:=by
   unfold isAgg;rw[Sem.run_bind,run_underlying hu w];cases d<;>simp_all[TypeDesc.isRow]
  have hl:(loadVar ty p).run P w=.ok v w:=by simp[loadVar,hagg,hS w hw',go_sem]
  unfold execOp;simp only[ho,hx,Instr.loadAt,Instr.sureAddr,Sem.run_bind,Sem.run_pure,Result.andThen_ok,hl]⟩
end
theorem Az{P:Program}{ops:Array Oper}{Q:Exit→Act→World→Prop}{l:List Oper}{a:Act}{w:World}(h:wpList P ops Q l a w):wpList P ops Q l a w:=h
theorem An{B:Nat}{a w:World}(h:Below B a w){g:Nat}(hg:B≤g)(cs:Array Value):Below B a (w.setRow g cs) :=
 h.trans ⟨rfl,rfl,rfl,by simp,fun k hk=>setRow_other w g k cs (by omega)⟩
theorem Bm{w:World}{b b' e k8:Nat}{v:Value}{n:Nat}{xs:List Value}(h:w.ownsRow b e k8 v n xs)(hb:b'≤b):w.ownsRow b' e k8 v n xs:=by
 refine⟨h.1,?_⟩;rcases h.2 with h2|⟨g,cap,cur,hv,hbg,hr⟩
 ·exact .inl h2
 ·exact .inr ⟨g,cap,cur,hv,Nat.le_trans hb hbg,hr⟩
theorem AT{w w':World}{base e k8:Nat}{v:Value}{n:Nat}{xs:List Value}(h:w.ownsRow base e k8 v n xs)(hk:∀ k,v.ownBlock=some k→w'.heap[k]?=w.heap[k]?):w'.ownsRow base e k8 v n xs:=by
 refine⟨h.1,?_⟩;rcases h.2 with h2|⟨g,cap,cur,hv,hb,hg,hr⟩
 ·exact .inl h2
 ·exact .inr ⟨g,cap,cur,hv,hb,(hk g (by rw[hv];rfl)).trans hg,hr⟩
theorem Vq{P:Program}{fn:Func}{p:Tmp}{ty:TypeId}(h:fn.results=#[.cell p ty])(tmps:Array Value)(w:World)(g:Nat)(t:TypeId)(cs:Array Value)(fr:Nat × Nat)(d:TypeDesc)
  (hp:tmps.getD p undef=.pointer (some ⟨g,0,none⟩))(hg:w.heap[g]?=some (.cells cs t fr))
  (hu:P.underlying ty=some d)(hd:(match d with|.struct _|.array _ _=>true|_=>false)=true)(hi:(P.info? ty).map (·.size)=some cs.size) :
  (results fn tmps).run P w=.ok (.agg cs) w:=by
 have hp':tmps[p]?.getD undef=.pointer (some ⟨g,0,none⟩):=by simpa using hp
 simp[results,h,hp',asAddr,run_loadVar_row w g t ty cs fr d hg hu hd hi]
theorem CU{P:Program}{fn:Func}{p u:Tmp}{ty:TypeId}(h:fn.results=#[.cell p ty,.tmp u])(tmps:Array Value)(w:World)(g:Nat)(t:TypeId)(cs:Array Value)(fr:Nat × Nat)(d:TypeDesc)
  (hp:tmps.getD p undef=.pointer (some ⟨g,0,none⟩))(hg:w.heap[g]?=some (.cells cs t fr))
  (hu:P.underlying ty=some d)(hd:(match d with|.struct _|.array _ _=>true|_=>false)=true)(hi:(P.info? ty).map (·.size)=some cs.size) :
  (results fn tmps).run P w=.ok (.tuple #[.agg cs,tmps.getD u undef]) w:=by
 have hp':tmps[p]?.getD undef=.pointer (some ⟨g,0,none⟩):=by simpa using hp
 simp[results,h,hp',asAddr,run_loadVar_row w g t ty cs fr d hg hu hd hi]
theorem Sl.shapeT{w:World}{v:Value}{l:List Int}(h:Sl w v l):∃ a cap,v=.slice a l.length cap:=by
 obtain⟨⟨a,cap,e,_⟩,_,_⟩:=h;exact⟨a,cap,e⟩
theorem Sl.cellsT{w:World}{ad:Addr}{n cap:Nat}{m:List Int}(h:Sl w (.slice (some ad) n cap) m):∀ j u,(m.map (Value.int .u8))[j]?=some u→w.cell? (ad.add j)=some u:=by
 intro j u hj;obtain⟨⟨a,cp,e,hc,hn,h1⟩,_⟩:=h;simp only[Value.slice.injEq]at e;obtain⟨rfl,rfl,rfl⟩:=e;rcases h1 with rfl|⟨b,off,hab,_,hcell⟩
 ·simp at hj
 ·obtain rfl:ad=⟨b,off,none⟩:=by simpa using hab
  have hjl:j<m.length:=by
   have:=(List.getElem?_eq_some_iff.1 hj).1;simpa using this
  have hadd:(⟨b,off,none⟩:Addr).add j=⟨b,off+j,none⟩:=by unfold Addr.add;split<;>simp_all
  rw[hadd,hcell j hjl];simp[List.getElem?_eq_getElem hjl]at hj
  rw[AG hjl,hj]
theorem On{P:Program}(w:World)(base dT sT ty e:Nat)(hu:P.underlying dT=some (.slice e))(hs:(P.info? e).map (·.size)=some 1)(g n:Nat)(xs:List Value)(hown:w.ownsRow base e 1 (.slice (some ⟨g,0,none⟩) n n) n xs)(u:Value)(m:List Int)(hm:n≤m.length)(hv:Sl w u m) :
  ∃ w',(Builtin.copy_ #[dT,sT] ty #[.slice (some ⟨g,0,none⟩) n n,u]).run P w=.ok (goInt n) w'∧w'.ownsRow base e 1 (.slice (some ⟨g,0,none⟩) n n) n ((m.take n).map (Value.int .u8))∧Below g w w':=by
 obtain⟨i,hq,hi⟩:∃ i,P.info? e=some i∧i.size=1:=by
  cases hq:P.info? e with
  | none=>rw[hq]at hs;cases hs
  | some i=>rw[hq]at hs;exact⟨i,rfl,by simpa using hs⟩
 rcases hown.2 with⟨h0,_⟩|⟨g',cap,cur,hvv,hbg,hg,hnc,hcm,hcs,ht⟩
 ·cases h0
 ·simp only[Value.slice.injEq,Option.some.injEq,Addr.mk.injEq]at hvv;obtain⟨⟨rfl,_⟩,_,rfl⟩:=hvv;have hv2:=hv;obtain⟨⟨a,cp,rfl,hc,hn,h1⟩,_⟩:=hv;have hmin:Nat.min m.length n=n:=Nat.min_eq_right hm;cases a with
  | none =>
   have hc0:=hn rfl;subst hc0;have hm0:n=0:=by omega
   subst hm0;refine⟨w,?_,⟨by simp,.inr ⟨g,0,cur,rfl,hbg,hg,hnc,hcm,hcs,by simp⟩⟩,Below.refl _ _⟩;simp[Builtin.copy_,run_underlying hu,Builtin.lenOf,Builtin.firstCells,sizeOf,typeInfo,hq,storeCells]
  | some ad =>
   have htl:((m.take n).map (Value.int .u8)).length=n:=by simp;omega
   have hl:=run_firstCells_some (P:=P) w 1 n ad m.length cp ((m.take n).map (Value.int .u8)) (by rw[htl];omega) (fun j v hj=>hv2.cellsT j v (by
    rw[List.map_take,List.getElem?_take]at hj
    split at hj
    ·exact hj
    ·cases hj))
   have hst:=run_storeCells_at P g 0 e ((m.take n).map (Value.int .u8)) 0 cur w hg (by rw[htl];omega) (DT (m.take n));have hfull:(cur.toList.take (0+0)++(m.take n).map (Value.int .u8)++cur.toList.drop (0+0+((m.take n).map (Value.int .u8)).length))=(m.take n).map (Value.int .u8):=by
    rw[htl,List.drop_eq_nil_of_le (by rw[Array.length_toList];omega)];simp
   rw[hfull]at hst
   refine⟨w.setRow g ((m.take n).map (Value.int .u8)).toArray,?_,⟨by rw[htl];omega,.inr ⟨g,n,((m.take n).map (Value.int .u8)).toArray,rfl,hbg,setRow_heap w g cur _ e _ hg,Nat.le_refl _,hcm,by rw[List.size_toArray,htl];omega,?_⟩⟩,?_⟩
   ·simp[-List.map_take,Builtin.copy_,run_underlying hu,Builtin.lenOf,sizeOf,typeInfo,hq,hi,hmin,hl,hst]
   ·rw[List.take_of_length_le (by show((m.take n).map (Value.int .u8)).length≤_;rw[htl];omega)]
   ·exact⟨rfl,rfl,rfl,by simp,fun k hk=>setRow_other w g k _ (by omega)⟩
theorem Kl{P:Program}(w:World){ops:Array Oper}{rest:List Oper}{o:Oper}{a:Act}{Q:Exit→Act→World→Prop}(hgd:o.guard=none)(d s:Operand)(dT sT:TypeId)
  (ho:o.op=.call { callee:=.builtin .copy,args:=#[d,s],argTypes:=#[dT,sT] })
  (base e:Nat)(hu:P.underlying dT=some (.slice e))(hs:(P.info? e).map (·.size)=some 1)(g n:Nat)(xs:List Value)(hd:a.eval d=.slice (some ⟨g,0,none⟩) n n)(hown:w.ownsRow base e 1 (.slice (some ⟨g,0,none⟩) n n) n xs)(u:Value)(hu':a.eval s=u)(m:List Int)(hm:n≤m.length)(hv:Sl w u m)(t:List Int)(htm:t=m.take n)
  (h:∀ w',w'.ownsRow base e 1 (.slice (some ⟨g,0,none⟩) n n) n (t.map (Value.int .u8))→Below g w w'→wpList P ops Q rest (a.put o.dst (goInt n)) w'):wpList P ops Q (o::rest) a w:=by
 subst htm;refine wpList_plain hgd fun K hK=>?_;obtain⟨w',hrun,r1,r2⟩:=On (P:=P) w base dT sT o.type e hu hs g n xs hown u m hm hv;unfold Oper.wp execOp;simp only[ho,resolve,invoke,builtin,Sem.run_bind,Sem.run_pure,Result.andThen_ok,List.map_toArray,List.map_cons,List.map_nil,hd,hu',hrun];exact hK _ _ (h w' r1 r2)
theorem Ko{P:Program}(w:World){ops:Array Oper}{rest:List Oper}{o:Oper}{a:Act}{Q:Exit→Act→World→Prop}
  (hg:o.guard=none)(l c:Operand)(t:TypeId)(hop:o.op=Op.makeSlice t l c)(base:Nat)(e:TypeId)(h1:P.underlying t=some (.slice e))(hinfo:(P.info? e).map (fun i=>(i.zero,i.size,i.bytes))=some (some (.int .u8 0),1,1))
  (n:Nat)(hl:a.eval l=.int .i64 (n:Int))(hc:a.eval c=.int .i64 (n:Int))(hn:n≤140737488351232)(b4:base≤w.heap.size)
  (hK:∀ w',Hid (∃ xs,w'.ownsRow base e 1 (.slice (some ⟨w.heap.size,0,none⟩) n n) n xs)→w.grownBy w' none→wpList P ops Q rest (a.put o.dst (.slice (some ⟨w.heap.size,0,none⟩) n n)) w'):wpList P ops Q (o::rest) a w:=by
 obtain⟨i0,hi,hz0,hz1,hz2⟩:=info_parts hinfo;refine wpList_make_full w hg l c t hop base e i0 (.int .u8 0) 1 h1 hi hz0 hz1 _ _ _ _ n hl hc rfl rfl (by rw[hz2];omega) (by unfold maxLen;omega) b4 (fun w' o1 g1=>hK w' ⟨_,o1⟩ g1)
theorem Dy(w:World)(o1:Obj):(w.alloc o1).heap[w.heap.size]?=some o1:=heap_alloc_new w o1
theorem BB(w:World)(o1:Obj):Below w.heap.size w (w.alloc o1):=(Below.refl _ _).alloc (Nat.le_refl _) _
theorem Gf(w:World)(o1 o2:Obj):((w.alloc o1).alloc o2).heap[w.heap.size]?=some o1:=heap_alloc2_old w o1 o2
theorem Gg(w:World)(o1 o2:Obj):((w.alloc o1).alloc o2).heap[w.heap.size+1]?=some o2:=heap_alloc2_new w o1 o2
theorem H9(w:World)(o1 o2:Obj):Below w.heap.size w ((w.alloc o1).alloc o2):=((Below.refl _ _).alloc (Nat.le_refl _) _).alloc (by simp) _
theorem JX(w:World)(o1 o2 o3:Obj):(((w.alloc o1).alloc o2).alloc o3).heap[w.heap.size]?=some o1:=by
 rw[heap_alloc_old _ _ (by simp;omega)];exact heap_alloc2_old w o1 o2
theorem JY(w:World)(o1 o2 o3:Obj):(((w.alloc o1).alloc o2).alloc o3).heap[w.heap.size+1]?=some o2:=by
 rw[heap_alloc_old _ _ (by simp)];exact heap_alloc2_new w o1 o2
theorem JZ(w:World)(o1 o2 o3:Obj):(((w.alloc o1).alloc o2).alloc o3).heap[w.heap.size+2]?=some o3:=by
 have:=heap_alloc_new ((w.alloc o1).alloc o2) o3;simpa using this
theorem LB(w:World)(o1 o2 o3:Obj):Below w.heap.size w (((w.alloc o1).alloc o2).alloc o3):=(((Below.refl _ _).alloc (Nat.le_refl _) _).alloc (by simp) _).alloc (by simp;omega) _
theorem AD{w:World}{base e k8:Nat}{v:Value}{n:Nat}{xs:List Value}(h:w.ownsRow base e k8 v n xs):∃ g c,v=.slice g n c:=by
 rcases h.2 with⟨rfl,h0⟩|⟨g,cap,cur,hv,_⟩
 ·exact⟨none,0,by rw[h0]⟩
 ·exact⟨_,_,hv⟩
theorem Fd{B:Nat}{w w':World}(h:Below B w w'){b o:Nat}{cs:List Value}(hb:b<B)(hr:w.rangeAt b o cs):w'.rangeAt b o cs :=
 fun j v hv=>(h.cell (p:=⟨b,o+j,none⟩) hb).trans (hr j v hv)
theorem Vr{P:Program}{id:Nat}{ops:Array Oper}{K:Act→World→Prop}{Q:Exit→Act→World→Prop}{a:Act}{w:World}(R:World→Prop){A:Act}
  (hreg:∀ K':Act→World→Prop,Hid (∀ W2,R W2→K' A W2)→(Code.region id ops true).wp P (Exit.then K' Q) a w)(hrest:∀ W2,R W2→K A W2):(Code.region id ops true).wp P (Exit.then K Q) a w:=hreg K hrest
theorem Vs{P:Program}{id:Nat}{ops:Array Oper}{K:Act→World→Prop}{Q:Exit→Act→World→Prop}{a:Act}{w:World}(R:Option Addr→Nat→World→Prop){A:Option Addr→Nat→Act}
  (hreg:∀ K':Act→World→Prop,Hid (∀ g c W2,R g c W2→K' (A g c) W2)→(Code.region id ops true).wp P (Exit.then K' Q) a w)(hrest:∀ g c W2,R g c W2→K (A g c) W2):(Code.region id ops true).wp P (Exit.then K Q) a w:=hreg K hrest
theorem BP{w:World}{g:Nat}{cs:List Value}{t:TypeId}{fr:Nat × Nat}(h:w.heap[g]?=some (.cells cs.toArray t fr)):w.rangeAt g 0 cs:=fun j u hj=>by
 rw[cell_of_row _ _ (0+j) _ _ _ h];simpa using hj
theorem JW{w:World}{base k8 n:Nat}{v:Value}{xs:List Value}(h:w.ownsRow base 5 k8 v n xs){g:Nat}{cs:Array Value}{t:TypeId}{fr:Nat × Nat}(hg:w.heap[g]?=some (.cells cs t fr))(ht:t≠5):∀ k,v.ownBlock=some k→k≠g:=by
 intro k hk e;rcases h.2 with⟨h1,_⟩|⟨q,cap,cur,h1,_,h2,_⟩
 ·rw[h1]at hk;cases hk
 ·rw[h1]at hk
  have hk':q=k:=by simpa[Value.ownBlock]using hk
  rw[hk',e,hg]at h2
  simp only[Option.some.injEq,Obj.cells.injEq]at h2;exact ht h2.2.1
theorem De{w:World}{base k8 n:Nat}{v:Value}{xs:List Value}(h:w.ownsRow base 5 k8 v n xs){g:Nat}{cs:Array Value}{t:TypeId}{fr:Nat × Nat}(hg:w.heap[g]?=some (.cells cs t fr))(ht:t≠5)(cs':Array Value):(w.setRow g cs').ownsRow base 5 k8 v n xs :=
 AT h (fun k hk=>setRow_other _ _ _ _ (JW h hg ht k hk))
theorem ZA:(prog.info? 5).map (·.size)=some 1:=by kernel_rfl
end Go.Proofs.YtakgfdbjgeopdaaGreatDoor
