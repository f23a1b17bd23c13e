/- Part 2 of the walk. -/
import Derived.Laws.Strings2
import Derived.Test.YtogibonjmbhliabGreatDoorCards
import Derived.Test.YtogibonjmbhliabGreatDoorTie
import Derived.SizedLaws
import Derived.ChangeOld
import Derived.ChangeSame
import Derived.ChangeMaps5
import Derived.Deep.DeepHandedRow
import Derived.Lib.LaidTab
import Derived.Deep.Strs
import Derived.OrdersHeld
import Derived.Laws.AppendOwn
import Derived.Great.BuildSlice
import Derived.Test.YtogibonjmbhliabGreatDoorZ1
set_option maxRecDepth 100000
set_option maxHeartbeats 4000000
open Go.Proofs.Tryz
set_option linter.unusedVariables false
namespace Go.Proofs.YtogibonjmbhliabGreatDoor
section
open Go.RowKit
section
variable{K:Act->World->Prop}{P:Program}{Q:Exit->Act->World->Prop}{a:Act}{i:Nat}{o op:Oper}{ops:Array Oper}{w w':World}
theorem PL(w:World)(b o:Nat)(f:TypeId)(v e:Value)(j:w.cell? ⟨b,o,none⟩=some e)(k:w.frozen? ⟨b,o,none⟩=false)(c:(P.info? f).map (·.size)=some 1)(g:v.oneCell'=true) :
  (storeVar f ⟨b,o,none⟩ v).run P w=.ok () (w.setCell ⟨b,o,none⟩ v):=by
 cases h:P.info? f with
 | none=>rw[h]at c;cases c
 | some i =>
  rw[h]at c
  simp at c;have a:(⟨b,o,none⟩:Addr).add 0=⟨b,o,none⟩:=by unfold Addr.add;split<;>simp_all
  have l:(Go.store ⟨b,o,none⟩ v .plain).run P w=.ok () (w.setCell ⟨b,o,none⟩ v):=by
   rw[run_store P w _ v .plain g,j];simp[k]
  have d:v.cells=#[v]:=by cases v<;>first|rfl|cases g
  unfold storeVar;rw[d];simp[sizeOf,typeInfo,h,c,storeCells,a,l,Result.andThen]
theorem Qe{Q:Exit->Act->World->Prop}(d:TypeId)(x y:Operand)(i:op.op=.store d x y)(b o:Nat)(v c:Value)(k:a.eval x=.pointer (some ⟨b,o,none⟩))(l:a.eval y=v)(e:w.cell? ⟨b,o,none⟩=some c)(f:w.frozen? ⟨b,o,none⟩=false)(g:(P.info? d).map (·.size)=some 1)(j:v.oneCell'=true)(h:K (a.put op.dst undef) (w.setCell ⟨b,o,none⟩ v)):op.wp P a w K Q:=by
 unfold Oper.wp execOp;simp only[i,k,l,Instr.storeAt,Instr.sureAddr,Sem.run_bind,Sem.run_pure,Result.andThen_ok,PL w b o d v c e f g j];exact h
theorem T5(n:ops[i]?=some o)(q:Region.wanted o (yielded ops a.tmps)=true)(j:o.dst=none)(e:TypeId)(x y:Operand)(d:o.op=.store e x y)(b k:Nat)(v c:Value)(r:a.eval x=.pointer (some ⟨b,k,none⟩))(s:a.eval y=v)(g:w.cell? ⟨b,k,none⟩=some c)(l:w.frozen? ⟨b,k,none⟩=false)(m:(P.info? e).map (·.size)=some 1)(p:v.oneCell'=true)(h:K a (w.setCell ⟨b,k,none⟩ v)):wpOp P ops Q i K a w :=
 wpOp_step n λt f=>by
  rw[if_pos q];exact Qe e x y d b k v c r s g l m p (f _ _ (by rw[j];exact h))
structure Only(b:Nat)(w w':World):Prop where
 os:w'.os=w.os
 tape:w'.tape=w.tape
 output:w'.output=w.output
 size:w'.heap.size=w.heap.size
 other:∀ k,k≠b->w'.heap[k]?=w.heap[k]?
theorem Only.refl(b:Nat)(w:World):Only b w w:=⟨rfl,rfl,rfl,rfl,λ_ _=>rfl⟩
theorem Only.trans{b:Nat}{a:World}(h:Only b w w')(k:Only b w' a):Only b w a :=
 ⟨k.os.trans h.os,k.tape.trans h.tape,k.output.trans h.output,k.size.trans h.size,λi c=>(k.other i c).trans (h.other i c)⟩
theorem Only.one(w:World)(b o:Nat)(v:Value):Only b w (w.setCell ⟨b,o,none⟩ v):=⟨rfl,rfl,rfl,by simp[World.setCell],λk a=>heap_setCell_other _ _ _ _ a⟩
theorem Only.store(w:World)(b o:Nat)(a:List Value):Only b w (w.setCells b o a):=by
 induction a generalizing w o with
 | nil=>exact Only.refl _ _
 | cons v r ih=>exact(Only.one w b o v).trans (ih _ _)
theorem mj{P:Program}{b:Array Oper}{S:World->Prop}{op:Oper}{a:Act}(m:Region.wanted op (yielded b a.tmps)=true)(e:TypeId)(x:Operand)(k:op.op=.load e x)(g:Nat)(n:a.eval x=.pointer (some ⟨g,0,none⟩))(c:Array Value)(t:TypeId)(fr:Nat × Nat)(d:TypeDesc)(h:∀ w,S w->w.heap[g]?=some (.cells c t fr))(l:P.underlying e=some d)(i:(match d with|.struct _|.array _ _=>true|_=>false)=true)(j:(P.info? e).map (·.size)=some c.size):YieldsIf P b S op (.agg c) a :=
 .inl ⟨m,λw f=>by
  unfold execOp;simp only[k,n,Instr.loadAt,Instr.sureAddr,Sem.run_bind,Sem.run_pure,Result.andThen_ok,run_loadVar_row w g t e c fr d (h w f) l i j]⟩
theorem kt{P:Program}{u:Func}{p s:Tmp}{j c:TypeId}(h:u.results=#[.cell p j,.cell s c])(a:Array Value)(w:World)(g i:Nat)(t v:TypeId)(f b:Array Value)(fr e:Nat × Nat)(d k:TypeDesc)(A:a.getD p undef=.pointer (some ⟨g,0,none⟩))(y:w.heap[g]?=some (.cells f t fr))(C:P.underlying j=some d)(x:(match d with|.struct _|.array _ _=>true|_=>false)=true)(z:(P.info? j).map (·.size)=some f.size)(o:a.getD s undef=.pointer (some ⟨i,0,none⟩))(m:w.heap[i]?=some (.cells b v e))(r:P.underlying c=some k)(l:(match k with|.struct _|.array _ _=>true|_=>false)=true)(n:(P.info? c).map (·.size)=some b.size) :
  (results u a).run P w=.ok (.tuple #[.agg f,.agg b]) w:=by
 have B:a[p]?.getD undef=.pointer (some ⟨g,0,none⟩):=by simpa using A
 have q:a[s]?.getD undef=.pointer (some ⟨i,0,none⟩):=by simpa using o
 simp[results,h,B,q,asAddr,run_loadVar_row w g t j f fr d y C x z,run_loadVar_row w i v c b e k m r l n]
theorem ku{P:Program}{v:Func}{p s u:Tmp}{j c:TypeId}(h:v.results=#[.cell p j,.cell s c,.tmp u])(a:Array Value)(w:World)(g i:Nat)(t x:TypeId)(f b:Array Value)(fr e:Nat × Nat)(d k:TypeDesc)(B:a.getD p undef=.pointer (some ⟨g,0,none⟩))(z:w.heap[g]?=some (.cells f t fr))(D:P.underlying j=some d)(y:(match d with|.struct _|.array _ _=>true|_=>false)=true)(A:(P.info? j).map (·.size)=some f.size)(o:a.getD s undef=.pointer (some ⟨i,0,none⟩))(m:w.heap[i]?=some (.cells b x e))(r:P.underlying c=some k)(l:(match k with|.struct _|.array _ _=>true|_=>false)=true)(n:(P.info? c).map (·.size)=some b.size) :
  (results v a).run P w=.ok (.tuple #[.agg f,.agg b,a.getD u undef]) w:=by
 have C:a[p]?.getD undef=.pointer (some ⟨g,0,none⟩):=by simpa using B
 have q:a[s]?.getD undef=.pointer (some ⟨i,0,none⟩):=by simpa using o
 simp[results,h,C,q,asAddr,run_loadVar_row w g t j f fr d z D y A,run_loadVar_row w i x c b e k m r l n]
theorem R5(t e:TypeId)(N k:Nat)(d:prog.underlying t=some (.array N e))(a:(prog.info? e).map (·.size)=some k)(b o i:Nat)(f:i<N)(w:World):(Instr.indexAt t (.pointer (some ⟨b,o,none⟩)) (.int .i64 (i:Int))).run prog w=.ok (.pointer (some ⟨b,o+k*i,none⟩)) w:=by
 have c:(Go.sizeOf e).run prog w=.ok k w:=by
  cases hq:prog.info? e with
  | none=>rw[hq]at a;cases a
  | some x =>
   rw[hq]at a
   simp at a;simp[sizeOf,typeInfo,hq,a]
 simp only[Instr.indexAt,Sem.run_bind,run_underlying d w,Result.andThen_ok,Instr.sureAddr,Sem.run_pure,asIntOf];rw[if_pos ⟨by omega,by omega⟩];simp[c,Result.andThen,Addr.add_mid,Nat.mul_comm]
theorem T4(l:ops[i]?=some o)(n:Region.wanted o (yielded ops a.tmps)=true)(g:o.dst=none)(d:TypeId)(x y:Operand)(c:o.op=.store d x y)(b k:Nat)(cells:Array Value)(p:a.eval x=.pointer (some ⟨b,k,none⟩))(q:a.eval y=.agg cells)(m:w.there b k cells.size)(j:(P.info? d).map (·.size)=some cells.size)(e:cells.all (·.oneCell')=true)(h:K a (w.setCells b k cells.toList)):wpOp P ops Q i K a w :=
 wpOp_step l λr f=>by
  rw[if_pos n];exact wp_store_mid d x y c b k cells p q m j e (f _ _ (by rw[g];exact h))
def Nh(j:Nat)(k:Int):Bool:=if j=0 then FZ k else if j=1 then Hv k else Hw k
def df(j:Nat):Int:=if j=0 then 4 else if j=1 then 1048576 else 100000
structure LWTab(w:World):Prop where
 lt:0<w.heap.size
 text:∀ k:Nat,k<10->w.cell? ⟨0,4*k,none⟩=some (.string (strOfNums (VB (k:Int))))
 has:∀ k j:Nat,k<10->j<3->w.cell? ⟨0,4*k+1+j,none⟩=some (.bool (Nh j (k:Int)))
theorem LWTab.af(h:LWTab w)(a:Bw w w'):LWTab w' :=
 ⟨j' h.lt a.size,λk b=>(a.cell (p:=⟨0,4*k,none⟩) h.lt).trans (h.text k b),λk j b c=>(a.cell (p:=⟨0,4*k+1+j,none⟩) h.lt).trans (h.has k j b c)⟩
structure LBTab(w:World):Prop where
 lt:1<w.heap.size
 uj:∀ j:Nat,j<3->w.cell? ⟨1,j,none⟩=some (.int .i64 (df j))
theorem LBTab.af(h:LBTab w)(a:Bw w w'):LBTab w' :=
 ⟨j' h.lt a.size,λj b=>(a.cell (p:=⟨1,j,none⟩) h.lt).trans (h.uj j b)⟩
theorem jW:(prog.info? 121).map (·.size)=some 4:=by kernel_rfl
theorem Xe(k:Nat)(a:k<10)(w:World):(Instr.indexAt 122 (.pointer (some ⟨0,0,none⟩)) (.int .i64 (k:Int))).run prog w=.ok (.pointer (some ⟨0,4*k,none⟩)) w:=by
 have h:=R5 122 121 10 4 underlying122 jW 0 0 k a w
 rwa [nS]at h
end
end
section
open Go.ChangeShapes Go.WideShapes Go.ChangeAt Go.RowKit
section
theorem own:ownKnob prog.godebug=none:=by kernel_rfl
theorem eA:laidOutB prog=true:=by kernel_rfl
theorem er:prog.cellsOf 3=1:=by kernel_rfl
theorem ey:prog.cellsOf 4=1:=by kernel_rfl
theorem ez:prog.cellsOf 9=1:=by kernel_rfl
theorem UV:prog.cellsOf 121=4:=by kernel_rfl
theorem UU:prog.cellsOf 119=3:=by kernel_rfl
theorem YY : prog.globalNamed "conclave/lines.words" = some 0 := by kernel_rfl
theorem SW:(prog.globals[0]?).map (·.type)=some 122:=by kernel_rfl
theorem UR : prog.globalNamed "conclave/lines.bounds" = some 1 := by kernel_rfl
theorem QH:(prog.globals[1]?).map (·.type)=some 123:=by kernel_rfl
variable{H:Type}{W:World}{a b c held:Bool}{base fuel:Nat}{cs:List Value}{p:List MemPlace}{sp:Nat->Bool}
theorem Lt{name:String}{g:Nat}{a:Array Value}(b:prog.globalNamed name=some g)(h:W.var? prog name=some a):∃ t fr,W.heap[g]?=some (.cells a t fr):=by
 unfold World.var? at h;rw[b]at h
 simp only[Option.bind_some]at h;split at h
 .rename_i c t fr hh
  simp only[Y']at h;subst h;exact⟨t,fr,hh⟩
 .cases h
theorem Tq{e:TypeId × Value->H}(h:DataW.trod e prog W base sp held fuel 119 cs=some (.agg [.lit (.bool a),.lit (.bool b),.lit (.bool c)],p)) :
  cs=[.bool a,.bool b,.bool c]:=by
 obtain⟨u,m,_,q,o,f,d⟩:=DataW.trod_array underlying119 h;rw[UU]at o
 rw[ey]at d
 match u,f,cs,o with
 | [x0,x1,x2],_,[c0,c1,c2],_ =>
  simp only[nK,oJ,n8,DataW.agg.injEq,pN,and_true]at q;obtain⟨⟨k,l,n⟩,_⟩:=q;obtain⟨a0,g,r⟩:=DataW.trod_bool underlying4 (d 0 (by omega));obtain⟨v,i,s⟩:=DataW.trod_bool underlying4 (d 1 (by omega));obtain⟨w,j,t⟩:=DataW.trod_bool underlying4 (d 2 (by omega));simp at g i j r s t;subst g i j r s t;simp at k l n;subst k l n;rfl
theorem XG{e:TypeId × Value->H}{s:List UInt8}(h:DataW.trod e prog W base sp held fuel 121 cs=some (.agg [.lit (.string s),.agg [.lit (.bool a),.lit (.bool b),.lit (.bool c)]],p)) :
  cs=[.string ⟨s.toArray⟩,.bool a,.bool b,.bool c]:=by
 obtain⟨⟨d,m⟩,⟨o,p1⟩,n,k,j,g,i⟩:=trod_struct2 underlying121 h;rw[UV]at j
 simp only[ez,UU]at g i;simp only[n8,DataW.agg.injEq,pN,and_true]at k;obtain⟨⟨rfl,rfl⟩,_⟩:=k;have l:=Tq i;obtain⟨z,f,d,_⟩:=DataW.trod_string underlying9 g
 match cs,j with
 | [c0,c1,c2,c3],_ =>
  simp at f l d;obtain⟨d,_⟩:=d;subst f d;obtain⟨rfl,rfl,rfl⟩:=l;rfl
theorem UP{l:List Value}{a:Nat}{b c d e:Value}(h:(l.drop a).take 4=[b,c,d,e]):l[a]?=some b/\l[a+1]?=some c/\l[a+2]?=some d/\l[a+3]?=some e:=by
 have g:∀ i,i<4->l[a+i]?=[b,c,d,e][i]?:=λi f=>by rw[<- h,List.getElem?_take_of_lt f,nY]
 exact⟨g 0 (by omega),g 1 (by omega),g 2 (by omega),g 3 (by omega)⟩
theorem Zy(k:Nat)(a:k<10){l:List (DataW H)}(h:(Rows.laid_conclave_lines_words:DataW H)=.agg l) :
  l[k]?=some (.agg [.lit (.string ((VB (k:Int)).map λn=>UInt8.ofNat n.toNat)),.agg [.lit (.bool (Nh 0 (k:Int))),.lit (.bool (Nh 1 (k:Int))),.lit (.bool (Nh 2 (k:Int)))]]):=by
 simp only[Rows.laid_conclave_lines_words,DataW.agg.injEq]at h;subst h
 match k,a with
 | 0,_=>rfl
 | 1,_=>rfl
 | 2,_=>rfl
 | 3,_=>rfl
 | 4,_=>rfl
 | 5,_=>rfl
 | 6,_=>rfl
 | 7,_=>rfl
 | 8,_=>rfl
 | 9,_=>rfl
theorem Zx(k:Nat)(a:k<3){l:List (DataW H)}(h:(Rows.laid_conclave_lines_bounds:DataW H)=.agg l):l[k]?=some (.lit (.int .i64 (df k))):=by
 simp only[Rows.laid_conclave_lines_bounds,DataW.agg.injEq]at h;subst h
 match k,a with
 | 0,_=>rfl
 | 1,_=>rfl
 | 2,_=>rfl
theorem fT{r : List (String × DataW Unit)}{M : List MemPlace}(h : DataW.LaidVars prog W (("conclave/lines.bounds", Rows.laid_conclave_lines_bounds) :: ("conclave/lines.words", Rows.laid_conclave_lines_words) :: r) M) : LWTab W ∧ LBTab W := by
 obtain⟨N,S,w,x,P,Q,B,D,b,z,⟨O,T,f,y,p1,R,C,E,c,A,_,_⟩,_⟩:=h;obtain rfl:=nQ (UR.symm.trans B);obtain rfl:=nQ (QH.symm.trans D);obtain rfl:=nQ (YY.symm.trans C);obtain rfl:=nQ (SW.symm.trans E);constructor
 .obtain⟨xs,m,_,hx,hl,hxl,hb⟩:=DataW.trod_array underlying122 A;rw[UV]at hb
  simp only[n8]at hx;obtain⟨t,fr,q⟩:=Lt YY c;have o:∀ k:Nat,k<10->(f.toList.drop (k*4)).take 4=[.string (strOfNums (VB (k:Int))),.bool (Nh 0 (k:Int)),.bool (Nh 1 (k:Int)),.bool (Nh 2 (k:Int))]:=λk o=>by
   have g:=Zy k o hx.1;rw[nR]at g
   obtain⟨⟨d,p⟩,e,a⟩:=oM.1 g;have l:=hb k o;rw[e]at l
   simp only at a;subst a;exact XG l
  have s:∀ (i:Nat) (v:Value),f.toList[i]?=some v->W.cell? ⟨0,i,none⟩=some v:=λi v L=>by
   refine(cell_of_row _ _ i _ _ _ q).trans ?_
   rwa [Array.getElem?_toList]at L
  refine⟨(Q'.1 q).1,λk h=>?_,λk j h u=>?_⟩
  .rw[pZ];exact s _ _ (UP (o k h)).1
  .rw[pZ];obtain⟨_,I,J,K⟩:=UP (o k h)
   match j,u with
   | 0,_=>exact s _ _ I
   | 1,_=>exact s _ _ J
   | 2,_=>exact s _ _ K
 .obtain⟨xs,m,_,hx,hl,hxl,hb⟩:=DataW.trod_array underlying123 z;rw[er]at hb
  simp only[n8]at hx;obtain⟨t,fr,q⟩:=Lt UR b;refine⟨(Q'.1 q).1,λj u=>(cell_of_row _ _ j _ _ _ q).trans ?_⟩;have g:=Zx j u hx.1;rw[nR]at g
  obtain⟨⟨d,p⟩,e,a⟩:=oM.1 g;have l:=hb j u;rw[e]at l
  obtain⟨n,H,G,_⟩:=DataW.trod_int underlying3 l;simp only[n8]at G;obtain⟨rfl,_⟩:=G;simp at a;subst a;have F:((w.toList.drop (j*1)).take 1)[0]?=some (.int .i64 (df j)):=by rw[H];rfl
  rw[List.getElem?_take_of_lt (by omega),nY,Array.getElem?_toList,Nat.mul_one,py]at F
  exact F
def Sn:Array Value:=((List.range 10).flatMap λk=>[.string (strOfNums (VB (k:Int))),.bool (Nh 0 (k:Int)),.bool (Nh 1 (k:Int)),.bool (Nh 2 (k:Int))]).toArray
def Qo:Array Value:=((List.range 3).map λk=>.int .i64 (df k)).toArray
def Zw(cs:Array Value):Obj->Obj
 | .cells _ t frozen=>.cells cs t frozen
 | o=>o
end
end
section
open Go.RowKit
section
def cmA(k c s n v:Int):Array Value:=#[.int .i64 k,.int .i64 c,.int .i64 s,.int .i64 n,.int .i64 v]
def tkA(c r u:Int):Array Value:=#[.int .i64 c,.int .i64 r,.int .i64 u]
def InC(c s n v:Int):Prop:=0<=c/\c<=7/\0<=s/\s<=1048576/\0<=n/\n<=7/\0<=v/\v<=1073741824
instance (c s n v:Int):Decidable (InC c s n v):=by unfold InC;exact inferInstance
def Bo(k c s n v:Int):Int :=
 if ¬ (0<=k/\k<=3)then 4
 else if k=0 then(if c=0/\s=0/\n=0/\v=0 then 0 else 3)
 else if ¬ InC c s n v then 2
 else if 1<k/\v≠0 then 3
 else 0
variable{c k n now r s tc tr tu u v:Int}{g:Nat}{w w':World}{ws:List (BitVec 32)}
theorem VT(h:¬ (0<=k/\k<=3)):Bo k c s n v=4:=if_pos h
theorem VU(h:c=0/\s=0/\n=0/\v=0):Bo 0 c s n v=0:=by
 unfold Bo;rw[if_neg (by omega),if_pos rfl,if_pos h]
theorem Sz(h:¬ (c=0/\s=0/\n=0/\v=0)):Bo 0 c s n v=3:=by
 unfold Bo;rw[if_neg (by omega),if_pos rfl,if_neg h]
theorem S1(h:1<=k/\k<=3)(a:¬ InC c s n v):Bo k c s n v=2:=by
 unfold Bo;rw[if_neg (by omega),if_neg (by omega),if_pos a]
theorem VS(h:2<=k/\k<=3)(a:InC c s n v)(b:v≠0):Bo k c s n v=3:=by
 unfold Bo;rw[if_neg (by omega),if_neg (by omega),if_neg (λg=>g a),if_pos ⟨by omega,b⟩]
theorem UF(h:1<=k/\k<=3)(a:InC c s n v)(b:k=1\/v=0):Bo k c s n v=0:=by
 unfold Bo;rw[if_neg (by omega),if_neg (by omega),if_neg (λg=>g a),if_neg (by omega)]
theorem Fj(h:Bo k c s n v=0):(0<=k/\k<=3)/\InC c s n v:=by
 unfold Bo at h;split at h
 .omega
 .rename_i h1
  split at h
  .split at h
   .rename_i h3
    exact⟨by omega,by unfold InC;omega⟩
   .omega
  .split at h
   .omega
   .rename_i h3
    exact⟨by omega,Classical.not_not.1 h3⟩
def DX(k c s n v:Int):List Int:=Ad k++Ad c++Ad s++Ad n++Ad v
theorem EC(k c s n v:Int):(DX k c s n v).length=20:=rfl
theorem Oj(k c s n v:Int):∀ x∈DX k c s n v,0<=x/\x<256:=by
 intro x hx;rcases U'.1 hx with hx|hx
 .rcases U'.1 hx with hx|hx
  .rcases U'.1 hx with hx|hx
   .rcases U'.1 hx with hx|hx
    .exact Bd _ x hx
    .exact Bd _ x hx
   .exact Bd _ x hx
  .exact Bd _ x hx
 .exact Bd _ x hx
def Ac(l:List Int)(i:Nat):Int:=16777216*l.getD i 0+65536*l.getD (i+1) 0+256*l.getD (i+2) 0+l.getD (i+3) 0
theorem BP(n:Int)(a:0<=n)(b:n<4294967296)(l m:List Int):Ac (l++(Ad n++m)) l.length=n:=by
 have e:∀ j,(l++(Ad n++m)).getD (l.length+j) 0=(Ad n++m).getD j 0:=by
  intro j;simp[List.getD,List.getElem?_append_right]
 unfold Ac;rw[show l.length=l.length+0 from rfl,oe,oe,oe,e,e,e,e];show 16777216*(n/16777216%256)+65536*(n/65536%256)+256*(n/256%256)+n%256=n;omega
theorem WF(k c s n v:Int)(a:0<=k)(b:k<4294967296):Ac (DX k c s n v) 0=k:=by
 have h:=BP k a b [] (Ad c++Ad s++Ad n++Ad v);exact h
theorem WG(k c s n v:Int)(a:0<=c)(b:c<4294967296):Ac (DX k c s n v) 4=c:=by
 have h:=BP c a b (Ad k) (Ad s++Ad n++Ad v);exact h
theorem WH(k c s n v:Int)(a:0<=s)(b:s<4294967296):Ac (DX k c s n v) 8=s:=by
 have h:=BP s a b (Ad k++Ad c) (Ad n++Ad v);exact h
theorem Tw(k c s n v:Int)(a:0<=n)(b:n<4294967296):Ac (DX k c s n v) 12=n:=by
 have h:=BP n a b (Ad k++Ad c++Ad s) (Ad v);exact h
theorem Tx(k c s n v:Int)(a:0<=v)(b:v<4294967296):Ac (DX k c s n v) 16=v:=by
 have h:=BP v a b (Ad k++Ad c++Ad s++Ad n) [];exact h
def Cx(l:List Int):Int:=if l.length≠20 then 1 else Bo (Ac l 0) (Ac l 4) (Ac l 8) (Ac l 12) (Ac l 16)
def KJ(l:List Int):Array Value:=if Cx l=0 then cmA (Ac l 0) (Ac l 4) (Ac l 8) (Ac l 12) (Ac l 16)else cmA 0 0 0 0 0
def Dy(c r u:Int):Prop:=(0<=c/\c<=7)/\(0<=r/\r<=7)/\0<=u/\u<=1048576
instance (c r u:Int):Decidable (Dy c r u):=by unfold Dy;exact inferInstance
def NW(c r u:Int):Int:=if Dy c r u then 0 else 2
theorem Lr(h:Dy c r u):NW c r u=0:=if_pos h
theorem Vz(h:¬ Dy c r u):NW c r u=2:=if_neg h
def OZ(k r:Int):Prop:=(k=1/\r/2%2=1)\/(k=2/\r%2=1)\/(k=3/\r/4=1)
instance (k r:Int):Decidable (OZ k r):=by unfold OZ;exact inferInstance
def Fg(tc tr tu k c s n v now:Int):Int :=
 if ¬ Dy tc tr tu then 2
 else if Bo k c s n v≠0 then Bo k c s n v
 else if ¬ (OZ k tr/\c=tc)then 11
 else if ¬ (0<=now/\now<=tu)then 10
 else 0
theorem XV(h:¬ Dy tc tr tu):Fg tc tr tu k c s n v now=2:=if_pos h
theorem XU(h:Dy tc tr tu)(a:Bo k c s n v≠0):Fg tc tr tu k c s n v now=Bo k c s n v:=by
 unfold Fg;rw[if_neg (λg=>g h),if_pos a]
theorem Lx(h:Dy tc tr tu)(a:Bo k c s n v=0)(b:¬ (OZ k tr/\c=tc)):Fg tc tr tu k c s n v now=11:=by
 unfold Fg;rw[if_neg (λg=>g h),if_neg (λg=>g a),if_pos b]
theorem VG(h:Dy tc tr tu)(a:Bo k c s n v=0)(b:OZ k tr/\c=tc)(d:¬ (0<=now/\now<=tu)):Fg tc tr tu k c s n v now=10:=by
 unfold Fg;rw[if_neg (λg=>g h),if_neg (λg=>g a),if_neg (λg=>g b),if_pos d]
theorem cY(h:Dy tc tr tu)(a:Bo k c s n v=0)(b:OZ k tr/\c=tc)(d:0<=now/\now<=tu):Fg tc tr tu k c s n v now=0:=by
 unfold Fg;rw[if_neg (λg=>g h),if_neg (λg=>g a),if_neg (λg=>g b),if_neg (λg=>g d)]
def La(c r u:Int):List Int:=c::r::Ad u
theorem EQ(c r u:Int):(La c r u).length=6:=rfl
theorem OR(h:Dy c r u):∀ x∈La c r u,0<=x/\x<256:=by
 obtain⟨a,b,d⟩:=h;intro x hx;rcases nf.1 hx with rfl|hx
 .omega
 rcases nf.1 hx with rfl|hx
 .omega
 exact Bd _ x hx
theorem UM(a b c d e f g h i j:Int):∀ w,(binOp .eql 49 (.agg #[.int .i64 a,.int .i64 b,.int .i64 c,.int .i64 d,.int .i64 e]) (.agg #[.int .i64 f,.int .i64 g,.int .i64 h,.int .i64 i,.int .i64 j])).run prog w=.ok (.bool (decide (a=f/\b=g/\c=h/\d=i/\e=j))) w:=by
 intro w;rw[run_eql_struct,run_equalIn_agg w 9999 _ _ _ (by kernel_rfl) (by kernel_rfl)];unfold Program.fieldsOf;rw[underlying49];have k:=underlying3;simp[Op.eqFields,go_sem,k]
 repeat' split
 all_goals simp_all
theorem eL(a b c d e f g h i j:Int):∀ w,(binOp .neq 49 (.agg #[.int .i64 a,.int .i64 b,.int .i64 c,.int .i64 d,.int .i64 e]) (.agg #[.int .i64 f,.int .i64 g,.int .i64 h,.int .i64 i,.int .i64 j])).run prog w=.ok (.bool (!decide (a=f/\b=g/\c=h/\d=i/\e=j))) w:=by
 intro w;rw[run_neq_struct,run_equalIn_agg w 9999 _ _ _ (by kernel_rfl) (by kernel_rfl)];unfold Program.fieldsOf;rw[underlying49];have k:=underlying3;simp[Op.eqFields,go_sem,k]
 repeat' split
 all_goals simp_all
theorem Fi{a:TypeId}{fr:Nat × Nat}(h:w.heap[g]?=some (.cells (cmA k c s n v) a fr)) :
  w.cell? ⟨g,0,none⟩=some (.int .i64 k)/\w.cell? ⟨g,1,none⟩=some (.int .i64 c)/\w.cell? ⟨g,2,none⟩=some (.int .i64 s)/\w.cell? ⟨g,3,none⟩=some (.int .i64 n)/\w.cell? ⟨g,4,none⟩=some (.int .i64 v) :=
 ⟨cell_of_row _ _ 0 _ _ _ h,cell_of_row _ _ 1 _ _ _ h,cell_of_row _ _ 2 _ _ _ h,cell_of_row _ _ 3 _ _ _ h,cell_of_row _ _ 4 _ _ _ h⟩
theorem eh(c s n v:Int):InC c s n v↔(((0<=c/\c<=7)/\(0<=s/\s<=1048576))/\(0<=n/\n<=7))/\(0<=v/\v<=1073741824):=by unfold InC;omega
structure Bc(w:World)(g:Nat)(k c s n v:Int):Prop where
 lt:g<w.heap.size
 row:w.heap[g]?=some (.cells (cmA k c s n v) 49)
theorem Bc.made(w:World)(k c s n v:Int):Bc (w.alloc (.cells (cmA k c s n v) 49)) w.heap.size k c s n v:=⟨by simp,heap_alloc_new _ _⟩
theorem Bc.af(h:Bc w g k c s n v)(a:Bw w w'):Bc w' g k c s n v :=
 ⟨j' h.lt a.size,(a.block g h.lt).trans h.row⟩
theorem Ha(k c s n v:Int):(prog.info? 49).map (·.size)=some (cmA k c s n v).size:=by show _=some 5;kernel_rfl
def O9:List Int:=[0,0,0,2,7,1073741824,1,7,0,4,7,0]
structure NTab(w:World):Prop where
 lt:2<w.heap.size
 cell:∀ i,i<12->w.cell? ⟨2,i,none⟩=some (.int .i64 (O9.getD i 0))
theorem NTab.af(h:NTab w)(a:Bw w w'):NTab w' :=
 ⟨j' h.lt a.size,λi b=>(a.cell (p:=⟨2,i,none⟩) h.lt).trans (h.cell i b)⟩
theorem Fy(n g:Int)(w:World) :
  Calls prog 111 #[.int .i64 n,.int .i64 g] w λe w'=>e=.returned (.bool (decide (0<=n/\n<=g)))/\w'=w:=by
 by_cases a:0<=n
 .by_cases h1:n<=g
  .rw[M' ⟨a,h1⟩];go_enter func111,ntmps111
   go_wp2
   go_ret;exact⟨Am (by simp),rfl⟩
  .rw[D' (by omega)];go_enter func111,ntmps111
   go_wp2
   go_ret;exact⟨Am (by simp),rfl⟩
 .rw[D' (by omega)];go_enter func111,ntmps111
  go_wp2
  go_ret;exact⟨Am (by simp),rfl⟩
theorem Jt{g:Int}{b:Bool}(h:Hid (decide (0<=n/\n<=g)=b))(w:World) :
  Calls prog 111 #[.int .i64 n,.int .i64 g] w λe w'=>e=.returned (.bool b)/\w'=w:=by
 rw[<- h.out];exact Fy n g w
theorem Te(k:Int)(w:World) :
  Calls prog 115 #[.int .i64 k] w λe w'=>e=.returned (.bool (decide (0<=k/\k<=3)))/\w'=w:=by
 go_enter func115,ntmps115
 go_wp2_with fail
 refine(Fy k 3 _).mono ?_;rintro e a ⟨rfl,rfl⟩;go_wp2
 go_ret;exact⟨Am (by simp),rfl⟩
theorem ZW(c s n v:Int)(w:World) :
  Calls prog 116 #[.agg (cmA 0 c s n v)] w λe w'=>e=.returned (.int .i64 (Bo 0 c s n v))/\Bw w w':=by
 have a:Bw w (w.alloc (.cells (cmA 0 c s n v) 49)):=(Below.refl _ _).alloc (A' _) _;simp only[cmA]at a ⊢;have b:=eL 0 c s n v 0 0 0 0 0;by_cases h:c=0/\s=0/\n=0/\v=0
 .have HE:Hid (0=Bo 0 c s n v):=(VU h).symm;rw[M' ⟨rfl,h⟩]at b
  clear h;go_enter func116,ntmps116
  go_wp2
  go_ret;exact⟨BM HE.out,a⟩
 .have HE:Hid (3=Bo 0 c s n v):=(Sz h).symm;rw[D' (λg=>h g.2)]at b
  clear h;go_enter func116,ntmps116
  go_wp2
  go_ret;exact⟨BM HE.out,a⟩
theorem NTab.name(h:NTab w)(k:Nat)(a:1<=k)(b:k<=3):w.cell? ⟨2,k*3+1,none⟩=some (.int .i64 7):=by
 rcases(by omega:k=1\/k=2\/k=3)with rfl|rfl|rfl
 .exact h.cell 4 (by omega)
 .exact h.cell 7 (by omega)
 .exact h.cell 10 (by omega)
theorem Pv(k c s n v:Int)(w:World)(r:1<=k/\k<=3)(p:NTab w) :
  Calls prog 117 #[.agg (cmA k c s n v)] w λe w'=>e=.returned (.bool (decide (InC c s n v)))/\Bw w w':=by
 have f:Bw w (w.alloc (.cells (cmA k c s n v) 49)):=(Below.refl _ _).alloc (A' _) _;have l:=(p.af f).name;have o:=heap_alloc_new w (.cells (cmA k c s n v) 49);simp only[cmA]at f l o ⊢;obtain⟨m,rfl⟩:=nL (show 0<=k by omega);replace l:=l m (by omega) (by omega);have y:(0:Int)<=(m:Int):=by omega
 have z:(m:Int)<4:=by omega
 have A:m<4:=by omega
 clear r p;have a:Hid (InC c s n v↔_):=eh c s n v;generalize q:w.alloc (.cells #[.int .i64 (m:Int),.int .i64 c,.int .i64 s,.int .i64 n,.int .i64 v] 49)=W at f l o;go_enter func117,ntmps117
 go_wp2_with fail
 clear q;obtain⟨c0,c1,t,u,x⟩:=Fi o;clear o;by_cases d:0<=c/\c<=7
 .have U1:Hid (decide _=true):=M' d;by_cases h:0<=s/\s<=1048576
  .have U2:Hid (decide _=true):=M' h;by_cases i:0<=n/\n<=7
   .have U3:Hid (decide _=true):=M' i;by_cases j:0<=v/\v<=1073741824
    .have U4:Hid (decide _=true):=M' j;have b:Hid (true=decide (InC c s n v)):=(M' (a.out.2 ⟨⟨⟨d,h⟩,i⟩,j⟩)).symm;clear d h i j a;go_quiet ((go_at_call 111;exact Calls.quiet_of_same (Jt (by assumption) _)))
     go_wp2
     go_ret;exact⟨Am b.out,Aq f nq⟩
    .have U4:Hid (decide _=false):=D' j;have b:Hid (false=decide (InC c s n v)):=(D' (λG=>j ((λg=>g.2) (a.out.1 G)))).symm;clear d h i j a;go_quiet ((go_at_call 111;exact Calls.quiet_of_same (Jt (by assumption) _)))
     go_wp2
     go_ret;exact⟨Am b.out,Aq f nq⟩
   .have U3:Hid (decide _=false):=D' i;have b:Hid (false=decide (InC c s n v)):=(D' (λG=>i ((λg=>g.1.2) (a.out.1 G)))).symm;clear d h i a;go_quiet ((go_at_call 111;exact Calls.quiet_of_same (Jt (by assumption) _)))
    go_wp2
    go_ret;exact⟨Am b.out,Aq f nq⟩
  .have U2:Hid (decide _=false):=D' h;have b:Hid (false=decide (InC c s n v)):=(D' (λG=>h ((λg=>g.1.1.2) (a.out.1 G)))).symm;clear d h a;go_quiet ((go_at_call 111;exact Calls.quiet_of_same (Jt (by assumption) _)))
   go_wp2
   go_ret;exact⟨Am b.out,Aq f nq⟩
 .have U1:Hid (decide _=false):=D' d;have b:Hid (false=decide (InC c s n v)):=(D' (λG=>d ((λg=>g.1.1.1) (a.out.1 G)))).symm;clear d a;go_quiet ((go_at_call 111;exact Calls.quiet_of_same (Jt (by assumption) _)))
  go_wp2
  go_ret;exact⟨Am b.out,Aq f nq⟩
theorem fy{a b:Int}(h:a=b):Ending.returned (.int .u32 a)=.returned (.int .u32 b):=by rw[h]
theorem km(n:Nat)(a:1<=n)(b:n<=31):bits .and .u64 (IntKind.u64.wrap (-(n:Int))) 31=32-(n:Int):=by
 have e:IntKind.u64.wrap (-(n:Int))=((18446744073709551616-n:Nat):Int):=by rw[IntKind.wrap_u64];omega
 rw[e,show(31:Int)=((31:Nat):Int)from rfl,u64_and_nat _ _ (by omega) (by omega),nat_mask5];omega
theorem aX(x:BitVec 32)(n:Nat)(w:World)(a:1<=n)(b:n<=31) :
  Calls prog 200 #[.int .u32 (uw x),.int .i64 (-(n:Int))] w λe w'=>e=.returned (.int .u32 (uw (x.rotateRight n)))/\w'=w:=by
 have c:=DV x;have d:=cG x;have f:=km n a b;go_enter func200,ntmps200
 go_wp2
 go_ret;exact⟨fy (jP x n a b),rfl⟩
theorem Xa(x:BitVec 32)(n:Nat)(w:World)(a:1<=n)(b:n<=31) :
  Calls prog 187 #[.int .u32 (uw x),.int .i64 (n:Int)] w λe w'=>e=.returned (.int .u32 (uw (x.rotateRight n)))/\w'=w:=by
 go_enter func187,ntmps187
 go_wp2_with fail
 refine(aX x n w a b).mono ?_;rintro e c ⟨rfl,rfl⟩;go_wp2
 go_ret;exact⟨rfl,rfl⟩
theorem MG(x:BitVec 32)(k:Int)(w:World)(a:1<=k)(b:k<=31) :
  Calls prog 187 #[.int .u32 (uw x),.int .i64 k] w λe w'=>e=.returned (.int .u32 (uw (x.rotateRight k.toNat)))/\w'=w:=by
 obtain⟨n,rfl⟩:∃ n:Nat,k=n:=⟨k.toNat,by omega⟩;exact Xa x n w (by omega) (by omega)
theorem ML(x:BitVec 32)(h:uw x<256):uw x*16777216=uw (x <<< 24)/\uw x*65536=uw (x <<< 16)/\uw x*256=uw (x <<< 8):=by
 have d:=DV x;have b:=GQ x 24;have a:=GQ x 16;have c:=GQ x 8;rw[<- b,<- a,<- c];refine⟨?_,?_,?_⟩
 .rw[show(2:Int)^24=16777216 from rfl];omega
 .rw[show(2:Int)^16=65536 from rfl];omega
 .rw[show(2:Int)^8=256 from rfl];omega
theorem BV{B:Nat}{a:World}(h:Below B a w)(c:B<=g)(b:Array Value):Below B a (w.setRow g b) :=
 h.trans ⟨rfl,rfl,rfl,by simp,λk d=>setRow_other w g k b (by omega)⟩
theorem Xi(x:BitVec 32):bits .xor .u32 (bits .xor .u32 (uw (x.rotateRight 7)) (uw (x.rotateRight 18))) (uw x/8)=uw (j9 x):=by rw[gf,DA,DA];rfl
theorem Xj(x:BitVec 32):bits .xor .u32 (bits .xor .u32 (uw (x.rotateRight 17)) (uw (x.rotateRight 19))) (uw x/1024)=uw (jA x):=by rw[cI,DA,DA];rfl
theorem Oc(h:w.heap[g]?=some (.cells (AA ws) 248 (0,0)))(k:Nat)(x:BitVec 32) :
  (w.setCell ⟨g,k,none⟩ (.int .u32 (uw x))).heap[g]?=some (.cells (AA (ws.set k x)) 248 (0,0)):=by
 rw[heap_setCell_same _ _ _ _ _ _ h,Nl]
theorem PN(v:Value)(l:List Int)(w:World)(h:Sl w v l)(t:l.length=64) :
  Calls prog 172 #[v] w λe w'=>e=.returned (.agg (AA (OL l)))/\Bw w w':=by
 obtain⟨⟨a,O,rfl,Q,T,P⟩,D,g⟩:=h;rcases P with rfl|⟨b,off,rfl,hb,hcell⟩
 .simp at t
 rw[t]at Q D hcell ⊢
 have W:Hid (l.length=64):=t;have q:Hid (∀ i,i<64->w.cell? ⟨b,off+i,none⟩=some (.int .u8 (uw (CK (l.getD i 0))))):=λi C=>by rw[Ls _ (Aj g i)];exact hcell i C
 have o:Hid (∀ i,uw (CK (l.getD i 0))<256):=λi=>by rw[Ls _ (Aj g i)];exact(Aj g i).2
 clear t T hcell g;go_enter func172,ntmps172
 go_wp2_with fail
 go_loopw [10] (λi wr=>∃ k:Nat,k<=16/\i=.int .i64 k/\wr.heap[w.heap.size+1]?=some (.cells (AA (KS l k)) 248 (0,0))/\wr.heap[w.heap.size]?=some (.cells (AA (KS l 0)) 248 (0,0))/\Bw w wr) (λi _=>16-(intOf i).toNat)
 case atStart=>exact⟨0,by omega,rfl,heap_alloc2_new _ _ _,heap_alloc2_old _ _ _,((Below.refl _ _).alloc (A' _) _).alloc (by simp) _⟩
 case round =>
  obtain⟨k,S,rfl,f,m,c⟩:=hrel;by_cases H:k<16
  .have hz:=Cb (KS l k) k (by rw[GI];omega);have R:wr.cell? ⟨w.heap.size+1,k,none⟩=some (.int .u32 (uw ((KS l k).getD k 0#32))):=(cell_of_row wr _ k _ _ _ f).trans hz;have B:wr.frozen? ⟨w.heap.size+1,k,none⟩=false:=frozen_of_row wr _ k _ _ f;have c0:=(c.cell (p:=⟨b,off+(4*k),none⟩) hb).trans (q.out (4*k) (by omega));have c1:=(c.cell (p:=⟨b,off+(4*k+1),none⟩) hb).trans (q.out (4*k+1) (by omega));have A:=(c.cell (p:=⟨b,off+(4*k+2),none⟩) hb).trans (q.out (4*k+2) (by omega));have M:=(c.cell (p:=⟨b,off+(4*k+3),none⟩) hb).trans (q.out (4*k+3) (by omega));have J:=o.out (4*k);have K:=o.out (4*k+1);have L:=o.out (4*k+2);have U:=o.out (4*k+3);obtain⟨u,j,d⟩:∃ u,Hid (u=Ux l k)/\Hid (KS l (k+1)=(KS l k).set k u):=⟨_,rfl,rfl⟩;unfold Ux at j;generalize CK (l.getD (4*k) 0)=x0 at c0 J j;generalize CK (l.getD (4*k+1) 0)=x1 at c1 K j;generalize CK (l.getD (4*k+2) 0)=x2 at A L j;generalize CK (l.getD (4*k+3) 0)=x3 at M U j;obtain⟨y0,s0,E⟩:∃ y,uw x0*16777216=uw y/\x0 <<< 24=y:=⟨_,(ML x0 J).1,rfl⟩;obtain⟨y1,Y,F⟩:∃ y,uw x1*65536=uw y/\x1 <<< 16=y:=⟨_,(ML x1 K).2.1,rfl⟩;obtain⟨y2,Z,G⟩:∃ y,uw x2*256=uw y/\x2 <<< 8=y:=⟨_,(ML x2 L).2.2,rfl⟩;rw[E,F,G]at j
   clear E F G;have z0:=DV x0;have z1:=DV x1;have z2:=DV x2;have z3:=DV x3;clear hz;go_wp2_with fail
   refine Av 35 (by kernel_rfl) (by kernel_rfl) ?_;simp only[ou,oF,oH,pg]
   repeat (go_big_quiet_step (fail))
   refine wpQuiet_nil ?_;go_wp2
   rw[KC,KC,KC,<- j.out];go_roundw
   case rel=>exact⟨k+1,by omega,by go_num,by rw[d.out];exact Oc f k u,(heap_setCell_other _ _ _ _ (by simp)).trans m,(c.setCell (by simp) _).drew⟩
   case measure=>simp[intOf];omega
  .have HK:Hid (k=16):=by unfold Hid;omega
   clear q o;go_wp2_with fail
   go_loopw [5] (λi wr=>∃ k:Nat,k<=48/\i=.int .i64 (16+(k:Int))/\wr.heap[w.heap.size+1]?=some (.cells (AA (Gi l k)) 248 (0,0))/\wr.heap[w.heap.size]?=some (.cells (AA (KS l 0)) 248 (0,0))/\Bw w wr) (λi _=>64-(intOf i).toNat)
   case atStart=>exact⟨0,by omega,rfl,by rw[HK.out]at f;exact f,m,c⟩
   case round =>
    clear f m c HK;obtain⟨k,S,rfl,f,m,c⟩:=hrel;by_cases I:k<48
    .have hcell:∀ i,i<64->wr.cell? ⟨w.heap.size+1,i,none⟩=some (.int .u32 (uw ((Gi l k).getD i 0#32))):=λi C=>(cell_of_row wr _ i _ _ _ f).trans (Cb (Gi l k) i (by rw[EL];exact C));have z:=hcell k (by omega);have x:=hcell (16+k-15) (by omega);have N:=hcell (16+k-7) (by omega);have A:=hcell (16+k-2) (by omega);have c0:=hcell (16+k) (by omega);have B:wr.frozen? ⟨w.heap.size+1,16+k,none⟩=false:=frozen_of_row wr _ (16+k) _ _ f;have d:Hid (Gi l (k+1)=(Gi l k).set (16+k) (ZV (Gi l k) (16+k))):=rfl;unfold ZV at d;have r:16+k-16=k:=by omega
     rw[r]at d
     generalize (Gi l k).getD k 0#32=x16 at z d;generalize (Gi l k).getD (16+k-15) 0#32=x15 at x d;generalize (Gi l k).getD (16+k-7) 0#32=x7 at N d;generalize (Gi l k).getD (16+k-2) 0#32=x2 at A d;clear hcell r;have V:=DV x15;have X:=DV x2;go_wp2_with fail
     go_quiet (fail)
     go_wp2_with (go_at_call 187;refine(MG _ _ _ (by omega) (by omega)).mono ?_;rintro e w' ⟨rfl,rfl⟩)
     rw[Xi,Xj];generalize j9 x15=t0 at d;generalize jA x2=t1 at d;refine Av 15 (by kernel_rfl) (by kernel_rfl) ?_;simp only[ou,oF,oH,pg]
     repeat (go_big_quiet_step (fail))
     refine wpQuiet_nil ?_;go_wp2
     go_roundw
     case rel =>
      rw[V4];exact⟨k+1,by omega,by go_num,by rw[d.out];exact Oc (w:=wr.drewN (nq+1)) f (16+k) _,(heap_setCell_other _ _ _ _ (by simp)).trans m,(Aq c _).setCell (by simp) _⟩
     case measure=>simp[intOf];omega
    .have HK:Hid (k=48):=by unfold Hid;omega
     have n:(prog.info? 248).map (·.size)=some (AA (Gi l k)).size:=by rw[Bn,EL];kernel_rfl
     have s:(AA (Gi l k)).all (·.oneCell')=true:=by simp[AA,Value.oneCell']
     go_wp2_with (first|(refine wpList_load_row rfl 248 _ rfl (w.heap.size+1) rfl 248 _ (0,0) _ f underlying248 rfl n ?_)|(refine wpList_store_row rfl 248 _ _ rfl w.heap.size _ rfl rfl 248 _ m n (by rw[Bn,Bn,GI,EL]) s ?_))
     refine bodyPost_ret (v:=.agg (AA (Gi l k))) (results_cell_row rfl _ _ w.heap.size 248 _ (0,0) _ rfl (setRow_heap wr w.heap.size _ _ 248 _ m) underlying248 rfl n) rfl ⟨by rw[HK.out];rfl,BV c (A' _) _⟩
def AJ(w:World):Prop:=3<w.heap.size/\∀ i,i<64->w.cell? ⟨3,i,none⟩=some (.int .u32 (uw (kAt i)))
theorem AJ.af(h:AJ w)(a:Bw w w'):AJ w' :=
 ⟨j' h.1 a.size,λi b=>(a.cell (p:=⟨3,i,none⟩) h.1).trans (h.2 i b)⟩
theorem gd(x:BitVec 32):bits .xor .u32 IntKind.u32.max (uw x)=uw (~~~x):=by
 have e:IntKind.u32.max=uw (BitVec.allOnes 32):=rfl;rw[e,DA,Ut,BitVec.allOnes_xor]
theorem Qt(e f g:BitVec 32):bits .xor .u32 (bits .and .u32 (uw e) (uw f)) (bits .and .u32 (bits .xor .u32 IntKind.u32.max (uw e)) (uw g))=uw (Ss e f g):=by
 rw[gd,Ni,Ni,DA];rfl
theorem WD(a b c:BitVec 32):bits .xor .u32 (bits .xor .u32 (bits .and .u32 (uw a) (uw b)) (bits .and .u32 (uw a) (uw c))) (bits .and .u32 (uw b) (uw c))=uw (most a b c):=by
 rw[Ni,Ni,Ni,DA,DA];rfl
theorem VJ(x:BitVec 32):bits .xor .u32 (bits .xor .u32 (uw (x.rotateRight 6)) (uw (x.rotateRight 11))) (uw (x.rotateRight 25))=uw (kq x):=by
 rw[DA,DA];rfl
theorem VI(x:BitVec 32):bits .xor .u32 (bits .xor .u32 (uw (x.rotateRight 2)) (uw (x.rotateRight 13))) (uw (x.rotateRight 22))=uw (ko x):=by
 rw[DA,DA];rfl
theorem gb(s:St)(k w:BitVec 32):((uw s.h+bits .xor .u32 (bits .xor .u32 (uw (s.e.rotateRight 6)) (uw (s.e.rotateRight 11))) (uw (s.e.rotateRight 25))+uw (Ss s.e s.f s.g)+uw k)%(4294967296:Int)+uw w)%(4294967296:Int)=uw (upS s k w):=by
 rw[VJ,V4,Dv];rfl
theorem VW(s:St):(bits .xor .u32 (bits .xor .u32 (uw (s.a.rotateRight 2)) (uw (s.a.rotateRight 13))) (uw (s.a.rotateRight 22))+uw (most s.a s.b s.c))%(4294967296:Int)=uw (gD s):=by
 rw[VI,Dv];rfl
theorem Zk(s:St)(j:Nat)(i:j<8):∀ w,(Instr.index 246 (.agg #[.int .u32 (uw s.a),.int .u32 (uw s.b),.int .u32 (uw s.c),.int .u32 (uw s.d),.int .u32 (uw s.e),.int .u32 (uw s.f),.int .u32 (uw s.g),.int .u32 (uw s.h)]) (.int .i64 (j:Int))).run prog w=.ok (.int .u32 (uw (s.list.getD j 0#32))) w:=by
 intro w;obtain rfl|rfl|rfl|rfl|rfl|rfl|rfl|rfl:j=0\/j=1\/j=2\/j=3\/j=4\/j=5\/j=6\/j=7:=by omega
 all_goals kernel_rfl
theorem Qh(h:w.heap[g]?=some (.cells (AA ws) 246 (0,0)))(k:Nat)(x:BitVec 32) :
  (w.setCell ⟨g,k,none⟩ (.int .u32 (uw x))).heap[g]?=some (.cells (AA (ws.set k x)) 246 (0,0)):=by
 rw[heap_setCell_same _ _ _ _ _ _ h,Nl]
theorem ma(w:World)(a b c:Obj){W:World}(h:((w.alloc a).alloc b).alloc c=W) :
  W.heap[w.heap.size]?=some a/\W.heap[w.heap.size+1]?=some b/\W.heap[w.heap.size+1+1]?=some c/\Bw w W:=by
 subst h;refine⟨?_,?_,?_,(((Below.refl _ _).alloc (A' _) _).alloc (by simp) _).alloc (by simp;omega) _⟩
 .rw[heap_alloc_old _ _ (by simp;omega)];exact heap_alloc2_old w a b
 .rw[heap_alloc_old _ _ (by simp)];exact heap_alloc2_new w a b
 .have:=heap_alloc_new ((w.alloc a).alloc b) c;simpa using this
theorem WB(s:St)(l:List (BitVec 32))(w:World)(a0:l.length=64)(ht:AJ w) :
  Calls prog 171 #[.agg s.cells,.agg (AA l)] w λe w'=>e=.returned (.agg (ZQ s l).cells)/\Bw w w':=by
 obtain⟨a,b,c,d,e,f,g,h⟩:=s;unfold St.cells;go_enter func171,ntmps171
 go_wp2_with fail
 generalize E:((w.alloc _).alloc _).alloc _=W0;obtain⟨p,W,B,m⟩:=ma w _ _ _ E;clear E;have t:=ht.af m;have c0:=cell_of_row W0 _ 0 _ _ _ p;have c1:=cell_of_row W0 _ 1 _ _ _ p;have O:=cell_of_row W0 _ 2 _ _ _ p;have P:=cell_of_row W0 _ 3 _ _ _ p;have Q:=cell_of_row W0 _ 4 _ _ _ p;have R:=cell_of_row W0 _ 5 _ _ _ p;have T:=cell_of_row W0 _ 6 _ _ _ p;have U:=cell_of_row W0 _ 7 _ _ _ p;simp only[oc,oC,qf]at c0 c1 O P Q R T U;have L:Hid _:=p;have M:Hid _:=W;have N:Hid _:=B;clear p W B;go_quiet (fail)
 go_wp2_with fail
 go_quiet (fail)
 go_wp2_with fail
 clear c0 c1 O P Q R T U
 go_loopw [5,6,7,8,9,10,11,12,36] (λX Y Z d' e' f' g' h' i wr=>∃ k n:Nat,k<=64/\i=.int .i64 k/\wr=W0.drewN n/\X=.int .u32 (uw (BT l ⟨a,b,c,d,e,f,g,h⟩ k).a)/\Y=.int .u32 (uw (BT l ⟨a,b,c,d,e,f,g,h⟩ k).b)/\Z=.int .u32 (uw (BT l ⟨a,b,c,d,e,f,g,h⟩ k).c)/\d'=.int .u32 (uw (BT l ⟨a,b,c,d,e,f,g,h⟩ k).d)/\e'=.int .u32 (uw (BT l ⟨a,b,c,d,e,f,g,h⟩ k).e)/\f'=.int .u32 (uw (BT l ⟨a,b,c,d,e,f,g,h⟩ k).f)/\g'=.int .u32 (uw (BT l ⟨a,b,c,d,e,f,g,h⟩ k).g)/\h'=.int .u32 (uw (BT l ⟨a,b,c,d,e,f,g,h⟩ k).h)) (λ_ _ _ _ _ _ _ _ i _=>64-(intOf i).toNat)
 case atStart=>exact⟨0,_,by omega,rfl,World.drewN_drewN _ _ _,rfl,rfl,rfl,rfl,rfl,rfl,rfl,rfl⟩
 case round =>
  obtain⟨k,n,hk,rfl,o,rfl,rfl,rfl,rfl,rfl,rfl,rfl,rfl⟩:=hrel;have C:Hid (wr=W0.drewN n):=o;by_cases z:k<64
  .have ck:wr.cell? ⟨3,k,none⟩=some (.int .u32 (uw (kAt k))):=by rw[o];exact t.2 k z
   have V:wr.cell? ⟨w.heap.size+1,k,none⟩=some (.int .u32 (uw (l.getD k 0#32))):=by rw[o];exact(cell_of_row W0 _ k _ _ _ M.out).trans (Cb l k (by omega))
   clear o;have q:Hid (BT l ⟨a,b,c,d,e,f,g,h⟩ (k+1)=bJ (BT l ⟨a,b,c,d,e,f,g,h⟩ k) (kAt k) (l.getD k 0#32)):=rfl;generalize BT l ⟨a,b,c,d,e,f,g,h⟩ k=S at q;generalize kAt k=kk at ck q;generalize l.getD k 0#32=ww at V q;clear t;unfold bJ at q;go_wp2_with fail
   rw[Qt,WD];go_quiet ((go_at_call 187;exact Calls.quiet_of_same (MG _ _ _ (by omega) (by omega))))
   rw[gb];generalize upS S kk ww=up at q ⊢;clear ck V;go_wp2_with (go_at_call 187;refine(MG _ _ _ (by omega) (by omega)).mono ?_;rintro e w' ⟨rfl,rfl⟩)
   go_roundw
   case rel =>
    rw[VW,Dv,Dv];exact⟨k+1,n+nq,by omega,by go_num,by rw[C.out,World.drewN_drewN],by rw[q.out],by rw[q.out],by rw[q.out],by rw[q.out],by rw[q.out],by rw[q.out],by rw[q.out],by rw[q.out]⟩
   case measure=>simp[intOf];omega
  .have HK:Hid (k=64):=by unfold Hid;omega
   have u:wr.heap[w.heap.size]?=some (.cells (AA (El ⟨a,b,c,d,e,f,g,h⟩ (BT l ⟨a,b,c,d,e,f,g,h⟩ k) 0)) 246 (0,0)):=by rw[o];exact L.out
   have D:wr.heap[w.heap.size+1+1]?=some (.cells (AA [0#32,0#32,0#32,0#32,0#32,0#32,0#32,0#32]) 246 (0,0)):=by rw[o];exact N.out
   have r:Bw w wr:=by rw[o];exact Aq m n
   clear o L M N t m C;have H:Hid (k=64->(ZQ ⟨a,b,c,d,e,f,g,h⟩ l).cells=AA (El ⟨a,b,c,d,e,f,g,h⟩ (BT l ⟨a,b,c,d,e,f,g,h⟩ k) 8)):=by rintro rfl;rfl
   generalize BT l ⟨a,b,c,d,e,f,g,h⟩ k=S at H u ⊢;generalize G:St.mk a b c d e f g h=s0 at H u;have I:Hid (St.mk a b c d e f g h=s0):=G;clear G;go_wp2_with fail
   go_loopw [110] (λi wr=>∃ j:Nat,j<=8/\i=.int .i64 j/\wr.heap[w.heap.size]?=some (.cells (AA (El s0 S j)) 246 (0,0))/\wr.heap[w.heap.size+1+1]?=some (.cells (AA [0#32,0#32,0#32,0#32,0#32,0#32,0#32,0#32]) 246 (0,0))/\Bw w wr) (λi _=>8-(intOf i).toNat)
   case atStart=>exact⟨0,by omega,rfl,u,D,r⟩
   case round =>
    clear u D r;obtain⟨j,hj,rfl,p,B,m⟩:=hrel;by_cases z:j<8
    .have cj:=(cell_of_row wr _ j _ _ _ p).trans (Cb (El s0 S j) j (by rw[F6];omega));have fj:=frozen_of_row wr _ j _ _ p;have K:=Zk S j z;have J:Hid (El s0 S (j+1)=(El s0 S j).set j ((El s0 S j).getD j 0#32+S.list.getD j 0#32)):=rfl;generalize (El s0 S j).getD j 0#32=x at cj J;generalize S.list.getD j 0#32=y at K J;go_wp2
     go_roundw
     case rel =>
      rw[Dv];exact⟨j+1,by omega,by go_num,by rw[J.out];exact Qh p j _,(heap_setCell_other _ _ _ _ (by simp;omega)).trans B,m.setCell (A' _) _⟩
     case measure=>simp[intOf];omega
    .have HJ:Hid (j=8):=by unfold Hid;omega
     have A:(prog.info? 246).map (·.size)=some (AA (El s0 S j)).size:=by rw[Bn,F6];kernel_rfl
     have F:(AA (El s0 S j)).all (·.oneCell')=true:=by simp[AA,Value.oneCell']
     go_wp2_with (first|(refine wpList_load_row rfl 246 _ rfl w.heap.size rfl 246 _ (0,0) _ p underlying246 rfl A ?_)|(refine wpList_store_row rfl 246 _ _ rfl (w.heap.size+1+1) _ rfl rfl 246 _ B A (by rw[Bn,Bn,F6];rfl) F ?_))
     refine bodyPost_ret (v:=.agg (AA (El s0 S j))) (results_cell_row rfl _ _ (w.heap.size+1+1) 246 _ (0,0) _ rfl (setRow_heap wr _ _ _ 246 _ B) underlying246 rfl A) rfl ⟨?_,BV m (by omega) _⟩;rw[HJ.out,<- H.out HK.out,<- I.out];rfl
end
end
section
open Go.ChangeShapes Go.WideShapes Go.ChangeAt Go.RowKit
section
theorem kG : prog.globalNamed "conclave/sha.roundWords" = some 3 := by kernel_rfl
theorem YW:(prog.globals[3]?).map (·.type)=some 248:=by kernel_rfl
theorem di:prog.cellsOf 248=64:=by kernel_rfl
theorem dh:prog.cellsOf 245=1:=by kernel_rfl
theorem Wt(i:Nat)(a:i<64):Ti.getD i 0=uw (kAt i):=by
 have all:∀ j:Fin 64,Ti.getD j.val 0=uw (kAt j.val):=by decide +kernel
 exact all ⟨i,a⟩
theorem gE : prog.globalNamed "conclave/order.needs" = some 2 := by kernel_rfl
theorem We:(prog.globals[2]?).map (·.type)=some 195:=by kernel_rfl
theorem i6:prog.cellsOf 195=12:=by kernel_rfl
theorem Yl:prog.cellsOf 194=3:=by kernel_rfl
theorem i5:prog.cellsOf 3=1:=by kernel_rfl
variable{W:World}{cs:Array Value}{fuel:Nat}{p:List MemPlace}
theorem Hg{H:Type}{f:TypeId × Value->H}{d:Nat}{r:Nat->Bool}{held:Bool}{e:List Value}{a b c:Int}(h:DataW.trod f prog W d r held fuel 194 e=some (.agg [.lit (.int .i64 a),.lit (.int .i64 b),.lit (.int .i64 c)],p)) :
  e=[.int .i64 a,.int .i64 b,.int .i64 c]:=by
 obtain⟨x,y,z,n,q,o,k,l,m⟩:=Go.Deep.trod_struct3 underlying194 h;rw[Yl]at o
 simp only[i5]at k l m
 match e,o with
 | [c0,c1,c2],_ =>
  obtain⟨a0,g,s,_⟩:=DataW.trod_int underlying3 k;obtain⟨v,i,t,_⟩:=DataW.trod_int underlying3 l;obtain⟨w,j,u,_⟩:=DataW.trod_int underlying3 m;subst s t u;simp at g i j;subst g i j;simp at q;obtain⟨⟨rfl,rfl,rfl⟩,_⟩:=q;rfl
theorem YV : prog.globalNamed "conclave/cha.quarters" = some 4 := by kernel_rfl
theorem SV:(prog.globals[4]?).map (·.type)=some 279:=by kernel_rfl
theorem i7:prog.cellsOf 3=1:=by kernel_rfl
theorem UB:prog.cellsOf 278=4:=by kernel_rfl
theorem Yk:prog.cellsOf 279=32:=by kernel_rfl
def Ky:List (List Int):=[[0,4,8,12],[1,5,9,13],[2,6,10,14],[3,7,11,15],[0,5,10,15],[1,6,11,12],[2,7,8,13],[3,4,9,14]]
theorem ja{a:List Value}(l:a.length=32)(rows:List (List Value))(m:rows.length=8)(h:∀ i,i<8->(a.drop (i*4)).take 4=rows.getD i []):a=rows.flatten:=by
 have b:=h 0 (by omega);have c:=h 1 (by omega);have d:=h 2 (by omega);have e:=h 3 (by omega);have f:=h 4 (by omega);have g:=h 5 (by omega);have j:=h 6 (by omega);have k:=h 7 (by omega)
 match rows,m with
 | [r0,r1,r2,r3,r4,r5,r6,r7],_ =>
  simp only[nI,nU]at b c d e f g j k;subst b c d e f g j k;apply List.ext_getElem?;intro i
  match a,l with
  | [a0,a1,a2,a3,a4,a5,a6,a7,a8,a9,a10,a11,a12,a13,a14,a15,a16,a17,a18,a19,a20,a21,a22,a23,a24,a25,a26,a27,a28,a29,a30,a31],_=>rfl
theorem aO(a : World.var? prog W "conclave/cha.quarters" = some cs)(v:DataW.trod (fun _=>()) prog W 0 (fun _=>true) false fuel 279 cs.toList=some (Rows.laid_conclave_cha_quarters,p)):CW W:=by
 obtain⟨d,m,_,w,b,x,e⟩:=DataW.trod_array underlying279 v;rw[Yk]at b
 rw[UB]at e
 have o:d.map (·.1)=Ky.map (λg=>Lib.tabData .i64 g):=by
  have:=congrArg Prod.fst w;simp only[Rows.laid_conclave_cha_quarters,DataW.agg.injEq]at this;rw[<- this];rfl
 have f:∀ i,i<8->(cs.toList.drop (i*4)).take 4=(Ky.map (λg=>g.map λz=>Value.int .i64 z)).getD i []:=by
  intro i h;have k:=e i h;have q:d[i]?=some (d[i]'(by omega)):=E' (by omega);rw[q]at k
  have r:(d[i]'(by omega)).1=Lib.tabData .i64 (Ky.getD i []):=by
   have j:(d.map (·.1))[i]?=some (d[i]'(by omega)).1:=by rw[nR,q];rfl
   rw[o,nR,E' (show i<Ky.length from h)]at j
   simp only[nZ,Y']at j;rw[<- j,List.getD,E' (show i<Ky.length from h)];rfl
  have s:d[i]'(by omega)=(Lib.tabData .i64 (Ky.getD i []),(d[i]'(by omega)).2):=by rw[<- r]
  rw[s]at k
  have u:=Lib.cells_of_tab underlying278 underlying3 i7 UB k;rw[u,List.getD,List.getD,nR,E' (show i<Ky.length from h)];rfl
 have l:cs.toList=(Ky.map (λg=>g.map λz=>Value.int .i64 z)).flatten:=ja b _ rfl f;have n:cs=WW:=by
  apply pF;rw[l];rfl
 subst n;unfold World.var? at a;rw[YV]at a
 simp only[Option.bind_some]at a;split at a
 .rename_i c t fr hh
  simp only[Y']at a;subst a;exact⟨t,fr,hh⟩
 .cases a
theorem eJ(b : World.var? prog W "conclave/order.needs" = some cs)(v:DataW.trod (fun _=>()) prog W 0 (fun _=>true) false fuel 195 cs.toList=some (Rows.laid_conclave_order_needs,p)):NTab W:=by
 obtain⟨x,m,_,n,d,e,a⟩:=DataW.trod_array underlying195 v;rw[i6]at d
 rw[Yl]at a
 have u:cs.toList=O9.map (Value.int .i64):=by
  match x,e with
  | [x0,x1,x2,x3],_ =>
   simp only[Rows.laid_conclave_order_needs,nK,oJ,n8,DataW.agg.injEq,pN,and_true]at n;obtain⟨⟨o,q,r,s⟩,_⟩:=n;have f:=Hg (p:=x0.2) ((a 0 (by omega)).trans (by rw[o];rfl));have g:=Hg (p:=x1.2) ((a 1 (by omega)).trans (by rw[q];rfl));have h:=Hg (p:=x2.2) ((a 2 (by omega)).trans (by rw[r];rfl));have j:=Hg (p:=x3.2) ((a 3 (by omega)).trans (by rw[s];rfl));generalize cs.toList=l at d f g h j
   match l,d with
   | [_,_,_,_,_,_,_,_,_,_,_,_],_ =>
    simp at f g h j;simp[O9,f,g,h,j]
 have c:cs=(O9.map (Value.int .i64)).toArray:=pF (by simpa using u);subst c;obtain⟨t,fr,k⟩:=Lt gE b;refine⟨(Q'.1 k).1,λi w=>?_⟩;refine cell_of_row _ _ i _ _ _ k |>.trans ?_;simp[List.getD,List.getElem?_map,List.getElem?_eq_getElem (show i<O9.length from w)]
theorem kN:(Rows.laid_conclave_sha_roundWords:DataW Unit)=Lib.tabData .u32 Ti:=by kernel_rfl
theorem aZ(a : World.var? prog W "conclave/sha.roundWords" = some cs)(c:DataW.trod (fun _=>()) prog W 0 (fun _=>true) false fuel 248 cs.toList=some (Rows.laid_conclave_sha_roundWords,p)):AJ W:=by
 obtain⟨t,fr,d⟩:=Lt kG a;rw[kN]at c
 have f:=Lib.cells_of_tab underlying248 underlying245 dh di c;refine⟨(Q'.1 d).1,λi b=>?_⟩;rw[cell_of_row _ _ i _ _ _ d,<- Wt i b];have e:cs[i]?=cs.toList[i]?:=by simp
 rw[e,f,nR,E' (show i<Ti.length from b),List.getD,E' (show i<Ti.length from b)];rfl
def ZB(cs:Array Value):Obj->Obj
 | .cells _ t frozen=>.cells cs t frozen
 | o=>o
end
end
section
open Go.RowKit
section
def Sx:List (Nat × (World->Prop))->Array Bool->World->Prop
 | [],_,_=>True
 | c::r,L,w=>(L.getD c.1 false=false->c.2 w)/\Sx r L w
variable{L:Array Bool}{l:List (Nat × (World->Prop))}{w:World}
theorem Sx.set{i:Nat}(h:l.all (λc=>c.1 != i)=true)(b:Sx l (L.setIfInBounds i true) w):Sx l L w:=by
 induction l with
 | nil=>trivial
 | cons c r ih =>
  simp only[pA,nC,bne_iff_ne,ne_eq]at h;refine⟨λa=>b.1 ?_,ih h.2 b.2⟩;rw[nX]at a ⊢
  rw[oN (λe=>h.1 e.symm)];exact a
def Sd(D:List Nat)(n:Nat):List (Nat × (World->Prop))->World->Prop
 | [],_=>True
 | c::r,w=>((D.contains c.1||decide (n<=c.1))=true->c.2 w)/\Sd D n r w
theorem Sx.sd{D:List Nat}{n:Nat}(e:L.size=n)(d:∀ j∈D,L.getD j true=false)(a:Sx l L w):Sd D n l w:=by
 induction l with
 | nil=>trivial
 | cons c r ih =>
  refine⟨λh=>a.1 ?_,ih a.2⟩;simp only[pM,qz,decide_eq_true_eq]at h;rcases h with h|h
  .have h1:=d _ h;rw[nX]at h1 ⊢
   cases hx:L[c.1]? with
   | none=>rfl
   | some b=>rw[hx]at h1;simpa using h1
  .rw[nX,Array.getElem?_eq_none (by omega)];rfl
end
section
variable{P:Program}{ops:Array Oper}{Q:Exit->Act->World->Prop}{md:Region.Mode}{S:List (Nat × (World->Prop))}
section
def BK(P:Program)(md:Region.Mode)(ops:Array Oper)(Q:Exit->Act->World->Prop)(S:List (Nat × (World->Prop))):Nat->Array Bool->Act->World->Prop
 | 0,listed,a,w=>Region.ready md ops listed=[]/\Q .normal a w
 | fuel+1,listed,a,w =>
  (Region.ready md ops listed=[]->Q .normal a w) /\
  ∀ i∈Region.ready md ops listed,wpOp P ops Q i (λa' w'=>Sx S (listed.setIfInBounds i true) w'/\BK P md ops Q S fuel (listed.setIfInBounds i true) a' w') a w
theorem OW:∀ (fuel:Nat) (listed:Array Bool) (a:Act) (w:World),BK P md ops Q S fuel listed a w->wpAny P md ops Q fuel listed a w
 | 0,_,_,_,h=>h
 | fuel+1,_,_,_,h=>⟨h.1,λi hi=>wpOp_mono (λa' w' h'=>OW fuel _ a' w' h'.2) (h.2 i hi)⟩
def Nm(md:Region.Mode)(ops:Array Oper)(i:Nat)(D:List Nat):Bool :=
 D.all λj=>j==i||(match ops[j]? with
  | none=>false
  | some o=>o.after.any λe=>Region.binds md e&&D.contains e.on)
variable{L:Array Bool}{a:Act}{fuel i:Nat}{oi:Oper}{v:Value}{w:World}
theorem Qd(D:List Nat)(O:ops[i]?=some oi)(u:∀ (j:Nat) (o:Oper) cs b,ops[j]?=some o->o.op≠.select cs b)(hQ:∀ c a w,Q (.panic c) (a.put oi.dst v) w->Q (.panic c) a w)(R:i∈D)(hD:Nm md ops i D=true)(B:S.all (λc=>c.1 != i)=true) :
  ∀ (fuel:Nat) (listed:Array Bool) (a:Act) (w:World),listed.size=ops.size ->
   (∀ j oj,ops[j]?=some oj->j≠i->listed.getD j true=false->(∀ e∈oj.after,Region.binds md e=true->e.on≠i)->oi.apart ops oj=true) ->
   i∈Region.ready md ops listed->(∀ j∈D,listed.getD j true=false)->YieldsIf P ops (Sd D ops.size S) oi v a->Sx S listed w ->
   BK P md ops Q S fuel (listed.setIfInBounds i true) (a.put oi.dst v) w->BK P md ops Q S (fuel+1) listed a w:=by
 intro fuel;induction fuel with
 | zero =>
  intro listed a w p _ t f E z H;have A:Sx S (listed.setIfInBounds i true) w:=by
   clear H E f t;induction S with
   | nil=>trivial
   | cons c r ih =>
    simp only[pA,nC,bne_iff_ne,ne_eq]at B;refine⟨λl=>z.1 ?_,ih B.2 z.2⟩;rw[nX]at l ⊢
    rw[oN (λe=>B.1 e.symm)]at l
    exact l
  refine⟨λh=>(by rw[h]at t;cases t),λj M=>?_⟩;by_cases d:j=i
  .subst d;exact E.wpOp O (z.sd p f) ⟨A,H⟩
  .have:=ready_mono M d;rw[H.1]at this
   cases this
 | succ fuel ih =>
  intro listed a w p g t f E z H;have A:Sx S (listed.setIfInBounds i true) w:=by
   clear H E f t ih;induction S with
   | nil=>trivial
   | cons c r ih =>
    simp only[pA,nC,bne_iff_ne,ne_eq]at B;refine⟨λl=>z.1 ?_,ih B.2 z.2⟩;rw[nX]at l ⊢
    rw[oN (λe=>B.1 e.symm)]at l
    exact l
  refine⟨λh=>(by rw[h]at t;cases t),λj M=>?_⟩;by_cases d:j=i
  .subst d;exact E.wpOp O (z.sd p f) ⟨A,H⟩
  .have y:=H.2 j (ready_mono M d);obtain⟨s,oj,n,F⟩:=mem_ready.1 M;have L:∀ k∈D,∀ e∈oj.after,Region.binds md e=true->e.on≠k:=λk C e he hb N=>by
    have y:=F e he hb;have W:=f k C;rw[N]at y
    rcases nW k listed.size with h'|h'
    .simp[h']at W y;rw[W]at y;cases y
    .simp[Array.getElem?_eq_none h']at y
   have I:∀ e∈oj.after,Region.binds md e=true->e.on≠i:=L i R;have T:j∉D:=λhm=>by
    have q:=oB.1 hD j hm;simp only[pM,beq_iff_eq,n,Array.any_eq_true,nC,qz]at q;rcases q with q|⟨x,hx,h4,h5⟩
    .exact d q
    .exact L _ h5 oj.after[x] (Array.getElem_mem hx) h4 rfl
   have h2:=wpOp_putIf n (g j oj n d s I) (λcs b=>u i oi cs b O) (λcs b=>u j oj cs b n) hQ E y;have m:∀ k ok,ops[k]?=some ok->k≠i->(listed.setIfInBounds j true).getD k true=false ->
     (∀ e∈ok.after,Region.binds md e=true->e.on≠i)->oi.apart ops ok=true:=λk ok C U X V=>by
    refine g k ok C U ?_ V;by_cases G:j=k
    .subst G;exact s
    .rw[getD_set_ne true G]at X;exact X
   have K:∀ k∈D,(listed.setIfInBounds j true).getD k true=false:=λk C=>by
    rw[getD_set_ne true (show j≠k from λe=>T (by rw[e];exact C))];exact f k C
   refine wpOp_mono (λZ Y q=>?_) h2;have l:=Array.setIfInBounds_comm (xs:=listed) true true d;have J:Sx S (listed.setIfInBounds j true) Y:=Sx.set B (by rw[l];exact q.2.1);refine⟨J,ih (listed.setIfInBounds j true) Z Y (by rw[Array.size_setIfInBounds];exact p) m (ready_mono t (Ne.symm d)) K q.1 J ?_⟩;rw[l];exact q.2.2
theorem gY(d:Nat)(D:List Nat){b:Array Bool}(g:ops[i]?=some oi)(f:oi.dst=some d)(t:Region.noSelect ops=true)(r:Region.free md ops b i=true)(s:(Region.ready md ops b).contains i=true)(p:∀ c a w,Q (.panic c) (a.put (some d) v) w->Q (.panic c) a w)(e:(D.contains i&&Nm md ops i D&&S.all (λc=>c.1 != i)&&decide (b.size=ops.size)&&D.all λj=>b.getD j true==false)=true)(u:YieldsIf P ops (Sd D ops.size S) oi v a)(q:Sx S b w)(h:BK P md ops Q S fuel (b.setIfInBounds i true) (a.put (some d) v) w):BK P md ops Q S (fuel+1) b a w:=by
 simp only[nC,qz,decide_eq_true_eq,oB,beq_iff_eq]at e;obtain⟨⟨⟨⟨k,l⟩,m⟩,n⟩,o⟩:=e;exact Qd D g (Region.noSelect_spec t) (by rw[f];exact p) k l (oB.2 m) fuel b a w n (Region.free_spec g r) (by simpa using s) o u q (by rw[f];exact h)
theorem mR(b:Region.ready md ops L=[i])(h:wpOp P ops Q i (λa' w'=>Sx S (L.setIfInBounds i true) w'/\BK P md ops Q S fuel (L.setIfInBounds i true) a' w') a w):BK P md ops Q S (fuel+1) L a w :=
 ⟨λc=>absurd (b▸c) (by simp),b▸(λj d=>by
  obtain rfl:j=i:=by simpa using d
  exact h)⟩
theorem mS{b:Nat}(c:Region.ready md ops L=[i,b])(h:wpOp P ops Q i (λa' w'=>Sx S (L.setIfInBounds i true) w'/\BK P md ops Q S fuel (L.setIfInBounds i true) a' w') a w)(d:wpOp P ops Q b (λa' w'=>Sx S (L.setIfInBounds b true) w'/\BK P md ops Q S fuel (L.setIfInBounds b true) a' w') a w):BK P md ops Q S (fuel+1) L a w :=
 ⟨λe=>absurd (c▸e) (by simp),c▸(λj f=>by
  rcases(show j=i\/j=b by simpa using f)with rfl|rfl
  .exact h
  .exact d)⟩
theorem gw(S:List (Nat × (World->Prop))){c:Nat}(b:P.follows .mixedOrders=true)(h:BK P .any ops Q S ops.size (Array.replicate ops.size false) a w.drew):(Code.region c ops true).wp P Q a w :=
 wp_region_any b (OW _ _ _ _ h)
end
end
section
variable{P:Program}{ops:Array Oper}{Q:Exit->Act->World->Prop}{md:Region.Mode}{S:List (Nat × (World->Prop))}
section
def pts:Act->List (Nat × Value)->Act
 | a,[]=>a
 | a,p::r=>pts (a.put (some p.1) p.2) r
def got(P:Program)(ops:Array Oper)(a:Act)(w:World)(i:Nat):Option (Option Tmp × Value × World) :=
 match ops[i]? with
 | none=>none
 | some o=>if Region.wanted o (yielded ops a.tmps)then(match(execOp a.eval o).run P w with
   | .ok (.value v) w'=>some (o.dst,v,w')
   | _=>none)else some (o.dst,undef,w)
def SY(P:Program)(ops:Array Oper)(w:World):List Nat->List (Nat × Value)->Act->List (Option (Option Tmp × Value × World))
 | i::is,p::ps,a=>got P ops a w i::SY P ops w is ps (a.put (some p.1) p.2)
 | _,_,_=>[]
def br(w:World)(ps:List (Nat × Value)):List (Option (Option Tmp × Value × World)):=ps.map λp=>some (some p.1,p.2,w)
variable{K:Act->World->Prop}{L:Array Bool}{a:Act}{arr new old:Array Value}{b:Bool}{g i k:Nat}{m n:Int}{o:Obj}{t ty:TypeId}{w:World}{x y:Operand}
theorem SX{d:Nat}{v:Value}{S0:World->Prop}(h:∀ w,got P ops a w i=some (some d,v,w)):∃ o,ops[i]?=some o/\o.dst=some d/\YieldsIf P ops S0 o v a:=by
 cases ho:ops[i]? with
 | none=>have:=h default;unfold got at this;rw[ho]at this;cases this
 | some o =>
  by_cases c:Region.wanted o (yielded ops a.tmps)=true
  .have key:∀ w,o.dst=some d/\(execOp a.eval o).run P w=.ok (.value v) w:=λw=>by
    have b:=h w;unfold got at b;rw[ho]at b
    simp only[c,if_true]at b;split at b
    .rename_i v' w' hr
     simp only[Y',n8]at b;obtain⟨e,rfl,rfl⟩:=b;exact⟨e,hr⟩
    .cases b
   exact⟨o,rfl,(key default).1,.inl ⟨c,λw _=>(key w).2⟩⟩
  .have b:=h default;unfold got at b;rw[ho]at b
   simp only[c,if_false,Y',n8,qg]at b;exact⟨o,rfl,b.1,.inr ⟨by simpa using c,b.2.1.symm⟩⟩
def MX(md:Region.Mode)(ops:Array Oper)(gs:List Nat):List Nat->Array Bool->Bool
 | [],_=>true
 | i::is,L=>Region.free md ops L i&&(Region.ready md ops L).contains i&&gs.all (· != i)&&decide (L.size=ops.size)&&(L.getD i true==false)&&MX md ops gs is (L.setIfInBounds i true)
def mK(L:Array Bool)(is:List Nat):Array Bool:=is.foldl (λL i=>L.setIfInBounds i true) L
theorem ik{S:List (Nat × (World->Prop))}(h:(S.map (·.1)).all (· != i)=true):S.all (λc=>c.1 != i)=true:=by
 rw[List.all_map]at h
 exact h
theorem xB0{m:Nat}(n:Nat)(f:List Nat)(b:List (Nat × Value))(h:∀ w,SY P ops w f b a=br w b)(K:Region.noSelect ops=true)(D:MX md ops (S.map (·.1)) f L=true)(H:m=n+b.length)(t:f.length=b.length)(F:∀ c a d v w,Q (.panic c) (a.put (some d) v) w->Q (.panic c) a w)(j:Sx S L w)(s:BK P md ops Q S n (mK L f) (pts a b) w):BK P md ops Q S m L a w:=by
 subst H;induction f generalizing L a b with
 | nil =>
  obtain rfl:b=[]:=Z' t.symm;exact s
 | cons i f ih =>
  cases b with
  | nil=>cases t
  | cons p r =>
   have B:∀ w,got P ops a w i=some (some p.1,p.2,w):=λw=>by
    have:=h w;simp only[SY,br,nK,pN]at this;exact this.1
   have C:∀ w,SY P ops w f r (a.put (some p.1) p.2)=br w r:=λw=>by
    have:=h w;simp only[SY,br,nK,pN]at this;exact this.2
   obtain⟨o,I,G,E⟩:=SX (S0:=Sd [i] ops.size S) B;simp only[MX,nC]at D;obtain⟨⟨⟨⟨⟨u,x⟩,g⟩,y⟩,z⟩,A⟩:=D;have k:Sx S (L.setIfInBounds i true) w:=by
    have q:=ik g;clear s ih h B C E u x g y z A;induction S with
    | nil=>trivial
    | cons c r ih =>
     simp only[pA,nC,bne_iff_ne,ne_eq]at q;refine⟨λl=>j.1 ?_,ih j.2 q.2⟩;rw[nX]at l ⊢
     rw[oN (λe=>q.1 e.symm)]at l
     exact l
   refine gY p.1 [i] I G K u x (λc a w J=>F c _ _ _ w J) ?_ E j (ih r C A (by simpa using t) k s);rw[ik g,y];simp[Nm];simpa using z
abbrev iv(n:Int):Value:=.int .i64 n
abbrev pt(b o:Nat):Value:=.pointer (some ⟨b,o,none⟩)
abbrev sn:Value:=.slice none 0 0
theorem xS0{m:Nat}(n i:Nat)(c:Region.ready md ops L=[i])(b:m=n+1)(h:wpOp P ops Q i (λa' w'=>Sx S (L.setIfInBounds i true) w'/\BK P md ops Q S n (L.setIfInBounds i true) a' w') a w):BK P md ops Q S m L a w:=by subst b;exact mR c h
theorem R0{b:Nat}{fr:Nat × Nat}(h:w.heap[b]?=some (.cells arr t fr))(k:Nat)(a:List Value)(e:(arr.toList.drop k).take a.length=a):w.rangeAt b k a:=λj u c=>by
 rw[cell_of_row _ _ (k+j) _ _ _ h];have d:j<a.length:=(V'.1 c).1;rw[<- e,ol,if_pos d,nY]at c
 simpa using c
theorem cC{b:Nat}(h:w.heap[b]?=some (.cells arr t (0,0)))(k n:Nat)(c:k+n<=arr.size):w.there b k n:=λj a =>
 ⟨by rw[cell_of_row _ _ (k+j) _ _ _ h,ph (by omega)];rfl,frozen_of_row _ _ (k+j) _ _ h⟩
def fm(arr:Array Value):Nat->List Value->Array Value
 | _,[]=>arr
 | k,v::r=>fm (arr.setIfInBounds k v) (k+1) r
theorem j6{b:Nat}(a:List Value):∀ {arr:Array Value} (k:Nat) (h:w.heap[b]?=some (.cells arr t (0,0))),(w.setCells b k a).heap[b]?=some (.cells (fm arr k a) t (0,0)):=by
 induction a generalizing w with
 | nil=>intro arr k h;exact h
 | cons v r ih=>intro arr k h;exact ih (k+1) (heap_setCell_same w b k arr t v h)
theorem j5{b:Nat}(k:Nat)(v:Value)(h:w.heap[b]?=some (.cells arr t (0,0))):(w.setCell ⟨b,k,none⟩ v).heap[b]?=some (.cells (arr.setIfInBounds k v) t (0,0)):=heap_setCell_same w b k arr t v h
theorem NL{e:TypeId}{b n c z:Nat}(l:P.underlying t=some (.slice e))(d:P.elem t=e)(a:(P.info? e).map (·.size)=some z)(h:i<n)(j:Nat)(f:k+z*i=j):(Instr.indexAt t (.slice (some ⟨b,k,none⟩) n c) (iv (i:Int))).run P w=.ok (pt b j) w:=by
 have g:(Go.sizeOf e).run P w=.ok z w:=by
  cases hx:P.info? e with
  | none=>rw[hx]at a;cases a
  | some x=>rw[hx]at a;simp at a;simp[Go.sizeOf,typeInfo,hx,a]
 rw[run_indexAt_slice (P:=P) w t _ n c .i64 _ (by rw[d];exact l),if_pos ⟨by omega,by omega⟩,d,g];simp[Result.andThen,Addr.add_mid,Nat.mul_comm,<- f]
theorem gO{src dst:TypeId}{k a:IntKind}(d:(P.underlying src).isSome=true)(c:P.underlying dst=some (.int a))(b:P.intKind dst=a)(h:a.wrap n=n):(convert src dst (.int k n)).run P w=.ok (.int a n) w:=by
 rw[run_convert_int (P:=P) w src dst k n d (by rw[b];exact c),b,h]
theorem xC0{m:Nat}{s:Nat}{C:World->Prop}{e:List (Nat × (World->Prop))}(n i d:Nat)(D:List Nat)(v:Value)(h:∀ W,C W->got P ops a W i=some (some d,v,W))(b:C w)(G:Region.noSelect ops=true)(f:(Region.free md ops L i&&(Region.ready md ops L).contains i&&(((s,C)::e:List (Nat × (World->Prop))).map (·.1)).all (· != i)&&decide (L.size=ops.size)&&(D.contains i&&(D.contains s||decide (ops.size<=s))&&Nm md ops i D&&D.all λj=>L.getD j true==false))=true)(E:m=n+1)(y:∀ c a d v w,Q (.panic c) (a.put (some d) v) w->Q (.panic c) a w)(z:Sx ((s,C)::e) L w)(B:BK P md ops Q ((s,C)::e) n (L.setIfInBounds i true) (a.put (some d) v) w) :
  BK P md ops Q ((s,C)::e) m L a w:=by
 subst E;simp only[nC]at f;obtain⟨⟨⟨⟨g,k⟩,l⟩,p⟩,⟨⟨⟨c1,q⟩,r⟩,t⟩⟩:=f;cases ho:ops[i]? with
 | none=>have h:=h w b;unfold got at h;rw[ho]at h;cases h
 | some o =>
  have key:∀ W,C W->o.dst=some d/\((Region.wanted o (yielded ops a.tmps)=true/\(execOp a.eval o).run P W=.ok (.value v) W)\/(Region.wanted o (yielded ops a.tmps)=false/\v=undef)):=λW A=>by
   have h:=h W A;unfold got at h;rw[ho]at h
   simp only at h;split at h
   .rename_i b
    split at h
    .rename_i v' w' hr
     simp only[Y',n8]at h;obtain⟨u,rfl,rfl⟩:=h;exact⟨u,.inl ⟨b,hr⟩⟩
    .cases h
   .rename_i b
    simp only[Y',n8]at h;exact⟨h.1,.inr ⟨by simpa using b,h.2.1.symm⟩⟩
  refine gY d D ho (key w b).1 G g k (λc a w F=>y c _ _ _ w F) ?_ ?_ z B
  .rw[ik l,p,c1,r,t];rfl
  .by_cases hw2:Region.wanted o (yielded ops a.tmps)=true
   .refine .inl ⟨hw2,λH x=>?_⟩;rcases(key H (x.1 q)).2 with h3|h3
    .exact h3.2
    .rw[hw2]at h3;cases h3.1
   .rcases(key w b).2 with h3|h3
    .exact absurd h3.1 hw2
    .exact .inr h3
theorem Fu(h:(m==n)=b):(do Go.eqGuard .eql t x y (iv m) (iv n);Go.binOp .eql t (iv m) (iv n):Sem Value).run P w=.ok (.bool b) w:=by
 subst h;rfl
theorem rl(h:w.heap[g]?=some o):g<w.heap.size:=(Q'.1 h).1
theorem rB{a:World}(b:Bw w a)(h:w.heap[g]?=some o):a.heap[g]?=some o:=(b.block _ (rl h)).trans h
theorem kY{o:Oper}(cells:Array Value)(d:w.heap[g]?=some (.cells old t (0,0)))(m:ops[i]?=some o)(n:Region.wanted o (yielded ops a.tmps)=true)(f:o.dst=none)(c:o.op=.store ty x y)(p:a.eval x=pt g k)(q:a.eval y=.agg cells)(j:(P.info? ty).map (·.size)=some cells.size)(b:k+cells.size<=old.size)(e:cells.all (·.oneCell')=true)(l:fm old k cells.toList=new)(h:∀ w',w'.heap[g]?=some (.cells new t)->Only g w w'->K a w'):wpOp P ops Q i K a w :=
 T4 m n f ty x y c g k cells p q (cC d k _ b) j e (h _ (by rw[<- l];exact j6 _ _ d) (Only.store _ _ _ _))
theorem kZ{o:Oper}(v:Value)(c:w.heap[g]?=some (.cells old t (0,0)))(m:ops[i]?=some o)(n:Region.wanted o (yielded ops a.tmps)=true)(f:o.dst=none)(d:o.op=.store ty x y)(p:a.eval x=pt g k)(q:a.eval y=v)(j:(P.info? ty).map (·.size)=some 1)(b:k<old.size)(e:v.oneCell'=true)(l:old.setIfInBounds k v=new)(h:∀ w',w'.heap[g]?=some (.cells new t)->Only g w w'->K a w'):wpOp P ops Q i K a w :=
 T5 m n f ty x y d g k v old[k] p q (by rw[cell_of_row _ _ k _ _ _ c,ph b]) (frozen_of_row _ _ k _ _ c) j e (h _ (by rw[<- l];exact j5 k v c) (Only.one _ _ _ _))
theorem kX(d:Nat)(v:Value)(h:got P ops a w i=some (some d,v,w))(c:K (a.put (some d) v) w):wpOp P ops Q i K a w:=by
 unfold got at h;unfold wpOp;cases ho:ops[i]? with
 | none=>rw[ho]at h;cases h
 | some o =>
  rw[ho]at h
  simp only;simp only at h;split
  .rename_i hw
   simp only[hw,if_true]at h;split at h
   .rename_i v' w' hr
    simp only[Y',n8]at h;obtain⟨b,rfl,rfl⟩:=h;refine .inl ?_;unfold Oper.wp;rw[hr,Oper.upon_value,b];exact c
   .cases h
  .rename_i hw
   simp only[hw,if_false,Y',n8,qg]at h;obtain⟨b,rfl,_⟩:=h;rw[b];exact c
theorem Ix(h:(m != n)=b):(do Go.eqGuard .neq t x y (iv m) (iv n);Go.binOp .neq t (iv m) (iv n):Sem Value).run P w=.ok (.bool b) w:=by
 subst h;rfl
theorem rLt(h:decide (m<n)=b):(do Go.eqGuard .lss t x y (iv m) (iv n);Go.binOp .lss t (iv m) (iv n):Sem Value).run P w=.ok (.bool b) w:=by
 subst h;rfl
theorem rGt(h:decide (n<m)=b):(do Go.eqGuard .gtr t x y (iv m) (iv n);Go.binOp .gtr t (iv m) (iv n):Sem Value).run P w=.ok (.bool b) w:=by
 subst h;rfl
theorem rGe(h:decide (n<=m)=b):(do Go.eqGuard .geq t x y (iv m) (iv n);Go.binOp .geq t (iv m) (iv n):Sem Value).run P w=.ok (.bool b) w:=by
 subst h;rfl
theorem rLe(h:decide (m<=n)=b):(do Go.eqGuard .leq t x y (iv m) (iv n);Go.binOp .leq t (iv m) (iv n):Sem Value).run P w=.ok (.bool b) w:=by
 subst h;rfl
end
end
section
structure Fm where
 n:Nat
 e:List (Nat × Value)
 z:Nat->Value
def lk(z:Nat->Value):List (Nat × Value)->Nat->Value
 | [],t=>z t
 | p::r,t=>cond (Nat.beq p.1 t) p.2 (lk z r t)
def Fm.act(f:Fm):Act:={ tmps:=((List.range f.n).map (lk f.z f.e)).toArray,defers:=[] }
def Fm.ev(f:Fm):Operand->Value
 | .tmp t=>cond (Nat.blt t f.n) (lk f.z f.e t) undef
 | .const v=>v
 | .global g=>.pointer (some ⟨g,0,none⟩)
 | .func k=>.func (.func k) #[] #[]
def Fm.put(f:Fm)(d:Option Tmp)(v:Value):Fm:=match d with|some d=>⟨f.n,(d,v)::f.e,f.z⟩|none=>f
theorem Fm.eval(f:Fm):f.act.eval=f.ev:=by
 funext x
 cases x with
 | tmp t =>
  show((List.range f.n).map (lk f.z f.e)).toArray.getD t undef=_;rw[nX];simp only[oc,nR];show _=cond (Nat.blt t f.n) (lk f.z f.e t) undef;by_cases h:t<f.n
  .have hb:Nat.blt t f.n=true:=(by rw[Nat.blt,ql];exact h);rw[oY h,hb];rfl
  .have hb:Nat.blt t f.n=false:=pR.2 λg=>h (by rw[Nat.blt,ql]at g;exact g);rw[oS (by simpa using h),hb];rfl
 | const v=>rfl
 | global g=>rfl
 | func k=>rfl
theorem Fm.so(f:Fm)(d:Option Tmp)(v:Value):(f.put d v).act=f.act.put d v:=by
 cases d with
 | none=>rfl
 | some d =>
  unfold Fm.put Fm.act Act.put;simp only[Act.mk.injEq,and_true];apply pJ;intro i;rw[Array.getElem?_setIfInBounds];simp only[oc,nR,pl,nw,pm];by_cases b:i<f.n
  .rw[oY b];by_cases a:d=i
   .subst a;simp[lk,b]
   .rw[if_neg a];simp only[nZ,lk,show Nat.beq d i=false from pR.2 λg=>a (nF g),cond_false]
  .rw[oS (by simpa using b)];by_cases a:d=i
   .subst a;simp[b]
   .rw[if_neg a];rfl
def ml(f:Fm)(want:Bool):Option Tmp->Bool
 | none=>false
 | some d=>match f.ev (.tmp d)with
  | .bool b=>b==want
  | _=>false
theorem gy(f:Fm)(want:Bool)(x:Option Tmp):((match x.bind (f.act.tmps[·]?)with|some (.bool b)=>some b|_=>none)==some want)=ml f want x:=by
 cases x with
 | none=>rfl
 | some d =>
  have a:f.act.eval (.tmp d)=f.ev (.tmp d):=by rw[f.eval]
  have c:f.act.eval (.tmp d)=(f.act.tmps[d]?).getD undef:=nX ..;rw[c]at a
  show((match f.act.tmps[d]? with|some (.bool b)=>some b|_=>none)==some want)=(match f.ev (.tmp d)with|.bool b=>b==want|_=>false);rw[<- a];cases f.act.tmps[d]? with
  | none=>rfl
  | some v=>cases v<;>rfl
def Fm.br(f:Fm)(ops:Array Oper)(o:Oper):Bool :=
 match o.guard with
 | none=>true
 | some (j,want)=>ml f want ((ops[j]?).bind (·.dst))
theorem Fm.wanted(f:Fm)(a:Array Oper)(o:Oper):Region.wanted o (yielded a f.act.tmps)=f.br a o:=by
 unfold Region.wanted Fm.br;cases o.guard with
 | none=>rfl
 | some p=>exact gy f p.2 ((a[p.1]?).bind (·.dst))
inductive Tg where
 | z
 | l
 | n (r i:Nat)
def Tg.sB:Tg->Bool|.z=>true|_=>false
structure Sh where
 g:Nat
 o:Obj
 t:Tg
 w:Bool
instance:Inhabited Sh:=⟨⟨0,default,.z,false⟩⟩
structure Gh where
 t:Nat->Tg
 k:Nat->Nat
structure Cg(B:Nat)(T:List Tg)(g:Gh)(w:World)(g':Gh)(w':World):Prop where
 os:w'.os=w.os
 tape:w'.tape=w.tape
 output:w'.output=w.output
 size:w.heap.size<=w'.heap.size
 sK:∀ b,b<w.heap.size->g'.t b=g.t b\/(g.t b=.l/\B<=b/\g'.t b=.z)
 sH:∀ b,b<w.heap.size->g.k b<=g'.k b
 tm:∀ b,b<w.heap.size->g.t b∉T->(g.t b=.l->b<B)->g'.k b=g.k b
 same:∀ b,b<w.heap.size->g.t b∉T->(g.t b=.l->b<B)->w'.heap[b]?=w.heap[b]?
 sI:∀ b,b<w.heap.size->∀ j,j<g.k b->w'.cell? ⟨b,j,none⟩=w.cell? ⟨b,j,none⟩
variable{B:Nat}{T:List Tg}{g g':Gh}{w w':World}
theorem Cg.tag(h:Cg B T g w g' w'){b:Nat}(a:b<w.heap.size)(c:g.t b=.l->b<B):g'.t b=g.t b:=by
 rcases h.sK b a with h1|⟨h1,h2,_⟩
 .exact h1
 .have:=c h1;omega
theorem Cg.refl(B:Nat)(T:List Tg)(g:Gh)(w:World):Cg B T g w g w:=⟨rfl,rfl,rfl,A' _,λ_ _=>.inl rfl,λ_ _=>A' _,λ_ _ _ _=>rfl,λ_ _ _ _=>rfl,λ_ _ _ _=>rfl⟩
theorem Cg.trans{f:Gh}{i:World}(h:Cg B T g w g' w')(k:Cg B T g' w' f i):Cg B T g w f i :=
 have e:∀ {b},b<w.heap.size->b<w'.heap.size:=λa=>j' a h.size
 ⟨k.os.trans h.os,k.tape.trans h.tape,k.output.trans h.output,mV h.size k.size,λb a=>by
  rcases h.sK b a with d|⟨d,c,h3⟩
  .rcases k.sK b (e a)with k1|⟨k1,k2,k3⟩
   .exact .inl (k1.trans d)
   .exact .inr ⟨d▸k1,k2,k3⟩
  .rcases k.sK b (e a)with k1|⟨k1,k2,k3⟩
   .exact .inr ⟨d,c,k1.trans h3⟩
   .exact .inr ⟨d,c,k3⟩,
  λb a=>mV (h.sH b a) (k.sH b (e a)),
  λb a d c=>(k.tm b (e a) (by rw[h.tag a c];exact d) (by rw[h.tag a c];exact c)).trans (h.tm b a d c),
  λb a d c=>(k.same b (e a) (by rw[h.tag a c];exact d) (by rw[h.tag a c];exact c)).trans (h.same b a d c),
  λb a j l=>(k.sI b (e a) j (j' l (h.sH b a))).trans (h.sI b a j l)⟩
theorem Cg.mono{f:List Tg}(h:Cg B T g w g' w')(i:∀ t∈T,t∈f):Cg B f g w g' w' :=
 ⟨h.os,h.tape,h.output,h.size,h.sK,h.sH,λb e a c=>h.tm b e (λd=>a (i _ d)) c,λb e a c=>h.same b e (λd=>a (i _ d)) c,h.sI⟩
theorem Cg.ret(h:Cg w.heap.size T g w g' w'):Cg B T g w g' w' :=
 ⟨h.os,h.tape,h.output,h.size,λb a=>.inl (h.tag a (λ_=>a)),h.sH,λb a c _=>h.tm b a c (λ_=>a),λb a c _=>h.same b a c (λ_=>a),h.sI⟩
theorem Cg.ed(h:Bw w w'):Cg B T g w g w' :=
 ⟨h.os,h.tape,h.output,h.size,λ_ _=>.inl rfl,λ_ _=>A' _,λ_ _ _ _=>rfl,λb a _ _=>h.block b a,λb a j _=>World.cell?_of_block (w:=w) (h.block b a)⟩
theorem Cg.af(h:Cg w.heap.size T g w g' w')(c:∀ b,b<w.heap.size->g.t b∉T):Bw w w' :=
 ⟨h.os,h.tape,h.output,h.size,λb a=>h.same b a (c b a) (λ_=>a)⟩
structure Kn(B:Nat)(g:Gh)(w:World)(L:List Sh):Prop where
 row:∀ x∈L,w.heap[x.g]?=some x.o/\g.t x.g=x.t/\(x.t=.l->B<=x.g)/\(x.t≠.z->g.k x.g=0)
 sX:L.Pairwise λx y=>x.g=y.g->(x.t=.z/\x.w=false)/\y.t=.z/\y.w=false
 new:∀ b,w.heap.size<=b->g.t b=.z/\g.k b=0
 base:B<=w.heap.size
def AV(L:List Sh)(w:World):Prop:=∀ x∈L,w.heap[x.g]?=some x.o
theorem Kn.rows{L:List Sh}(h:Kn B g w L):AV L w:=λx a=>(h.row x a).1
inductive Kt where
 | c (x:Code)
 | b (id:Nat)
 | o (ops:Array Oper) (is:List Nat)
 | x (ops:Array Oper) (m:Nat) (Ld:Array Bool) (s:Nat) (L0:List Sh)
 | y (ops:Array Oper) (m:Nat) (Ld:Array Bool) (s:Nat) (L0:List Sh) (i:Nat)
 | j (J:Act->World->Prop)
def Kq(P:Program)(R:Exit->Act->World->Prop):List Kt->Exit->Act->World->Prop
 | []=>R
 | .c x::K=>Exit.then (x.wp P (Kq P R K)) (Kq P R K)
 | .b id::K=>Exit.inBlock id (Kq P R K)
 | .o ops is::K=>Exit.then (wpOps P ops (Kq P R K) is) (Kq P R K)
 | .x ops m Ld s L0::K=>Exit.then (BK P .any ops (Kq P R K) [(s,AV L0)] m Ld) (Kq P R K)
 | .y ops m Ld s L0 i::K=>Exit.then (wpOp P ops (Kq P R K) i (λa w=>Sx [(s,AV L0)] (Ld.setIfInBounds i true) w/\BK P .any ops (Kq P R K) [(s,AV L0)] m (Ld.setIfInBounds i true) a w)) (Kq P R K)
 | .j J::K=>Exit.then J (Kq P R K)
structure Xs where
 K:List Kt
 f:Fm
 L:List Sh
structure GG(P:Program)(fn:Func)(R:Ending->World->Prop)(B:Nat)(T:List Tg)(s:Xs)(g:Gh)(w:World):Prop where
 ex:Kn B g w s.L->Kq P (bodyPost P fn R) s.K .normal s.f.act w
theorem Kq.panic{P:Program}{e:Func}{R:Ending->World->Prop}:∀ (K:List Kt) (c:List PanicEntry) (a:Act) (d:Option Tmp) (v:Value) (w:World),Kq P (bodyPost P e R) K (.panic c) (a.put d v) w->Kq P (bodyPost P e R) K (.panic c) a w
 | [],c,a,d,v,w,h=>by
  have hd:(a.put d v).defers=a.defers:=by cases d<;>rfl
  exact⟨hd▸h.1,h.2⟩
 | .c x::K,c,a,d,v,w,h=>Kq.panic K c a d v w h
 | .b id::K,c,a,d,v,w,h=>Kq.panic K c a d v w h
 | .o ops is::K,c,a,d,v,w,h=>Kq.panic K c a d v w h
 | .x ops m Ld s L0::K,c,a,d,v,w,h=>Kq.panic K c a d v w h
 | .y ops m Ld s L0 i::K,c,a,d,v,w,h=>Kq.panic K c a d v w h
 | .j J::K,c,a,d,v,w,h=>Kq.panic K c a d v w h
inductive Ob where
 | r (x y:World->Result Next)
 | v (x y:Value)
 | t (x y:Tg)
 | l (x y:List Sh)
 | b (x:Bool)
inductive Oe where
 | r (x:World->Result Next)
 | v (x:Value)
 | t (x:Tg)
 | l (x:List Sh)
 | b (x:Bool)
def Ob.l':Ob->Oe|.r x _=>.r x|.v x _=>.v x|.t x _=>.t x|.l x _=>.l x|.b x=>.b x
def Ob.r':Ob->Oe|.r _ x=>.r x|.v _ x=>.v x|.t _ x=>.t x|.l _ x=>.l x|.b _=>.b true
def Ob.ok:Ob->Prop|.r x y=>x=y|.v x y=>x=y|.t x y=>x=y|.l x y=>x=y|.b x=>x=true
theorem Ob.all{l:List Ob}(h:l.map Ob.l'=l.map Ob.r'):∀ o∈l,o.ok:=by
 intro o d;have c:∀ o∈l,o.l'=o.r':=List.map_inj_left.1 h;have a:=c o d;cases o<;>simp only[Ob.l',Ob.r',Oe.r.injEq,Oe.v.injEq,Oe.t.injEq,Oe.l.injEq,Oe.b.injEq]at a<;>exact a
def Ir:Value->Nat|.pointer (some a)=>a.off|_=>0
def CX:Obj->Array Value|.cells c _ _=>c|_=>#[]
def Ex:Obj->Bool|.cells _ _ (0,0)=>true|_=>false
def gX:Obj->Array Value->Obj|.cells _ t f,c=>.cells c t f|o,_=>o
def szT(P:Program)(ty:TypeId):Nat:=((P.info? ty).map (·.size)).getD 0
def GH(P:Program)(ty:TypeId):Bool:=match P.underlying ty with|some d=>d.isRow|none=>false
def reA:Value->Nat->Value
 | .pointer (some a),g=>.pointer (some { a with block:=g })
 | .slice (some a) n c,g=>.slice (some { a with block:=g }) n c
 | .map (some _),g=>.map (some g)
 | v,_=>v
def gh:Result Next->Value|.ok (.value v) _=>v|_=>undef
def jj:Result Next->Obj|.ok _ w=>(w.heap[0]?).getD default|_=>default
def gH:Op->Bool|.alloc _|.box _ _|.buildSlice _ _ _|.makeSlice _ _ _|.makeMap _ _=>true|_=>false
def lY:Op->Bool|.store _ _ _=>true|_=>false
def mO(i:Nat):Nat->Tg|0=>.z|1=>.l|r+2=>.n r i
structure Rs where
 f:Fm
 L:List Sh
 j:Nat
 h:List Nat
 o:List Ob
def exQ(P:Program)(ops:Array Oper)(o:Oper)(f:Fm)(L:List Sh)(h:List Nat):Value × List Nat × List Ob :=
 cond (f.br ops o) (match o.op with
  | .load ty x =>
   let r:=L.getD (h.headD 0) default
   let off:=Ir (f.ev x)
   (cond (GH P ty) (.agg (((CX r.o).toList.drop off).take (szT P ty)).toArray) ((CX r.o).getD off undef),h.tail,
    [.v (f.ev x) (pt r.g off),.b (Nat.blt (h.headD 0) L.length&&Nat.ble (off+szT P ty) (CX r.o).size&&(P.info? ty).isSome&&(P.underlying ty).isSome&&Ex r.o&&(GH P ty||Nat.beq (szT P ty) 1))])
  | _=>let q:=(execOp f.ev o).run P default;(gh q,h,[.r (λw=>(execOp f.ev o).run P w) (λw=>.ok (.value (gh q)) w)]))
  (undef,h,[])
def stP:Op->TypeId × Operand × Operand|.store t x y=>(t,x,y)|_=>(0,.tmp 0,.tmp 0)
def exS(P:Program)(T:List Tg)(o:Oper)(f:Fm)(L:List Sh)(j:Nat)(h:List Nat):Rs :=
 let ty:=(stP o.op).1
 let x:=(stP o.op).2.1
 let r:=L.getD (h.headD 0) default
 let off:=Ir (f.ev x)
 let v:=f.ev (stP o.op).2.2
 let cs:=cond (GH P ty) v.cells #[v]
 let m:=h.tail.headD 0
 ⟨f,L.set (h.headD 0) { r with o:=gX r.o (fm (CX r.o) off cs.toList) },j,h.tail.tail,
  [.v (f.ev x) (pt r.g off),.v v (cond (GH P ty) (.agg cs) v),.t (cond r.w .l r.t) (cond r.w .l ((Tg.l::T).getD m .z)),
   .b (Nat.blt (h.headD 0) L.length&&Nat.ble (off+cs.size) (CX r.o).size&&(P.info? ty).isSome&&Nat.beq (szT P ty) cs.size&&Ex r.o&&o.dst.isNone&&cs.all (·.oneCell')&&(r.w||(Nat.ble m T.length&&!r.t.sB)))]⟩
def exN(P:Program)(gs:Nat->Nat)(o:Oper)(f:Fm)(L:List Sh)(j:Nat)(h:List Nat):Rs :=
 let q:=(execOp f.ev o).run P default
 ⟨f.put o.dst (reA (gh q) (gs j)),L++[⟨gs j,jj q,mO (h.tail.headD 0) (h.headD 0),true⟩],j+1,h.tail.tail,
  [.r (λw=>(execOp f.ev o).run P w) (λw=>.ok (.value (reA (gh q) w.heap.size)) (w.alloc (jj q))),.b o.dst.isSome]⟩
def exO(P:Program)(T:List Tg)(gs:Nat->Nat)(ops:Array Oper)(o:Oper)(f:Fm)(L:List Sh)(j:Nat)(h:List Nat):Rs :=
 cond (f.br ops o&&lY o.op) (exS P T o f L j h) (cond (f.br ops o&&gH o.op) (exN P gs o f L j h)
  (let q:=exQ P ops o f L h;⟨f.put o.dst q.1,L,j,q.2.1,.b (o.dst.isSome||!f.br ops o)::q.2.2⟩))
def WQ(id:Nat):List Kt->List Kt
 | []=>[]
 | .b i::K=>cond (Nat.beq i id) K (WQ id K)
 | _::K=>WQ id K
def Ze(id:Nat):List Kt->Bool
 | []=>false
 | .b i::K=>cond (Nat.beq i id) true (Ze id K)
 | _::K=>Ze id K
def YG(ops:Array Oper)(i:Nat):List Nat :=
 (List.range ops.size).foldl (λD j=>cond (match ops[j]? with|none=>false|some o=>o.after.any λe=>Region.binds .any e&&D.contains e.on) (j::D) D) [i]
def tkB(ops:Array Oper)(Ld:Array Bool)(s i:Nat)(ld:Bool):Bool :=
 Region.noSelect ops&&(Region.free .any ops Ld i&&(Region.ready .any ops Ld).contains i&&(s != i)&&decide (Ld.size=ops.size) &&
  (cond ld (let D:=YG ops i;D.contains i&&(D.contains s||decide (ops.size<=s))&&Nm .any ops i D&&D.all λj=>Ld.getD j true==false) (Ld.getD i true==false)))
def el:Op->Bool|.load _ _=>true|_=>false
def BS(L:List Sh):List Sh:=L.map λx=>⟨x.g,x.o,x.t,false⟩
structure Rz where
 s:Xs
 o:List Ob
def rn(P:Program)(T:List Tg)(gs:Nat->Nat):Nat->Xs->Nat->List Nat->Rz
 | 0,s,_,_=>⟨s,[]⟩
 | m+1,s,j,h=>match s.K with
  | []=>⟨s,[.b false]⟩
  | .c x::K=>match x with
   | .skip=>rn P T gs m ⟨K,s.f,s.L⟩ j h
   | .seq x y=>rn P T gs m ⟨.c x::.c y::K,s.f,s.L⟩ j h
   | .block id x=>rn P T gs m ⟨.c x::.b id::K,s.f,s.L⟩ j h
   | .exit id=>let r:=rn P T gs m ⟨WQ id K,s.f,s.L⟩ j h;⟨r.s,.b (Ze id K)::r.o⟩
   | .cond c x y=>match s.f.ev c with
    | .bool t=>rn P T gs m ⟨.c (cond t x y)::K,s.f,s.L⟩ j h
    | _=>⟨s,[.b false]⟩
   | .region _ ops false=>rn P T gs m ⟨.o ops (List.range ops.size)::K,s.f,s.L⟩ j h
   | .region _ ops true=>let r:=rn P T gs m ⟨.x ops ops.size (Array.replicate ops.size false) (h.headD 0) (BS s.L)::K,s.f,s.L⟩ j h.tail;⟨r.s,.b (P.follows .mixedOrders)::r.o⟩
   | _=>⟨s,[.b false]⟩
  | .b _::K=>rn P T gs m ⟨K,s.f,s.L⟩ j h
  | .j _::_=>⟨s,[.b false]⟩
  | .o _ []::K=>rn P T gs m ⟨K,s.f,s.L⟩ j h
  | .o ops (i::is)::K=>match ops[i]? with
   | none=>⟨s,[.b false]⟩
   | some o=>let q:=exO P T gs ops o s.f s.L j h;let r:=rn P T gs m ⟨.o ops is::K,q.f,q.L⟩ q.j q.h;⟨r.s,q.o++r.o⟩
  | .y ops u Ld e L0 i::K=>match ops[i]? with
   | none=>⟨s,[.b false]⟩
   | some o =>
    let q:=exO P T gs ops o s.f s.L j h
    let Ld':=Ld.setIfInBounds i true
    let r:=rn P T gs m ⟨.x ops u Ld' e L0::K,q.f,q.L⟩ q.j q.h
    ⟨r.s,.l (cond (Ld'.getD e false) [] L0) (cond (Ld'.getD e false) [] (BS (q.L.take L0.length)))::(q.o++r.o)⟩
  | .x ops 0 Ld _ _::K=>let r:=rn P T gs m ⟨K,s.f,s.L⟩ j h;⟨r.s,.b (Region.ready .any ops Ld).isEmpty::r.o⟩
  | .x ops (u+1) Ld e L0::K =>
   let i:=h.headD 0/2
   let Ld':=Ld.setIfInBounds i true
   match ops[i]? with
   | none=>⟨s,[.b false]⟩
   | some o=>cond (Nat.beq (h.headD 0%2) 0)
    (let q:=exQ P ops o s.f L0 h.tail
     let r:=rn P T gs m ⟨.x ops u Ld' e L0::K,s.f.put o.dst q.1,s.L⟩ j q.2.1
     let d:=el o.op&&s.f.br ops o
     ⟨r.s,.b (tkB ops Ld e i d&&o.dst.isSome&&(!d||!Ld.getD e false))::.l (cond (Ld.getD e false) [] L0) (cond (Ld.getD e false) [] (BS (s.L.take L0.length)))::(q.2.2++r.o)⟩)
    (let q:=exO P T gs ops o s.f s.L j h.tail
     let r:=rn P T gs m ⟨.x ops u Ld' e L0::K,q.f,q.L⟩ q.j q.h
     ⟨r.s,.b (match Region.ready .any ops Ld with|[k]=>Nat.beq k i|_=>false)::.l (cond (Ld'.getD e false) [] L0) (cond (Ld'.getD e false) [] (BS (q.L.take L0.length)))::(q.o++r.o)⟩)
end
section
variable{P:Program}{ops:Array Oper}{Q:Exit->Act->World->Prop}
section
variable{B i j:Nat}{L:List Sh}{T:List Tg}{f:Fm}{g g0:Gh}{h:List Nat}{o:Oper}{w w' w0:World}
theorem Pq(p:ops[i]?=some o)(a:∀ x∈(exQ P ops o f L h).2.2,x.ok)(W:World)(E:AV L W\/(el o.op&&f.br ops o)=false) :
  got P ops f.act W i=some (o.dst,(exQ P ops o f L h).1,W):=by
 unfold exQ at a ⊢;cases hwt:f.br ops o with
 | false =>
  simp only[cond_false];unfold got;simp only[p,f.wanted,hwt,if_false,qg]
 | true =>
  rw[hwt]at a E
  simp only[cond_true]at a ⊢;have b:Region.wanted o (yielded ops f.act.tmps)=true:=by rw[f.wanted,hwt]
  split at a
  .rename_i ty x hop
   simp only[];have u:AV L W:=E.resolve_right (by simp[hop,el]);have c:=a _ (O' ..);have n:=a _ (I' _ (O' ..));simp only[Ob.ok,nC]at c n;obtain⟨⟨⟨⟨⟨z,s⟩,A⟩,B⟩,C⟩,D⟩:=n;generalize N:h.headD 0=k at *;have m:k<L.length:=by rw[Nat.blt,ql]at z;exact z
   have H:L.getD k default=L[k]:=by rw[nT,E' m];rfl
   rw[H]at c s C ⊢
   have g:=u L[k] (nM m);generalize L[k]=r at *;obtain⟨q,J,Q,K⟩:=r;cases J with
   | cells cs t fr =>
    obtain⟨O,M⟩:=fr;simp only[CX]at s ⊢;rw[ql]at s
    cases hu:P.underlying ty with
    | none=>rw[hu]at B;cases B
    | some dd =>
     cases hi':P.info? ty with
     | none=>rw[hi']at A;cases A
     | some inf =>
      have y:szT P ty=inf.size:=by unfold szT;rw[hi'];rfl
      have j:GH P ty=dd.isRow:=by unfold GH;rw[hu]
      have F:f.act.eval x=pt q (Ir (f.ev x)):=by rw[f.eval];exact c
      cases hrow':dd.isRow with
      | false =>
       rw[j,hrow',cond_false];have e:Ir (f.ev x)<cs.size:=by rw[j,hrow',qe]at D;have:=nF D;omega
       have w:W.cell? ⟨q,Ir (f.ev x),none⟩=some (cs.getD (Ir (f.ev x)) undef):=by
        rw[cell_of_row _ _ _ _ _ _ g,ph e,nX,ph e];rfl
       have l:(isAgg ty).run P W=.ok false W:=by
        unfold isAgg;rw[Sem.run_bind,run_underlying hu W];clear a c u;cases dd<;>first|rfl|(simp only[TypeDesc.isRow]at hrow';cases hrow')
       have G:(loadVar ty ⟨q,Ir (f.ev x),none⟩).run P W=.ok (cs.getD (Ir (f.ev x)) undef) W:=by
        generalize cs.getD (Ir (f.ev x)) undef=v at *;generalize Ir (f.ev x)=k0 at *;clear a c u;simp[loadVar,l,w,go_sem]
       unfold got execOp;simp only[p,b,if_true,hop,F,Instr.loadAt,Instr.sureAddr,Sem.run_bind,Sem.run_pure,Result.andThen_ok,G]
      | true =>
       rw[j,hrow',cond_true];have d:((cs.toList.drop (Ir (f.ev x))).take (szT P ty)).length=szT P ty:=by rw[X',nc,oI];omega
       have w:=R0 g (Ir (f.ev x)) ((cs.toList.drop (Ir (f.ev x))).take (szT P ty)) (by rw[d]);have I:(P.info? ty).map (·.size)=some (((cs.toList.drop (Ir (f.ev x))).take (szT P ty))).length:=by rw[hi',d,y];rfl
       unfold got execOp;simp only[p,b,if_true,hop,F,Instr.loadAt,Instr.sureAddr,Sem.run_bind,Sem.run_pure,Result.andThen_ok,run_loadVar_mid W q _ ty _ dd w hu hrow' I]
   | _=>cases C
  .rename_i hno
   have c:=a _ (O' ..);simp only[Ob.ok]at c;have n:=congrFun c W;unfold got;simp only[p,b,if_true,f.eval,n]
theorem Kn.two(h:Kn B g w L)(d:i<L.length)(e:j<L.length)(a:i≠j)(c:L[i].g=L[j].g):(L[i].t=.z/\L[i].w=false)/\L[j].t=.z/\L[j].w=false:=by
 have b:=oP.1 h.sX;rcases Nat.lt_or_gt_of_ne a with hl|hl
 .exact b i j d e hl c
 .have:=b j i e d hl c.symm;exact⟨this.2,this.1⟩
theorem Kn.set{k:Nat}(A:k<L.length)(f:Kn B g w L)(v:L[k].w=true\/L[k].t≠.z)(p:Obj)(F:w'.heap[L[k].g]?=some p)(u:Only L[k].g w w') :
  Kn B g w' (L.set k { L[k]with o:=p }):=by
 have D:∀ n (m:n<L.length),n≠k->L[n].g≠L[k].g:=λn m e q=>by
  have:=f.two m A e q;rcases v with h|h
  .rw[this.2.2]at h;cases h
  .exact h this.2.1
 refine⟨λx G=>?_,?_,λb C=>f.new b (by rw[<- u.size];exact C),by rw[u.size];exact f.base⟩
 .obtain⟨n,m,rfl⟩:=pB G;have d:n<L.length:=by simpa using m
  rw[pc];split
  .exact⟨F,(f.row _ (nM A)).2⟩
  .rename_i e
   have y:=f.row _ (nM d);refine⟨?_,y.2⟩;rw[u.other _ (D n d (λh=>e h.symm))];exact y.1
 .rw[oP];intro i j r s E q;have a:i<L.length:=by simpa using r
  have c:j<L.length:=by simpa using s
  have l:∀ n (m:n<(L.set k { L[k]with o:=p }).length) (d:n<L.length),(L.set k { L[k]with o:=p })[n].g=L[n].g/\(L.set k { L[k]with o:=p })[n].t=L[n].t/\(L.set k { L[k]with o:=p })[n].w=L[n].w:=λn m d=>by
   rw[pc];split
   .rename_i h;subst h;exact⟨rfl,rfl,rfl⟩
   .exact⟨rfl,rfl,rfl⟩
  rw[(l i r a).1,(l j s c).1]at q
  have:=f.two a c (by omega) q;rw[(l i r a).2.1,(l i r a).2.2,(l j s c).2.1,(l j s c).2.2];exact this
theorem Cg.only{b:Nat}(h:Cg B T g0 w0 g w)(d:Only b w w')(hb:w0.heap.size<=b\/((g.t b∈T\/(g.t b=.l/\B<=b))/\g.k b=0)):Cg B T g0 w0 g w' :=
 ⟨d.os.trans h.os,d.tape.trans h.tape,d.output.trans h.output,by rw[d.size];exact h.size,h.sK,h.sH,h.tm,λc e i f=>by
  have a:c≠b:=by
   rintro rfl;rcases hb with hb|⟨hb|hb,_⟩
   .omega
   .rw[h.tag e f]at hb;exact i hb
   .rw[h.tag e f]at hb;have:=f hb.1;omega
  rw[d.other c a];exact h.same c e i f,λc e j m=>by
  have a:c≠b:=by
   rintro rfl;rcases hb with hb|⟨_,hb⟩
   .omega
   .have:=h.sH _ e;omega
  rw[World.cell?_of_block (w:=w) (d.other c a)];exact h.sI c e j m⟩
theorem Kn.push(d:Kn B g w L)(o:Obj)(t:Tg)(b:Bool) :
  Kn B ⟨λc=>if c=w.heap.size then t else g.t c,g.k⟩ (w.alloc o) (L++[⟨w.heap.size,o,t,b⟩]):=by
 have e:∀ x∈L,x.g<w.heap.size:=λx i=>rl (d.row x i).1;refine⟨λx i=>?_,?_,λc f=>?_,?_⟩
 .rcases U'.1 i with h|h
  .have h1:=d.row x h;have l:=e x h;exact⟨by rw[Below.heap_alloc _ _ _ l];exact h1.1,by show(if x.g=w.heap.size then t else g.t x.g)=_;rw[if_neg (by omega)];exact h1.2.1,h1.2.2.1,h1.2.2.2⟩
  .obtain rfl:x=⟨w.heap.size,o,t,b⟩:=by simpa using h
   exact⟨heap_alloc_new _ _,if_pos rfl,λ_=>d.base,λ_=>(d.new _ (A' _)).2⟩
 .rw[pi];refine⟨d.sX,qh _ _,λa m c f j=>?_⟩;have:=e a m;rw[G'.1 f]at j
  simp only at j;omega
 .have h1:w.heap.size+1<=c:=by simpa using f
  show(if c=w.heap.size then t else g.t c)=.z/\g.k c=0;rw[if_neg (by omega)];exact d.new c (by omega)
 .have:=d.base;simp;omega
theorem Cg.push(h:Cg B T g0 w0 g w)(o:Obj)(t:Tg):Cg B T g0 w0 ⟨λc=>if c=w.heap.size then t else g.t c,g.k⟩ (w.alloc o) :=
 ⟨h.os,h.tape,h.output,by have:=h.size;simp;omega,λb a=>by
  show(if b=w.heap.size then t else g.t b)=_\/(_/\_/\(if b=w.heap.size then t else g.t b)=_);have:=h.size;rw[if_neg (by omega)];exact h.sK b a,h.sH,h.tm,λb a d e=>by
  have:=h.size;rw[Below.heap_alloc _ _ _ (by omega)];exact h.same b a d e,λb a j f=>by
  have:=h.size;rw[World.cell?_of_block (w:=w) (Below.heap_alloc _ _ _ (by show b<_;omega))];exact h.sI b a j f⟩
theorem SO{gs:Nat->Nat}{K:Act->World->Prop}(ho:ops[i]?=some o)(a:∀ x∈(exO P T gs ops o f L j h).o,x.ok)(R:Kn B g w L)(W:Cg B T g0 w0 g w)(X:∀ x∈L,x.w=true->w0.heap.size<=x.g)(hj:∀ k,gs (j+k)=w.heap.size+k)(c:∀ g' w',Kn B g' w' (exO P T gs ops o f L j h).L->Cg B T g0 w0 g' w'->(∀ x∈(exO P T gs ops o f L j h).L,x.w=true->w0.heap.size<=x.g)->(∀ k,gs ((exO P T gs ops o f L j h).j+k)=w'.heap.size+k)->K (exO P T gs ops o f L j h).f.act w') :
  wpOp P ops Q i K f.act w:=by
 unfold exO at a c;cases hs:f.br ops o&&lY o.op with
 | true =>
  rw[hs]at a c
  simp only[cond_true]at a c;simp only[nC]at hs;obtain⟨a2,D⟩:=hs;have r:Region.wanted o (yielded ops f.act.tmps)=true:=by rw[f.wanted,a2]
  obtain⟨V,x,y,J⟩:∃ V x y,o.op=.store V x y:=by
   cases hh:o.op<;>rw[hh]at D<;>first|exact⟨_,_,_,rfl⟩|cases D
  unfold exS at a c;simp only[J,stP]at a c;have O:=a _ (O' ..);have A:=a _ (I' _ (O' ..));have v:=a _ (I' _ (I' _ (O' ..)));have h4:=a _ (I' _ (I' _ (I' _ (O' ..))));clear a;simp only[Ob.ok,nC]at O A v h4;obtain⟨⟨⟨⟨⟨⟨⟨b1,F⟩,b3⟩,b4⟩,N⟩,b6⟩,b7⟩,u⟩:=h4;generalize a3:h.headD 0=k at *;have s:k<L.length:=by rw[Nat.blt,ql]at b1;exact b1
  have hr:L.getD k default=L[k]:=by rw[nT,E' s];rfl
  rw[hr]at O v F N u
  simp only[hr]at c;have q:=R.row L[k] (nM s);have a0:o.dst=none:=by cases Z:o.dst with|none=>rfl|some _=>rw[Z]at b6;cases b6
  have E:f.act.eval x=pt L[k].g (Ir (f.ev x)):=by rw[f.eval];exact O
  obtain⟨cs,t,Y⟩:∃ cs t,L[k].o=.cells cs t (0,0):=by
   cases hh:L[k].o with
   | cells cs t fr =>
    obtain⟨lo,S⟩:=fr;rw[hh]at N
    cases lo with
    | zero=>cases S with
     | zero=>exact⟨cs,t,rfl⟩
     | succ n=>cases N
    | succ n=>cases N
   | _=>rw[hh]at N;cases N
  simp only[Y,CX,gX]at F c;have e:=q.1;rw[Y]at e
  rw[ql]at F
  have S:(P.info? V).map (·.size)=some (cond (GH P V) (f.ev y).cells #[f.ev y]).size:=by
   have:=nF b4;unfold szT at this;cases hh:P.info? V with
   | none=>rw[hh]at b3;cases b3
   | some inf=>rw[hh]at this;rw[<- this];rfl
  have hin:w0.heap.size<=L[k].g\/((g.t L[k].g∈T\/(g.t L[k].g=.l/\B<=L[k].g))/\g.k L[k].g=0):=by
   cases U:L[k].w with
   | true=>exact .inl (X _ (nM s) U)
   | false =>
    rw[U]at v u
    simp only[cond_false,qe,nC,qm]at v u;have hz:L[k].t≠.z:=λH=>by rw[H]at u;cases u.2
    refine .inr ⟨?_,q.2.2.2 hz⟩;rw[q.2.1];have hm:=u.1;rw[ql]at hm
    generalize h.tail.headD 0=m at *;cases m with
    | zero=>exact .inr ⟨v,q.2.2.1 v⟩
    | succ m =>
     left;rw[v];show T.getD m .z∈T;rw[nT,E' (by omega)];exact nM _
  have a1:L[k].w=true\/L[k].t≠.z:=by
   cases U:L[k].w with
   | true=>exact .inl rfl
   | false =>
    rw[U]at u
    simp only[qe,nC,qm]at u;exact .inr λH=>by rw[H]at u;cases u.2
  have C:∀ o',∀ x∈L.set k { L[k]with o:=o' },x.w=true->w0.heap.size<=x.g:=λo' x E p=>by
   obtain⟨n,hn,rfl⟩:=pB E;rw[pc]at p ⊢
   split
   .rename_i H;rw[if_pos H]at p;exact X L[k] (nM s) p
   .rename_i H;rw[if_neg H]at p;exact X _ (nM (by simpa using hn)) p
  cases hrt:GH P V with
  | false =>
   simp only[hrt,cond_false]at S A b7 F c;refine kZ (f.ev y) e ho r a0 J E (by rw[f.eval]) S (Nat.lt_of_succ_le F) (by simpa using b7) rfl λw' M G=>c g w' (R.set s a1 _ M G) (W.only G hin) (C _) (by rw[G.size];exact hj)
  | true =>
   simp only[hrt,cond_true]at S A b7 F c;refine kY (f.ev y).cells e ho r a0 J E (by rw[f.eval];exact A) S F b7 rfl λw' M G=>c g w' (R.set s a1 _ M G) (W.only G hin) (C _) (by rw[G.size];exact hj)
 | false =>
  rw[hs]at a c
  simp only[cond_false]at a c;clear hs;cases hc:f.br ops o&&gH o.op with
  | false =>
   rw[hc]at a c
   simp only[cond_false]at a c;have hq:=Pq (h:=h) ho (λx E=>a x (I' _ E)) w (.inl R.rows);have Z:=a _ (O' ..);simp only[Ob.ok,pM,qm]at Z;have b:=c g w R W X hj;rw[Fm.so]at b
   cases hdd:o.dst with
   | some d=>rw[hdd]at hq b;exact kX d _ hq b
   | none =>
    rw[hdd]at Z b
    have U:f.br ops o=false:=by simpa using Z
    unfold wpOp;rw[ho];simp only[f.wanted,U,qg,if_false,hdd];exact b
  | true =>
   rw[hc]at a c
   simp only[cond_true]at a c;simp only[nC]at hc;have r:Region.wanted o (yielded ops f.act.tmps)=true:=by rw[f.wanted,hc.1]
   unfold exN at a c;have O:=a _ (O' ..);have A:=a _ (I' _ (O' ..));simp only[Ob.ok]at O A;have v:=congrFun O w;have I:gs j=w.heap.size:=by have:=hj 0;simpa using this
   cases hdd:o.dst with
   | none=>rw[hdd]at A;cases A
   | some d =>
    refine am ho r hdd (by rw[f.eval];exact v) ?_;have b:=c _ _ (by simp only[I];exact R.push (jj ((execOp f.ev o).run P default)) _ true) (W.push _ _) (λx E p=>?_) (λk=>?_)
    .simp only[I,hdd]at b;rw[<- Fm.so];exact b
    .rcases U'.1 E with h5|h5
     .exact X x h5 p
     .have h6:=G'.1 h5;rw[h6];show _<=gs j;rw[I];exact W.size
    .have:=hj (1+k);show gs (j+1+k)=_;rw[show j+1+k=j+(1+k)by omega,this];simp;omega
end
end
section
variable{P:Program}{fn:Func}{R:Ending->World->Prop}
section
theorem Kq.exit(id:Nat):∀ (K:List Kt) (a:Act) (w:World),Ze id K=true->Kq P (bodyPost P fn R) (WQ id K) .normal a w->Kq P (bodyPost P fn R) K (.exit id) a w
 | [],a,w,h,_=>by cases h
 | .c x::K,a,w,h,hk=>Kq.exit id K a w h hk
 | .b i::K,a,w,h,hk=>by
  show(if id=i then Kq P (bodyPost P fn R) K .normal a w else Kq P (bodyPost P fn R) K (.exit id) a w);unfold Ze at h;unfold WQ at hk;cases hb:Nat.beq i id with
  | true =>
   rw[hb]at hk
   rw[if_pos (nF hb).symm];exact hk
  | false =>
   rw[hb]at h hk
   rw[if_neg (λhe=>by subst he;rw[rI]at hb;cases hb)];exact Kq.exit id K a w h hk
 | .o ops is::K,a,w,h,hk=>Kq.exit id K a w h hk
 | .x ops m Ld s L0::K,a,w,h,hk=>Kq.exit id K a w h hk
 | .y ops m Ld s L0 i::K,a,w,h,hk=>Kq.exit id K a w h hk
 | .j J::K,a,w,h,hk=>Kq.exit id K a w h hk
variable{B:Nat}{L:List Sh}{T:List Tg}{g g0:Gh}{w w0:World}
theorem Cg.drew(h:Cg B T g0 w0 g w):Cg B T g0 w0 g w.drew:=⟨h.os,h.tape,h.output,h.size,h.sK,h.sH,h.tm,h.same,h.sI⟩
theorem Kn.drew(h:Kn B g w L):Kn B g w.drew L:=⟨h.row,h.sX,h.new,h.base⟩
theorem Xr{ops:Array Oper}{e:Nat}{a:List Sh}{b:Array Bool}(h:AV L w)(d:cond (b.getD e false) [] a=cond (b.getD e false) [] (BS (L.take a.length))):Sx [(e,AV a)] b w:=by
 refine⟨λg=>?_,trivial⟩;rw[g]at d
 have c:a=BS (L.take a.length):=d;intro x f;rw[c]at f
 obtain⟨y,i,rfl⟩:=ny.1 f;exact h y (nu i)
theorem lS(I:Nat->Nat):∀ (m:Nat) (s:Xs) (j:Nat) (h:List Nat) (g:Gh) (w:World),(∀ x∈(rn P T I m s j h).o,x.ok)->Kn B g w s.L->Cg B T g0 w0 g w ->
  (∀ x∈s.L,x.w=true->w0.heap.size<=x.g)->(∀ k,I (j+k)=w.heap.size+k) ->
  (∀ g' w',Kn B g' w' (rn P T I m s j h).s.L->Cg B T g0 w0 g' w'->Kq P (bodyPost P fn R) (rn P T I m s j h).s.K .normal (rn P T I m s j h).s.f.act w') ->
  Kq P (bodyPost P fn R) s.K .normal s.f.act w:=by
 intro m;induction m with
 | zero=>intro s j h g w _ r A _ _ n;exact n g w r A
 | succ m ih =>
  intro s j h g w l r A D E n;obtain⟨K,f,L⟩:=s;unfold rn at l n;cases K with
  | nil=>exact absurd (l _ (O' ..)) (by simp[Ob.ok])
  | cons t K =>
   cases t with
   | c x =>
    cases x with
    | skip=>exact wp_skip (ih ⟨K,f,L⟩ j h g w l r A D E n)
    | seq x y=>exact wp_seq (ih ⟨.c x::.c y::K,f,L⟩ j h g w l r A D E n)
    | block id x=>exact wp_block (ih ⟨.c x::.b id::K,f,L⟩ j h g w l r A D E n)
    | exit id =>
     refine wp_exit (Kq.exit id K _ _ (l _ (O' ..)) ?_);exact ih ⟨WQ id K,f,L⟩ j h g w (λx p=>l x (I' _ p)) r A D E n
    | cond c x y =>
     simp only at l n;split at l
     .rename_i t ht
      simp only[ht]at n;have hc:f.act.eval c=.bool t:=by rw[f.eval];exact ht
      have z:=ih ⟨.c (cond t x y)::K,f,L⟩ j h g w l r A D E n;refine wp_cond hc ?_;cases t<;>exact z
     .exact absurd (l _ (O' ..)) (by simp[Ob.ok])
    | region id ops d =>
     cases d with
     | false =>
      refine wp_region ?_;rw[List.range_eq_range',<- List.range_eq_range'];exact ih ⟨.o ops (List.range ops.size)::K,f,L⟩ j h g w l r A D E n
     | true =>
      refine gw [(h.headD 0,AV (BS L))] (l _ (O' ..)) ?_;exact ih ⟨.x ops ops.size (Array.replicate ops.size false) (h.headD 0) (BS L)::K,f,L⟩ j h.tail g w.drew (λx p=>l x (I' _ p)) r.drew A.drew D E n
    | _=>exact absurd (l _ (O' ..)) (by simp[Ob.ok])
   | b id=>exact ih ⟨K,f,L⟩ j h g w l r A D E n
   | j J=>exact absurd (l _ (O' ..)) (by simp[Ob.ok])
   | o ops is =>
    cases is with
    | nil=>exact ih ⟨K,f,L⟩ j h g w l r A D E n
    | cons i is =>
     simp only at l n;cases ho:ops[i]? with
     | none=>rw[ho]at l;exact absurd (l _ (O' ..)) (by simp[Ob.ok])
     | some o =>
      simp only[ho]at l n;show wpOps P ops (Kq P (bodyPost P fn R) K) (i::is) f.act w;rw[wpOps_cons];refine SO (h:=h) (j:=j) (gs:=I) ho (λx p=>l x (mY _ p)) r A D E λg' w' C F G H=>ih ⟨.o ops is::K,_,_⟩ _ _ g' w' (λx p=>l x (mW _ p)) C F G H n
   | y ops u Ld e L0 i =>
    simp only at l n;cases ho:ops[i]? with
    | none=>rw[ho]at l;exact absurd (l _ (O' ..)) (by simp[Ob.ok])
    | some o =>
     simp only[ho]at l n;have M:=l _ (O' ..);simp only[Ob.ok]at M;show wpOp P ops (Kq P (bodyPost P fn R) K) i (λa w=>Sx [(e,AV L0)] (Ld.setIfInBounds i true) w/\BK P .any ops (Kq P (bodyPost P fn R) K) [(e,AV L0)] u (Ld.setIfInBounds i true) a w) f.act w;refine SO (h:=h) (j:=j) (gs:=I) ho (λx p=>l x (I' _ (mY _ p))) r A D E λg' w' C F G H=>⟨Xr (ops:=ops) C.rows M,ih ⟨.x ops u (Ld.setIfInBounds i true) e L0::K,_,_⟩ _ _ g' w' (λx p=>l x (I' _ (mW _ p))) C F G H n⟩
   | x ops u Ld e L0 =>
    cases u with
    | zero =>
     have z:=l _ (O' ..);simp only[Ob.ok,List.isEmpty_iff]at z;exact⟨z,ih ⟨K,f,L⟩ j h g w (λx p=>l x (I' _ p)) r A D E n⟩
    | succ u =>
     simp only at l n;generalize hi:h.headD 0/2=i at *;cases ho:ops[i]? with
     | none=>rw[ho]at l;exact absurd (l _ (O' ..)) (by simp[Ob.ok])
     | some o =>
      simp only[ho]at l n;have Y:∀ c a d v w,Kq P (bodyPost P fn R) K (.panic c) (a.put (some d) v) w->Kq P (bodyPost P fn R) K (.panic c) a w:=λc a d v w=>Kq.panic K c a (some d) v w;cases hm:Nat.beq (h.headD 0%2) 0 with
      | true =>
       simp only[hm,cond_true]at l n;have z:=l _ (O' ..);have M:=l _ (I' _ (O' ..));have S:∀ x∈(exQ P ops o f L0 h.tail).2.2,x.ok:=λx p=>l x (I' _ (I' _ (mY _ p)));have U:=λx p=>l x (I' _ (I' _ (mW _ p)));simp only[Ob.ok,nC]at z M;obtain⟨⟨z,N⟩,O⟩:=z;have V:Sx [(e,AV L0)] Ld w:=Xr (ops:=ops) r.rows M;have q:=ih ⟨.x ops u (Ld.setIfInBounds i true) e L0::K,f.put o.dst (exQ P ops o f L0 h.tail).1,L⟩ j _ g w U r A D E n;simp only[Fm.so]at q;cases hdd:o.dst with
       | none=>rw[hdd]at N;cases N
       | some d =>
        rw[hdd]at q
        unfold tkB at z;simp only[nC]at z;obtain⟨ns,⟨⟨⟨⟨Z,t2⟩,t3⟩,t4⟩,Q⟩⟩:=z;cases hld:el o.op&&f.br ops o with
        | false =>
         rw[hld,cond_false]at Q
         refine xB0 u [i] [(d,(exQ P ops o f L0 h.tail).1)] (λW=>?_) ns ?_ rfl rfl Y V q
         .have hg:=Pq (h:=h.tail) ho S W (.inr hld);rw[hdd]at hg
          simp only[SY,br,nK,oJ,hg]
         .simp only[MX,nK,oJ,pA,rJ,rj,nC];exact⟨⟨⟨⟨Z,t2⟩,t3⟩,t4⟩,Q⟩
        | true =>
         rw[hld,cond_true]at Q
         rw[hld]at O
         have X:Ld.getD e false=false:=by simpa using O
         refine xC0 u i d (YG ops i) (exQ P ops o f L0 h.tail).1 (λW hW=>?_) (V.1 X) ns ?_ rfl Y V q
         .have hg:=Pq (h:=h.tail) ho S W (.inl hW);rw[hdd]at hg
          exact hg
         .simp only[nK,oJ,pA,rJ,rj,nC]at Q ⊢;exact⟨⟨⟨⟨Z,t2⟩,t3⟩,t4⟩,Q⟩
      | false =>
       simp only[hm,cond_false]at l n;have z:=l _ (O' ..);have M:=l _ (I' _ (O' ..));have S:=λx p=>l x (I' _ (I' _ (mY _ p)));have U:=λx p=>l x (I' _ (I' _ (mW _ p)));simp only[Ob.ok]at z M;have hr:Region.ready .any ops Ld=[i]:=by
        split at z
        .rename_i k n;rw[n,nF z]
        .cases z
       refine xS0 u i hr rfl ?_;refine SO (h:=h.tail) (j:=j) (gs:=I) ho S r A D E λg' w' C F G H=>⟨Xr (ops:=ops) C.rows M,ih ⟨.x ops u (Ld.setIfInBounds i true) e L0::K,_,_⟩ _ _ g' w' U C F G H n⟩
end
end
section
variable{P:Program}{fn:Func}{R:Ending->World->Prop}{B:Nat}{T:List Tg}{g:Gh}{w:World}
section
variable{C:Ending->World->Prop}{L:List Sh}{T':List Tg}{args:Array Value}{f:FuncId}{g' g'':Gh}{i':Nat}{s:Xs}{w' w'':World}
theorem Kn.tL(h:Kn B g w L):Kn B g w (BS L):=by
 refine⟨λx c=>?_,?_,h.new,h.base⟩
 .obtain⟨y,hy,rfl⟩:=ny.1 c;exact h.row y hy
 .unfold BS;rw[List.pairwise_map];exact h.sX.imp λb a=>⟨⟨(b a).1.1,rfl⟩,(b a).2.1,rfl⟩
def rn0(P:Program)(T:List Tg)(gs:Nat->Nat)(m:Nat)(s:Xs)(h:List Nat):Rz:=rn P T gs m ⟨s.K,s.f,BS s.L⟩ 0 h
theorem dS(a:List Tg)(m:Nat)(h:List Nat)(d:∀ gs,(rn0 P a gs m s h).o.map Ob.l'=(rn0 P a gs m s h).o.map Ob.r')(j:∀ gs g' w',Cg B a g w g' w'->GG P fn R B T (rn0 P a gs m s h).s g' w'):GG P fn R B T s g w:=by
 refine⟨λi=>?_⟩;refine lS (λk=>w.heap.size+k) m ⟨s.K,s.f,BS s.L⟩ 0 h g w (Ob.all (d _)) i.tL (Cg.refl B a g w) ?_ (λk=>by simp) λg' w' c b=>(j _ g' w' b).ex c;intro x l e;obtain⟨y,n,rfl⟩:=ny.1 l;cases e
theorem Af(h:Kn B g w s.L->GG P fn R B T s g w):GG P fn R B T s g w:=⟨λa=>(h a).ex a⟩
def opN(s:Xs)(i':Nat):Option (Array Oper × Nat × Oper):=match s.K with
 | .o ops (i::_)::_=>match ops[i]? with|some o=>some (ops,i,o)|none=>none
 | .x ops _ _ _ _::_=>match ops[i']? with|some o=>some (ops,i',o)|none=>none
 | .y ops _ _ _ _ i::_=>match ops[i]? with|some o=>some (ops,i,o)|none=>none
 | _=>none
def nxt(s:Xs)(i':Nat)(v:Value)(L:List Sh):Rz:=match s.K with
 | .o ops (i::is)::K=>match ops[i]? with|some o=>⟨⟨.o ops is::K,s.f.put o.dst v,L⟩,[.b (s.f.br ops o)]⟩|none=>⟨s,[.b false]⟩
 | .x ops (u+1) Ld e L0::K=>match ops[i']? with
  | some o =>
   let Ld':=Ld.setIfInBounds i' true
   ⟨⟨.x ops u Ld' e L0::K,s.f.put o.dst v,L⟩,[.b (s.f.br ops o),.b (match Region.ready .any ops Ld with|[k]=>Nat.beq k i'|_=>false),.l (cond (Ld'.getD e false) [] L0) (cond (Ld'.getD e false) [] (BS (L.take L0.length)))]⟩
  | none=>⟨s,[.b false]⟩
 | .y ops u Ld e L0 i::K=>match ops[i]? with
  | some o =>
   let Ld':=Ld.setIfInBounds i true
   ⟨⟨.x ops u Ld' e L0::K,s.f.put o.dst v,L⟩,[.b (s.f.br ops o),.l (cond (Ld'.getD e false) [] L0) (cond (Ld'.getD e false) [] (BS (L.take L0.length)))]⟩
  | none=>⟨s,[.b false]⟩
 | _=>⟨s,[.b false]⟩
theorem T3{j:Array Oper}{i:Nat}{o:Oper}(b:opN s i'=some (j,i,o))(L:List Sh)(q:(nxt s i' undef L).o.map Ob.l'=(nxt s i' undef L).o.map Ob.r')(h:∀ (Q:Exit->Act->World->Prop) (K:Act->World->Prop),j[i]?=some o->Region.wanted o (yielded j s.f.act.tmps)=true->(∀ v g' w',Kn B g' w' L->GG P fn R B T (nxt s i' v L).s g' w'->K (s.f.act.put o.dst v) w')->wpOp P j Q i K s.f.act w):GG P fn R B T s g w:=by
 refine⟨λA=>?_⟩;obtain⟨K,f,z⟩:=s;have c:=Ob.all q;unfold opN at b;unfold nxt at c h;cases K with
 | nil=>cases b
 | cons t K =>
  cases t with
  | o ops1 is =>
   cases is with
   | nil=>cases b
   | cons i1 is =>
    simp only at b c h;cases ho:ops1[i1]? with
    | none=>rw[ho]at b;cases b
    | some o1 =>
     rw[ho]at b
     simp only[Y',n8]at b;obtain⟨rfl,rfl,rfl⟩:=b;simp only[ho]at c;have m:=c _ (O' ..);show wpOps P ops1 (Kq P (bodyPost P fn R) K) (i1::is) f.act w;rw[wpOps_cons];refine h _ _ ho (by rw[f.wanted];exact m) λv g' w' d l=>?_;simp only[ho]at l;have:=l.ex d;rw[Fm.so]at this
     exact this
  | y ops1 u Ld e L0 i1 =>
   simp only at b c h;cases ho:ops1[i1]? with
   | none=>rw[ho]at b;cases b
   | some o1 =>
    rw[ho]at b
    simp only[Y',n8]at b;obtain⟨rfl,rfl,rfl⟩:=b;simp only[ho]at c;have m:=c _ (O' ..);have n:=c _ (I' _ (O' ..));simp only[Ob.ok]at m n;show wpOp P ops1 (Kq P (bodyPost P fn R) K) i1 (λa w=>Sx [(e,AV L0)] (Ld.setIfInBounds i1 true) w/\BK P .any ops1 (Kq P (bodyPost P fn R) K) [(e,AV L0)] u (Ld.setIfInBounds i1 true) a w) f.act w;refine h _ _ ho (by rw[f.wanted];exact m) λv g' w' d l=>?_;simp only[ho]at l;have:=l.ex d;rw[Fm.so]at this
    exact⟨Xr (ops:=ops1) d.rows n,this⟩
  | x ops1 u Ld e L0 =>
   cases u with
   | zero=>exact absurd (c _ (O' ..)) (by simp[Ob.ok])
   | succ u =>
    simp only at b c h;cases ho:ops1[i']? with
    | none=>rw[ho]at b;cases b
    | some o1 =>
     rw[ho]at b
     simp only[Y',n8]at b;obtain⟨rfl,rfl,rfl⟩:=b;simp only[ho]at c;have m:=c _ (O' ..);have p:=c _ (I' _ (O' ..));have n:=c _ (I' _ (I' _ (O' ..)));simp only[Ob.ok]at m p n;have r:Region.ready .any ops1 Ld=[i']:=by
      split at p
      .rename_i k hk;rw[hk,nF p]
      .cases p
     refine xS0 u i' r rfl ?_;refine h _ _ ho (by rw[f.wanted];exact m) λv g' w' d l=>?_;simp only[ho]at l;have:=l.ex d;rw[Fm.so]at this
     exact⟨Xr (ops:=ops1) d.rows n,this⟩
  | _=>cases b
def Tg.ne:Tg->Tg->Bool
 | .z,.z=>false
 | .l,.l=>false
 | .n r _,.n r' _=>!Nat.beq r r'
 | _,_=>true
theorem Tg.tf{a b:Tg}(h:a.ne b=true):a≠b:=by
 rintro rfl;cases a with
 | z=>cases h
 | l=>cases h
 | n r i=>simp[Tg.ne,Nat.beq_refl]at h
def AI:List Bool->List Sh->List Sh
 | true::m,x::L=>x::AI m L
 | false::m,_::L=>AI m L
 | _,_=>[]
theorem D2:∀ (m:List Bool) (L:List Sh),(AI m L).Sublist L
 | true::m,x::L=>(D2 m L).cons_cons x
 | false::m,x::L=>(D2 m L).cons x
 | [],L=>by unfold AI;exact rz _
 | true::m,[]=>rz _
 | false::m,[]=>rz _
theorem Cg.n(h:Cg B T g w g' w')(k:Cg B [] g' w' g'' w''):Cg B T g w g'' w'':=h.trans (k.mono λ_ h=>absurd h P')
theorem Cg.m(h:Cg B T g w g' w')(k:Cg B T' g' w' g'' w'')(a:∀ t∈T',t∈T:=by simp):Cg B T g w g'' w'':=h.trans (k.mono a)
theorem Cg.nil(h:Cg B [] g w g' w')(T:List Tg):Cg B T g w g' w':=h.mono λ_ h=>absurd h P'
theorem Kn.sub{a:List Sh}(h:Kn B g w L)(b:a.Sublist L):Kn B g w a:=⟨λx c=>h.row x (b.subset c),h.sX.sublist b,h.new,h.base⟩
theorem Kn.ch(h:Kn B g w L)(c:Cg w.heap.size T' g w g' w')(hn:∀ b,w'.heap.size<=b->g'.t b=.z/\g'.k b=0)(j:L.all (λx=>T'.all λt=>x.t.ne t)=true):Kn B g' w' L:=by
 refine⟨λx f=>?_,h.sX,hn,mV h.base c.size⟩;have e:=h.row x f;have a:=rl e.1;have d:g.t x.g∉T':=by
  rw[e.2.1];intro l;have i:=oB.1 (oB.1 j x f) _ l;exact Tg.tf i rfl
 exact⟨(c.same _ a d (λ_=>a)).trans e.1,(c.tag a (λ_=>a)).trans e.2.1,e.2.2.1,λm=>(c.tm _ a d (λ_=>a)).trans (e.2.2.2 m)⟩
theorem Kn.af(h:Kn B g w L)(b:Below w.heap.size w w'):Kn B g w' L :=
 ⟨λx a=>⟨rB b (h.row x a).1,(h.row x a).2⟩,h.sX,λc d=>h.new c (mV b.size d),mV h.base b.size⟩
def Df(P:Program)(s:Xs)(i':Nat)(W:World):Option (Result Next):=(opN s i').map λx=>(execOp s.f.ev x.2.2).run P W
theorem Qn{r:World->Result Next}(h:∀ W,Df P s i' W=some (r W)):∃ ops i o,opN s i'=some (ops,i,o)/\∀ W,(execOp s.f.ev o).run P W=r W:=by
 unfold Df at h;cases hx:opN s i' with
 | none=>have:=h default;rw[hx]at this;cases this
 | some x =>
  obtain⟨ops,i,o⟩:=x;exact⟨ops,i,o,rfl,λW=>by have:=h W;rw[hx]at this;simpa using this⟩
def KK(s:Xs)(i':Nat):Bool:=match opN s i' with|some x=>x.2.2.dst.isSome|none=>false
theorem iN(j:Nat)(f:FuncId)(a:Array Value)(x:∀ W,Df P s j W=some (.ok (.enter f a) W))(k:KK s j=true)(l:(nxt s j undef s.L).o.map Ob.l'=(nxt s j undef s.L).o.map Ob.r')(q:Calls P f a w C)(t:∀ e w',C e w'->∃ v,e=.returned v/\Below w.heap.size w w'/\GG P fn R B T (nxt s j v s.L).s g w'):GG P fn R B T s g w:=by
 obtain⟨A,i,o,b,c⟩:=Qn x;refine Af λn=>T3 b s.L l λQ K u z h=>?_;unfold KK at k;rw[b]at k
 cases hdd:o.dst with
 | none=>simp only[hdd]at k;cases k
 | some d =>
  refine P7 u z hdd (by rw[s.f.eval];exact c w) (q.mono λe w' r=>?_);obtain⟨v,y,p,m⟩:=t e w' r;refine⟨v,y,?_⟩;have:=h v g w' (n.af p) m;rw[hdd]at this
  exact this
theorem ST(l:Nat)(f:FuncId)(a:Array Value)(r:List Tg)(m:List Bool)(I:∀ W,Df P s l W=some (.ok (.enter f a) W))(n:KK s l=true)(q:(nxt s l undef (AI m s.L)).o.map Ob.l'=(nxt s l undef (AI m s.L)).o.map Ob.r')(A:(AI m s.L).all (λx=>r.all λt=>x.t.ne t)=true)(D:Calls P f a w C)(F:∀ e w',C e w'->∃ v g',e=.returned v/\Cg w.heap.size r g w g' w'/\(∀ b,w'.heap.size<=b->g'.t b=.z/\g'.k b=0)/\GG P fn R B T (nxt s l v (AI m s.L)).s g' w'):GG P fn R B T s g w:=by
 obtain⟨N,i,o,c,j⟩:=Qn I;refine Af λy=>T3 c (AI m s.L) q λQ K H M h=>?_;unfold KK at n;rw[c]at n
 cases hdd:o.dst with
 | none=>simp only[hdd]at n;cases n
 | some d =>
  refine P7 H M hdd (by rw[s.f.eval];exact j w) (D.mono λe w' E=>?_);obtain⟨v,g',J,p,G,u⟩:=F e w' E;refine⟨v,J,?_⟩;have:=h v g' w' ((y.sub (D2 m s.L)).ch p G A) u;rw[hdd]at this
  exact this
theorem LY(c:Nat)(L:List Sh)(e:(nxt s c undef L).o.map Ob.l'=(nxt s c undef L).o.map Ob.r')(j:(opN s c).isSome=true)(h:Kn B g w s.L->∀ ops i o,opN s c=some (ops,i,o)->∃ v w' g',((execOp s.f.ev o).run P w=.ok (.value v) w'\/((execOp s.f.ev o).run P w=.ok .skip w'/\v=undef))/\Kn B g' w' L/\GG P fn R B T (nxt s c v L).s g' w'):GG P fn R B T s g w:=by
 cases hop:opN s c with
 | none=>rw[hop]at j;cases j
 | some x =>
  obtain⟨ops,i,o⟩:=x;refine Af λm=>T3 hop L e λQ K n p k=>?_;obtain⟨v,w',g',a,d,l⟩:=h m ops i o hop;have b:=k v g' w' d l;unfold wpOp;rw[n];simp only[p,if_true];refine .inl ?_;unfold Oper.wp;rw[s.f.eval];rcases a with a|⟨a,rfl⟩
  .rw[a,Oper.upon_value];exact b
  .rw[a,Oper.upon_skip];exact b
theorem gFm(e:List (Nat × Value))(b:e.map (λp=>lk s.f.z s.f.e p.1)=e.map (·.2))(h:∀ z,GG P fn R B T ⟨s.K,⟨s.f.n,e,z⟩,s.L⟩ g w):GG P fn R B T s g w:=by
 refine⟨λd=>?_⟩;have a:=(h (lk s.f.z s.f.e)).ex d;have c:(⟨s.f.n,e,lk s.f.z s.f.e⟩:Fm).act=s.f.act:=by
  unfold Fm.act;simp only[Act.mk.injEq,and_true]
  congr 1
  refine qQ λt _=>?_;clear h a;induction e with
  | nil=>rfl
  | cons p r ih =>
   simp only[nK,pN]at b;show cond (Nat.beq p.1 t) p.2 (lk (lk s.f.z s.f.e) r t)=lk s.f.z s.f.e t;cases hb:Nat.beq p.1 t with
   | true=>rw[cond_true,<- b.1,nF hb]
   | false=>rw[cond_false];exact ih b.2
 simp only at a;rw[c]at a
 exact a
theorem IJ(m:List Bool)(h:GG P fn R B T ⟨s.K,s.f,AI m s.L⟩ g w):GG P fn R B T s g w:=⟨λa=>h.ex (a.sub (D2 m s.L))⟩
theorem Cr(x:Sh)(p:Kn B g w s.L->w.heap[x.g]?=some x.o/\g.t x.g=x.t/\(x.t=.l->B<=x.g)/\(x.t≠.z->g.k x.g=0))(j:(!x.w&&(x.t.sB||s.L.all (λy=>x.t.ne y.t)))=true)(h:GG P fn R B T ⟨s.K,s.f,BS s.L++[x]⟩ g w):GG P fn R B T s g w:=by
 refine⟨λb=>h.ex ⟨λy d=>?_,?_,b.new,b.base⟩⟩
 .rcases U'.1 d with h1|h1
  .exact b.tL.row y h1
  .rw[G'.1 h1];exact p b
 .show(BS s.L++[x]).Pairwise _;simp only[nC,qm,pM]at j;rw[pi];refine⟨b.tL.sX,qh _ _,λa u c v m=>?_⟩;rw[G'.1 v]at m ⊢
  obtain⟨y,d,rfl⟩:=ny.1 u;have e:=(b.row y d).2.1;have q:=(p b).2.1;simp only at m ⊢;rw[m,q]at e
  rcases j.2 with hz|hn
  .have:x.t=.z:=by cases hh:x.t with|z=>rfl|l=>rw[hh]at hz;cases hz|n r i=>rw[hh]at hz;cases hz
   exact⟨⟨e▸this,trivial⟩,this,j.1⟩
  .exact absurd e (Tg.tf (oB.1 hn y d))
theorem Kq.ret{R':Exit->Act->World->Prop}:∀ (K:List Kt) (a:Act) (w:World),R' .ret a w->Kq P R' K .ret a w
 | [],a,w,h=>h
 | .c x::K,a,w,h=>Kq.ret K a w h
 | .b id::K,a,w,h=>Kq.ret K a w h
 | .o ops is::K,a,w,h=>Kq.ret K a w h
 | .x ops m Ld s L0::K,a,w,h=>Kq.ret K a w h
 | .y ops m Ld s L0 i::K,a,w,h=>Kq.ret K a w h
 | .j J::K,a,w,h=>Kq.ret K a w h
def Ny:List Kt->Bool|[]=>true|.c .ret::_=>true|_=>false
theorem Wd(v:Value)(d:Ny s.K=true)(b:Kn B g w s.L->(results fn s.f.act.tmps).run P w=.ok v w)(h:Kn B g w s.L->R (.returned v) w):GG P fn R B T s g w:=by
 refine⟨λa=>?_⟩;obtain⟨K,f,L⟩:=s;cases K with
 | nil=>exact⟨rfl,v,b a,h a⟩
 | cons t K =>
  cases t with
  | c x =>
   cases x with
   | ret=>exact wp_ret (Kq.ret K _ _ ⟨rfl,v,b a,h a⟩)
   | _=>cases d
  | _=>cases d
def Pd:Nat->List Value->List (Nat × Value)
 | _,[]=>[]
 | i,v::r=>(i,v)::Pd (i+1) r
theorem UX:∀ (l:List Value) (i t:Nat),lk (λ_=>undef) (Pd i l) t=if i<=t then l.getD (t-i) undef else undef
 | [],i,t=>by simp[Pd,lk]
 | v::r,i,t=>by
  unfold Pd lk;cases hb:Nat.beq i t with
  | true=>obtain rfl:=nF hb;simp
  | false =>
   have b:i≠t:=λa=>by rw[a,rI]at hb;cases hb
   rw[cond_false,UX r (i+1) t];by_cases h:i<=t
   .rw[if_pos h,if_pos (by omega),show t-i=(t-(i+1))+1 by omega];simp
   .rw[if_neg h,if_neg (by omega)]
theorem mx{n:Nat}(c:args.size<=n):(⟨n,Pd 0 args.toList,λ_=>undef⟩:Fm).act={ tmps:=args++Array.replicate (n-args.size) undef,defers:=[] }:=by
 unfold Fm.act;simp only[Act.mk.injEq,and_true];apply pJ;intro i;simp only[oc,nR,Array.getElem?_append,Array.getElem?_replicate];by_cases b:i<n
 .rw[oY b];simp only[nZ,UX,nB,if_true,Nat.sub_zero];by_cases a:i<args.size
  .rw[if_pos a,nT];simp[a]
  .rw[if_neg a,if_pos (by omega),nT];simp[a]
 .rw[oS (by simpa using b),if_neg (by omega),if_neg (by omega)];rfl
def Qj(fn:Func):Code:=match fn.body with|some c=>c|none=>.skip
theorem gIn(T:List Tg)(g:Gh)(i:P.funcs[f]?=some fn)(d:fn.body.isSome=true)(e:Nat.ble args.size fn.ntmps=true)(j:∀ b,w.heap.size<=b->g.t b=.z/\g.k b=0)(h:GG P fn R w.heap.size T ⟨[.c (Qj fn)],⟨fn.ntmps,Pd 0 args.toList,λ_=>undef⟩,[]⟩ g w):Calls P f args w R:=by
 cases hh:fn.body with
 | none=>rw[hh]at d;cases d
 | some c =>
  refine calls_of_wp i hh ?_;have a:=h.ex ⟨(λx l=>absurd l P'),List.Pairwise.nil,j,A' _⟩;simp only[mx (by rw[ql]at e;exact e)]at a;unfold Qj at a;rw[hh]at a
  exact a
theorem gI(T:List Tg)(g:Gh)(d:P.funcs[f]?=some fn)(e:∀ b,w.heap.size<=b->g.t b=.z/\g.k b=0)(h:GG P fn R w.heap.size T ⟨[.c (Qj fn)],⟨fn.ntmps,Pd 0 args.toList,λ_=>undef⟩,[]⟩ g w)(a:fn.body.isSome=true:=by kernel_rfl)(i:Nat.ble args.size fn.ntmps=true:=by kernel_rfl):Calls P f args w R:=gIn T g d a i e h
end
end
section
variable{P:Program}{fn:Func}{R:Ending->World->Prop}{B:Nat}{T:List Tg}{g:Gh}{w:World}
section
variable{s:Xs}
theorem II(b:Nat)(o:Obj)(r i:Nat)(a:w.heap[b]?=some o)(c:g.t b=.n r i)(d:g.k b=0)(e:s.L.all (λy=>(Tg.n r i).ne y.t)=true)(h:GG P fn R B T ⟨s.K,s.f,BS s.L++[⟨b,o,.n r i,false⟩]⟩ g w):GG P fn R B T s g w :=
 Cr ⟨b,o,.n r i,false⟩ (λ_=>⟨a,c,λh=>(by cases h),λ_=>d⟩) (by show(true&&(false||_))=true;rw[qe,Bool.true_and];exact e) h
theorem dU(a:Nat)(v:Value)(h:Kn B g w s.L->Df P s a w=some (.ok (.value v) w))(c:(nxt s a undef s.L).o.map Ob.l'=(nxt s a undef s.L).o.map Ob.r')(f:GG P fn R B T (nxt s a v s.L).s g w):GG P fn R B T s g w:=by
 refine Af λe=>?_;have b:=h e;unfold Df at b;refine LY a s.L c ?_ λ_ j i o d=>?_
 .cases hx:opN s a with
  | none=>rw[hx]at b;cases b
  | some x=>rfl
 .rw[d]at b
  exact⟨v,w,g,.inl (by simpa using b),e,f⟩
def tkN(s:Xs)(i':Nat)(v:Value)(ld:Bool):Rz:=match s.K with
 | .x ops (u+1) Ld e L0::K=>match ops[i']? with
  | some o=>⟨⟨.x ops u (Ld.setIfInBounds i' true) e L0::K,s.f.put o.dst v,s.L⟩,[.b (s.f.br ops o),.b (tkB ops Ld e i' ld&&o.dst.isSome&&(!ld||!Ld.getD e false)),.l (cond (Ld.getD e false) [] L0) (cond (Ld.getD e false) [] (BS (s.L.take L0.length)))]⟩
  | none=>⟨s,[.b false]⟩
 | _=>⟨s,[.b false]⟩
def be(s:Xs):List Sh:=match s.K with|.x _ _ _ _ L0::_=>L0|_=>[]
theorem QI(k:Nat)(v:Value)(n:Bool)(h:∀ W,(n=true->AV (be s) W)->Df P s k W=some (.ok (.value v) W))(C:(tkN s k undef n).o.map Ob.l'=(tkN s k undef n).o.map Ob.r')(O:GG P fn R B T (tkN s k v n).s g w):GG P fn R B T s g w:=by
 refine⟨λF=>?_⟩;obtain⟨K,f,L⟩:=s;have b:=Ob.all C;have j:=O.ex;unfold tkN at b j;unfold Df opN be at h;cases K with
 | nil=>exact absurd (b _ (O' ..)) (by simp[Ob.ok])
 | cons t K =>
  cases t with
  | x ops u Ld e L0 =>
   cases u with
   | zero=>exact absurd (b _ (O' ..)) (by simp[Ob.ok])
   | succ u =>
    simp only at b j h;cases ho:ops[k]? with
    | none=>rw[ho]at b;exact absurd (b _ (O' ..)) (by simp[Ob.ok])
    | some o =>
     simp only[ho,nZ,Y']at b j h;have H:=b _ (O' ..);have m:=b _ (I' _ (O' ..));have E:=b _ (I' _ (I' _ (O' ..)));simp only[Ob.ok,nC]at H m E;obtain⟨⟨m,p⟩,r⟩:=m;have D:Region.wanted o (yielded ops f.act.tmps)=true:=by rw[f.wanted];exact H
     have y:Sx [(e,AV L0)] Ld w:=Xr (ops:=ops) F.rows E;have i:=j F;simp only[Fm.so]at i;have G:∀ c a d v w,Kq P (bodyPost P fn R) K (.panic c) (a.put (some d) v) w->Kq P (bodyPost P fn R) K (.panic c) a w:=λc a d v w=>Kq.panic K c a (some d) v w;cases hdd:o.dst with
     | none=>rw[hdd]at p;cases p
     | some d =>
      rw[hdd]at i
      unfold tkB at m;simp only[nC]at m;obtain⟨ns,⟨⟨⟨⟨I,J⟩,M⟩,N⟩,q⟩⟩:=m;have l:∀ W,(n=true->AV L0 W)->got P ops f.act W k=some (some d,v,W):=λW z=>by
       unfold got;simp only[ho,D,if_true,f.eval,h W z,hdd]
      cases n with
      | false =>
       rw[cond_false]at q
       refine xB0 u [k] [(d,v)] (λW=>?_) ns ?_ rfl rfl G y i
       .simp only[SY,br,nK,oJ,l W (λh=>by cases h)]
       .simp only[MX,nK,oJ,pA,rJ,rj,nC];exact⟨⟨⟨⟨I,J⟩,M⟩,N⟩,q⟩
      | true =>
       rw[cond_true]at q
       have A:Ld.getD e false=false:=by simpa using r
       refine xC0 u k d (YG ops k) v (λW z=>l W (λ_=>z)) (y.1 A) ns ?_ rfl G y i;simp only[nK,oJ,pA,rJ,rj,nC]at q ⊢;exact⟨⟨⟨⟨I,J⟩,M⟩,N⟩,q⟩
  | _=>exact absurd (b _ (O' ..)) (by simp[Ob.ok])
def Qy(s:Xs):Value:=match s.K with|.c (.cond c _ _)::_=>s.f.ev c|_=>undef
def LG(s:Xs)(t:Bool):Xs:=match s.K with|.c (.cond _ x y)::K=>⟨.c (cond t x y)::K,s.f,s.L⟩|_=>s
theorem gIf(b t:Bool)(j:b=t)(a:Qy s=.bool b)(h:GG P fn R B T (LG s t) g w):GG P fn R B T s g w:=by
 subst j;refine⟨λi=>?_⟩;obtain⟨K,f,L⟩:=s;unfold Qy at a;have d:=h.ex;unfold LG at d;cases K with
 | nil=>cases a
 | cons t K =>
  cases t with
  | c x =>
   cases x with
   | cond c x y =>
    simp only at a d;have e:=d i;refine wp_cond (t:=b) (by rw[f.eval];exact a) ?_;cases b<;>exact e
   | _=>cases a
  | _=>cases a
theorem ZG{p:Nat->Prop}:∀ k,p k->∃ m,p m/\∀ j,p j->m<=j:=by
 intro k;induction k using Nat.strongRecOn with
 | _ k ih =>
  intro b;by_cases h:∃ j,j<k/\p j
  .obtain⟨j,a,hp⟩:=h;exact ih j a hp
  .exact⟨k,b,λj a=>qK λc=>h ⟨j,c,a⟩⟩
theorem kQ{c:Code}{Q:Exit->Act->World->Prop}(b:Nat->Act->World->Prop)(round:∀ k a w,b k a w->c.wp P (Exit.then (λa' w'=>∃ k',k'<k/\b k' a' w') Q) a w)(k:Nat)(a:Act)(w:World)(h:b k a w):(Code.loop c).wp P Q a w:=by
 classical
 have g:∀ a w,(∃ k,b k a w)->∃ m,b m a w/\∀ j,b j a w->m<=j:=λa w ⟨k,q⟩=>ZG k q
 let μ:Act->World->Nat:=λa w=>if h:∃ k,b k a w then Classical.choose (g a w h)else 0
 refine wp_loop (λa w=>∃ k,b k a w) μ ⟨k,h⟩ λa w l=>?_;have o:μ a w=Classical.choose (g a w l):=dif_pos l;refine wp_mono (round _ a w (Classical.choose_spec (g a w l)).1) λe a' w' p=>?_;cases e with
 | normal =>
  obtain⟨k',n,f⟩:=p;refine⟨⟨k',f⟩,?_⟩;have d:∃ k,b k a' w':=⟨k',f⟩;have i:μ a' w'=Classical.choose (g a' w' d):=dif_pos d;show μ a' w'<μ a w;rw[o,i];exact ra ((Classical.choose_spec (g a' w' d)).2 k' f) n
 | _=>exact p
theorem kD{K:List Kt}{body:Code}{n:Nat}(b:Nat->Gh->World->List (Nat × Value)->List Sh->Prop)(round:∀ k g w e z L,b k g w e L->∀ J:Act->World->Prop,(∀ k' g' w' e' z' L',k'<k->b k' g' w' e' L'->Kn B g' w' L'->J (⟨n,e',z'⟩:Fm).act w')->GG P fn R B T ⟨.c body::.j J::K,⟨n,e,z⟩,L⟩ g w){k:Nat}{e:List (Nat × Value)}{z:Nat->Value}{L:List Sh}(h:b k g w e L):GG P fn R B T ⟨.c (.loop body)::K,⟨n,e,z⟩,L⟩ g w:=by
 refine⟨λi=>?_⟩;refine kQ (λk a w=>∃ g e z L,b k g w e L/\Kn B g w L/\a=(⟨n,e,z⟩:Fm).act) (λk a w d=>?_) k _ w ⟨g,e,z,L,h,i,rfl⟩;obtain⟨g,e,z,L,d,i,rfl⟩:=d;exact(round k g w e z L d (λo w'=>∃ k',k'<k/\∃ g e z L,b k' g w' e L/\Kn B g w' L/\o=(⟨n,e,z⟩:Fm).act) (λk' g' w' e' z' L' m f l=>⟨k',m,g',e',z',L',f,l,rfl⟩)).ex i
end
end
section
structure S3 where
 a:Option Addr
 n:Nat
 c:Nat
abbrev S3.v(x:S3):Value:=.slice x.a x.n x.c
def s30:S3:=⟨none,0,0⟩
def Jw(g:Gh)(w:World):Prop:=∀ b,w.heap.size<=b->g.t b=.z/\g.k b=0
structure OwnS(g:Gh)(w:World)(τ:Tg)(kp:Bool)(e:TypeId)(sz:Nat)(x:S3)(xs:List Value):Prop where
 len:xs.length=x.n*sz
 ex:(x.a=none/\x.n=0/\x.c=0)\/∃ b cur,x.a=some ⟨b,0,none⟩/\w.heap[b]?=some (.cells cur e (0,0))/\x.n<=x.c/\x.c<=maxLen/\cur.size=x.c*sz/\cur.toList.take (x.n*sz)=xs/\g.t b=τ/\g.k b=(if kp then xs.length else 0)
theorem OwnS.nil(g:Gh)(w:World)(τ:Tg)(a:Bool)(e:TypeId)(b:Nat):OwnS g w τ a e b s30 []:=⟨by simp[s30],.inl ⟨rfl,rfl,rfl⟩⟩
variable{e:TypeId}{g:Gh}{kp:Bool}{sz:Nat}{w:World}{x:S3}{xs:List Value}{τ:Tg}
theorem OwnS.ch{B:Nat}{T:List Tg}{f:Gh}{i:World}(h:OwnS g w τ kp e sz x xs)(c:Cg B T g w f i)(a:τ∉T:=by simp)(d:τ≠.l:=by simp):OwnS f i τ kp e sz x xs:=by
 refine⟨h.len,?_⟩;rcases h.ex with h1|⟨b,cur,h1,h2,h3,h4,h5,h6,h7,h8⟩
 .exact .inl h1
 .have hb:=rl h2;exact .inr ⟨b,cur,h1,(c.same b hb (by rw[h7];exact a) (by rw[h7];exact λh=>absurd h d)).trans h2,h3,h4,h5,h6,(c.tag hb (by rw[h7];exact λh=>absurd h d)).trans h7,by rw[c.tm b hb (by rw[h7];exact a) (by rw[h7];exact λh=>absurd h d)];exact h8⟩
theorem OwnS.cell(h:OwnS g w τ kp e sz x xs){j:Nat}{u:Value}(c:xs[j]?=some u):∃ b,x.a=some ⟨b,0,none⟩/\b<w.heap.size/\w.cell? ⟨b,j,none⟩=some u:=by
 have d:j<xs.length:=(V'.1 c).1;rcases h.ex with⟨h1,h2,h3⟩|⟨b,cur,h1,h2,h3,h4,h5,h6,h7,h8⟩
 .rw[h.len,h2]at d;omega
 .refine⟨b,h1,rl h2,?_⟩;rw[cell_of_row _ _ _ _ _ _ h2];rw[<- h6,ol]at c
  split at c
  .simpa using c
  .cases c
end
section
variable{P:Program}{B:Nat}{T:List Tg}{g:Gh}{w:World}
def Pt(g:Gh)(w:World)(τ:Tg)(k:Nat):Gh:=⟨λb=>if b=w.heap.size then τ else g.t b,λb=>if b=w.heap.size then k else g.k b⟩
def kA(g:Gh)(b k:Nat):Gh:=⟨g.t,λc=>if c=b then k else g.k c⟩
theorem mw{τ:Tg}{H:Bool}{x:S3}{A:List Value}(t R e:TypeId)(I p:Nat)(z:Value)(X:P.underlying t=some (.slice e))(f:(P.info? e).map (λi=>(i.zero,i.size,i.bytes))=some (some z,I,p))(Z:z.cells.size=I)(a1:0<I)
  (N:τ∈T)(G:OwnS g w τ H e I x A)(hg:Jw g w)(a:Addr)(m c:Nat)(news:List Value)(hm:0<m)(J:news.length=m*I)(q:∀ j u,news[j]?=some u->w.cell? (a.add j)=some u)(h1:∀ u∈news,u.oneCell'=true)
  (K:x.n+m<=maxLen)(s:(x.n+m)*p<=140737488355328) :
  ∃ x' w' g',(Builtin.append_ #[t,t] R #[x.v,.slice (some a) m c]).run P w=.ok (S3.v x') w'/\OwnS g' w' τ H e I x' (A++news)/\x'.n=x.n+m/\Cg B T g w g' w'/\Jw g' w':=by
 obtain⟨i,W,hz,hs,S⟩:∃ i,P.info? e=some i/\i.zero=some z/\i.size=I/\i.bytes=p:=by
  cases hh:P.info? e with
  | none=>rw[hh]at f;cases f
  | some i=>rw[hh]at f;simp only[nZ,Y',n8]at f;exact⟨i,rfl,f.1,f.2.1,f.2.2⟩
 subst hs;subst S
 obtain⟨xa,h,O⟩:=x;have y:(A++news).length=(h+m)*i.size:=by rw[H',G.len,J,qo]
 have a0:h+m<=9223372036854775807:=by simp only[maxLen]at K;show h+m<=_;omega
 have grown:∀ l,l<h+m->∃ x' g',S3.v x'=.slice (some ⟨w.heap.size,0,none⟩) (h+m) (grownCap w (h+m) l e)/\OwnS g' (w.drew.alloc (.cells (A.toArray++news.toArray++Builtin.zeroCells z.cells (grownCap w (h+m) l e-(h+m))) e)) τ H e i.size x' (A++news)/\x'.n=h+m /\
   Cg B T g w g' (w.drew.alloc (.cells (A.toArray++news.toArray++Builtin.zeroCells z.cells (grownCap w (h+m) l e-(h+m))) e))/\Jw g' (w.drew.alloc (.cells (A.toArray++news.toArray++Builtin.zeroCells z.cells (grownCap w (h+m) l e-(h+m))) e)):=by
  intro l ho;have V:=grownCap_ge w (h+m) l e;have U:grownCap w (h+m) l e<=maxLen:=grownCap_le_maxLen w (h+m) l e K;refine⟨⟨some ⟨w.heap.size,0,none⟩,h+m,grownCap w (h+m) l e⟩,Pt g w τ (if H then(A++news).length else 0),rfl,⟨y,.inr ⟨w.heap.size,_,rfl,heap_alloc_new w.drew _,V,U,?_,?_,if_pos rfl,if_pos rfl⟩⟩,rfl,⟨rfl,rfl,rfl,by simp,λb C=>.inl (if_neg (by omega)),λb C=>?_,λb C _ _=>if_neg (by omega),λb C _ _=>heap_alloc_old w.drew _ C,λb C j F=>World.cell?_of_block (w:=w) (heap_alloc_old w.drew _ C)⟩,λb C=>?_⟩
  .simp only[Array.size_append,pl,size_zeroCells,Z,G.len,J,<- qo]
   congr 1
   omega
  .simp only[Array.toList_append,mU];rw[<- mU,<- y];exact rh
  .show _<=(if b=w.heap.size then _ else g.k b);rw[if_neg (by omega)];exact A' _
  .have D:w.heap.size+1<=b:=by simpa using C
   show(if b=w.heap.size then τ else g.t b)=.z/\(if b=w.heap.size then _ else g.k b)=0;rw[if_neg (by omega),if_neg (by omega)];exact hg b (by omega)
 rcases G.ex with⟨h2,h3,h4⟩|⟨b,cur,h2,h3,h4,h5,h6,h7,h8,h9⟩
 .simp only at h2 h3 h4;subst h2 h3 h4;have Y:A=[]:=Z' (by simpa using G.len);subst Y;have M:=run_append_nil (P:=P) w t R e i z X W hz a m c news J q (by omega) (by omega) (by have C:=s;simp only[nS]at C;omega);obtain⟨x',g',Q,o⟩:=grown 0 (by omega);simp only[nS,oU,Array.empty_append]at Q o ⊢;exact⟨x',_,g',by rw[Q];exact M,o⟩
 .simp only at h2 h4 h5 h6 h7;subst h2;by_cases r:h+m<=O
  .have hfit:h*i.size+news.length<=cur.size:=by rw[J,h6,<- qo];exact pj _ r
   have M:=run_append_room (P:=P) w t R e i X W b h O cur h3 a m c news J q h1 r hfit;refine⟨⟨some ⟨b,0,none⟩,h+m,O⟩,_,kA g b (if H then(A++news).length else 0),M,⟨y,.inr ⟨b,_,rfl,setRow_heap w b cur _ e _ h3,r,h5,?_,?_,h8,if_pos rfl⟩⟩,rfl,⟨rfl,rfl,rfl,by simp,λ_ _=>.inl rfl,λd L=>?_,λd L E _=>if_neg (λe=>E (by rw[e,h8];exact N)),λd L E _=>setRow_other w b d _ (λe=>E (by rw[e,h8];exact N)),λd L j F=>?_⟩,λd L=>?_⟩
   .simp only[pl,H',X',nc,oI];omega
   .rw[h7,<- y];exact rh
   .show g.k d<=(if d=b then _ else g.k d);split
    .rename_i he;rw[he,h9];cases H<;>simp
    .exact A' _
   .by_cases he:d=b
    .subst he;rw[h9]at F
     cases H with
     | false=>simp at F
     | true =>
      simp only[if_true]at F;rw[cell_of_row _ _ _ _ _ _ (setRow_heap w d cur _ e _ h3),cell_of_row _ _ _ _ _ _ h3];simp only[oc,h7];rw[mU,nm F,<- h7,ol,if_pos (by have:=G.len;simp only at this;omega)];simp
    .exact World.cell?_of_block (w:=w) (setRow_other w b d _ he)
   .have hd':w.heap.size<=d:=by simpa using L
    show g.t d=.z/\(if d=b then _ else g.k d)=0;have:=rl h3;rw[if_neg (by omega)];exact hg d hd'
  .have holds:∀ j u,A[j]?=some u->w.cell? ((⟨b,0,none⟩:Addr).add j)=some u:=λj u F=>by
    obtain⟨b',D,_,hc⟩:=G.cell F;simp only[Y',Addr.mk.injEq,and_true]at D;subst D;have:(⟨b,0,none⟩:Addr).add j=⟨b,j,none⟩:=by unfold Addr.add;split<;>simp_all
    rw[this];exact hc
   have M:=run_append_grow (P:=P) w t R e i z X W hz ⟨b,0,none⟩ h O A G.len holds a m c news J q (by omega) (by omega) (growslice_fits (by omega) s);obtain⟨x',g',Q,o⟩:=grown O (by omega);exact⟨x',_,g',by rw[Q];exact M,o⟩
end
section
variable{P:Program}{fn:Func}{R:Ending->World->Prop}{B:Nat}{T:List Tg}{g:Gh}{w:World}
section
variable{L:List Sh}{S:Sem Next}{i':Nat}{s:Xs}
theorem Kn.at(h:Kn B g w L)(k:Nat){x:Sh}(a:L[k]?=some x):w.heap[x.g]?=some x.o:=(h.row x (nH a)).1
theorem Kn.uo(h:Kn B g w L)(k b:Nat)(a:Array Value)(e:TypeId)(t:Tg)(v:Bool)(c:L[k]?=some ⟨b,.cells a e,t,v⟩):w.heap[b]?=some (.cells a e):=h.at k c
theorem Kn.sC(h:Kn B g w L)(k b:Nat)(o:Obj)(r i:Nat)(c:L[k]?=some ⟨b,o,.n r i,false⟩):w.heap[b]?=some o/\g.t b=.n r i/\g.k b=0 :=
 have a:=h.row _ (nH c)
 ⟨a.1,a.2.1,a.2.2.2 (by simp)⟩
theorem Kn.sB(h:Kn B g w L)(k b:Nat)(o:Obj)(v:Bool)(c:L[k]?=some ⟨b,o,.z,v⟩):w.heap[b]?=some o/\g.t b=.z :=
 have a:=h.row _ (nH c)
 ⟨a.1,a.2.1⟩
theorem Cz(h:Kn B g w L)(k b:Nat)(news:List Value)(e:TypeId)(t:Tg)(v:Bool)(d:L[k]?=some ⟨b,.cells news.toArray e,t,v⟩):∀ j u,news[j]?=some u->w.cell? ((⟨b,0,none⟩:Addr).add j)=some u:=by
 intro j u c;have a:=h.at k d;have:(⟨b,0,none⟩:Addr).add j=⟨b,j,none⟩:=by unfold Addr.add;split<;>simp_all
 rw[this,cell_of_row _ _ _ _ _ _ a];simpa using c
def D7(s:Xs)(i':Nat):Option (Sem Next):=(opN s i').map λx=>execOp s.f.ev x.2.2
theorem DE(h:D7 s i'=some S){a:Array Oper}{i:Nat}{o:Oper}(b:opN s i'=some (a,i,o)):execOp s.f.ev o=S:=by
 unfold D7 at h;rw[b]at h
 simpa using h
theorem Cp(h:D7 s i'=some S):(opN s i').isSome=true:=by
 unfold D7 at h;cases hx:opN s i' with
 | none=>rw[hx]at h;cases h
 | some x=>rfl
theorem KL(p:Nat){τ:Tg}{J:Bool}{x:S3}{M:List Value}(t K e:TypeId)(l b:Nat)(z:Value)(a:Addr)(m c:Nat)(news:List Value)(X:OwnS g w τ J e l x M)(f:D7 s p=some (Builtin.append_ #[t,t] K #[x.v,.slice (some a) m c]>>=λv=>pure (.value v)))(C:(nxt s p undef s.L).o.map Ob.l'=(nxt s p undef s.L).o.map Ob.r')(A:s.L.all (λy=>[τ].all λt=>y.t.ne t)=true)(F:P.underlying t=some (.slice e))(h:(P.info? e).map (λi=>(i.zero,i.size,i.bytes))=some (some z,l,b))(G:Nat.beq z.cells.size l=true)(E:0<l)(V:0<m)(U:news.length=m*l)(N:∀ u∈news,u.oneCell'=true)(k:Kn B g w s.L->∀ j u,news[j]?=some u->w.cell? (a.add j)=some u)(q:x.n+m<=maxLen)(d:(x.n+m)*b<=140737488355328)(S:∀ x' g' w',OwnS g' w' τ J e l x' (M++news)->x'.n=x.n+m->(∀ B T,τ∈T->Cg B T g w g' w')->Jw g' w'->GG P fn R B T (nxt s p (S3.v x') s.L).s g' w'):GG P fn R B T s g w:=by
 refine LY p s.L C (Cp f) λr Y i o D=>?_;obtain⟨x',w',g',W,O,Q,H,I⟩:=mw (P:=P) (B:=w.heap.size) (T:=[τ]) t K e l b z F h (nF G) E (G'.2 rfl) X r.new a m c news V U (k r) N q d;refine⟨x'.v,w',g',.inl ?_,r.ch H I A,S x' g' w' O Q (λB T A=>(H.ret (B:=B)).mono λt F=>by rw[G'.1 F];exact A) I⟩;rw[DE f D,Sem.run_bind,W,Result.andThen_ok];rfl
end
end
end
section
section
structure Bal where
 r:Int
 n:Int
theorem Bal.eq_iff(a b:Bal):(a.r=b.r/\a.n=b.n)↔a=b:=by
 cases a;cases b;simp
instance:DecidableEq Bal:=λa b=>decidable_of_iff _ (Bal.eq_iff a b)
structure Cmd where
 k:Int
 c:Int
 s:Int
 n:Int
 v:Int
theorem Cmd.eq_iff(a b:Cmd):(a.k=b.k/\a.c=b.c/\a.s=b.s/\a.n=b.n/\a.v=b.v)↔a=b:=by
 cases a;cases b;simp
instance:DecidableEq Cmd:=λa b=>decidable_of_iff _ (Cmd.eq_iff a b)
structure Vt where
 bu:Int
 b:Bal
 w:Cmd
theorem Vt.eq_iff(a b:Vt):(a.bu=b.bu/\a.b=b.b/\a.w=b.w)↔a=b:=by
 cases a;cases b;simp
instance:DecidableEq Vt:=λa b=>decidable_of_iff _ (Vt.eq_iff a b)
instance:Inhabited Vt:=⟨⟨0,⟨0,0⟩,⟨0,0,0,0,0⟩⟩⟩
structure Acc where
 p:Bal
 vs:List Vt
def Bal.lt(a b:Bal):Prop:=a.r<b.r\/(a.r=b.r/\a.n<b.n)
instance (a b:Bal):Decidable (a.lt b):=by unfold Bal.lt;exact inferInstance
def Bal.key(a:Bal):Int:=5*a.r+a.n
def Ab(a:Bal):Prop:=(1<=a.r/\a.r<=65536)/\0<=a.n/\a.n<=4
instance (a:Bal):Decidable (Ab a):=by unfold Ab;exact inferInstance
def Cmd.e(c:Cmd):Int:=Bo c.k c.c c.s c.n c.v
def Ah(v:Vt):Prop:=(0<=v.bu/\v.bu<=39)/\Ab v.b/\v.w.e=0
instance (v:Vt):Decidable (Ah v):=by unfold Ah;exact inferInstance
def Ar(a:Bal):Prop:=Ab a\/(a.r=0/\a.n=0)
instance (a:Bal):Decidable (Ar a):=by unfold Ar;exact inferInstance
def BR:List Vt->Prop
 | []=>True
 | u::us=>(∀ v∈us,u.bu<v.bu)/\BR us
def Vn:(l:List Vt)->Decidable (BR l)
 | []=>isTrue trivial
 | u::us=>@instDecidableAnd _ _ inferInstance (Vn us)
instance (l:List Vt):Decidable (BR l):=Vn l
def Ag(a:Acc):Prop:=Ar a.p/\(∀ v∈a.vs,Ah v/\¬ a.p.lt v.b)/\BR a.vs
instance (a:Acc):Decidable (Ag a):=by unfold Ag;exact inferInstance
variable{a b:Bal}{l:List Vt}{v:Vt}
theorem EZ(c:Ar a)(d:Ar b):a.lt b↔a.key<b.key:=by
 unfold Ar Ab at c d;unfold Bal.lt Bal.key;omega
theorem DC(c:Ar a)(d:Ar b)(h:a.key=b.key):a=b:=by
 unfold Ar Ab at c d;unfold Bal.key at h;exact(Bal.eq_iff a b).1 (by omega)
theorem Ab.pr(h:Ab a):Ar a:=.inl h
theorem Ab.pos(h:Ab a):5<=a.key:=by unfold Ab at h;unfold Bal.key;omega
def F5(a:Acc):Int:=if Ag a then 0 else 5
def Cl(a:Acc)(b:Bal):Int:=if ¬ Ag a then 5 else if ¬ Ab b then 2 else if b.lt a.p then 7 else 0
def AX(a:Acc)(v:Vt):Int:=if ¬ Ag a then 5 else if ¬ Ah v then 2 else if v.b.lt a.p then 7 else 0
def Bp:List Vt->Vt->List Vt
 | [],v=>[v]
 | u::us,v=>if u.bu<v.bu then u::Bp us v else if u.bu=v.bu then v::us else v::u::us
theorem BH{u:Vt}(h:BR l):u∈Bp l v↔u=v\/(u∈l/\u.bu≠v.bu):=by
 induction l with
 | nil=>simp[Bp]
 | cons x xs b =>
  obtain⟨c,a⟩:=h;have b:=b a;rw[Bp];split
  .rename_i h1
   rw[nf,b];constructor
   .rintro(rfl|rfl|⟨h2,h3⟩)
    .exact .inr ⟨O',by omega⟩
    .exact .inl rfl
    .exact .inr ⟨I' _ h2,h3⟩
   .rintro(rfl|⟨h2,h3⟩)
    .exact .inr (.inl rfl)
    .rcases nf.1 h2 with rfl|h2
     .exact .inl rfl
     .exact .inr (.inr ⟨h2,h3⟩)
  .split
   .rename_i h1 h2
    rw[nf];constructor
    .rintro(rfl|h3)
     .exact .inl rfl
     .have:=c u h3;exact .inr ⟨I' _ h3,by omega⟩
    .rintro(rfl|⟨h3,h4⟩)
     .exact .inl rfl
     .rcases nf.1 h3 with rfl|h3
      .exact absurd h2 h4
      .exact .inr h3
   .rename_i h1 h2
    rw[nf];constructor
    .rintro(rfl|h3)
     .exact .inl rfl
     .rcases nf.1 h3 with rfl|h4
      .exact .inr ⟨h3,h2⟩
      .have:=c u h4;exact .inr ⟨h3,by omega⟩
    .rintro(rfl|⟨h3,h4⟩)
     .exact .inl rfl
     .exact .inr h3
theorem JE(v:Vt)(h:BR l):BR (Bp l v):=by
 induction l with
 | nil=>exact⟨λu b=>(P' b).elim,trivial⟩
 | cons x xs ih =>
  obtain⟨c,a⟩:=h;rw[Bp];split
  .rename_i h1
   refine⟨λu b=>?_,ih a⟩;rcases(BH a).1 b with rfl|⟨h2,_⟩
   .exact h1
   .exact c u h2
  .split
   .rename_i h1 h2
    exact⟨λu b=>by have:=c u b;omega,a⟩
   .rename_i h1 h2
    refine⟨λu b=>?_,c,a⟩;rcases nf.1 b with rfl|h3
    .omega
    .have:=c u h3;omega
def BW:List Vt->Option Vt->Option Vt
 | [],o=>o
 | v::l,none=>BW l (some v)
 | v::l,some u=>if u.b.lt v.b then BW l (some v)else BW l (some u)
theorem Si(l:List Vt)(u:Vt)(k:∀ v∈l,Ar v.b)(f:Ar u.b):∃ x,BW l (some u)=some x/\(x=u\/x∈l)/\u.b.key<=x.b.key/\∀ v∈l,v.b.key<=x.b.key:=by
 induction l generalizing u with
 | nil=>exact⟨u,rfl,.inl rfl,mT _,λ_ h=>by cases h⟩
 | cons v l ih =>
  have i:=k v O';have j:∀ x∈l,Ar x.b:=λx hx=>k x (I' _ hx);rw[BW];split
  .rename_i h1
   have a:=(EZ f i).1 h1;obtain⟨x,e,hx,c,d⟩:=ih v j i;refine⟨x,e,?_,by omega,?_⟩
   .rcases hx with rfl|hx
    .exact .inr O'
    .exact .inr (I' _ hx)
   .intro y hy;rcases nf.1 hy with rfl|hy
    .exact c
    .exact d y hy
  .rename_i h1
   have a:¬ u.b.key<v.b.key:=λg=>h1 ((EZ f i).2 g);obtain⟨x,e,hx,c,d⟩:=ih u j f;refine⟨x,e,?_,c,?_⟩
   .rcases hx with rfl|hx
    .exact .inl rfl
    .exact .inr (I' _ hx)
   .intro y hy;rcases nf.1 hy with rfl|hy
    .omega
    .exact d y hy
theorem Sf(l:List Vt)(a:∀ v∈l,Ar v.b):(l=[]/\BW l none=none)\/∃ x,BW l none=some x/\x∈l/\∀ v∈l,v.b.key<=x.b.key:=by
 cases l with
 | nil=>exact .inl ⟨rfl,rfl⟩
 | cons v l =>
  right;obtain⟨x,e,hx,c,d⟩:=Si l v (λx hx=>a x (I' _ hx)) (a v O');refine⟨x,e,?_,?_⟩
  .rcases hx with rfl|hx
   .exact O'
   .exact I' _ hx
  .intro y hy;rcases nf.1 hy with rfl|hy
   .exact c
   .exact d y hy
def Ae(l:List Vt)(s:Int):List Vt:=l.filter λv=>decide (v.bu=s)
theorem Be{s:Int}:v∈Ae l s↔v∈l/\v.bu=s:=by simp[Ae]
def Ck(ls:List (List Vt))(s:Int):Int:=if ¬ (0<=s/\s<=39)then 2 else if ∀ l∈ls,∀ v∈l,Ah v then 0 else 5
def Gf(ls:List (List Vt))(s:Int):Option Vt:=BW (Ae ls.flatten s) none
def BQ(l:List Vt)(v:Vt):Nat:=l.countP λu=>decide (u=v)
def Hl(l:List Vt)(m:Nat):Option Vt:=l.find? λv=>decide (m<2*BQ l v)
end
end
section
open Go.RowKit
section
def vtC(v:Vt):List Value:=[.int .i64 v.bu,.int .i64 v.b.r,.int .i64 v.b.n,.int .i64 v.w.k,.int .i64 v.w.c,.int .i64 v.w.s,.int .i64 v.w.n,.int .i64 v.w.v]
def vtA(v:Vt):Array Value:=(vtC v).toArray
theorem CE(v:Vt):(vtC v).length=8:=rfl
theorem gm(v:Vt):∀ u∈vtC v,u.oneCell'=true:=by
 intro u a;simp only[vtC,nf,P',or_false]at a;rcases a with rfl|rfl|rfl|rfl|rfl|rfl|rfl|rfl<;>rfl
def vtL(l:List Vt):List Value:=l.flatMap vtC
theorem Nj(v:Vt)(l:List Vt):vtL (v::l)=vtC v++vtL l:=rfl
theorem Uw(l m:List Vt):vtL (l++m)=vtL l++vtL m:=by simp[vtL]
theorem De(l:List Vt):(vtL l).length=l.length*8:=by
 induction l with
 | nil=>rfl
 | cons v l ih=>rw[Nj,H',ih,CE,nD];omega
theorem V8(l:List Vt):∀ u∈vtL l,u.oneCell'=true:=by
 intro u a;obtain⟨v,_,b⟩:=pV.1 a;exact gm v u b
theorem gn(l:List Vt)(i:Nat)(v:Vt)(h:l[i]?=some v)(j:Nat)(u:Value)(a:(vtC v)[j]?=some u):(vtL l)[8*i+j]?=some u:=by
 induction l generalizing i with
 | nil=>simp at h
 | cons x l ih =>
  have b:j<8:=by have:=(V'.1 a).1;rwa [CE]at this
  rw[Nj];cases i with
  | zero =>
   simp at h;subst h;rw[nm (by rw[CE];omega)];simpa using a
  | succ i =>
   rw[nt (by rw[CE];omega),CE,show 8*(i+1)+j-8=8*i+j by omega];exact ih i (by simpa using h)
theorem cN(l:List Vt)(m:Nat)(u:Value)(h:(vtL l)[m]?=some u):∃ v,l[m/8]?=some v/\(vtC v)[m%8]?=some u:=by
 induction l generalizing m with
 | nil=>simp[vtL]at h
 | cons x l ih =>
  rw[Nj]at h
  rcases nW m 8 with hm|hm
  .rw[nm (by rw[CE];omega)]at h
   exact⟨x,by rw[Nat.div_eq_of_lt hm];rfl,by rwa [qJ hm]⟩
  .rw[nt (by rw[CE];omega),CE]at h
   obtain⟨v,a,b⟩:=ih (m-8) h;refine⟨v,?_,?_⟩
   .rw[show m/8=(m-8)/8+1 by omega];simpa using a
   .rw[show m%8=(m-8)%8 by omega];exact b
structure Sv(w:World)(x:Value)(l:List Vt):Prop where
 ex:∃ a cap,x=.slice a l.length cap/\l.length<=cap/\(a=none->cap=0)/\(l=[]\/∃ b off,a=some ⟨b,off,none⟩/\b<w.heap.size/\∀ i v,l[i]?=some v->w.rangeAt b (off+8*i) (vtC v))
 len:l.length<=2199023255488
variable{B base e g n:Nat}{P:Program}{Q:Exit->Act->World->Prop}{a:Act}{l:List Vt}{ops:Array Oper}{w w':World}{x:Value}
theorem Sv.af(h:Sv w x l)(e:Bw w w'):Sv w' x l:=by
 obtain⟨⟨a,c,rfl,g,n,d⟩,f⟩:=h;refine⟨⟨a,c,rfl,g,n,?_⟩,f⟩;rcases d with d|⟨b,off,ha,hbs,hcell⟩
 .exact .inl d
 .exact .inr ⟨b,off,ha,j' hbs e.size,λi v k j u m=>(e.cell (p:=⟨b,off+8*i+j,none⟩) hbs).trans (hcell i v k j u m)⟩
theorem Sv.nil(w:World):Sv w (.slice none 0 0) []:=⟨⟨none,0,rfl,by simp,by simp,.inl rfl⟩,by simp⟩
theorem Sv.shape(h:Sv w x l):∃ a cap,x=.slice a l.length cap:=by
 obtain⟨⟨a,cap,e,_⟩,_⟩:=h;exact⟨a,cap,e⟩
theorem Sv.spot{a:Option Addr}{c:Nat}(h:Sv w (.slice a n c) l)(i:Nat)(v:Vt)(f:l[i]?=some v):∃ b off,a=some ⟨b,off,none⟩/\b<w.heap.size/\w.rangeAt b (off+8*i) (vtC v):=by
 obtain⟨⟨j,d,e,k,m,g⟩,_⟩:=h;simp only[Value.slice.injEq]at e;obtain⟨rfl,rfl,rfl⟩:=e;rcases g with rfl|⟨b,off,rfl,hb,hcell⟩
 .simp at f
 .exact⟨b,off,rfl,hb,hcell i v f⟩
theorem Sv.nr(h:w.ownsRow base e 8 x l.length (vtL l))(f:l.length<=2199023255488):Sv w x l:=by
 refine⟨?_,f⟩;rcases h.2 with⟨rfl,h0⟩|⟨g,cap,cur,rfl,_,hg,hn,_,hcs,ht⟩
 .exact⟨none,0,by rw[h0],by omega,λ_=>rfl,.inl (Z' h0)⟩
 .refine⟨_,cap,rfl,hn,by simp,.inr ⟨g,0,rfl,(Q'.1 hg).1,λi v c j u d=>?_⟩⟩;have b:=h.cells (g:=g) rfl (8*i+j) u (gn l i v c j u d);have a:(⟨g,0,none⟩:Addr).add (8*i+j)=⟨g,8*i+j,none⟩:=by unfold Addr.add;split<;>simp_all
  rw[a]at b
  rw[nS];exact b
theorem NR(w:World)(c t s e:Nat)(z:Value)(C:P.underlying t=some (.slice e))(h:(P.info? e).map (λi=>(i.zero,i.size,i.bytes))=some (some z,8,64))(r:z.cells.size=8)(x:Value)(l:List Vt)(d:w.ownsRow c e 8 x l.length (vtL l))(u:Value)(m:List Vt)(M:Sv w u m)(B:l.length+m.length<=2199023255552)(g:c<=w.heap.size) :
  ∃ v' w',(Builtin.append_ #[t,t] s #[x,u]).run P w=.ok v' w'/\w'.ownsRow c e 8 v' (l++m).length (vtL (l++m))/\w.grownBy w' x.ownBlock:=by
 obtain⟨i,y,N,q,o⟩:=info_parts h;obtain⟨⟨a,n,rfl,O,J,D⟩,_⟩:=M;cases a with
 | none =>
  have p:=J rfl;subst p;have I:m=[]:=Z' (by omega);subst I;refine⟨x,w,?_,by simpa using d,⟨rfl,rfl,rfl,A' _,λ_ _ _=>rfl⟩⟩;exact run_append_owned_none (P:=P) (w:=w) c t s e i 8 C y x l.length _ d
 | some ad =>
  have f:∀ j u,(vtL m)[j]?=some u->w.cell? (ad.add j)=some u:=by
   intro j u A;rcases D with rfl|⟨b,off,hab,_,hcell⟩
   .simp[vtL]at A
   .obtain rfl:ad=⟨b,off,none⟩:=by simpa using hab
    obtain⟨v,E,F⟩:=cN m j u A;have k:(⟨b,off,none⟩:Addr).add j=⟨b,off+j,none⟩:=by unfold Addr.add;split<;>simp_all
    rw[k];have G:=hcell (j/8) v E (j%8) u F
    rwa [show off+8*(j/8)+j%8=off+j by omega]at G
  obtain⟨v',w',L,K,H,_⟩:=run_append_own (P:=P) w c t s e i z 8 64 C y N q o r (by decide) x l.length _ d ad m.length n (vtL m) (De m) f (V8 m)
   (by unfold maxLen;omega) (by omega) g
  exact⟨v',w',L,by rw[Uw,H'];exact K,H⟩
theorem BE(w:World){c:List Oper}{o:Oper}(n:o.guard=none)(s x:Operand)(t:TypeId)(r:o.op=.call { callee:=.builtin .append,args:=#[s,x],argTypes:=#[t,t] })(b e:Nat)(z:Value)(A:P.underlying t=some (.slice e))(f:(P.info? e).map (λi=>(i.zero,i.size,i.bytes))=some (some z,8,64))(p:z.cells.size=8)(v u:Value)(y:a.eval s=v)(C:a.eval x=u)(l m:List Vt)(j:w.ownsRow b e 8 v l.length (vtL l))(B:Sv w u m)(g:l.length+m.length<=2199023255552)(d:b<=w.heap.size)(h:∀ v' w',w'.ownsRow b e 8 v' (l++m).length (vtL (l++m))->w.grownBy w' v.ownBlock->wpList P ops Q c (a.put o.dst v') w'):wpList P ops Q (o::c) a w:=by
 refine wpList_plain n λK q=>?_;obtain⟨v',w',k,D,E⟩:=NR (P:=P) w b t o.type e z A f p v l j u m B g d;unfold Oper.wp execOp;simp only[r,resolve,invoke,builtin,Sem.run_bind,Sem.run_pure,Result.andThen_ok,pU,nK,oJ,y,C,k];exact q _ _ (h v' w' D E)
theorem Sv.one(w:World)(v:Vt)(e:TypeId)(b:g=w.heap.size):Sv (w.alloc (.cells (vtA v) e)) (.slice (some ⟨g,0,none⟩) 1 1) [v]:=by
 subst b;refine⟨⟨_,1,rfl,A' _,by simp,.inr ⟨w.heap.size,0,rfl,by simp,λi u a j x c=>?_⟩⟩,by simp⟩;cases i with
 | zero =>
  simp at a;subst a;rw[cell_of_row _ _ (0+8*0+j) _ _ _ (heap_alloc_new w (.cells (vtA v) e))];simpa[vtA]using c
 | succ i=>simp at a
def zVt:Value:=.agg zV8
theorem EY:(prog.info? 140).map (λi=>(i.zero,i.size,i.bytes))=some (some zVt,8,64):=by kernel_rfl
theorem bE(v:Vt):(prog.info? 140).map (·.size)=some (vtC v).length:=by show _=some 8;kernel_rfl
theorem SI:prog.elem 76=140:=by kernel_rfl
theorem Ug(w:World):(Go.sizeOf 140).run prog w=.ok 8 w:=by
 obtain⟨i,b,_,a,_⟩:=info_parts EY;simp[sizeOf,typeInfo,b,a]
theorem JN(b o n c:Nat)(i:Nat)(a:i<n)(w:World):(Instr.indexAt 76 (.slice (some ⟨b,o,none⟩) n c) (.int .i64 (i:Int))).run prog w=.ok (.pointer (some ⟨b,o+8*i,none⟩)) w:=by
 rw[run_indexAt_slice (P:=prog) w 76 _ n c .i64 _ underlying76,if_pos ⟨by omega,by omega⟩,SI,Ug];simp[Result.andThen,Addr.add_mid,Nat.mul_comm]
theorem Da{l:List Oper}(h:wpList P ops Q l a w):wpList P ops Q l a w:=h
theorem FY(l:List Vt)(k:Nat)(v:Vt)(h:l[k]?=some v):l.take (k+1)=l.take k++[v]:=by
 obtain⟨a,e⟩:=V'.1 h;rw[nv a,e]
def acA(p:Bal)(x:Value):Array Value:=#[.int .i64 p.r,.int .i64 p.n,x]
theorem Yc:(prog.info? 75).map (·.size)=some 2:=by kernel_rfl
theorem TD(h:Below B w w'){b o:Nat}{a:List Value}(c:b<B)(d:w.rangeAt b o a):w'.rangeAt b o a :=
 λj v e=>(h.cell (p:=⟨b,o+j,none⟩) c).trans (d j v e)
theorem EG{a:World}(h:Below B a w)(c:B<=g)(b:Array Value):Below B a (w.setRow g b) :=
 h.trans ⟨rfl,rfl,rfl,by simp,λk d=>setRow_other w g k b (by omega)⟩
theorem gx{S:World->Prop}{op:Oper}(e:Region.wanted op (yielded ops a.tmps)=true)(x:Operand)(d:op.op=.load 140 x)(g:Nat)(f:a.eval x=.pointer (some ⟨g,0,none⟩))(v:Vt)(c:∀ w,S w->w.heap[g]?=some (.cells (vtA v) 140)):YieldsIf prog ops S op (.agg (vtA v)) a :=
 .inl ⟨e,λw b=>by
  unfold execOp;simp only[d,f,Instr.loadAt,Instr.sureAddr,Sem.run_bind,Sem.run_pure,Result.andThen_ok,run_loadVar_row w g 140 140 _ (0,0) _ (c w b) underlying140 rfl (show _=some (vtA v).size from bE v)]⟩
theorem lh{P:Program}{f:Func}{p u v:Tmp}{c:TypeId}(h:f.results=#[.cell p c,.tmp u,.tmp v])(a:Array Value)(w:World)(g:Nat)(t:TypeId)(b:Array Value)(fr:Nat × Nat)(d:TypeDesc)(l:a.getD p undef=.pointer (some ⟨g,0,none⟩))(j:w.heap[g]?=some (.cells b t fr))(m:P.underlying c=some d)(i:(match d with|.struct _|.array _ _=>true|_=>false)=true)(k:(P.info? c).map (·.size)=some b.size) :
  (results f a).run P w=.ok (.tuple #[.agg b,a.getD u undef,a.getD v undef]) w:=by
 have e:a[p]?.getD undef=.pointer (some ⟨g,0,none⟩):=by simpa using l
 simp[results,h,e,asAddr,run_loadVar_row w g t c b fr d j m i k]
theorem TA{a:Nat}{v:Value}{b:List Value}(h:w.ownsRow base e a v n b)(c:∀ k,v.ownBlock=some k->w'.heap[k]?=w.heap[k]?):w'.ownsRow base e a v n b:=by
 refine⟨h.1,?_⟩;rcases h.2 with h2|⟨g,cap,cur,hv,hb,hg,hr⟩
 .exact .inl h2
 .exact .inr ⟨g,cap,cur,hv,hb,(c g (by rw[hv];rfl)).trans hg,hr⟩
theorem jS(v:Vt):(prog.info? 140).map (·.size)=some (vtA v).size:=by show _=some 8;kernel_rfl
theorem gM{P:Program}{f:Func}{p u:Tmp}{c:TypeId}(h:f.results=#[.cell p c,.tmp u])(a:Array Value)(w:World)(g:Nat)(t:TypeId)(b:Array Value)(fr:Nat × Nat)(d:TypeDesc)(l:a.getD p undef=.pointer (some ⟨g,0,none⟩))(j:w.heap[g]?=some (.cells b t fr))(m:P.underlying c=some d)(i:(match d with|.struct _|.array _ _=>true|_=>false)=true)(k:(P.info? c).map (·.size)=some b.size) :
  (results f a).run P w=.ok (.tuple #[.agg b,a.getD u undef]) w:=by
 have e:a[p]?.getD undef=.pointer (some ⟨g,0,none⟩):=by simpa using l
 simp[results,h,e,asAddr,run_loadVar_row w g t c b fr d j m i k]
def cmC(c:Cmd):Array Value:=cmA c.k c.c c.s c.n c.v
theorem dG(a b c d:Int):∀ w,(binOp .eql 75 (.agg #[.int .i64 a,.int .i64 b]) (.agg #[.int .i64 c,.int .i64 d])).run prog w=.ok (.bool (decide (a=c/\b=d))) w:=by
 intro w;rw[run_eql_struct,run_equalIn_agg w 9999 _ _ _ (by kernel_rfl) (by kernel_rfl)];unfold Program.fieldsOf;rw[underlying75];have e:=underlying3;simp[Op.eqFields,go_sem,e]
 repeat' split
 all_goals simp_all
theorem YL(a b c d e f g h i j k l m n o p:Int):∀ w,(binOp .eql 140 (.agg #[.int .i64 a,.int .i64 b,.int .i64 c,.int .i64 d,.int .i64 e,.int .i64 f,.int .i64 g,.int .i64 h]) (.agg #[.int .i64 i,.int .i64 j,.int .i64 k,.int .i64 l,.int .i64 m,.int .i64 n,.int .i64 o,.int .i64 p])).run prog w=.ok (.bool (decide (a=i/\b=j/\c=k/\d=l/\e=m/\f=n/\g=o/\h=p))) w:=by
 intro w;rw[run_eql_struct,run_equalIn_agg w 9999 _ _ _ (by kernel_rfl) (by kernel_rfl)];unfold Program.fieldsOf;rw[underlying140];have q:=underlying3;have r:=underlying75;have s:=underlying49;simp[Op.eqFields,go_sem,q,r,s]
 repeat' split
 all_goals simp_all
end
end
section
section
def NC(l:List Vt)(v:Vt):Nat->List Vt
 | 0=>[]
 | k+1=>NC l v k++(if(k:Int)=v.bu then[v]else Ae l k)
variable{a b l:List Vt}{v:Vt}
theorem R3(c:BR a)(d:BR b)(h:∀ x∈a,∀ y∈b,x.bu<y.bu):BR (a++b):=by
 induction a with
 | nil=>exact d
 | cons x xs ih =>
  refine⟨λu hu=>?_,ih c.2 (λy e=>h y (I' _ e))⟩;rcases U'.1 hu with hu|hu
  .exact c.1 u hu
  .exact h x O' u hu
theorem K6(h:BR l)(q:Vt->Bool):BR (l.filter q):=by
 induction l with
 | nil=>trivial
 | cons x xs ih =>
  rw[List.filter_cons];split
  .exact⟨λu a=>h.1 u (qi.1 a).1,ih h.2⟩
  .exact ih h.2
theorem aT(c:BR a)(d:BR b)(h:∀ u,u∈a↔u∈b):a=b:=by
 induction a generalizing b with
 | nil =>
  cases b with
  | nil=>rfl
  | cons y ys=>exact absurd ((h y).2 O') (P')
 | cons x xs ih =>
  cases b with
  | nil=>exact absurd ((h x).1 O') (P')
  | cons y ys =>
   have f:x=y:=by
    rcases nf.1 ((h x).1 O')with e|e
    .exact e
    .rcases nf.1 ((h y).2 O')with e'|e'
     .exact e'.symm
     .have:=c.1 y e';have:=d.1 x e;omega
   subst f;rw[ih c.2 d.2 (λu=>?_)];constructor
   .intro hu;rcases nf.1 ((h u).1 (I' _ hu))with rfl|e
    .have:=c.1 u hu;omega
    .exact e
   .intro hu;rcases nf.1 ((h u).2 (I' _ hu))with rfl|e
    .have:=d.1 u hu;omega
    .exact e
theorem QJ(k:Nat)(u:Vt):u∈NC l v k↔(0<=u.bu/\u.bu<k)/\(u=v\/(u∈l/\u.bu≠v.bu)):=by
 induction k with
 | zero=>simp[NC];omega
 | succ k ih =>
  rw[NC,U',ih];by_cases a:(k:Int)=v.bu
  .rw[if_pos a,G'];constructor
   .rintro(⟨h1,h2⟩|rfl)
    .exact⟨by omega,h2⟩
    .exact⟨by omega,.inl rfl⟩
   .rintro⟨h1,rfl|⟨h2,h3⟩⟩
    .exact .inr rfl
    .exact .inl ⟨by omega,.inr ⟨h2,h3⟩⟩
  .rw[if_neg a,Be];constructor
   .rintro(⟨h1,h2⟩|⟨h1,h2⟩)
    .exact⟨by omega,h2⟩
    .exact⟨by omega,.inr ⟨h1,by omega⟩⟩
   .rintro⟨h1,rfl|⟨h2,h3⟩⟩
    .exact .inl ⟨by omega,.inl rfl⟩
    .by_cases h4:u.bu=k
     .exact .inr ⟨h2,h4⟩
     .exact .inl ⟨by omega,.inr ⟨h2,h3⟩⟩
theorem JK(h:BR l)(s:Int):(Ae l s).length<=1:=by
 match e:Ae l s with
 | []=>simp
 | [_]=>simp
 | x::y::r =>
  have a:BR (Ae l s):=K6 h _;have b:=(Be.1 (show x∈Ae l s by rw[e];simp)).2;have c:=(Be.1 (show y∈Ae l s by rw[e];simp)).2;rw[e]at a
  have:=a.1 y O';omega
theorem YZ(v:Vt)(h:BR l)(k:Nat):(NC l v k).length<=k:=by
 induction k with
 | zero=>simp[NC]
 | succ k ih =>
  rw[NC,H'];have:=JK h k;split
  .simp;omega
  .omega
theorem Wg(v:Vt)(h:BR l)(k:Nat):BR (NC l v k):=by
 induction k with
 | zero=>trivial
 | succ k ih =>
  rw[NC];refine R3 ih ?_ ?_
  .split
   .exact⟨λu a=>(P' a).elim,trivial⟩
   .exact K6 h _
  .intro x hx y hy;have b:=((QJ k x).1 hx).1;split at hy
   .obtain rfl:y=v:=by simpa using hy
    omega
   .have:=(Be.1 hy).2;omega
theorem dX(k:Nat)(h:BR l)(b:∀ u∈l,0<=u.bu/\u.bu<k)(c:0<=v.bu/\v.bu<k):NC l v k=Bp l v:=by
 refine aT (Wg v h k) (JE v h) λu=>?_;rw[QJ,BH h];constructor
 .exact λa=>a.2
 .rintro(rfl|⟨h1,h2⟩)
  .exact⟨c,.inl rfl⟩
  .exact⟨b u h1,.inr ⟨h1,h2⟩⟩
theorem Ku(l:List Vt)(u:Vt)(s:Int):Ae (l++[u]) s=Ae l s++(if u.bu=s then[u]else[]):=by
 unfold Ae;rw[oV];by_cases h:u.bu=s<;>simp[h]
theorem X1(a:List (List Vt))(j:Nat)(l:List Vt)(h:a[j]?=some l):(a.take (j+1)).flatten=(a.take j).flatten++l:=by
 obtain⟨b,e⟩:=V'.1 h;rw[nv b,e];simp
theorem DD(a b:List Vt)(s:Int):Ae (a++b) s=Ae a s++Ae b s:=by unfold Ae;rw[oV]
end
end
section
open Go.RowKit
section
structure Sac(w:World)(x:Value)(ac:List Acc):Prop where
 ex:∃ a cap,x=.slice a ac.length cap/\(ac=[]\/∃ b off,a=some ⟨b,off,none⟩/\b<w.heap.size/\∀ (i:Nat) (A:Acc),ac[i]?=some A->∃ y,w.rangeAt b (off+3*i) [.int .i64 A.p.r,.int .i64 A.p.n,y]/\Sv w y A.vs)
 len:ac.length<=3518437208780
variable{ac:List Acc}{s:Int}{w:World}{x:Value}
theorem Sac.af{f:World}(h:Sac w x ac)(e:Bw w f):Sac f x ac:=by
 obtain⟨⟨a,c,rfl,d⟩,g⟩:=h;refine⟨⟨a,c,rfl,?_⟩,g⟩;rcases d with d|⟨b,off,ha,hbs,hc⟩
 .exact .inl d
 .refine .inr ⟨b,off,ha,j' hbs e.size,λi A l=>?_⟩;obtain⟨y,j,k⟩:=hc i A l;exact⟨y,TD e hbs j,k.af e⟩
theorem Sac.shape(h:Sac w x ac):∃ a cap,x=.slice a ac.length cap:=by
 obtain⟨⟨a,cap,e,_⟩,_⟩:=h;exact⟨a,cap,e⟩
theorem Sac.spot{a:Option Addr}{n c:Nat}(h:Sac w (.slice a n c) ac)(i:Nat)(A:Acc)(f:ac[i]?=some A):∃ b off y,a=some ⟨b,off,none⟩/\b<w.heap.size/\w.rangeAt b (off+3*i) [.int .i64 A.p.r,.int .i64 A.p.n,y]/\Sv w y A.vs:=by
 obtain⟨⟨j,d,e,g⟩,_⟩:=h;simp only[Value.slice.injEq]at e;obtain⟨rfl,rfl,rfl⟩:=e;rcases g with rfl|⟨b,off,rfl,hb,hc⟩
 .simp at f
 .obtain⟨y,h3,h4⟩:=hc i A f;exact⟨b,off,y,rfl,hb,h3,h4⟩
theorem iJ:prog.elem 200=78:=by kernel_rfl
theorem jB(w:World):(Go.sizeOf 78).run prog w=.ok 3 w:=by
 have h:(prog.info? 78).map (·.size)=some 3:=by kernel_rfl
 cases hi:prog.info? 78 with
 | none=>rw[hi]at h;cases h
 | some i =>
  rw[hi]at h
  simp at h;simp[sizeOf,typeInfo,hi,h]
theorem Xd(b o n c:Nat)(i:Nat)(a:i<n)(w:World):(Instr.indexAt 200 (.slice (some ⟨b,o,none⟩) n c) (.int .i64 (i:Int))).run prog w=.ok (.pointer (some ⟨b,o+3*i,none⟩)) w:=by
 rw[run_indexAt_slice (P:=prog) w 200 _ n c .i64 _ underlying200,if_pos ⟨by omega,by omega⟩,iJ,jB];simp[Result.andThen,Addr.add_mid,Nat.mul_comm]
def Dx(ac:List Acc)(s:Int):List Vt:=Ae (ac.map (·.vs)).flatten s
def CY(ac:List Acc)(s:Int):Int:=if ¬ ((0<=s/\s<=39)/\(1<=(ac.length:Int)/\(ac.length:Int)<=5))then 2 else if ¬ ∀ a∈ac,Ag a then 5 else if(Hl (Dx ac s) ac.length).isSome then 0 else 9
def CQ(ac:List Acc)(s:Int):Cmd:=if CY ac s=0 then((Hl (Dx ac s) ac.length).map (·.w)).getD ⟨0,0,0,0,0⟩else⟨0,0,0,0,0⟩
theorem Dz(h:¬ ((0<=s/\s<=39)/\(1<=(ac.length:Int)/\(ac.length:Int)<=5))):CQ ac s=⟨0,0,0,0,0⟩/\CY ac s=2:=by
 have e:CY ac s=2:=if_pos h;exact⟨if_neg (by rw[e];decide),e⟩
theorem VM(h:(0<=s/\s<=39)/\(1<=(ac.length:Int)/\(ac.length:Int)<=5))(b:¬ ∀ a∈ac,Ag a):CQ ac s=⟨0,0,0,0,0⟩/\CY ac s=5:=by
 have e:CY ac s=5:=by unfold CY;rw[if_neg (λg=>g h),if_pos b]
 exact⟨if_neg (by rw[e];decide),e⟩
theorem Yr(h:(0<=s/\s<=39)/\(1<=(ac.length:Int)/\(ac.length:Int)<=5))(b:∀ a∈ac,Ag a)(c:Hl (Dx ac s) ac.length=none):CQ ac s=⟨0,0,0,0,0⟩/\CY ac s=9:=by
 have e:CY ac s=9:=by unfold CY;rw[if_neg (λg=>g h),if_neg (λg=>g b),c];rfl
 exact⟨if_neg (by rw[e];decide),e⟩
theorem Ys(h:(0<=s/\s<=39)/\(1<=(ac.length:Int)/\(ac.length:Int)<=5))(c:∀ a∈ac,Ag a){x:Vt}(b:Hl (Dx ac s) ac.length=some x):CQ ac s=x.w/\CY ac s=0:=by
 have e:CY ac s=0:=by unfold CY;rw[if_neg (λg=>g h),if_neg (λg=>g c),b];rfl
 exact⟨by unfold CQ;rw[if_pos e,b];rfl,e⟩
theorem i9{c:List Acc}(h:∀ a∈c,Ag a)(s:Int):(Ae (c.map (·.vs)).flatten s).length<=c.length:=by
 induction c with
 | nil=>simp[Ae]
 | cons a c ih =>
  have e:=JK (h a O').2.2 s;have f:=ih (λb d=>h b (I' _ d));simp only[nK,List.flatten_cons,nD];rw[DD,H'];omega
theorem Uq(ac:List Acc)(j:Nat)(a:Acc)(h:ac[j]?=some a):((ac.take (j+1)).map (·.vs)).flatten=((ac.take j).map (·.vs)).flatten++a.vs:=by
 obtain⟨b,e⟩:=V'.1 h;rw[nv b,e];simp
end
end
section
end
section
open Go.RowKit
section
def baA(b:Bal):Array Value:=#[.int .i64 b.r,.int .i64 b.n]
theorem OH(l:List Vt)(v:Vt):BR (l++[v])↔BR l/\∀ u∈l,u.bu<v.bu:=by
 induction l with
 | nil=>exact⟨λ_=>⟨trivial,λu hu=>(P' hu).elim⟩,λ_=>⟨λu hu=>(P' hu).elim,trivial⟩⟩
 | cons x xs ih =>
  show((∀ u∈xs++[v],x.bu<u.bu)/\BR (xs++[v]))↔((∀ u∈xs,x.bu<u.bu)/\BR xs)/\∀ u∈x::xs,u.bu<v.bu;rw[ih];constructor
  .rintro⟨h1,h2,h3⟩;refine⟨⟨λu hu=>h1 u (mY _ hu),h2⟩,λu hu=>?_⟩;rcases nf.1 hu with rfl|hu
   .exact h1 v (mW _ O')
   .exact h3 u hu
  .rintro⟨⟨h1,h2⟩,h3⟩;refine⟨λu hu=>?_,h2,λu hu=>h3 u (I' _ hu)⟩;rcases U'.1 hu with hu|hu
   .exact h1 u hu
   .obtain rfl:u=v:=by simpa using hu
    exact h3 x O'
def Fs(a:Acc)(b:Bal):Bal:=if Cl a b=0 then b else⟨0,0⟩
def DN(a:Acc)(b:Bal):List Vt:=if Cl a b=0 then a.vs else[]
def BN(a:Acc)(v:Vt):Bal:=if AX a v=0 then v.b else⟨0,0⟩
def Bu(a:Acc)(v:Vt):List Vt:=if AX a v=0 then Bp a.vs v else[]
def H9(ls:List (List Vt))(s:Int):Cmd:=if Ck ls s=0 then((Gf ls s).map (·.w)).getD ⟨0,0,0,0,0⟩else⟨0,0,0,0,0⟩
def DS(ls:List (List Vt))(s:Int):Bool:=if Ck ls s=0 then(Gf ls s).isSome else false
variable{l:List Vt}{ls:List (List Vt)}{s:Int}
theorem Ms(h:¬ (0<=s/\s<=39)):H9 ls s=⟨0,0,0,0,0⟩/\DS ls s=false/\Ck ls s=2:=by
 have e:Ck ls s=2:=if_pos h;exact⟨if_neg (by rw[e];decide),if_neg (by rw[e];decide),e⟩
theorem TJ(h:0<=s/\s<=39)(a:¬ ∀ l∈ls,∀ v∈l,Ah v):H9 ls s=⟨0,0,0,0,0⟩/\DS ls s=false/\Ck ls s=5:=by
 have e:Ck ls s=5:=by unfold Ck;rw[if_neg (λg=>g h),if_neg a]
 exact⟨if_neg (by rw[e];decide),if_neg (by rw[e];decide),e⟩
theorem co{j:Nat}(h:ls[j]?=some l)(b:∀ l∈ls.take j,∀ v∈l,Ah v)(c:∀ v∈l,Ah v):∀ l∈ls.take (j+1),∀ v∈l,Ah v:=by
 obtain⟨d,e⟩:=V'.1 h;rw[nv d,e];intro l' a;rcases U'.1 a with g|g
 .exact b l' g
 .obtain rfl:l'=l:=by simpa using g
  exact c
theorem cx{k:Nat}{u:Vt}(h:l[k]?=some u)(a:∀ v∈l.take k,Ah v)(b:Ah u):∀ v∈l.take (k+1),Ah v:=by
 rw[FY l k u h];intro v c;rcases U'.1 c with g|g
 .exact a v g
 .obtain rfl:v=u:=by simpa using g
  exact b
end
end
end Go.Proofs.YtogibonjmbhliabGreatDoor
