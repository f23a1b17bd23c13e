/- Part 4 of the walk. -/
import Derived.Great.BuildSlice
import Derived.Test.YtalbmmghmoggcaaGreatDoorZ3
set_option maxRecDepth 100000
set_option maxHeartbeats 4000000
open Go.Proofs.Tryz
set_option linter.unusedVariables false
namespace Go.Proofs.YtalbmmghmoggcaaGreatDoor
section
structure Bal where
 r:Int
 n:Int
theorem Bal.eq_iff(a b:Bal):(a.r=b.r/\a.n=b.n)↔a=b:=by
 cases a;cases b;simp
instance:DecidableEq Bal:=fun a b=>decidable_of_iff _ (Bal.eq_iff a b)
structure Cmd where
 k:Int
 c:Int
 s:Int
 n:Int
 v:Int
theorem Cmd.eq_iff(a b:Cmd):(a.k=b.k/\a.c=b.c/\a.s=b.s/\a.n=b.n/\a.v=b.v)↔a=b:=by
 cases a;cases b;simp
instance:DecidableEq Cmd:=fun a b=>decidable_of_iff _ (Cmd.eq_iff a b)
structure Vt where
 slot:Int
 b:Bal
 w:Cmd
theorem Vt.eq_iff(a b:Vt):(a.slot=b.slot/\a.b=b.b/\a.w=b.w)↔a=b:=by
 cases a;cases b;simp
instance:DecidableEq Vt:=fun a b=>decidable_of_iff _ (Vt.eq_iff a b)
instance:Inhabited Vt:=⟨⟨0,⟨0,0⟩,⟨0,0,0,0,0⟩⟩⟩
structure Acc where
 p:Bal
 vs:List Vt
def Bal.lt(a b:Bal):Prop:=a.r<b.r\/(a.r=b.r/\a.n<b.n)
instance (a b:Bal):Decidable (a.lt b):=by unfold Bal.lt;exact inferInstance
def Ad(a:Bal):Prop:=(1<=a.r/\a.r<=65536)/\0<=a.n/\a.n<=4
instance (a:Bal):Decidable (Ad a):=by unfold Ad;exact inferInstance
def Cmd.e(c:Cmd):Int:=AT c.k c.c c.s c.n c.v
def Am(v:Vt):Prop:=(0<=v.slot/\v.slot<=39)/\Ad v.b/\v.w.e=0
instance (v:Vt):Decidable (Am v):=by unfold Am;exact inferInstance
def Bm(a:Bal):Prop:=Ad a\/(a.r=0/\a.n=0)
instance (a:Bal):Decidable (Bm a):=by unfold Bm;exact inferInstance
def B2:List Vt->Prop
 | []=>True
 | u::us=>(∀ v∈us,u.slot<v.slot)/\B2 us
def RP:(l:List Vt)->Decidable (B2 l)
 | []=>isTrue trivial
 | u::us=>@instDecidableAnd _ _ inferInstance (RP us)
instance (l:List Vt):Decidable (B2 l):=RP l
def AC(a:Acc):Prop:=Bm a.p/\(∀ v∈a.vs,Am v/\¬ a.p.lt v.b)/\B2 a.vs
instance (a:Acc):Decidable (AC a):=by unfold AC;exact inferInstance
def FG(a:Acc):Int:=if AC a then 0 else 5
def BL(a:Acc)(b:Bal):Int:=if ¬ AC a then 5 else if ¬ Ad b then 2 else if b.lt a.p then 7 else 0
def AW(a:Acc)(v:Vt):Int:=if ¬ AC a then 5 else if ¬ Am v then 2 else if v.b.lt a.p then 7 else 0
def Bk:List Vt->Vt->List Vt
 | [],v=>[v]
 | u::us,v=>if u.slot<v.slot then u::Bk us v else if u.slot=v.slot then v::us else v::u::us
theorem Kb{l:List Vt}{v u:Vt}(h:B2 l):u∈Bk l v↔u=v\/(u∈l/\u.slot≠v.slot):=by
 induction l with
 | nil=>simp[Bk]
 | cons x xs ih =>
  obtain⟨hx,hxs⟩:=h;have ih:=ih hxs;rw[Bk];split
  .rename_i h1
   rw[List.mem_cons,ih];constructor
   .rintro(rfl|rfl|⟨h2,h3⟩)
    .exact .inr ⟨List.mem_cons_self,by omega⟩
    .exact .inl rfl
    .exact .inr ⟨List.mem_cons_of_mem _ h2,h3⟩
   .rintro(rfl|⟨h2,h3⟩)
    .exact .inr (.inl rfl)
    .rcases List.mem_cons.1 h2 with rfl|h2
     .exact .inl rfl
     .exact .inr (.inr ⟨h2,h3⟩)
  .split
   .rename_i h1 h2
    rw[List.mem_cons];constructor
    .rintro(rfl|h3)
     .exact .inl rfl
     .have:=hx u h3;exact .inr ⟨List.mem_cons_of_mem _ h3,by omega⟩
    .rintro(rfl|⟨h3,h4⟩)
     .exact .inl rfl
     .rcases List.mem_cons.1 h3 with rfl|h3
      .exact absurd h2 h4
      .exact .inr h3
   .rename_i h1 h2
    rw[List.mem_cons];constructor
    .rintro(rfl|h3)
     .exact .inl rfl
     .rcases List.mem_cons.1 h3 with rfl|h4
      .exact .inr ⟨h3,h2⟩
      .have:=hx u h4;exact .inr ⟨h3,by omega⟩
    .rintro(rfl|⟨h3,h4⟩)
     .exact .inl rfl
     .exact .inr h3
theorem LI{l:List Vt}(v:Vt)(h:B2 l):B2 (Bk l v):=by
 induction l with
 | nil=>exact⟨fun u hu=>(List.not_mem_nil hu).elim,trivial⟩
 | cons x xs ih =>
  obtain⟨hx,hxs⟩:=h;rw[Bk];split
  .rename_i h1
   refine⟨fun u hu=>?_,ih hxs⟩;rcases(Kb hxs).1 hu with rfl|⟨h2,_⟩
   .exact h1
   .exact hx u h2
  .split
   .rename_i h1 h2
    exact⟨fun u hu=>by have:=hx u hu;omega,hxs⟩
   .rename_i h1 h2
    refine⟨fun u hu=>?_,hx,hxs⟩;rcases List.mem_cons.1 hu with rfl|h3
    .omega
    .have:=hx u h3;omega
def Cl:List Vt->Option Vt->Option Vt
 | [],o=>o
 | v::l,none=>Cl l (some v)
 | v::l,some u=>if u.b.lt v.b then Cl l (some v)else Cl l (some u)
def Al(l:List Vt)(s:Int):List Vt:=l.filter fun v=>decide (v.slot=s)
theorem CJ{l:List Vt}{s:Int}{v:Vt}:v∈Al l s↔v∈l/\v.slot=s:=by simp[Al]
def Cp(ls:List (List Vt))(s:Int):Int:=if ¬ (0<=s/\s<=39)then 2 else if ∀ l∈ls,∀ v∈l,Am v then 0 else 5
def O8(ls:List (List Vt))(s:Int):Option Vt:=Cl (Al ls.flatten s) none
def Cz(l:List Vt)(v:Vt):Nat:=l.countP fun u=>decide (u=v)
def H7(l:List Vt)(m:Nat):Option Vt:=l.find? fun v=>decide (m<2*Cz l v)
end
section
open Go.RowKit
def vtC(v:Vt):List Value:=[.int .i64 v.slot,.int .i64 v.b.r,.int .i64 v.b.n,.int .i64 v.w.k,.int .i64 v.w.c,.int .i64 v.w.s,.int .i64 v.w.n,.int .i64 v.w.v]
def vtA(v:Vt):Array Value:=(vtC v).toArray
theorem BN(v:Vt):(vtC v).length=8:=rfl
theorem Zx(v:Vt):∀ u∈vtC v,u.oneCell'=true:=by
 intro u hu;simp only[vtC,List.mem_cons,List.not_mem_nil,or_false]at hu;rcases hu with rfl|rfl|rfl|rfl|rfl|rfl|rfl|rfl<;>rfl
def vtL(l:List Vt):List Value:=l.flatMap vtC
theorem KK(v:Vt)(l:List Vt):vtL (v::l)=vtC v++vtL l:=rfl
theorem Ri(l m:List Vt):vtL (l++m)=vtL l++vtL m:=by simp[vtL]
theorem Ck(l:List Vt):(vtL l).length=l.length*8:=by
 induction l with
 | nil=>rfl
 | cons v l ih=>rw[KK,List.length_append,ih,BN,List.length_cons];omega
theorem Sf(l:List Vt):∀ u∈vtL l,u.oneCell'=true:=by
 intro u hu;obtain⟨v,_,hv⟩:=List.mem_flatMap.1 hu;exact Zx v u hv
theorem Zy(l:List Vt)(i:Nat)(v:Vt)(h:l[i]?=some v)(j:Nat)(u:Value)(hj:(vtC v)[j]?=some u):(vtL l)[8*i+j]?=some u:=by
 induction l generalizing i with
 | nil=>simp at h
 | cons x l ih =>
  have hj8:j<8:=by have:=(List.getElem?_eq_some_iff.1 hj).1;rwa [BN]at this
  rw[KK];cases i with
  | zero =>
   simp at h;subst h;rw[List.getElem?_append_left (by rw[BN];omega)];simpa using hj
  | succ i =>
   rw[List.getElem?_append_right (by rw[BN];omega),BN,show 8*(i+1)+j-8=8*i+j by omega];exact ih i (by simpa using h)
theorem Xq(l:List Vt)(m:Nat)(u:Value)(h:(vtL l)[m]?=some u):∃ v,l[m/8]?=some v/\(vtC v)[m%8]?=some u:=by
 induction l generalizing m with
 | nil=>simp[vtL]at h
 | cons x l ih =>
  rw[KK]at h
  rcases Nat.lt_or_ge m 8 with hm|hm
  .rw[List.getElem?_append_left (by rw[BN];omega)]at h
   exact⟨x,by rw[Nat.div_eq_of_lt hm];rfl,by rwa [Nat.mod_eq_of_lt hm]⟩
  .rw[List.getElem?_append_right (by rw[BN];omega),BN]at h
   obtain⟨v,h1,h2⟩:=ih (m-8) h;refine⟨v,?_,?_⟩
   .rw[show m/8=(m-8)/8+1 by omega];simpa using h1
   .rw[show m%8=(m-8)%8 by omega];exact h2
structure Sv(w:World)(x:Value)(l:List Vt):Prop where
 ex:∃ a cap,x=.slice a l.length cap/\l.length<=cap/\(a=none->cap=0)/\(l=[]\/∃ b off,a=some ⟨b,off,none⟩/\b<w.heap.size/\∀ i v,l[i]?=some v->w.rangeAt b (off+8*i) (vtC v))
 len:l.length<=2199023255488
theorem Sv.below{w w':World}{x:Value}{l:List Vt}(h:Sv w x l)(hb:Bw w w'):Sv w' x l:=by
 obtain⟨⟨a,cap,rfl,hc,hn,h1⟩,h2⟩:=h;refine⟨⟨a,cap,rfl,hc,hn,?_⟩,h2⟩;rcases h1 with h1|⟨b,off,ha,hbs,hcell⟩
 .exact .inl h1
 .exact .inr ⟨b,off,ha,Nat.lt_of_lt_of_le hbs hb.size,fun i v hi j u hj=>(hb.cell (p:=⟨b,off+8*i+j,none⟩) hbs).trans (hcell i v hi j u hj)⟩
theorem Sv.nil(w:World):Sv w (.slice none 0 0) []:=⟨⟨none,0,rfl,by simp,by simp,.inl rfl⟩,by simp⟩
theorem Sv.shape{w:World}{x:Value}{l:List Vt}(h:Sv w x l):∃ a cap,x=.slice a l.length cap:=by
 obtain⟨⟨a,cap,e,_⟩,_⟩:=h;exact⟨a,cap,e⟩
theorem Sv.spot{w:World}{a:Option Addr}{n cap:Nat}{l:List Vt}(h:Sv w (.slice a n cap) l)(i:Nat)(v:Vt)(hi:l[i]?=some v):∃ b off,a=some ⟨b,off,none⟩/\b<w.heap.size/\w.rangeAt b (off+8*i) (vtC v):=by
 obtain⟨⟨a',cap',e,hc,hn,h1⟩,_⟩:=h;simp only[Value.slice.injEq]at e;obtain⟨rfl,rfl,rfl⟩:=e;rcases h1 with rfl|⟨b,off,rfl,hb,hcell⟩
 .simp at hi
 .exact⟨b,off,rfl,hb,hcell i v hi⟩
theorem Sv.ofOwns{w:World}{base e:Nat}{x:Value}{l:List Vt}(h:w.ownsRow base e 8 x l.length (vtL l))(hl:l.length<=2199023255488):Sv w x l:=by
 refine⟨?_,hl⟩;rcases h.2 with⟨rfl,h0⟩|⟨g,cap,cur,rfl,_,hg,hn,_,hcs,ht⟩
 .exact⟨none,0,by rw[h0],by omega,fun _=>rfl,.inl (List.eq_nil_of_length_eq_zero h0)⟩
 .refine⟨_,cap,rfl,hn,by simp,.inr ⟨g,0,rfl,(Array.getElem?_eq_some_iff.1 hg).1,fun i v hi j u hj=>?_⟩⟩;have hc:=h.cells (g:=g) rfl (8*i+j) u (Zy l i v hi j u hj);have hadd:(⟨g,0,none⟩:Addr).add (8*i+j)=⟨g,8*i+j,none⟩:=by unfold Addr.add;split<;>simp_all
  rw[hadd]at hc
  rw[Nat.zero_add];exact hc
theorem Lq{P:Program}(w:World)(base t ty e:Nat)(z:Value)(ht:P.underlying t=some (.slice e))(hinfo:(P.info? e).map (fun i=>(i.zero,i.size,i.bytes))=some (some z,8,64))(hz8:z.cells.size=8)
  (x:Value)(l:List Vt)(hown:w.ownsRow base e 8 x l.length (vtL l))(u:Value)(m:List Vt)(hu:Sv w u m)
  (hlen:l.length+m.length<=2199023255552)(hbase:base<=w.heap.size) :
  ∃ v' w',(Builtin.append_ #[t,t] ty #[x,u]).run P w=.ok v' w'/\w'.ownsRow base e 8 v' (l++m).length (vtL (l++m))/\w.grownBy w' x.ownBlock:=by
 obtain⟨i,hi,hz,hsz,hby⟩:=info_parts hinfo;obtain⟨⟨a,cap,rfl,hc,hn,h1⟩,_⟩:=hu;cases a with
 | none =>
  have hc0:=hn rfl;subst hc0;have hm:m=[]:=List.eq_nil_of_length_eq_zero (by omega);subst hm;refine⟨x,w,?_,by simpa using hown,⟨rfl,rfl,rfl,Nat.le_refl _,fun _ _ _=>rfl⟩⟩;exact run_append_owned_none (P:=P) (w:=w) base t ty e i 8 ht hi x l.length _ hown
 | some ad =>
  have hcells:∀ j u,(vtL m)[j]?=some u->w.cell? (ad.add j)=some u:=by
   intro j u hj;rcases h1 with rfl|⟨b,off,hab,_,hcell⟩
   .simp[vtL]at hj
   .obtain rfl:ad=⟨b,off,none⟩:=by simpa using hab
    obtain⟨v,h2,h3⟩:=Xq m j u hj;have hadd:(⟨b,off,none⟩:Addr).add j=⟨b,off+j,none⟩:=by unfold Addr.add;split<;>simp_all
    rw[hadd];have h4:=hcell (j/8) v h2 (j%8) u h3
    rwa [show off+8*(j/8)+j%8=off+j by omega]at h4
  obtain⟨v',w',hr,ho,hg,_⟩:=run_append_own (P:=P) w base t ty e i z 8 64 ht hi hz hsz hby hz8 (by decide) x l.length _ hown ad m.length cap (vtL m) (Ck m) hcells (Sf m)
   (by unfold maxLen;omega) (by omega) hbase
  exact⟨v',w',hr,by rw[Ri,List.length_append];exact ho,hg⟩
theorem AX{P:Program}(w:World){ops:Array Oper}{rest:List Oper}{o:Oper}{a:Act}{Q:Exit->Act->World->Prop}(hgd:o.guard=none)(s x:Operand)(t:TypeId)
  (ho:o.op=.call { callee:=.builtin .append,args:=#[s,x],argTypes:=#[t,t] })
  (base e:Nat)(z:Value)(ht:P.underlying t=some (.slice e))(hinfo:(P.info? e).map (fun i=>(i.zero,i.size,i.bytes))=some (some z,8,64))(hz8:z.cells.size=8)
  (v u:Value)(hs:a.eval s=v)(hx:a.eval x=u)(l m:List Vt)(hown:w.ownsRow base e 8 v l.length (vtL l))(hu:Sv w u m)
  (hlen:l.length+m.length<=2199023255552)(hbase:base<=w.heap.size)
  (h:∀ v' w',w'.ownsRow base e 8 v' (l++m).length (vtL (l++m))->w.grownBy w' v.ownBlock->wpList P ops Q rest (a.put o.dst v') w'):wpList P ops Q (o::rest) a w:=by
 refine wpList_plain hgd fun K hK=>?_;obtain⟨v',w',hrun,r1,r2⟩:=Lq (P:=P) w base t o.type e z ht hinfo hz8 v l hown u m hu hlen hbase;unfold Oper.wp execOp;simp only[ho,resolve,invoke,builtin,Sem.run_bind,Sem.run_pure,Result.andThen_ok,List.map_toArray,List.map_cons,List.map_nil,hs,hx,hrun];exact hK _ _ (h v' w' r1 r2)
theorem Sv.one(w:World)(v:Vt)(e:TypeId){g:Nat}(hg:g=w.heap.size):Sv (w.alloc (.cells (vtA v) e)) (.slice (some ⟨g,0,none⟩) 1 1) [v]:=by
 subst hg;refine⟨⟨_,1,rfl,Nat.le_refl _,by simp,.inr ⟨w.heap.size,0,rfl,by simp,fun i u hi j x hj=>?_⟩⟩,by simp⟩;cases i with
 | zero =>
  simp at hi;subst hi;rw[cell_of_row _ _ (0+8*0+j) _ _ _ (heap_alloc_new w (.cells (vtA v) e))];simpa[vtA]using hj
 | succ i=>simp at hi
def zVt:Value:=.agg zV8
theorem DP:(prog.info? 139).map (fun i=>(i.zero,i.size,i.bytes))=some (some zVt,8,64):=by kernel_rfl
theorem Iq(v:Vt):(prog.info? 139).map (·.size)=some (vtC v).length:=by show _=some 8;kernel_rfl
theorem PI:prog.elem 75=139:=by kernel_rfl
theorem QS(w:World):(Go.sizeOf 139).run prog w=.ok 8 w:=by
 obtain⟨i,hi,_,hsz,_⟩:=info_parts DP;simp[sizeOf,typeInfo,hi,hsz]
theorem Dk(b o n c:Nat)(i:Nat)(hi:i<n)(w:World):(Instr.indexAt 75 (.slice (some ⟨b,o,none⟩) n c) (.int .i64 (i:Int))).run prog w=.ok (.pointer (some ⟨b,o+8*i,none⟩)) w:=by
 rw[run_indexAt_slice (P:=prog) w 75 _ n c .i64 _ underlying75,if_pos ⟨by omega,by omega⟩,PI,QS];simp[Result.andThen,Addr.add_mid,Nat.mul_comm]
theorem Ar{P:Program}{ops:Array Oper}{Q:Exit->Act->World->Prop}{l:List Oper}{a:Act}{w:World}(h:wpList P ops Q l a w):wpList P ops Q l a w:=h
theorem D3(l:List Vt)(k:Nat)(v:Vt)(h:l[k]?=some v):l.take (k+1)=l.take k++[v]:=by
 obtain⟨hk,e⟩:=List.getElem?_eq_some_iff.1 h;rw[List.take_succ_eq_append_getElem hk,e]
def acA(p:Bal)(x:Value):Array Value:=#[.int .i64 p.r,.int .i64 p.n,x]
theorem J9:(prog.info? 74).map (·.size)=some 2:=by kernel_rfl
theorem Gn{B:Nat}{w w':World}(h:Below B w w'){b o:Nat}{cs:List Value}(hb:b<B)(hr:w.rangeAt b o cs):w'.rangeAt b o cs :=
 fun j v hv=>(h.cell (p:=⟨b,o+j,none⟩) hb).trans (hr j v hv)
theorem Ai{B:Nat}{a w:World}(h:Below B a w){g:Nat}(hg:B<=g)(cs:Array Value):Below B a (w.setRow g cs) :=
 h.trans ⟨rfl,rfl,rfl,by simp,fun k hk=>setRow_other w g k cs (by omega)⟩
theorem QN{w:World}{b o:Nat}{x y:Value}(h0:w.cell? ⟨b,o,none⟩=some x)(h1:w.cell? ⟨b,o+1,none⟩=some y):w.rangeAt b o [x,y]:=by
 intro j v hj
 match j,hj with
 | 0,hj=>simp at hj;subst hj;exact h0
 | 1,hj=>simp at hj;subst hj;exact h1
 | k+2,hj=>simp at hj
theorem ZC{ops:Array Oper}{S:World->Prop}{op:Oper}{a:Act}(hw:Region.wanted op (yielded ops a.tmps)=true)(x:Operand)(ho:op.op=.load 139 x)
  (g:Nat)(hx:a.eval x=.pointer (some ⟨g,0,none⟩))(v:Vt)(hS:∀ w,S w->w.heap[g]?=some (.cells (vtA v) 139)):YieldsIf prog ops S op (.agg (vtA v)) a :=
 .inl ⟨hw,fun w hw'=>by
  unfold execOp;simp only[ho,hx,Instr.loadAt,Instr.sureAddr,Sem.run_bind,Sem.run_pure,Result.andThen_ok,run_loadVar_row w g 139 139 _ (0,0) _ (hS w hw') underlying139 rfl (show _=some (vtA v).size from Iq v)]⟩
theorem YD{P:Program}{id:Nat}{ops:Array Oper}{K:Act->World->Prop}{Q:Exit->Act->World->Prop}{a:Act}{w:World}(R:World->Prop){A:Act}
  (hreg:∀ K':Act->World->Prop,Hid (∀ W2,R W2->K' A W2)->(Code.region id ops true).wp P (Exit.then K' Q) a w)(hrest:∀ W2,R W2->K A W2):(Code.region id ops true).wp P (Exit.then K Q) a w:=hreg K hrest
theorem ZB{ops:Array Oper}{S:World->Prop}{op:Oper}{a:Act}(hw:Region.wanted op (yielded ops a.tmps)=true)(x:Operand)(ho:op.op=.load 139 x)
  (b o:Nat)(hx:a.eval x=.pointer (some ⟨b,o,none⟩))(v:Vt)(hS:∀ w,S w->w.rangeAt b o (vtC v)):YieldsIf prog ops S op (.agg (vtA v)) a :=
 yieldsIf_load_mid hw 139 x ho b o hx (vtC v) _ hS underlying139 rfl (Iq v)
theorem cS:(prog.info? 75).map (·.size)=some 1:=by kernel_rfl
theorem IH{P:Program}{fn:Func}{p u v:Tmp}{ty:TypeId}(h:fn.results=#[.cell p ty,.tmp u,.tmp v])(tmps:Array Value)(w:World)(g:Nat)(t:TypeId)(cs:Array Value)(fr:Nat × Nat)(d:TypeDesc)
  (hp:tmps.getD p undef=.pointer (some ⟨g,0,none⟩))(hg:w.heap[g]?=some (.cells cs t fr))
  (hu:P.underlying ty=some d)(hd:(match d with|.struct _|.array _ _=>true|_=>false)=true)(hi:(P.info? ty).map (·.size)=some cs.size) :
  (results fn tmps).run P w=.ok (.tuple #[.agg cs,tmps.getD u undef,tmps.getD v undef]) w:=by
 have hp':tmps[p]?.getD undef=.pointer (some ⟨g,0,none⟩):=by simpa using hp
 simp[results,h,hp',asAddr,run_loadVar_row w g t ty cs fr d hg hu hd hi]
theorem O7(w:World)(o1 o2 o3:Obj):(((w.alloc o1).alloc o2).alloc o3).heap[w.heap.size]?=some o1/\(((w.alloc o1).alloc o2).alloc o3).heap[w.heap.size+1]?=some o2/\(((w.alloc o1).alloc o2).alloc o3).heap[w.heap.size+2]?=some o3/\Bw w (((w.alloc o1).alloc o2).alloc o3):=by
 refine⟨?_,?_,?_,(((Below.refl _ _).alloc (Nat.le_refl _) _).alloc (by simp) _).alloc (by simp;omega) _⟩
 .rw[heap_alloc_old _ _ (by simp;omega)];exact heap_alloc2_old w o1 o2
 .rw[heap_alloc_old _ _ (by simp)];exact heap_alloc2_new w o1 o2
 .have:=heap_alloc_new ((w.alloc o1).alloc o2) o3;simpa using this
theorem E5{w w':World}{base e k8:Nat}{v:Value}{n:Nat}{xs:List Value}(h:w.ownsRow base e k8 v n xs)(hk:∀ k,v.ownBlock=some k->w'.heap[k]?=w.heap[k]?):w'.ownsRow base e k8 v n xs:=by
 refine⟨h.1,?_⟩;rcases h.2 with h2|⟨g,cap,cur,hv,hb,hg,hr⟩
 .exact .inl h2
 .exact .inr ⟨g,cap,cur,hv,hb,(hk g (by rw[hv];rfl)).trans hg,hr⟩
theorem Tl{P:Program}{id:Nat}{ops:Array Oper}{K:Act->World->Prop}{Q:Exit->Act->World->Prop}{a:Act}{w:World}(R:Option Addr->Nat->Value->World->Prop){A:Option Addr->Nat->Value->Act}
  (hreg:∀ K':Act->World->Prop,Hid (∀ g c y W2,R g c y W2->K' (A g c y) W2)->(Code.region id ops true).wp P (Exit.then K' Q) a w)(hrest:∀ g c y W2,R g c y W2->K (A g c y) W2):(Code.region id ops true).wp P (Exit.then K Q) a w:=hreg K hrest
theorem de(v:Vt):(prog.info? 139).map (·.size)=some (vtA v).size:=by show _=some 8;kernel_rfl
theorem Fj{P:Program}{fn:Func}{p u:Tmp}{ty:TypeId}(h:fn.results=#[.cell p ty,.tmp u])(tmps:Array Value)(w:World)(g:Nat)(t:TypeId)(cs:Array Value)(fr:Nat × Nat)(d:TypeDesc)
  (hp:tmps.getD p undef=.pointer (some ⟨g,0,none⟩))(hg:w.heap[g]?=some (.cells cs t fr))
  (hu:P.underlying ty=some d)(hd:(match d with|.struct _|.array _ _=>true|_=>false)=true)(hi:(P.info? ty).map (·.size)=some cs.size) :
  (results fn tmps).run P w=.ok (.tuple #[.agg cs,tmps.getD u undef]) w:=by
 have hp':tmps[p]?.getD undef=.pointer (some ⟨g,0,none⟩):=by simpa using hp
 simp[results,h,hp',asAddr,run_loadVar_row w g t ty cs fr d hg hu hd hi]
def cmC(c:Cmd):Array Value:=cmA c.k c.c c.s c.n c.v
theorem BE(p:Bal)(x:Value):(prog.info? 77).map (·.size)=some (acA p x).size:=by show _=some 3;kernel_rfl
theorem XS(a b a' b':Int):∀ w,(binOp .eql 74 (.agg #[.int .i64 a,.int .i64 b]) (.agg #[.int .i64 a',.int .i64 b'])).run prog w=.ok (.bool (decide (a=a'/\b=b'))) w:=by
 intro w;rw[run_eql_struct,run_equalIn_agg w 9999 _ _ _ (by kernel_rfl) (by kernel_rfl)];unfold Program.fieldsOf;rw[underlying74];have h3:=underlying3;simp[Op.eqFields,go_sem,h3]
 repeat' split
 all_goals simp_all
theorem Vb(a b c d e f g h a' b' c' d' e' f' g' h':Int):∀ w,(binOp .eql 139 (.agg #[.int .i64 a,.int .i64 b,.int .i64 c,.int .i64 d,.int .i64 e,.int .i64 f,.int .i64 g,.int .i64 h]) (.agg #[.int .i64 a',.int .i64 b',.int .i64 c',.int .i64 d',.int .i64 e',.int .i64 f',.int .i64 g',.int .i64 h'])).run prog w=.ok (.bool (decide (a=a'/\b=b'/\c=c'/\d=d'/\e=e'/\f=f'/\g=g'/\h=h'))) w:=by
 intro w;rw[run_eql_struct,run_equalIn_agg w 9999 _ _ _ (by kernel_rfl) (by kernel_rfl)];unfold Program.fieldsOf;rw[underlying139];have h3:=underlying3;have h4:=underlying74;have h5:=underlying54;simp[Op.eqFields,go_sem,h3,h4,h5]
 repeat' split
 all_goals simp_all
end
section
def JW(l:List Vt)(v:Vt):Nat->List Vt
 | 0=>[]
 | k+1=>JW l v k++(if(k:Int)=v.slot then[v]else Al l k)
theorem OM{a b:List Vt}(ha:B2 a)(hb:B2 b)(h:∀ x∈a,∀ y∈b,x.slot<y.slot):B2 (a++b):=by
 induction a with
 | nil=>exact hb
 | cons x xs ih =>
  refine⟨fun u hu=>?_,ih ha.2 (fun y hy=>h y (List.mem_cons_of_mem _ hy))⟩;rcases List.mem_append.1 hu with hu|hu
  .exact ha.1 u hu
  .exact h x List.mem_cons_self u hu
theorem IM{l:List Vt}(h:B2 l)(q:Vt->Bool):B2 (l.filter q):=by
 induction l with
 | nil=>trivial
 | cons x xs ih =>
  rw[List.filter_cons];split
  .exact⟨fun u hu=>h.1 u (List.mem_filter.1 hu).1,ih h.2⟩
  .exact ih h.2
theorem Wt{a b:List Vt}(ha:B2 a)(hb:B2 b)(h:∀ u,u∈a↔u∈b):a=b:=by
 induction a generalizing b with
 | nil =>
  cases b with
  | nil=>rfl
  | cons y ys=>exact absurd ((h y).2 List.mem_cons_self) (List.not_mem_nil)
 | cons x xs ih =>
  cases b with
  | nil=>exact absurd ((h x).1 List.mem_cons_self) (List.not_mem_nil)
  | cons y ys =>
   have hxy:x=y:=by
    rcases List.mem_cons.1 ((h x).1 List.mem_cons_self)with e|e
    .exact e
    .rcases List.mem_cons.1 ((h y).2 List.mem_cons_self)with e'|e'
     .exact e'.symm
     .have:=ha.1 y e';have:=hb.1 x e;omega
   subst hxy;rw[ih ha.2 hb.2 (fun u=>?_)];constructor
   .intro hu;rcases List.mem_cons.1 ((h u).1 (List.mem_cons_of_mem _ hu))with rfl|e
    .have:=ha.1 u hu;omega
    .exact e
   .intro hu;rcases List.mem_cons.1 ((h u).2 (List.mem_cons_of_mem _ hu))with rfl|e
    .have:=hb.1 u hu;omega
    .exact e
theorem NY{l:List Vt}{v:Vt}(k:Nat)(u:Vt):u∈JW l v k↔(0<=u.slot/\u.slot<k)/\(u=v\/(u∈l/\u.slot≠v.slot)):=by
 induction k with
 | zero=>simp[JW];omega
 | succ k ih =>
  rw[JW,List.mem_append,ih];by_cases hk:(k:Int)=v.slot
  .rw[if_pos hk,List.mem_singleton];constructor
   .rintro(⟨h1,h2⟩|rfl)
    .exact⟨by omega,h2⟩
    .exact⟨by omega,.inl rfl⟩
   .rintro⟨h1,rfl|⟨h2,h3⟩⟩
    .exact .inr rfl
    .exact .inl ⟨by omega,.inr ⟨h2,h3⟩⟩
  .rw[if_neg hk,CJ];constructor
   .rintro(⟨h1,h2⟩|⟨h1,h2⟩)
    .exact⟨by omega,h2⟩
    .exact⟨by omega,.inr ⟨h1,by omega⟩⟩
   .rintro⟨h1,rfl|⟨h2,h3⟩⟩
    .exact .inl ⟨by omega,.inl rfl⟩
    .by_cases h4:u.slot=k
     .exact .inr ⟨h2,h4⟩
     .exact .inl ⟨by omega,.inr ⟨h2,h3⟩⟩
theorem Ii{l:List Vt}(h:B2 l)(s:Int):(Al l s).length<=1:=by
 match e:Al l s with
 | []=>simp
 | [_]=>simp
 | x::y::r =>
  have hr:B2 (Al l s):=IM h _;have hx:=(CJ.1 (show x∈Al l s by rw[e];simp)).2;have hy:=(CJ.1 (show y∈Al l s by rw[e];simp)).2;rw[e]at hr
  have:=hr.1 y List.mem_cons_self;omega
theorem Vn{l:List Vt}(v:Vt)(h:B2 l)(k:Nat):(JW l v k).length<=k:=by
 induction k with
 | zero=>simp[JW]
 | succ k ih =>
  rw[JW,List.length_append];have:=Ii h k;split
  .simp;omega
  .omega
theorem SN{l:List Vt}(v:Vt)(h:B2 l)(k:Nat):B2 (JW l v k):=by
 induction k with
 | zero=>trivial
 | succ k ih =>
  rw[JW];refine OM ih ?_ ?_
  .split
   .exact⟨fun u hu=>(List.not_mem_nil hu).elim,trivial⟩
   .exact IM h _
  .intro x hx y hy;have h1:=((NY k x).1 hx).1;split at hy
   .obtain rfl:y=v:=by simpa using hy
    omega
   .have:=(CJ.1 hy).2;omega
theorem Yd{l:List Vt}{v:Vt}(k:Nat)(h:B2 l)(hl:∀ u∈l,0<=u.slot/\u.slot<k)(hv:0<=v.slot/\v.slot<k):JW l v k=Bk l v:=by
 refine Wt (SN v h k) (LI v h) fun u=>?_;rw[NY,Kb h];constructor
 .exact fun hh=>hh.2
 .rintro(rfl|⟨h1,h2⟩)
  .exact⟨hv,.inl rfl⟩
  .exact⟨hl u h1,.inr ⟨h1,h2⟩⟩
theorem IF(l:List Vt)(u:Vt)(s:Int):Al (l++[u]) s=Al l s++(if u.slot=s then[u]else[]):=by
 unfold Al;rw[List.filter_append];by_cases h:u.slot=s<;>simp[h]
theorem TU(ls:List (List Vt))(j:Nat)(l:List Vt)(h:ls[j]?=some l):(ls.take (j+1)).flatten=(ls.take j).flatten++l:=by
 obtain⟨hj,e⟩:=List.getElem?_eq_some_iff.1 h;rw[List.take_succ_eq_append_getElem hj,e];simp
theorem CN(a b:List Vt)(s:Int):Al (a++b) s=Al a s++Al b s:=by unfold Al;rw[List.filter_append]
end
section
open Go.RowKit
structure Sac(w:World)(x:Value)(ac:List Acc):Prop where
 ex:∃ a cap,x=.slice a ac.length cap/\(ac=[]\/∃ b off,a=some ⟨b,off,none⟩/\b<w.heap.size/\∀ (i:Nat) (A:Acc),ac[i]?=some A->∃ y,w.rangeAt b (off+3*i) [.int .i64 A.p.r,.int .i64 A.p.n,y]/\Sv w y A.vs)
 len:ac.length<=3518437208780
theorem Sac.below{w w':World}{x:Value}{ac:List Acc}(h:Sac w x ac)(hb:Bw w w'):Sac w' x ac:=by
 obtain⟨⟨a,cap,rfl,h1⟩,h2⟩:=h;refine⟨⟨a,cap,rfl,?_⟩,h2⟩;rcases h1 with h1|⟨b,off,ha,hbs,hc⟩
 .exact .inl h1
 .refine .inr ⟨b,off,ha,Nat.lt_of_lt_of_le hbs hb.size,fun i A hi=>?_⟩;obtain⟨y,h3,h4⟩:=hc i A hi;exact⟨y,Gn hb hbs h3,h4.below hb⟩
theorem Sac.shape{w:World}{x:Value}{ac:List Acc}(h:Sac w x ac):∃ a cap,x=.slice a ac.length cap:=by
 obtain⟨⟨a,cap,e,_⟩,_⟩:=h;exact⟨a,cap,e⟩
theorem Sac.spot{w:World}{a:Option Addr}{n cap:Nat}{ac:List Acc}(h:Sac w (.slice a n cap) ac)(i:Nat)(A:Acc)(hi:ac[i]?=some A):∃ b off y,a=some ⟨b,off,none⟩/\b<w.heap.size/\w.rangeAt b (off+3*i) [.int .i64 A.p.r,.int .i64 A.p.n,y]/\Sv w y A.vs:=by
 obtain⟨⟨a',cap',e,h1⟩,_⟩:=h;simp only[Value.slice.injEq]at e;obtain⟨rfl,rfl,rfl⟩:=e;rcases h1 with rfl|⟨b,off,rfl,hb,hc⟩
 .simp at hi
 .obtain⟨y,h3,h4⟩:=hc i A hi;exact⟨b,off,y,rfl,hb,h3,h4⟩
theorem aU:prog.elem 199=77:=by kernel_rfl
theorem cM(w:World):(Go.sizeOf 77).run prog w=.ok 3 w:=by
 have h:(prog.info? 77).map (·.size)=some 3:=by kernel_rfl
 cases hi:prog.info? 77 with
 | none=>rw[hi]at h;cases h
 | some i =>
  rw[hi]at h
  simp at h;simp[sizeOf,typeInfo,hi,h]
theorem Mc(b o n c:Nat)(i:Nat)(hi:i<n)(w:World):(Instr.indexAt 199 (.slice (some ⟨b,o,none⟩) n c) (.int .i64 (i:Int))).run prog w=.ok (.pointer (some ⟨b,o+3*i,none⟩)) w:=by
 rw[run_indexAt_slice (P:=prog) w 199 _ n c .i64 _ underlying199,if_pos ⟨by omega,by omega⟩,aU,cM];simp[Result.andThen,Addr.add_mid,Nat.mul_comm]
def EW(ac:List Acc)(s:Int):List Vt:=Al (ac.map (·.vs)).flatten s
def CX(ac:List Acc)(s:Int):Int:=if ¬ ((0<=s/\s<=39)/\(1<=(ac.length:Int)/\(ac.length:Int)<=5))then 2 else if ¬ ∀ a∈ac,AC a then 5 else if(H7 (EW ac s) ac.length).isSome then 0 else 9
def Ct(ac:List Acc)(s:Int):Cmd:=if CX ac s=0 then((H7 (EW ac s) ac.length).map (·.w)).getD ⟨0,0,0,0,0⟩else⟨0,0,0,0,0⟩
theorem H8{ac:List Acc}{s:Int}(h:¬ ((0<=s/\s<=39)/\(1<=(ac.length:Int)/\(ac.length:Int)<=5))):Ct ac s=⟨0,0,0,0,0⟩/\CX ac s=2:=by
 have e:CX ac s=2:=if_pos h;exact⟨if_neg (by rw[e];decide),e⟩
theorem S1{ac:List Acc}{s:Int}(h:(0<=s/\s<=39)/\(1<=(ac.length:Int)/\(ac.length:Int)<=5))(hb:¬ ∀ a∈ac,AC a):Ct ac s=⟨0,0,0,0,0⟩/\CX ac s=5:=by
 have e:CX ac s=5:=by unfold CX;rw[if_neg (fun g=>g h),if_pos hb]
 exact⟨if_neg (by rw[e];decide),e⟩
theorem UC{ac:List Acc}{s:Int}(h:(0<=s/\s<=39)/\(1<=(ac.length:Int)/\(ac.length:Int)<=5))(hb:∀ a∈ac,AC a)(ho:H7 (EW ac s) ac.length=none):Ct ac s=⟨0,0,0,0,0⟩/\CX ac s=9:=by
 have e:CX ac s=9:=by unfold CX;rw[if_neg (fun g=>g h),if_neg (fun g=>g hb),ho];rfl
 exact⟨if_neg (by rw[e];decide),e⟩
theorem UD{ac:List Acc}{s:Int}(h:(0<=s/\s<=39)/\(1<=(ac.length:Int)/\(ac.length:Int)<=5))(hb:∀ a∈ac,AC a){x:Vt}(ho:H7 (EW ac s) ac.length=some x):Ct ac s=x.w/\CX ac s=0:=by
 have e:CX ac s=0:=by unfold CX;rw[if_neg (fun g=>g h),if_neg (fun g=>g hb),ho];rfl
 exact⟨by unfold Ct;rw[if_pos e,ho];rfl,e⟩
theorem aL{bs:List Acc}(h:∀ a∈bs,AC a)(s:Int):(Al (bs.map (·.vs)).flatten s).length<=bs.length:=by
 induction bs with
 | nil=>simp[Al]
 | cons a bs ih =>
  have h1:=Ii (h a List.mem_cons_self).2.2 s;have h2:=ih (fun b hb=>h b (List.mem_cons_of_mem _ hb));simp only[List.map_cons,List.flatten_cons,List.length_cons];rw[CN,List.length_append];omega
theorem TT{ac:List Acc}{j:Nat}{a:Acc}(h:ac[j]?=some a)(h1:∀ a∈ac.take j,AC a)(h2:AC a):∀ a∈ac.take (j+1),AC a:=by
 obtain⟨hj,e⟩:=List.getElem?_eq_some_iff.1 h;rw[List.take_succ_eq_append_getElem hj,e];intro b hb;rcases List.mem_append.1 hb with g|g
 .exact h1 b g
 .obtain rfl:b=a:=by simpa using g
  exact h2
theorem QZ(ac:List Acc)(j:Nat)(a:Acc)(h:ac[j]?=some a):((ac.take (j+1)).map (·.vs)).flatten=((ac.take j).map (·.vs)).flatten++a.vs:=by
 obtain⟨hj,e⟩:=List.getElem?_eq_some_iff.1 h;rw[List.take_succ_eq_append_getElem hj,e];simp
end
section
end
section
open Go.RowKit
def baA(b:Bal):Array Value:=#[.int .i64 b.r,.int .i64 b.n]
theorem Dh{w:World}{g:Nat}{b:Bal}{ty:TypeId}{fr:Nat × Nat}(h:w.heap[g]?=some (.cells (baA b) ty fr)) :
  w.cell? ⟨g,0,none⟩=some (.int .i64 b.r)/\w.cell? ⟨g,1,none⟩=some (.int .i64 b.n) :=
 ⟨cell_of_row _ _ 0 _ _ _ h,cell_of_row _ _ 1 _ _ _ h⟩
theorem Iz{w:World}{g:Nat}{v:Vt}{ty:TypeId}{fr:Nat × Nat}(h:w.heap[g]?=some (.cells (vtA v) ty fr)) :
  w.cell? ⟨g,0,none⟩=some (.int .i64 v.slot)/\w.cell? ⟨g,1,none⟩=some (.int .i64 v.b.r)/\w.cell? ⟨g,2,none⟩=some (.int .i64 v.b.n)/\w.cell? ⟨g,3,none⟩=some (.int .i64 v.w.k)/\w.cell? ⟨g,4,none⟩=some (.int .i64 v.w.c)/\w.cell? ⟨g,5,none⟩=some (.int .i64 v.w.s)/\w.cell? ⟨g,6,none⟩=some (.int .i64 v.w.n)/\w.cell? ⟨g,7,none⟩=some (.int .i64 v.w.v) :=
 ⟨cell_of_row _ _ 0 _ _ _ h,cell_of_row _ _ 1 _ _ _ h,cell_of_row _ _ 2 _ _ _ h,cell_of_row _ _ 3 _ _ _ h,cell_of_row _ _ 4 _ _ _ h,cell_of_row _ _ 5 _ _ _ h,cell_of_row _ _ 6 _ _ _ h,cell_of_row _ _ 7 _ _ _ h⟩
def OkV(p:Bal)(l:List Vt):Prop:=(∀ v∈l,Am v/\¬ p.lt v.b)/\B2 l
theorem T2(l:List Vt)(v:Vt):B2 (l++[v])↔B2 l/\∀ u∈l,u.slot<v.slot:=by
 induction l with
 | nil=>exact⟨fun _=>⟨trivial,fun u hu=>(List.not_mem_nil hu).elim⟩,fun _=>⟨fun u hu=>(List.not_mem_nil hu).elim,trivial⟩⟩
 | cons x xs ih =>
  show((∀ u∈xs++[v],x.slot<u.slot)/\B2 (xs++[v]))↔((∀ u∈xs,x.slot<u.slot)/\B2 xs)/\∀ u∈x::xs,u.slot<v.slot;rw[ih];constructor
  .rintro⟨h1,h2,h3⟩;refine⟨⟨fun u hu=>h1 u (List.mem_append_left _ hu),h2⟩,fun u hu=>?_⟩;rcases List.mem_cons.1 hu with rfl|hu
   .exact h1 v (List.mem_append_right _ List.mem_cons_self)
   .exact h3 u hu
  .rintro⟨⟨h1,h2⟩,h3⟩;refine⟨fun u hu=>?_,h2,fun u hu=>h3 u (List.mem_cons_of_mem _ hu)⟩;rcases List.mem_append.1 hu with hu|hu
   .exact h1 u hu
   .obtain rfl:u=v:=by simpa using hu
    exact h3 x List.mem_cons_self
theorem OkV.snoc{p:Bal}{l:List Vt}(h:OkV p l)(v:Vt):OkV p (l++[v])↔Am v/\¬ p.lt v.b/\∀ u∈l,u.slot<v.slot:=by
 unfold OkV;rw[T2];constructor
 .rintro⟨h1,h2,h3⟩;exact⟨(h1 v (by simp)).1,(h1 v (by simp)).2,h3⟩
 .rintro⟨h1,h2,h3⟩;refine⟨fun u hu=>?_,h.2,h3⟩;rcases List.mem_append.1 hu with hu|hu
  .exact h.1 u hu
  .obtain rfl:u=v:=by simpa using hu
   exact⟨h1,h2⟩
theorem OkV.left{p:Bal}{l m:List Vt}(h:OkV p (l++m)):OkV p l:=by
 refine⟨fun v hv=>h.1 v (List.mem_append_left _ hv),?_⟩;have h2:=h.2;clear h;induction l with
 | nil=>trivial
 | cons x xs ih=>exact⟨fun u hu=>h2.1 u (List.mem_append_left _ hu),ih h2.2⟩
def EP(a:Acc)(b:Bal):Bal:=if BL a b=0 then b else⟨0,0⟩
def EO(a:Acc)(b:Bal):List Vt:=if BL a b=0 then a.vs else[]
def BY(a:Acc)(v:Vt):Bal:=if AW a v=0 then v.b else⟨0,0⟩
def Dc(a:Acc)(v:Vt):List Vt:=if AW a v=0 then Bk a.vs v else[]
def GY(ls:List (List Vt))(s:Int):Cmd:=if Cp ls s=0 then((O8 ls s).map (·.w)).getD ⟨0,0,0,0,0⟩else⟨0,0,0,0,0⟩
def FV(ls:List (List Vt))(s:Int):Bool:=if Cp ls s=0 then(O8 ls s).isSome else false
theorem Wj{ls:List (List Vt)}{s:Int}(h:¬ (0<=s/\s<=39)):GY ls s=⟨0,0,0,0,0⟩/\FV ls s=false/\Cp ls s=2:=by
 have e:Cp ls s=2:=if_pos h;exact⟨if_neg (by rw[e];decide),if_neg (by rw[e];decide),e⟩
theorem QE{ls:List (List Vt)}{s:Int}(h:0<=s/\s<=39)(hb:¬ ∀ l∈ls,∀ v∈l,Am v):GY ls s=⟨0,0,0,0,0⟩/\FV ls s=false/\Cp ls s=5:=by
 have e:Cp ls s=5:=by unfold Cp;rw[if_neg (fun g=>g h),if_neg hb]
 exact⟨if_neg (by rw[e];decide),if_neg (by rw[e];decide),e⟩
theorem Xd{ls:List (List Vt)}{j:Nat}{l:List Vt}(h:ls[j]?=some l)(h1:∀ l∈ls.take j,∀ v∈l,Am v)(h2:∀ v∈l,Am v):∀ l∈ls.take (j+1),∀ v∈l,Am v:=by
 obtain⟨hj,e⟩:=List.getElem?_eq_some_iff.1 h;rw[List.take_succ_eq_append_getElem hj,e];intro l' hl';rcases List.mem_append.1 hl' with g|g
 .exact h1 l' g
 .obtain rfl:l'=l:=by simpa using g
  exact h2
theorem Xe{l:List Vt}{k:Nat}{u:Vt}(h:l[k]?=some u)(h1:∀ v∈l.take k,Am v)(h2:Am u):∀ v∈l.take (k+1),Am v:=by
 rw[D3 l k u h];intro v hv;rcases List.mem_append.1 hv with g|g
 .exact h1 v g
 .obtain rfl:v=u:=by simpa using g
  exact h2
def Bf(d:List Int)(s:Int):Prop:=d.length<=100000/\0<=s/\s<=(d.length:Int)
instance (d:List Int) (s:Int):Decidable (Bf d s):=by unfold Bf;exact inferInstance
def CW(d:List Int)(s:Int):Int:=if Bf d s then 0 else 5
def Hi(d:List Int)(s:Int):List Int:=if Bf d s then d else[]
def Is(d:List Int)(s:Int):Int:=if Bf d s then(d.length:Int)else 0
def My(d:List Int)(s k:Int):Int:=if k<(d.length:Int)-s then s+k else(d.length:Int)
def IZ(d:List Int)(s k:Int):Int:=if ¬ Bf d s then 5 else if k<0 then 2 else 0
def KY(d:List Int)(s k:Int):List Int:=if IZ d s k=0 then d.take (My d s k).toNat else[]
def KZ(d:List Int)(s k:Int):Int:=if IZ d s k=0 then My d s k else 0
def tpA(x:Value)(s:Int):Array Value:=#[x,.int .i64 s]
theorem KH:(prog.info? 94).map (·.size)=some 2:=by kernel_rfl
theorem Xh(x:Option Addr)(n c:Nat)(s:Int):(#[.slice x n c,.int .i64 s]:Array Value).all (·.oneCell')=true:=by simp[Value.oneCell']
end
section
def D9(b:List Int):List Int:=(b.length:Int)::b
def BH(b:List Int):List Int:=D9 b++(dig (D9 b)).take 4
theorem GJ(b:List Int):(D9 b).length=b.length+1:=rfl
theorem E9(b:List Int):(BH b).length=b.length+5:=by
 unfold BH;rw[List.length_append,GJ,List.length_take,Ay];omega
def BA(b:Bal):List Int:=1::(Ag b.r++Ag b.n)
def B1(v:Vt):List Int:=2::(Ag v.slot++(Ag v.b.r++(Ag v.b.n++Ia v.w.k v.w.c v.w.s v.w.n v.w.v)))
theorem Pk(v:Vt):(B1 v).length=33:=rfl
theorem Tu(b:Bal):∀ x∈BA b,0<=x/\x<256:=by
 intro x hx;rcases List.mem_cons.1 hx with rfl|hx
 .omega
 .rcases List.mem_append.1 hx with hx|hx
  .exact AL _ x hx
  .exact AL _ x hx
theorem Ue(v:Vt):∀ x∈B1 v,0<=x/\x<256:=by
 intro x hx;rcases List.mem_cons.1 hx with rfl|hx
 .omega
 .rcases List.mem_append.1 hx with hx|hx
  .exact AL _ x hx
  .rcases List.mem_append.1 hx with hx|hx
   .exact AL _ x hx
   .rcases List.mem_append.1 hx with hx|hx
    .exact AL _ x hx
    .exact L3 _ _ _ _ _ x hx
theorem JU{b:List Int}(hb:∀ x∈b,0<=x/\x<256)(hl:b.length<=255):∀ x∈D9 b,0<=x/\x<256:=by
 intro x hx;rcases List.mem_cons.1 hx with rfl|hx
 .omega
 .exact hb x hx
theorem K3{b:List Int}(hb:∀ x∈b,0<=x/\x<256)(hl:b.length<=255):∀ x∈BH b,0<=x/\x<256:=by
 intro x hx;rcases List.mem_append.1 hx with hx|hx
 .exact JU hb hl x hx
 .exact CS _ x (List.mem_of_mem_take hx)
def dG(l:List Int):Cmd:=⟨Ab l 0,Ab l 4,Ab l 8,Ab l 12,Ab l 16⟩
def GA(b:List Int):Bal:=⟨Ab b 1,Ab b 5⟩
def FP(b:List Int):Vt:=⟨Ab b 1,⟨Ab b 5,Ab b 9⟩,dG (b.drop 13)⟩
def GF(a:Acc)(b:List Int):Option Acc :=
 if b.length=9/\b.getD 0 0=1 then(if BL a (GA b)=0 then some ⟨GA b,a.vs⟩else none)
 else if b.length=33/\b.getD 0 0=2 then(if BZ (b.drop 13)=0 then(if AW a (FP b)=0 then some ⟨(FP b).b,Bk a.vs (FP b)⟩else none)else none)
 else none
def EM(r:List Int)(a:Acc):Option (Acc × Nat) :=
 if r=[]then none
 else if r.length<(r.getD 0 0).toNat+5 then none
 else if(dig (r.take ((r.getD 0 0).toNat+1))).take 4≠(r.drop ((r.getD 0 0).toNat+1)).take 4 then none
 else(GF a ((r.take ((r.getD 0 0).toNat+1)).drop 1)).map fun x=>(x,(r.getD 0 0).toNat+5)
def a0:Acc:=⟨⟨0,0⟩,[]⟩
def Kk(r:List Int)(p:Nat × Acc):Nat × Acc:=match EM (r.drop p.1) p.2 with
 | none=>p
 | some (c,m)=>(p.1+m,c)
def itR(r:List Int):Nat->Nat × Acc
 | 0=>(0,a0)
 | k+1=>Kk r (itR r k)
def Ej(r:List Int):Nat × Acc:=itR r r.length
theorem WP{r:List Int}{a c:Acc}{m:Nat}(h:EM r a=some (c,m)):5<=m/\m<=r.length:=by
 unfold EM at h;split at h
 .cases h
 .split at h
  .cases h
  .split at h
   .cases h
   .obtain⟨x,_,e⟩:=Option.map_eq_some_iff.1 h;injection e with e1 e2
    omega
theorem Qr{r:List Int}{p:Nat × Acc}(h:EM (r.drop p.1) p.2=none):Kk r p=p:=by
 unfold Kk;rw[h]
theorem Qs{r:List Int}{n:Nat}{b c:Acc}{m:Nat}(h:EM (r.drop n) b=some (c,m)):Kk r (n,b)=(n+m,c):=by
 unfold Kk;rw[show EM (r.drop (n,b).1) (n,b).2=some (c,m)from h]
theorem SV{r:List Int}{k n:Nat}{b:Acc}(h:itR r k=(n,b))(hs:EM (r.drop n) b=none)(j:Nat):itR r (k+j)=(n,b):=by
 induction j with
 | zero=>exact h
 | succ j ih =>
  rw[<- Nat.add_assoc,itR,ih];exact Qr hs
theorem RO{r:List Int}{k n:Nat}{b:Acc}(h:itR r k=(n,b))(hk:k<=r.length)(hs:EM (r.drop n) b=none):Ej r=(n,b):=by
 have:=SV h hs (r.length-k);rw[show k+(r.length-k)=r.length by omega]at this
 exact this
theorem V0(r:List Int)(k:Nat):(itR r k).1<=r.length:=by
 induction k with
 | zero=>exact Nat.zero_le _
 | succ k ih =>
  rw[itR];unfold Kk;split
  .exact ih
  .rename_i c m h
   have:=(WP h).2;rw[List.length_drop]at this
   show(itR r k).1+m<=r.length;omega
theorem YL(r:List Int):(Ej r).1<=r.length:=V0 r r.length
end
section
open Go.RowKit
def fbO(r:List Int):Option (List Int) :=
 if r=[]then none
 else if r.length<(r.getD 0 0).toNat+5 then none
 else if(dig (r.take ((r.getD 0 0).toNat+1))).take 4≠(r.drop ((r.getD 0 0).toNat+1)).take 4 then none
 else some ((r.take ((r.getD 0 0).toNat+1)).drop 1)
theorem Ry{r b:List Int}(h:fbO r=some b):b.length+5<=r.length/\b.length=(r.getD 0 0).toNat:=by
 unfold fbO at h;split at h
 .cases h
 .split at h
  .cases h
  .split at h
   .cases h
   .injection h with h
    subst h;rw[List.length_drop,List.length_take];omega
theorem KB(r:List Int)(a:Acc):EM r a=(fbO r).bind fun b=>(GF a b).map fun c=>(c,b.length+5):=by
 have hl:∀ b,fbO r=some b->b.length=(r.getD 0 0).toNat:=fun b h=>(Ry h).2;unfold EM;unfold fbO at hl ⊢;by_cases h0:r=[]
 .rw[if_pos h0,if_pos h0];rfl
 .rw[if_neg h0]at hl ⊢
  rw[if_neg h0];by_cases h1:r.length<(r.getD 0 0).toNat+5
  .rw[if_pos h1,if_pos h1];rfl
  .rw[if_neg h1]at hl ⊢
   rw[if_neg h1];by_cases h2:(dig (r.take ((r.getD 0 0).toNat+1))).take 4≠(r.drop ((r.getD 0 0).toNat+1)).take 4
   .rw[if_pos h2,if_pos h2];rfl
   .rw[if_neg h2]at hl ⊢
    rw[if_neg h2];have e:=hl _ rfl;show _=(GF a _).map _;rw[e]
theorem CI(l:List Int)(n i:Nat):Ab (l.drop n) i=Ab l (n+i):=by
 unfold Ab;simp only[List.getD_eq_getElem?_getD,List.getElem?_drop,Nat.add_assoc]
def Gd(a:Acc)(b:List Int):Int :=
 if b.length=9/\b.getD 0 0=1 then BL a (GA b)
 else if b.length=33/\b.getD 0 0=2 then(if BZ (b.drop 13)=0 then AW a (FP b)else BZ (b.drop 13))
 else 3
def EY(a:Acc)(b:List Int):Acc :=
 if b.length=9/\b.getD 0 0=1 then⟨EP a (GA b),EO a (GA b)⟩
 else if b.length=33/\b.getD 0 0=2 then(if BZ (b.drop 13)=0 then⟨BY a (FP b),Dc a (FP b)⟩else a0)
 else a0
theorem NK(a:Acc)(b:List Int):GF a b=if Gd a b=0 then some (EY a b)else none:=by
 unfold GF Gd EY;by_cases h1:b.length=9/\b.getD 0 0=1
 .rw[if_pos h1,if_pos h1,if_pos h1];by_cases h2:BL a (GA b)=0
  .rw[if_pos h2,if_pos h2];unfold EP EO;rw[if_pos h2,if_pos h2]
  .rw[if_neg h2,if_neg h2]
 .rw[if_neg h1,if_neg h1,if_neg h1];by_cases h2:b.length=33/\b.getD 0 0=2
  .rw[if_pos h2,if_pos h2,if_pos h2];by_cases h3:BZ (b.drop 13)=0
   .rw[if_pos h3,if_pos h3,if_pos h3];by_cases h4:AW a (FP b)=0
    .rw[if_pos h4,if_pos h4];unfold BY Dc;rw[if_pos h4,if_pos h4]
    .rw[if_neg h4,if_neg h4]
   .rw[if_neg h3,if_neg h3,if_neg h3]
  .rw[if_neg h2,if_neg h2,if_neg h2,if_neg (by decide)]
def voV(l:List Int):Vt:=if BZ (l.drop 12)=0 then⟨Ab l 0,⟨Ab l 4,Ab l 8⟩,dG (l.drop 12)⟩else⟨0,⟨0,0⟩,⟨0,0,0,0,0⟩⟩
theorem Zu{l:List Int}(h:BZ (l.drop 12)=0):∃ m0 m1 m2 m3 m4:Int,Ja (l.drop 12)=#[.int .i64 m0,.int .i64 m1,.int .i64 m2,.int .i64 m3,.int .i64 m4]/\voV l=⟨Ab l 0,⟨Ab l 4,Ab l 8⟩,⟨m0,m1,m2,m3,m4⟩⟩:=by
 refine⟨Ab (l.drop 12) 0,Ab (l.drop 12) 4,Ab (l.drop 12) 8,Ab (l.drop 12) 12,Ab (l.drop 12) 16,?_,?_⟩
 .unfold Ja;rw[if_pos h];rfl
 .unfold voV;rw[if_pos h];rfl
theorem Zt{l:List Int}(h:¬ BZ (l.drop 12)=0):Ja (l.drop 12)=zV5/\voV l=⟨0,⟨0,0⟩,⟨0,0,0,0,0⟩⟩:=by
 unfold voV Ja;rw[if_neg h,if_neg h];exact⟨rfl,rfl⟩
theorem Pj(b:List Int)(h:BZ (b.drop 13)=0):voV (b.drop 1)=FP b:=by
 unfold voV FP;rw[List.drop_drop,if_pos h,CI,CI,CI]
theorem JA(b:List Int):(⟨Ab (b.drop 1) 0,Ab (b.drop 1) 4⟩:Bal)=GA b:=by
 unfold GA;rw[CI,CI]
def Gt(d:List Int)(s:Int):Acc:=if Bf d s then(Ej d).2 else a0
def OJ(d:List Int)(s:Int):Int:=if Bf d s then((Ej d).1:Int)else 0
def Lp(d:List Int)(s:Int):List Int:=if Bf d s then d.take (Ej d).1 else[]
def MR(d:List Int)(s:Int):Int:=if Bf d s then(if((Ej d).1:Int)<s then((Ej d).1:Int)else s)else 0
end
section
def Gv(d:List Int)(s:Int)(k:Nat):Int:=if ¬ Bf d s then 5 else if 100000<d.length+k then 8 else 0
def Cu(d:List Int)(s:Int)(may:Prop)[Decidable may] (b:List Int):Int:=if Gv d s (b.length+5)≠0 then Gv d s (b.length+5)else if may then 0 else 2
def F0(d:List Int)(s:Int)(may:Prop)[Decidable may] (b:List Int):List Int:=if Cu d s may b=0 then d++BH b else[]
def G8(d:List Int)(s:Int)(may:Prop)[Decidable may] (b:List Int):Int:=if Cu d s may b=0 then s else 0
theorem YF(b:Bal):BL a0 b=if Ad b then 0 else 2:=by
 have h0:AC a0:=⟨.inr ⟨rfl,rfl⟩,fun v hv=>(List.not_mem_nil hv).elim,trivial⟩;unfold BL;rw[if_neg (fun g=>g h0)];by_cases h:Ad b
 .rw[if_neg (fun g=>g h),if_pos h,if_neg];intro g;unfold Ad at h;unfold Bal.lt a0 at g;simp only at g;omega
 .rw[if_pos h,if_neg h]
theorem Zv(v:Vt):AW a0 v=if Am v then 0 else 2:=by
 have h0:AC a0:=⟨.inr ⟨rfl,rfl⟩,fun v hv=>(List.not_mem_nil hv).elim,trivial⟩;unfold AW;rw[if_neg (fun g=>g h0)];by_cases h:Am v
 .rw[if_neg (fun g=>g h),if_pos h,if_neg];intro g;have hb:=h.2.1;unfold Ad at hb;unfold Bal.lt a0 at g;simp only at g;omega
 .rw[if_pos h,if_neg h]
end
section
open Go.RowKit
def Bd{α:Type}(f:Nat->α)(i:Nat)(x:α):Nat->α:=fun j=>if j=i then x else f j
structure Sto where
 V:Nat->Int
 L:Nat->Int
 C:Nat->Int
 A:Nat->Int
 R:Nat->Bool
def Fs:Sto:=⟨fun _=>0,fun _=>0,fun _=>0,fun _=>0,fun _=>false⟩
def ClB(l c a:Int):Prop:=(0<=l/\l<=1048577)/\(l=0->c=0/\a=0)
instance (l c a:Int):Decidable (ClB l c a):=by unfold ClB;exact inferInstance
def VaB(v:Int):Prop:=0<=v/\v<=1073741824
instance (v:Int):Decidable (VaB v):=by unfold VaB;exact inferInstance
def Sn(s:Sto):Prop:=(∀ i,i<8->VaB (s.V i))/\∀ i,i<8->ClB (s.L i) (s.C i) (s.A i)
noncomputable instance (s:Sto):Decidable (Sn s):=Classical.propDecidable _
noncomputable def Lr(s:Sto):Int:=if Sn s then 0 else 5
theorem Zc{s:Sto}(h:Sn s):Lr s=0:=if_pos h
theorem Jy{s:Sto}(h:¬ Sn s):Lr s=5:=if_neg h
def Lj(s:Sto)(m:Cmd):Int:=if m.k=1 then m.v else if m.k=2 then s.V m.n.toNat else 0
def MI(s:Sto)(m:Cmd):Sto :=
 ⟨if m.k=1 then Bd s.V m.n.toNat m.v else s.V,Bd s.L m.c.toNat (m.s+1),Bd s.C m.c.toNat 0,Bd s.A m.c.toNat (Lj s m),if m.k=3 then Bd s.R m.n.toNat true else s.R⟩
def dnS(s:Sto)(m:Cmd):Sto:=if m.k≠0/\¬ m.s<s.L m.c.toNat/\s.R m.c.toNat=false then MI s m else s
def dnC(s:Sto)(m:Cmd):Int :=
 if m.k=0 then 0 else if s.L m.c.toNat=m.s+1 then s.C m.c.toNat else if m.s<s.L m.c.toNat then 7 else if s.R m.c.toNat=true then 11 else 0
def dnA(s:Sto)(m:Cmd):Int :=
 if m.k=0 then 0 else if s.L m.c.toNat=m.s+1 then s.A m.c.toNat else if m.s<s.L m.c.toNat then 0 else if s.R m.c.toNat=true then 0 else Lj s m
noncomputable def doE(s:Sto)(m:Cmd):Int:=if Sn s then m.e else 5
noncomputable def doS(s:Sto)(m:Cmd):Sto:=if doE s m=0 then dnS s m else Fs
noncomputable def doC(s:Sto)(m:Cmd):Int:=if doE s m=0 then dnC s m else 0
noncomputable def doA(s:Sto)(m:Cmd):Int:=if doE s m=0 then dnA s m else 0
theorem aS{s:Sto}{m:Cmd}(h:doE s m=0):doS s m=dnS s m:=if_pos h
theorem aO{s:Sto}{m:Cmd}(h:doE s m=0):doC s m=dnC s m:=if_pos h
theorem aN{s:Sto}{m:Cmd}(h:doE s m=0):doA s m=dnA s m:=if_pos h
theorem US{s:Sto}{m:Cmd}(h:doE s m≠0):doS s m=Fs:=if_neg h
theorem UP{s:Sto}{m:Cmd}(h:doE s m≠0):doC s m=0:=if_neg h
theorem XG{m:Cmd}(h:m.e=0):(0<=m.k/\m.k<=3)/\InC m.c m.s m.n m.v:=F7 h
end
section
def aM(Q:Nat->Bool):Nat:=(Q 0).toNat+(Q 1).toNat+(Q 2).toNat+(Q 3).toNat+(Q 4).toNat
end
section
def upN{α:Type}(f:Nat->α)(n:Nat)(x:α):Nat->α:=fun i=>if i=n then x else f i
theorem cY{α:Type}(f:Nat->α)(n:Nat)(x:α):upN f n x n=x:=if_pos rfl
theorem cZ{α:Type}(f:Nat->α){n i:Nat}(x:α)(h:i≠n):upN f n x i=f i:=if_neg h
end
section
end
section
def Ch:Bal:=⟨0,0⟩
def S2:Cmd:=⟨0,0,0,0,0⟩
def vtz:Vt:=⟨0,Ch,S2⟩
def DY:Acc:=⟨Ch,[]⟩
structure Let where
 kind:Nat
 src:Nat
 dst:Nat
 bal:Bal
 vote:Vt
 votes:List Vt
 slot:Nat
 what:List Cmd
def Cb(k:Nat):Let:=⟨k,0,0,Ch,vtz,[],0,[]⟩
inductive Pend where
 | began (b:Bal) (vs:List Vt)
 | prom (to:Nat) (b:Bal) (vs:List Vt)
 | voted (to:Nat) (v:Vt)
 | refuse (to:Nat) (b:Bal)
 | prop (v:Vt)
 | askNews (to:Nat)
 | start
 | tell (to:Nat) (slot:Nat)
structure Rnd where
 bal:Bal
 pro:Nat->Bool
 heard:Nat->Acc
 taught:Nat->Nat
 next:Nat
 queue:List Cmd
def eE:Rnd:=⟨Ch,fun _=>false,fun _=>DY,fun _=>0,0,[]⟩
structure Tol where
 n:Nat
 c:Int
 s:Int
 e:Int
 a:Int
structure Nod where
 up:Bool
 d:List Int
 sy:Int
 bad:Nat
 vo:Acc
 pend:List Pend
 rounds:Int
 rnd:Rnd
 agreed:List Cmd
 done:Nat
 sto:Sto
 wants:List Cmd
 asked:Cmd->Option Bal
structure Meet where
 node:Nat->Nod
 lets:List Let
 told:List Tol
def Nod.bare(N:Nod)(up:Bool)(d:List Int)(sy:Int)(vo:Acc)(p:List Pend):Nod :=
 ⟨up,d,sy,N.bad,vo,p,0,eE,[],0,Fs,[],fun _=>none⟩
def CH:Nod:=⟨true,[],0,0,DY,[],0,eE,[],0,Fs,[],fun _=>none⟩
def Cx:Meet:=⟨fun _=>CH,[],[]⟩
def Meet.put(M:Meet)(i:Nat)(N:Nod):Meet:={ M with node:=upN M.node i N }
def Nod.promise(N:Nod)(b:Bal):Nod × List Vt × Int :=
 if BL N.vo b≠0 then(N,[],BL N.vo b)
 else if b=N.vo.p then({ N with vo:=⟨b,N.vo.vs⟩ },N.vo.vs,0)
 else if Cu N.d N.sy (Ad b) (BA b)≠0 then(N,[],Cu N.d N.sy (Ad b) (BA b))
 else({ N with d:=F0 N.d N.sy (Ad b) (BA b),sy:=G8 N.d N.sy (Ad b) (BA b),vo:=⟨b,N.vo.vs⟩ },N.vo.vs,0)
def Nod.vote(N:Nod)(v:Vt):Nod × Int :=
 if AW N.vo v≠0 then(N,AW N.vo v)
 else if v∈N.vo.vs then({ N with vo:=⟨v.b,Bk N.vo.vs v⟩ },0)
 else if Cu N.d N.sy (Am v) (B1 v)≠0 then(N,Cu N.d N.sy (Am v) (B1 v))
 else({ N with d:=F0 N.d N.sy (Am v) (B1 v),sy:=G8 N.d N.sy (Am v) (B1 v),vo:=⟨v.b,Bk N.vo.vs v⟩ },0)
def Nod.wait(N:Nod)(p:Pend):Nod:={ N with pend:=N.pend++[p] }
def Nod.refuse(N:Nod)(to:Nat)(e:Int):Nod:=if e=7 then N.wait (.refuse to N.vo.p)else N
def Nod.leads(N:Nod):Bool:=decide (N.rnd.bal≠Ch/\N.rnd.bal=N.vo.p)
def Rnd.enough(r:Rnd):Bool:=decide (5<2*aM r.pro)
def IA(a:Acc):List Vt->Acc
 | []=>a
 | v::l=>IA (if AW a v=0 then⟨BY a v,Dc a v⟩else a) l
def Rnd.hear(r:Rnd)(j:Nat)(vs:List Vt):Rnd:={ r with pro:=upN r.pro j true,heard:=upN r.heard j (IA ⟨r.bal,vs⟩ (r.heard j).vs) }
def Rnd.accs(r:Rnd):List Acc:=[r.heard 0,r.heard 1,r.heard 2,r.heard 3,r.heard 4]
def ME:Nat->Rnd->List Cmd->List Cmd
 | 0,_,l=>l
 | k+1,r,l=>if CX r.accs (l.length:Int)=0 then ME k r (l++[Ct r.accs (l.length:Int)])else l
def Nod.learnC(N:Nod):Nod:={ N with agreed:=ME 41 N.rnd N.agreed }
def Nod.learn(N:Nod)(slot:Nat)(what:List Cmd):Nod:={ N with agreed:=N.agreed++what.drop (N.agreed.length-slot) }
def Nod.count(N:Nod)(j:Nat)(v:Vt):Nod :=
 if v.b≠N.rnd.bal then N
 else if AW (N.rnd.heard j) v≠0 then N
 else Nod.learnC { N with rnd:={ N.rnd with heard:=upN N.rnd.heard j ⟨BY (N.rnd.heard j) v,Dc (N.rnd.heard j) v⟩ } }
def NO(q:List Cmd):List Cmd->List Cmd
 | []=>q
 | c::l=>NO (if q.length<40/\c∉q then q++[c]else q) l
def Nod.enqueue(N:Nod)(what:List Cmd):Nod:=if N.leads then{ N with rnd:={ N.rnd with queue:=NO N.rnd.queue what } }else N
def DW(f:Cmd->Option Bal)(c:Cmd)(b:Option Bal):Cmd->Option Bal:=fun x=>if x=c then b else f x
def Nod.want(N:Nod)(c:Cmd):Nod:=if(N.asked c).isSome then N else{ N with wants:=N.wants++[c],asked:=DW N.asked c (some Ch) }
def Nod.unwant(N:Nod)(c:Cmd):Nod:=if(N.asked c).isSome then{ N with wants:=N.wants.erase c,asked:=DW N.asked c none }else N
def CQ(b:Bal)(f:Cmd->Option Bal):List Cmd->List Cmd × (Cmd->Option Bal)
 | []=>([],f)
 | c::l=>if(f c).getD Ch≠b then(c::(CQ b (DW f c (some b)) l).1,(CQ b (DW f c (some b)) l).2)else CQ b f l
def Nod.take(N:Nod)(l:Let):Nod :=
 match l.kind with
 | 0=>if(N.promise l.bal).2.2≠0 then N.refuse l.src (N.promise l.bal).2.2 else(N.promise l.bal).1.wait (.prom l.src l.bal (N.promise l.bal).2.1)
 | 1=>let K:=N.learn 0 l.what
  if K.leads=false\/l.bal≠K.rnd.bal\/K.rnd.pro l.src=true then K
  else Nod.learnC { K with rnd:={ K.rnd.hear l.src l.votes with taught:=upN K.rnd.taught l.src l.what.length } }
 | 2=>{ N with rounds:=max N.rounds l.bal.r }
 | 3=>if(N.vote l.vote).2≠0 then N.refuse l.src (N.vote l.vote).2 else(N.vote l.vote).1.wait (.voted l.src l.vote)
 | 4=>N.count l.src l.vote
 | 5=>if N.agreed.length<l.slot then N.wait (.askNews l.src)else N.learn l.slot l.what
 | 6=>let K:=N.enqueue l.what
  if l.slot<K.agreed.length then K.wait (.tell l.src l.slot)else K
 | _=>N
def Meet.come(M:Meet)(l:Let):Meet:=if(M.node l.dst).up then M.put l.dst ((M.node l.dst).take l)else M
def Nod.nextC(N:Nod)(slot:Nat):Option Cmd :=
 if Cp (N.rnd.accs.map (·.vs)) (slot:Int)≠0 then none
 else if FV (N.rnd.accs.map (·.vs)) (slot:Int)then some (GY (N.rnd.accs.map (·.vs)) (slot:Int))
 else N.rnd.queue.find? fun c=>decide (c∉N.agreed)
def Nod.propose(N:Nod):Nod :=
 if N.leads=false\/N.rnd.enough=false\/N.agreed.length<N.rnd.next then N
 else match N.nextC N.agreed.length with
  | none=>N
  | some c =>
   if(N.vote ⟨(N.agreed.length:Int),N.rnd.bal,c⟩).2≠0 then N
   else Nod.wait { (N.vote ⟨(N.agreed.length:Int),N.rnd.bal,c⟩).1 with rnd:={ N.rnd with next:=N.agreed.length+1 } } (.prop ⟨(N.agreed.length:Int),N.rnd.bal,c⟩)
def Nod.lead(N:Nod)(i:Nat):Nod :=
 let b:Bal:=⟨max N.rounds N.vo.p.r+1,(i:Int)⟩
 if(N.promise b).2.2≠0 then N
 else Nod.wait { (N.promise b).1 with rnd:=⟨b,fun _=>false,fun _=>DY,fun _=>N.agreed.length,0,[]⟩ } (.began b (N.promise b).2.1)
def Nod.crash(N:Nod)(k:Int):Nod:=if IZ N.d N.sy k≠0 then N else N.bare false (KY N.d N.sy k) (KZ N.d N.sy k) DY []
def Nod.start(N:Nod):Nod :=
 if CW N.d N.sy≠0 then N
 else if OJ N.d N.sy<(N.d.length:Int)then N.bare true (Lp N.d N.sy) (MR N.d N.sy) (Gt N.d N.sy) [.start]
 else N.bare true N.d N.sy (Gt N.d N.sy) [.start]
def Meet.move(M:Meet)(k:Int)(at_:Nat):Meet :=
 match M.lets[at_%M.lets.length]? with
 | none=>M
 | some l =>
  let A:=if k≠6 then{ M with lets:=M.lets.eraseIdx (at_%M.lets.length) }else M
  if k≠5 then A.come l else A
def Meet.comeAll(M:Meet):Meet:=M.lets.foldl (fun M l=>M.come l) { M with lets:=[] }
end
section
open Go.RowKit
def stA(s:Sto):Array Value:=#[.int .i64 (s.V 0),.int .i64 (s.V 1),.int .i64 (s.V 2),.int .i64 (s.V 3),.int .i64 (s.V 4),.int .i64 (s.V 5),.int .i64 (s.V 6),.int .i64 (s.V 7),.int .i64 (s.L 0),.int .i64 (s.L 1),.int .i64 (s.L 2),.int .i64 (s.L 3),.int .i64 (s.L 4),.int .i64 (s.L 5),.int .i64 (s.L 6),.int .i64 (s.L 7),.int .i64 (s.C 0),.int .i64 (s.A 0),.int .i64 (s.C 1),.int .i64 (s.A 1),.int .i64 (s.C 2),.int .i64 (s.A 2),.int .i64 (s.C 3),.int .i64 (s.A 3),.int .i64 (s.C 4),.int .i64 (s.A 4),.int .i64 (s.C 5),.int .i64 (s.A 5),.int .i64 (s.C 6),.int .i64 (s.A 6),.int .i64 (s.C 7),.int .i64 (s.A 7),.bool (s.R 0),.bool (s.R 1),.bool (s.R 2),.bool (s.R 3),.bool (s.R 4),.bool (s.R 5),.bool (s.R 6),.bool (s.R 7)]
theorem eJ(s:Sto)(i:Nat)(h:i<8):(stA s)[i]?=some (.int .i64 (s.V i)):=by
 rcases(by omega:i=0\/i=1\/i=2\/i=3\/i=4\/i=5\/i=6\/i=7)with rfl|rfl|rfl|rfl|rfl|rfl|rfl|rfl<;>rfl
theorem eI(s:Sto)(i:Nat)(h:i<8):(stA s)[8+i]?=some (.int .i64 (s.L i)):=by
 rcases(by omega:i=0\/i=1\/i=2\/i=3\/i=4\/i=5\/i=6\/i=7)with rfl|rfl|rfl|rfl|rfl|rfl|rfl|rfl<;>rfl
theorem eH(s:Sto)(i:Nat)(h:i<8):(stA s)[16+i*2]?=some (.int .i64 (s.C i)):=by
 rcases(by omega:i=0\/i=1\/i=2\/i=3\/i=4\/i=5\/i=6\/i=7)with rfl|rfl|rfl|rfl|rfl|rfl|rfl|rfl<;>rfl
theorem eG(s:Sto)(i:Nat)(h:i<8):(stA s)[16+i*2+1]?=some (.int .i64 (s.A i)):=by
 rcases(by omega:i=0\/i=1\/i=2\/i=3\/i=4\/i=5\/i=6\/i=7)with rfl|rfl|rfl|rfl|rfl|rfl|rfl|rfl<;>rfl
def Bs(w:World)(g:Nat)(s:Sto):Prop:=w.heap[g]?=some (.cells (stA s) 88)
theorem Bs.cellV{w:World}{g:Nat}{s:Sto}(h:Bs w g s)(i:Nat)(hi:i<8):w.cell? ⟨g,i,none⟩=some (.int .i64 (s.V i)):=(cell_of_row _ _ i _ _ _ h).trans (eJ s i hi)
theorem Bs.cellL{w:World}{g:Nat}{s:Sto}(h:Bs w g s)(i:Nat)(hi:i<8):w.cell? ⟨g,8+i,none⟩=some (.int .i64 (s.L i)):=(cell_of_row _ _ (8+i) _ _ _ h).trans (eI s i hi)
theorem Bs.cellC{w:World}{g:Nat}{s:Sto}(h:Bs w g s)(i:Nat)(hi:i<8):w.cell? ⟨g,16+i*2,none⟩=some (.int .i64 (s.C i)):=(cell_of_row _ _ (16+i*2) _ _ _ h).trans (eH s i hi)
theorem Bs.cellA{w:World}{g:Nat}{s:Sto}(h:Bs w g s)(i:Nat)(hi:i<8):w.cell? ⟨g,16+i*2+1,none⟩=some (.int .i64 (s.A i)):=(cell_of_row _ _ (16+i*2+1) _ _ _ h).trans (eG s i hi)
theorem bI(a b a' b':Int):∀ w,(binOp .neq 84 (.agg #[.int .i64 a,.int .i64 b]) (.agg #[.int .i64 a',.int .i64 b'])).run prog w=.ok (.bool (!decide (a=a'/\b=b'))) w:=by
 intro w;rw[run_neq_struct,run_equalIn_agg w 9999 _ _ _ (by kernel_rfl) (by kernel_rfl)];unfold Program.fieldsOf;rw[underlying84];have h3:=underlying3;have hE:=underlying43;simp[Op.eqFields,go_sem,h3,hE]
 repeat' split
 all_goals simp_all
theorem Yz(a b:Int):∀ w,(binOp .neq 84 (.agg #[.int .i64 a,.int .i64 b]) (.agg #[.int .i64 0,.int .i64 0])).run prog w=.ok (.bool (!decide (a=0/\b=0))) w:=bI a b 0 0
def vaL(f:Nat->Int):List Value:=[.int .i64 (f 0),.int .i64 (f 1),.int .i64 (f 2),.int .i64 (f 3),.int .i64 (f 4),.int .i64 (f 5),.int .i64 (f 6),.int .i64 (f 7)]
def vaA(f:Nat->Int):Array Value:=(vaL f).toArray
theorem Xn(f:Nat->Int)(j:Nat)(u:Value)(h:(vaL f)[j]?=some u):j<8/\u=.int .i64 (f j):=by
 have hj:j<8:=(List.getElem?_eq_some_iff.1 h).1;refine⟨hj,?_⟩;rcases(by omega:j=0\/j=1\/j=2\/j=3\/j=4\/j=5\/j=6\/j=7)with rfl|rfl|rfl|rfl|rfl|rfl|rfl|rfl<;>(simp[vaL]at h;exact h.symm)
theorem Bs.rangeV{w:World}{g:Nat}{s:Sto}(h:Bs w g s):w.rangeAt g 0 (vaL s.V):=by
 intro j u hj;obtain⟨h1,rfl⟩:=Xn _ _ _ hj;rw[Nat.zero_add];exact h.cellV j h1
theorem Bs.rangeL{w:World}{g:Nat}{s:Sto}(h:Bs w g s):w.rangeAt g 8 (vaL s.L):=by
 intro j u hj;obtain⟨h1,rfl⟩:=Xn _ _ _ hj;exact h.cellL j h1
theorem dc(f:Nat->Int):(prog.info? 82).map (·.size)=some (vaL f).length:=by show _=some 8;kernel_rfl
theorem Fz{ops:Array Oper}{rest:List Oper}{op:Oper}{a:Act}{w:World}{Q:Exit->Act->World->Prop}(hgd:op.guard=none)(x:Operand)(ho:op.op=.load 82 x)
  (b o:Nat)(hx:a.eval x=.pointer (some ⟨b,o,none⟩))(f:Nat->Int)(hc:w.rangeAt b o (vaL f))
  (h:wpList prog ops Q rest (a.put op.dst (.agg (vaA f))) w):wpList prog ops Q (op::rest) a w :=
 wpList_load_mid hgd 82 x ho b o hx (vaL f) _ hc underlying82 rfl (dc f) h
theorem Sa(f:Nat->Int)(i:Nat)(hi:i<8)(w:World):(Instr.index 82 (.agg (vaA f)) (.int .i64 (i:Int))).run prog w=.ok (.int .i64 (f i)) w:=by
 rcases(by omega:i=0\/i=1\/i=2\/i=3\/i=4\/i=5\/i=6\/i=7)with rfl|rfl|rfl|rfl|rfl|rfl|rfl|rfl<;>kernel_rfl
structure NX where
 tape:S3
 votes:S3
 synced:S3
 queue:S3
 agreed:S3
 wants:S3
 hv:Nat->S3
 asked:Option Nat
def Ax(i ob:Nat)(p:Nod)(x:NX):Array Value:=([iv (i:Int),.bool p.up,S3.v x.tape,iv p.sy,iv (p.bad:Int),pt ob 0,iv p.vo.p.r,iv p.vo.p.n,S3.v x.votes,S3.v x.synced,iv p.rounds,iv p.rnd.bal.r,iv p.rnd.bal.n,.bool (p.rnd.pro 0),.bool (p.rnd.pro 1),.bool (p.rnd.pro 2),.bool (p.rnd.pro 3),.bool (p.rnd.pro 4),iv ((p.rnd.heard 0).p.r),iv ((p.rnd.heard 0).p.n),S3.v (x.hv 0),iv ((p.rnd.heard 1).p.r),iv ((p.rnd.heard 1).p.n),S3.v (x.hv 1),iv ((p.rnd.heard 2).p.r),iv ((p.rnd.heard 2).p.n),S3.v (x.hv 2),iv ((p.rnd.heard 3).p.r),iv ((p.rnd.heard 3).p.n),S3.v (x.hv 3),iv ((p.rnd.heard 4).p.r),iv ((p.rnd.heard 4).p.n),S3.v (x.hv 4),iv (p.rnd.taught 0:Int),iv (p.rnd.taught 1:Int),iv (p.rnd.taught 2:Int),iv (p.rnd.taught 3:Int),iv (p.rnd.taught 4:Int),iv (p.rnd.next:Int),S3.v x.queue,S3.v x.agreed,iv (p.done:Int)]++((stA p.sto).toList++[S3.v x.wants,.map x.asked])).toArray
def Ex(l:Let)(vs wh:S3):Array Value:=#[iv (l.kind:Int),iv (l.src:Int),iv (l.dst:Int),iv l.bal.r,iv l.bal.n,iv l.vote.slot,iv l.vote.b.r,iv l.vote.b.n,iv l.vote.w.k,iv l.vote.w.c,iv l.vote.w.s,iv l.vote.w.n,iv l.vote.w.v,S3.v vs,iv (l.slot:Int),S3.v wh]
def EF(t:Tol):List Value:=[iv (t.n:Int),iv t.c,iv t.s,iv t.e,iv t.a]
def cmV(c:Cmd):List Value:=[iv c.k,iv c.c,iv c.s,iv c.n,iv c.v]
def cmL(l:List Cmd):List Value:=l.flatMap cmV
theorem BJ(l m:List Cmd):cmL (l++m)=cmL l++cmL m:=by simp[cmL]
theorem Bi(l:List Cmd):(cmL l).length=l.length*5:=by
 induction l with
 | nil=>rfl
 | cons c l ih=>rw[cmL,List.flatMap_cons,List.length_append];show 5+(cmL l).length=_;rw[ih,List.length_cons];omega
theorem Mx(l:List Cmd):∀ u∈cmL l,u.oneCell'=true:=by
 intro u hu;obtain⟨c,_,hc⟩:=List.mem_flatMap.1 hu;simp only[cmV,List.mem_cons,List.not_mem_nil,or_false]at hc;rcases hc with rfl|rfl|rfl|rfl|rfl<;>rfl
theorem Mw{l:List Cmd}{k:Nat}{c:Cmd}(h:l[k]?=some c){j:Nat}{u:Value}(hj:(cmV c)[j]?=some u):(cmL l)[5*k+j]?=some u:=by
 induction l generalizing k with
 | nil=>cases h
 | cons d l ih =>
  rw[cmL,List.flatMap_cons];cases k with
  | zero =>
   simp only[List.getElem?_cons_zero,Option.some.injEq]at h;subst h;rw[List.getElem?_append_left (by have:=(List.getElem?_eq_some_iff.1 hj).1;omega)];simpa using hj
  | succ k =>
   rw[List.getElem?_append_right (by show 5<=_;omega),show 5*(k+1)+j-(cmV d).length=5*k+j by show 5*(k+1)+j-5=_;omega];exact ih (by simpa using h)
theorem JH(l:List Cmd)(k:Nat):(cmL l).drop (5*k)=cmL (l.drop k):=by
 induction l generalizing k with
 | nil=>simp[cmL]
 | cons c l ih =>
  cases k with
  | zero=>simp
  | succ k =>
   show(cmV c++cmL l).drop (5*(k+1))=cmL (l.drop k);rw[<- ih k,List.drop_append,show(cmV c).drop (5*(k+1))=[]from List.drop_eq_nil_of_le (by show 5<=_;omega),List.nil_append,show 5*(k+1)-(cmV c).length=5*k by show 5*(k+1)-5=_;omega]
def Frz(g:Gh)(x:S3):Prop:=∀ a,x.a=some a->g.t a.block=.z
structure FSl(g:Gh)(w:World)(x:S3)(l:List Int):Prop where
 s:Sl w x.v l
 z:l≠[]->Frz g x
structure FSv(g:Gh)(w:World)(x:S3)(l:List Vt):Prop where
 s:Sv w x.v l
 z:l≠[]->Frz g x
section
variable{B:Nat}{T:List Tg}{g g':Gh}{w w':World}
theorem Cg.zc(c:Cg B T g w g' w')(hz:Tg.z∉T){b:Nat}(hb:b<w.heap.size)(ht:g.t b=.z):w'.heap[b]?=w.heap[b]?:=c.same b hb (by rw[ht];exact hz) (fun h=>by rw[ht]at h;cases h)
theorem FSl.ch{x:S3}{l:List Int}(h:FSl g w x l)(c:Cg B T g w g' w')(hz:Tg.z∉T:=by simp):FSl g' w' x l:=by
 obtain⟨⟨⟨a,cap,hv,hc,hn,h1⟩,h2,h3⟩,h4⟩:=h;simp only[Value.slice.injEq]at hv;obtain⟨rfl,hxn,rfl⟩:=hv;rcases h1 with h1|⟨b,off,ha,hbs,hcell⟩
 .exact⟨⟨⟨_,_,by simp only[Value.slice.injEq,and_true,true_and];exact hxn,hc,hn,.inl h1⟩,h2,h3⟩,fun h=>absurd h1 h⟩
 .have hne:∀ _:l≠[],g.t b=.z:=fun h=>h4 h _ ha;by_cases hl:l=[]
  .exact⟨⟨⟨_,_,by simp only[Value.slice.injEq,and_true,true_and];exact hxn,hc,hn,.inl hl⟩,h2,h3⟩,fun h=>absurd hl h⟩
  .refine⟨⟨⟨_,_,by simp only[Value.slice.injEq,and_true,true_and];exact hxn,hc,hn,.inr ⟨b,off,ha,Nat.lt_of_lt_of_le hbs c.size,fun i hi=>?_⟩⟩,h2,h3⟩,fun _ a' ha'=>?_⟩
   .rw[World.cell?_of_block (w:=w) (c.zc hz hbs (hne hl))];exact hcell i hi
   .rw[ha]at ha';simp only[Option.some.injEq]at ha';subst ha';rw[c.tag hbs (fun h=>absurd ((hne hl).symm.trans h) (by simp))];exact hne hl
theorem FSv.ch{x:S3}{l:List Vt}(h:FSv g w x l)(c:Cg B T g w g' w')(hz:Tg.z∉T:=by simp):FSv g' w' x l:=by
 obtain⟨⟨⟨a,cap,hv,hc,hn,h1⟩,h2⟩,h4⟩:=h;simp only[Value.slice.injEq]at hv;obtain⟨rfl,hxn,rfl⟩:=hv;rcases h1 with h1|⟨b,off,ha,hbs,hcell⟩
 .exact⟨⟨⟨_,_,by simp only[Value.slice.injEq,and_true,true_and];exact hxn,hc,hn,.inl h1⟩,h2⟩,fun h=>absurd h1 h⟩
 .by_cases hl:l=[]
  .exact⟨⟨⟨_,_,by simp only[Value.slice.injEq,and_true,true_and];exact hxn,hc,hn,.inl hl⟩,h2⟩,fun h=>absurd hl h⟩
  .have hzb:g.t b=.z:=h4 hl _ ha;refine⟨⟨⟨_,_,by simp only[Value.slice.injEq,and_true,true_and];exact hxn,hc,hn,.inr ⟨b,off,ha,Nat.lt_of_lt_of_le hbs c.size,fun i v hi j u hj=>?_⟩⟩,h2⟩,fun _ a' ha'=>?_⟩
   .rw[World.cell?_of_block (w:=w) (c.zc hz hbs hzb)];exact hcell i v hi j u hj
   .rw[ha]at ha';simp only[Option.some.injEq]at ha';subst ha';rw[c.tag hbs (fun h=>absurd (hzb.symm.trans h) (by simp))];exact hzb
structure Rc(g:Gh)(w:World)(x:S3)(l:List Cmd):Prop where
 len:x.n=l.length
 cap:x.n<=x.c
 nul:x.a=none->x.c=0
 ex:l=[]\/∃ b off,x.a=some ⟨b,off,none⟩/\b<w.heap.size/\(∀ j u,(cmL l)[j]?=some u->w.cell? ⟨b,off+j,none⟩=some u)/\(g.t b=.z\/off+5*l.length<=g.k b)
theorem Rc.nil(g:Gh)(w:World):Rc g w s30 []:=⟨rfl,Nat.le_refl _,fun _=>rfl,.inl rfl⟩
theorem Rc.ch{x:S3}{l:List Cmd}(h:Rc g w x l)(c:Cg B T g w g' w')(hz:Tg.z∉T:=by simp):Rc g' w' x l:=by
 refine⟨h.len,h.cap,h.nul,?_⟩;rcases h.ex with h1|⟨b,off,h1,h2,h3,h4⟩
 .exact .inl h1
 .refine .inr ⟨b,off,h1,Nat.lt_of_lt_of_le h2 c.size,fun j u hj=>?_,?_⟩
  .rcases h4 with h4|h4
   .rw[World.cell?_of_block (w:=w) (c.zc hz h2 h4)];exact h3 j u hj
   .have hjl:j<(cmL l).length:=(List.getElem?_eq_some_iff.1 hj).1;rw[Bi]at hjl
    rw[c.pref b h2 (off+j) (by omega)];exact h3 j u hj
  .rcases h4 with h4|h4
   .exact .inl ((c.tag h2 (by rw[h4];intro h;cases h)).trans h4)
   .exact .inr (Nat.le_trans h4 (c.kap b h2))
structure Box(g:Gh)(w:World)(b:Nat)(cs:Array Value)(t:TypeId):Prop where
 r:w.heap[b]?=some (.cells cs t)
 z:g.t b=.z
theorem Box.ch{b:Nat}{cs:Array Value}{t:TypeId}(h:Box g w b cs t)(c:Cg B T g w g' w')(hz:Tg.z∉T:=by simp):Box g' w' b cs t:=⟨(c.zc hz (rl h.r) h.z).trans h.r,(c.tag (rl h.r) (by rw[h.z];intro h;cases h)).trans h.z⟩
def BX(g:Gh)(w:World)(b:Nat)(l:Let):Prop:=∃ vs wh,Box g w b (Ex l vs wh) 141/\FSv g w vs l.votes/\Rc g w wh l.what
theorem BX.ch{b:Nat}{l:Let}(h:BX g w b l)(c:Cg B T g w g' w')(hz:Tg.z∉T:=by simp):BX g' w' b l:=let ⟨vs,wh,h1,h2,h3⟩:=h;⟨vs,wh,h1.ch c hz,h2.ch c hz,h3.ch c hz⟩
def J5(g:Gh)(w:World)(nb:Nat)(v:Value):Pend->Prop
 | .began b vs=>∃ b1 b2 b3 x,v=.func (.func 56) #[] #[pt b1 0,pt b2 0,pt b3 0]/\Box g w b1 #[pt nb 0] 69/\Box g w b2 #[iv b.r,iv b.n] 74/\Box g w b3 #[S3.v x] 75/\FSv g w x vs
 | .prom to b vs=>∃ b1 b2 b3 x lb l,v=.func (.func 81) #[] #[pt b1 0,pt b2 0,pt b3 0]/\Box g w b1 #[pt nb 0] 69/\Box g w b2 #[pt lb 0] 142/\Box g w b3 #[S3.v x] 75/\FSv g w x vs/\BX g w lb l/\l.src=to/\l.bal=b
 | .voted to u=>∃ b1 b2 lb l,v=.func (.func 87) #[] #[pt b1 0,pt b2 0]/\Box g w b1 #[pt nb 0] 69/\Box g w b2 #[pt lb 0] 142/\BX g w lb l/\l.src=to/\l.vote=u
 | .refuse to b=>∃ b1 b2 b3,v=.func (.func 120) #[] #[pt b1 0,pt b2 0,pt b3 0]/\Box g w b1 #[pt nb 0] 69/\Box g w b2 #[iv (to:Int)] 3/\Box g w b3 #[iv b.r,iv b.n] 74
 | .prop u=>∃ b1 b2,v=.func (.func 104) #[] #[pt b1 0,pt b2 0]/\Box g w b1 #[pt nb 0] 69/\Box g w b2 (vtA u) 139
 | .askNews to=>∃ b1 b2 lb l,v=.func (.func 89) #[] #[pt b1 0,pt b2 0]/\Box g w b1 #[pt nb 0] 69/\Box g w b2 #[pt lb 0] 142/\BX g w lb l/\l.src=to
 | .start=>∃ b1,v=.func (.func 69) #[] #[pt b1 0]/\Box g w b1 #[pt nb 0] 69
 | .tell to slot=>∃ b1 b2 lb l,v=.func (.func 91) #[] #[pt b1 0,pt b2 0]/\Box g w b1 #[pt nb 0] 69/\Box g w b2 #[pt lb 0] 142/\BX g w lb l/\l.src=to/\l.slot=slot
theorem J5.ch{nb:Nat}{v:Value}{q:Pend}(h:J5 g w nb v q)(c:Cg B T g w g' w')(hz:Tg.z∉T:=by simp):J5 g' w' nb v q:=by
 cases q with
 | began b vs=>obtain⟨b1,b2,b3,x,e,h1,h2,h3,h4⟩:=h;exact⟨b1,b2,b3,x,e,h1.ch c hz,h2.ch c hz,h3.ch c hz,h4.ch c hz⟩
 | prom to b vs=>obtain⟨b1,b2,b3,x,lb,l,e,h1,h2,h3,h4,h5,h6⟩:=h;exact⟨b1,b2,b3,x,lb,l,e,h1.ch c hz,h2.ch c hz,h3.ch c hz,h4.ch c hz,h5.ch c hz,h6⟩
 | voted to u=>obtain⟨b1,b2,lb,l,e,h1,h2,h3,h4⟩:=h;exact⟨b1,b2,lb,l,e,h1.ch c hz,h2.ch c hz,h3.ch c hz,h4⟩
 | refuse to b=>obtain⟨b1,b2,b3,e,h1,h2,h3⟩:=h;exact⟨b1,b2,b3,e,h1.ch c hz,h2.ch c hz,h3.ch c hz⟩
 | prop u=>obtain⟨b1,b2,e,h1,h2⟩:=h;exact⟨b1,b2,e,h1.ch c hz,h2.ch c hz⟩
 | askNews to=>obtain⟨b1,b2,lb,l,e,h1,h2,h3,h4⟩:=h;exact⟨b1,b2,lb,l,e,h1.ch c hz,h2.ch c hz,h3.ch c hz,h4⟩
 | start=>obtain⟨b1,e,h1⟩:=h;exact⟨b1,e,h1.ch c hz⟩
 | tell to slot=>obtain⟨b1,b2,lb,l,e,h1,h2,h3,h4⟩:=h;exact⟨b1,b2,lb,l,e,h1.ch c hz,h2.ch c hz,h3.ch c hz,h4⟩
def mkA(x:Cmd × Bal × Nat):MapEntry:={ key:=.agg (cmV x.1).toArray,val:=.agg #[iv x.2.1.r,iv x.2.1.n],born:=x.2.2 }
structure AskAt(g:Gh)(w:World)(τ:Tg)(b:Nat)(f:Cmd->Option Bal):Prop where
 t:g.t b=τ
 k:g.k b=0
 ex:∃ (es:List (Cmd × Bal × Nat)) (clock:Nat),w.heap[b]?=some (.map (es.map mkA).toArray clock)/\(∀ x∈es,x.2.2<clock)/\(es.map (·.2.2)).Nodup/\(es.map (·.1)).Nodup/\∀ c,f c=(es.find? fun x=>decide (c=x.1)).map (·.2.1)
def Ui(g:Gh)(w:World)(i:Nat)(f:Cmd->Option Bal):Option Nat->Prop
 | some b=>AskAt g w (.n 5 i) b f
 | none=>f=fun _=>none
structure Pends(g:Gh)(w:World)(nb:Nat)(vs:List Value)(l:List Pend):Prop where
 len:vs.length=l.length
 at_:∀ (k:Nat) (v:Value) (q:Pend),vs[k]?=some v->l[k]?=some q->J5 g w nb v q
structure NodeAt(g:Gh)(w:World)(i nb ob:Nat)(x:NX)(p:Nod):Prop where
 row:w.heap[nb]?=some (.cells (Ax i ob p x) 96)
 tag:g.t nb=.n 0 i
 kap:g.k nb=0
 tape:FSl g w x.tape p.d
 votes:FSv g w x.votes p.vo.vs
 heard:∀ j,j<5->FSv g w (x.hv j) (p.rnd.heard j).vs
 pend:∃ vs,OwnS g w (.n 1 i) true 1 1 x.synced vs/\Pends g w nb vs p.pend
 queue:OwnS g w (.n 2 i) false 54 5 x.queue (cmL p.rnd.queue)
 agreed:OwnS g w (.n 3 i) true 54 5 x.agreed (cmL p.agreed)
 wants:OwnS g w (.n 4 i) false 54 5 x.wants (cmL p.wants)
 asked:Ui g w i p.asked x.asked
 upm:p.up=true->∃ b,x.asked=some b
structure Lets(g:Gh)(w:World)(bs:List Nat)(l:List Let):Prop where
 len:bs.length=l.length
 at_:∀ (k b:Nat) (m:Let),bs[k]?=some b->l[k]?=some m->BX g w b m
structure OutAt(g:Gh)(w:World)(ob:Nat)(lt tl:S3)(ls:List Let)(ts:List Tol):Prop where
 row:w.heap[ob]?=some (.cells #[lt.v,tl.v] 66)
 tag:g.t ob=.n 50 0
 kap:g.k ob=0
 lets:∃ bs,OwnS g w (.n 51 0) false 142 1 lt (bs.map (pt · 0))/\Lets g w bs ls
 told:OwnS g w (.n 52 0) false 102 5 tl (ts.flatMap EF)
theorem Pends.ch{nb:Nat}{vs:List Value}{l:List Pend}(h:Pends g w nb vs l)(c:Cg B T g w g' w')(hz:Tg.z∉T:=by simp):Pends g' w' nb vs l:=⟨h.len,fun k v q h1 h2=>(h.at_ k v q h1 h2).ch c hz⟩
theorem Lets.ch{bs:List Nat}{l:List Let}(h:Lets g w bs l)(c:Cg B T g w g' w')(hz:Tg.z∉T:=by simp):Lets g' w' bs l:=⟨h.len,fun k v q h1 h2=>(h.at_ k v q h1 h2).ch c hz⟩
theorem Lets.snoc{bs:List Nat}{l:List Let}{b:Nat}{m:Let}(h:Lets g w bs l)(hm:BX g w b m):Lets g w (bs++[b]) (l++[m]):=by
 refine⟨by simp[h.len],fun k c q h1 h2=>?_⟩;by_cases hk:k<bs.length
 .rw[List.getElem?_append_left hk]at h1
  rw[List.getElem?_append_left (by rw[<- h.len];exact hk)]at h2
  exact h.at_ k c q h1 h2
 .rw[List.getElem?_append_right (by omega)]at h1
  rw[List.getElem?_append_right (by rw[<- h.len];omega),<- h.len]at h2
  cases hx:k-bs.length with
  | zero=>rw[hx]at h1 h2;simp at h1 h2;subst h1 h2;exact hm
  | succ n=>rw[hx]at h1;simp at h1
theorem Cg.rc(c:Cg B T g w g' w'){b:Nat}{o:Obj}{r i:Nat}(h:w.heap[b]?=some o)(ht:g.t b=.n r i)(hn:Tg.n r i∉T):w'.heap[b]?=some o/\g'.t b=.n r i/\g'.k b=g.k b :=
 ⟨(c.same b (rl h) (by rw[ht];exact hn) (fun h=>by rw[ht]at h;cases h)).trans h,(c.tag (rl h) (by rw[ht];intro h;cases h)).trans ht,c.kat b (rl h) (by rw[ht];exact hn) (by rw[ht];intro h;cases h)⟩
theorem AskAt.ch{r i b:Nat}{f:Cmd->Option Bal}(h:AskAt g w (.n r i) b f)(c:Cg B T g w g' w')(hn:Tg.n r i∉T:=by simp):AskAt g' w' (.n r i) b f:=by
 obtain⟨h1,h2,es,k,h3,h4⟩:=h;have h5:=c.rc h3 h1 hn;exact⟨h5.2.1,h5.2.2.trans h2,es,k,h5.1,h4⟩
theorem Ui.ch{i:Nat}{a:Option Nat}{f:Cmd->Option Bal}(h:Ui g w i f a)(c:Cg B T g w g' w')(hn:Tg.n 5 i∉T:=by simp):Ui g' w' i f a:=by
 cases a with
 | none=>exact h
 | some b=>exact AskAt.ch h c hn
theorem NodeAt.ch{i nb ob:Nat}{x:NX}{p:Nod}(h:NodeAt g w i nb ob x p)(c:Cg B T g w g' w')(hz:Tg.z∉T:=by simp)(hn:∀ r,r<6->Tg.n r i∉T:=by simp):NodeAt g' w' i nb ob x p:=by
 have h1:=c.rc h.row h.tag (hn 0 (by omega));obtain⟨vs,h2,h3⟩:=h.pend;exact⟨h1.1,h1.2.1,h1.2.2.trans h.kap,h.tape.ch c hz,h.votes.ch c hz,fun j hj=>(h.heard j hj).ch c hz,⟨vs,h2.ch c (hn 1 (by omega)) (by simp),h3.ch c hz⟩,h.queue.ch c (hn 2 (by omega)) (by simp),h.agreed.ch c (hn 3 (by omega)) (by simp),h.wants.ch c (hn 4 (by omega)) (by simp),h.asked.ch c (hn 5 (by omega)),h.upm⟩
theorem OutAt.ch{ob:Nat}{lt tl:S3}{ls:List Let}{ts:List Tol}(h:OutAt g w ob lt tl ls ts)(c:Cg B T g w g' w')(hz:Tg.z∉T:=by simp)(hn:∀ r,50<=r->Tg.n r 0∉T:=by simp):OutAt g' w' ob lt tl ls ts:=by
 have h1:=c.rc h.row h.tag (hn 50 (by omega));obtain⟨bs,h2,h3⟩:=h.lets;exact⟨h1.1,h1.2.1,h1.2.2.trans h.kap,⟨bs,h2.ch c (hn 51 (by omega)) (by simp),h3.ch c hz⟩,h.told.ch c (hn 52 (by omega)) (by simp)⟩
end
def TN(i:Nat):List Tg:=[.n 0 i,.n 1 i,.n 2 i,.n 3 i,.n 4 i,.n 5 i,.n 50 0,.n 51 0,.n 52 0,.n 60 0]
theorem AV(i:Nat):Tg.z∉TN i:=by simp[TN]
def NS(i nb ob:Nat)(g:Gh)(w:World)(p:Nod)(ls:List Let)(ts:List Tol):Prop:=∃ x lt tl,NodeAt g w i nb ob x p/\OutAt g w ob lt tl ls ts/\Hu g w
theorem nsC{B B':Nat}{T:List Tg}{g g':Gh}{w w':World}{i nb ob:Nat}{x:NX}{p:Nod}{lt tl:S3}{ls:List Let}{ts:List Tol}{L:List Sh}(hN:NodeAt g w i nb ob x p)(hO:OutAt g w ob lt tl ls ts)(C:Cg B T g w g' w')(K:Kn B' g' w' L)(hz:Tg.z∉T:=by simp)(hn:∀ r,r<6->Tg.n r i∉T:=by simp)(ho:∀ r,50<=r->Tg.n r 0∉T:=by simp):NS i nb ob g' w' p ls ts:=⟨x,lt,tl,hN.ch C hz hn,hO.ch C hz ho,K.new⟩
def NP(i nb ob:Nat)(g:Gh)(w:World)(v:Value)(p:Nod)(ls:List Let)(ts:List Tol):Ending->World->Prop:=fun e w'=>∃ g',e=.returned v/\NS i nb ob g' w' p ls ts/\Cg w.heap.size (TN i) g w g' w'
theorem NS.new{i nb ob:Nat}{g:Gh}{w:World}{p:Nod}{ls:List Let}{ts:List Tol}(h:NS i nb ob g w p ls ts):Hu g w:=let ⟨_,_,_,_,_,h⟩:=h;h
theorem NS.below{i nb ob:Nat}{g:Gh}{w w':World}{p:Nod}{ls:List Let}{ts:List Tol}(h:NS i nb ob g w p ls ts)(b:Bw w w'):NS i nb ob g w' p ls ts :=
 let ⟨x,lt,tl,h1,h2,h3⟩:=h
 have c:=Cg.ofBelow (B:=0) (T:=[]) (g:=g) b
 ⟨x,lt,tl,h1.ch c,h2.ch c,fun k hk=>h3 k (Nat.le_trans b.size hk)⟩
theorem NS.ch0{i nb ob:Nat}{B:Nat}{g g':Gh}{w w':World}{p:Nod}{ls:List Let}{ts:List Tol}(h:NS i nb ob g w p ls ts)(c:Cg B [] g w g' w')(hn:Hu g' w'):NS i nb ob g' w' p ls ts :=
 let ⟨x,lt,tl,h1,h2,_⟩:=h
 ⟨x,lt,tl,h1.ch c,h2.ch c,hn⟩
theorem NodeAt.askSome{g:Gh}{w:World}{i nb ob b:Nat}{x:NX}{p:Nod}(h:NodeAt g w i nb ob x p)(hx:x.asked=some b):AskAt g w (.n 5 i) b p.asked:=by have:=h.asked;rw[hx]at this;exact this
theorem B0{B:Nat}{T:List Tg}{g g':Gh}{w w':World}{i nb:Nat}{x:S3}{l:List Pend}(h:∃ vs,OwnS g w (.n 1 i) true 1 1 x vs/\Pends g w nb vs l)(c:Cg B T g w g' w')(hz:Tg.z∉T:=by simp)(hn:Tg.n 1 i∉T:=by simp):∃ vs,OwnS g' w' (.n 1 i) true 1 1 x vs/\Pends g' w' nb vs l :=
 let ⟨vs,h1,h2⟩:=h
 ⟨vs,h1.ch c hn (by simp),h2.ch c hz⟩
theorem Dd{B:Nat}{T:List Tg}{g g':Gh}{w w':World}{x:S3}{l:List Let}(h:∃ bs:List Nat,OwnS g w (.n 51 0) false 142 1 x (bs.map (pt · 0))/\Lets g w bs l)(c:Cg B T g w g' w')(hz:Tg.z∉T:=by simp)(hn:Tg.n 51 0∉T:=by simp):∃ bs:List Nat,OwnS g' w' (.n 51 0) false 142 1 x (bs.map (pt · 0))/\Lets g' w' bs l :=
 let ⟨bs,h1,h2⟩:=h
 ⟨bs,h1.ch c hn (by simp),h2.ch c hz⟩
theorem AZ{B:Nat}{T:List Tg}{g g':Gh}{w w':World}{hv:Nat->S3}{f:Nat->Acc}(h:∀ j,j<5->FSv g w (hv j) (f j).vs)(c:Cg B T g w g' w')(hz:Tg.z∉T:=by simp):∀ j,j<5->FSv g' w' (hv j) (f j).vs:=fun j hj=>(h j hj).ch c hz
theorem Pends.snoc{g:Gh}{w:World}{nb:Nat}{vs:List Value}{l:List Pend}{v:Value}{q:Pend}(h:Pends g w nb vs l)(hm:J5 g w nb v q):Pends g w nb (vs++[v]) (l++[q]):=by
 refine⟨by simp[h.len],fun k c m h1 h2=>?_⟩;by_cases hk:k<vs.length
 .rw[List.getElem?_append_left hk]at h1
  rw[List.getElem?_append_left (by rw[<- h.len];exact hk)]at h2
  exact h.at_ k c m h1 h2
 .rw[List.getElem?_append_right (by omega)]at h1
  rw[List.getElem?_append_right (by rw[<- h.len];omega),<- h.len]at h2
  cases hx:k-vs.length with
  | zero=>rw[hx]at h1 h2;simp at h1 h2;subst h1 h2;exact hm
  | succ n=>rw[hx]at h1;simp at h1
theorem OwnS.num{g:Gh}{w:World}{τ:Tg}{kp:Bool}{e:TypeId}{x:S3}{l:List Cmd}(h:OwnS g w τ kp e 5 x (cmL l)):x.n=l.length:=by have:=h.len;rw[Bi]at this;omega
theorem OwnS.rc{g:Gh}{w:World}{τ:Tg}{e:TypeId}{x:S3}{l:List Cmd}(h:OwnS g w τ true e 5 x (cmL l)):Rc g w x l:=by
 have hn:=h.num;rcases h.ex with⟨h1,h2,h3⟩|⟨b,cur,h1,h2,h3,h4,h5,h6,h7,h8⟩
 .exact⟨hn,by omega,fun _=>h3,.inl (List.eq_nil_of_length_eq_zero (by omega))⟩
 .refine⟨hn,h3,fun h=>(by rw[h1]at h;cases h),.inr ⟨b,0,h1,rl h2,fun j u hj=>?_,.inr ?_⟩⟩
  .obtain⟨b',hb',_,hc⟩:=h.cell hj;rw[h1]at hb'
   simp only[Option.some.injEq,Addr.mk.injEq,and_true]at hb';subst hb';rw[Nat.zero_add];exact hc
  .rw[h8,Bi];simp;omega
end
end Go.Proofs.YtalbmmghmoggcaaGreatDoor
