/- Part 4 of the walk. -/
import Derived.Great.BuildSlice
import Derived.Test.YtogibonjmbhliaaGreatDoorZ3
set_option maxRecDepth 100000
set_option maxHeartbeats 4000000
open Go.Proofs.Tryz
set_option linter.unusedVariables false
namespace Go.Proofs.YtogibonjmbhliaaGreatDoor
section
section
structure Bal where
 r:Int
 n:Int
theorem Bal.eq_iff(a b:Bal):(a.r=b.r/\a.n=b.n)↔a=b:=by
 cases a;cases b;simp
instance:DecidableEq Bal:=λa b=>decidable_of_iff _ (Bal.eq_iff a b)
structure Cmd where
 k:Int
 c:Int
 s:Int
 n:Int
 v:Int
theorem Cmd.eq_iff(a b:Cmd):(a.k=b.k/\a.c=b.c/\a.s=b.s/\a.n=b.n/\a.v=b.v)↔a=b:=by
 cases a;cases b;simp
instance:DecidableEq Cmd:=λa b=>decidable_of_iff _ (Cmd.eq_iff a b)
structure Vt where
 bn:Int
 b:Bal
 w:Cmd
theorem Vt.eq_iff(a b:Vt):(a.bn=b.bn/\a.b=b.b/\a.w=b.w)↔a=b:=by
 cases a;cases b;simp
instance:DecidableEq Vt:=λa b=>decidable_of_iff _ (Vt.eq_iff a b)
instance:Inhabited Vt:=⟨⟨0,⟨0,0⟩,⟨0,0,0,0,0⟩⟩⟩
structure Acc where
 p:Bal
 vs:List Vt
def Bal.lt(a b:Bal):Prop:=a.r<b.r\/(a.r=b.r/\a.n<b.n)
instance (a b:Bal):Decidable (a.lt b):=by unfold Bal.lt;exact inferInstance
def Bal.key(a:Bal):Int:=5*a.r+a.n
def Ab(a:Bal):Prop:=(1<=a.r/\a.r<=65536)/\0<=a.n/\a.n<=4
instance (a:Bal):Decidable (Ab a):=by unfold Ab;exact inferInstance
def Cmd.e(c:Cmd):Int:=Bn c.k c.c c.s c.n c.v
def Ah(v:Vt):Prop:=(0<=v.bn/\v.bn<=39)/\Ab v.b/\v.w.e=0
instance (v:Vt):Decidable (Ah v):=by unfold Ah;exact inferInstance
def Aq(a:Bal):Prop:=Ab a\/(a.r=0/\a.n=0)
instance (a:Bal):Decidable (Aq a):=by unfold Aq;exact inferInstance
def BR:List Vt->Prop
 | []=>True
 | u::us=>(∀ v∈us,u.bn<v.bn)/\BR us
def Vc:(l:List Vt)->Decidable (BR l)
 | []=>isTrue trivial
 | u::us=>@instDecidableAnd _ _ inferInstance (Vc us)
instance (l:List Vt):Decidable (BR l):=Vc l
def Ag(a:Acc):Prop:=Aq a.p/\(∀ v∈a.vs,Ah v/\¬ a.p.lt v.b)/\BR a.vs
instance (a:Acc):Decidable (Ag a):=by unfold Ag;exact inferInstance
variable{a b:Bal}{l:List Vt}{v:Vt}
theorem EZ(c:Aq a)(d:Aq b):a.lt b↔a.key<b.key:=by
 unfold Aq Ab at c d;unfold Bal.lt Bal.key;omega
theorem DB(c:Aq a)(d:Aq b)(h:a.key=b.key):a=b:=by
 unfold Aq Ab at c d;unfold Bal.key at h;exact(Bal.eq_iff a b).1 (by omega)
theorem Ab.pr(h:Ab a):Aq a:=.inl h
theorem Ab.pos(h:Ab a):5<=a.key:=by unfold Ab at h;unfold Bal.key;omega
def F1(a:Acc):Int:=if Ag a then 0 else 5
def Cl(a:Acc)(b:Bal):Int:=if ¬ Ag a then 5 else if ¬ Ab b then 2 else if b.lt a.p then 7 else 0
def AX(a:Acc)(v:Vt):Int:=if ¬ Ag a then 5 else if ¬ Ah v then 2 else if v.b.lt a.p then 7 else 0
def Bo:List Vt->Vt->List Vt
 | [],v=>[v]
 | u::us,v=>if u.bn<v.bn then u::Bo us v else if u.bn=v.bn then v::us else v::u::us
theorem BH{u:Vt}(h:BR l):u∈Bo l v↔u=v\/(u∈l/\u.bn≠v.bn):=by
 induction l with
 | nil=>simp[Bo]
 | cons x xs b =>
  obtain⟨c,a⟩:=h;have b:=b a;rw[Bo];split
  .rename_i h1
   rw[mN,b];constructor
   .rintro(rfl|rfl|⟨h2,h3⟩)
    .exact .inr ⟨O',by omega⟩
    .exact .inl rfl
    .exact .inr ⟨I' _ h2,h3⟩
   .rintro(rfl|⟨h2,h3⟩)
    .exact .inr (.inl rfl)
    .rcases mN.1 h2 with rfl|h2
     .exact .inl rfl
     .exact .inr (.inr ⟨h2,h3⟩)
  .split
   .rename_i h1 h2
    rw[mN];constructor
    .rintro(rfl|h3)
     .exact .inl rfl
     .have:=c u h3;exact .inr ⟨I' _ h3,by omega⟩
    .rintro(rfl|⟨h3,h4⟩)
     .exact .inl rfl
     .rcases mN.1 h3 with rfl|h3
      .exact absurd h2 h4
      .exact .inr h3
   .rename_i h1 h2
    rw[mN];constructor
    .rintro(rfl|h3)
     .exact .inl rfl
     .rcases mN.1 h3 with rfl|h4
      .exact .inr ⟨h3,h2⟩
      .have:=c u h4;exact .inr ⟨h3,by omega⟩
    .rintro(rfl|⟨h3,h4⟩)
     .exact .inl rfl
     .exact .inr h3
theorem JF(v:Vt)(h:BR l):BR (Bo l v):=by
 induction l with
 | nil=>exact⟨λu b=>(P' b).elim,trivial⟩
 | cons x xs ih =>
  obtain⟨c,a⟩:=h;rw[Bo];split
  .rename_i h1
   refine⟨λu b=>?_,ih a⟩;rcases(BH a).1 b with rfl|⟨h2,_⟩
   .exact h1
   .exact c u h2
  .split
   .rename_i h1 h2
    exact⟨λu b=>by have:=c u b;omega,a⟩
   .rename_i h1 h2
    refine⟨λu b=>?_,c,a⟩;rcases mN.1 b with rfl|h3
    .omega
    .have:=c u h3;omega
def BW:List Vt->Option Vt->Option Vt
 | [],o=>o
 | v::l,none=>BW l (some v)
 | v::l,some u=>if u.b.lt v.b then BW l (some v)else BW l (some u)
theorem RY(l:List Vt)(u:Vt)(k:∀ v∈l,Aq v.b)(f:Aq u.b):∃ x,BW l (some u)=some x/\(x=u\/x∈l)/\u.b.key<=x.b.key/\∀ v∈l,v.b.key<=x.b.key:=by
 induction l generalizing u with
 | nil=>exact⟨u,rfl,.inl rfl,mE _,λ_ h=>by cases h⟩
 | cons v l ih =>
  have i:=k v O';have j:∀ x∈l,Aq x.b:=λx hx=>k x (I' _ hx);rw[BW];split
  .rename_i h1
   have a:=(EZ f i).1 h1;obtain⟨x,e,hx,c,d⟩:=ih v j i;refine⟨x,e,?_,by omega,?_⟩
   .rcases hx with rfl|hx
    .exact .inr O'
    .exact .inr (I' _ hx)
   .intro y hy;rcases mN.1 hy with rfl|hy
    .exact c
    .exact d y hy
  .rename_i h1
   have a:¬ u.b.key<v.b.key:=λg=>h1 ((EZ f i).2 g);obtain⟨x,e,hx,c,d⟩:=ih u j f;refine⟨x,e,?_,c,?_⟩
   .rcases hx with rfl|hx
    .exact .inl rfl
    .exact .inr (I' _ hx)
   .intro y hy;rcases mN.1 hy with rfl|hy
    .omega
    .exact d y hy
theorem RW(l:List Vt)(a:∀ v∈l,Aq v.b):(l=[]/\BW l none=none)\/∃ x,BW l none=some x/\x∈l/\∀ v∈l,v.b.key<=x.b.key:=by
 cases l with
 | nil=>exact .inl ⟨rfl,rfl⟩
 | cons v l =>
  right;obtain⟨x,e,hx,c,d⟩:=RY l v (λx hx=>a x (I' _ hx)) (a v O');refine⟨x,e,?_,?_⟩
  .rcases hx with rfl|hx
   .exact O'
   .exact I' _ hx
  .intro y hy;rcases mN.1 hy with rfl|hy
   .exact c
   .exact d y hy
def Ae(l:List Vt)(s:Int):List Vt:=l.filter λv=>decide (v.bn=s)
theorem Be{s:Int}:v∈Ae l s↔v∈l/\v.bn=s:=by simp[Ae]
def Ck(ls:List (List Vt))(s:Int):Int:=if ¬ (0<=s/\s<=39)then 2 else if ∀ l∈ls,∀ v∈l,Ah v then 0 else 5
def Gc(ls:List (List Vt))(s:Int):Option Vt:=BW (Ae ls.flatten s) none
def BQ(l:List Vt)(v:Vt):Nat:=l.countP λu=>decide (u=v)
def Hi(l:List Vt)(m:Nat):Option Vt:=l.find? λv=>decide (m<2*BQ l v)
end
end
section
open Go.RowKit
section
def vtC(v:Vt):List Value:=[.int .i64 v.bn,.int .i64 v.b.r,.int .i64 v.b.n,.int .i64 v.w.k,.int .i64 v.w.c,.int .i64 v.w.s,.int .i64 v.w.n,.int .i64 v.w.v]
def vtA(v:Vt):Array Value:=(vtC v).toArray
theorem CE(v:Vt):(vtC v).length=8:=rfl
theorem fW(v:Vt):∀ u∈vtC v,u.oneCell'=true:=by
 intro u a;simp only[vtC,mN,P',or_false]at a;rcases a with rfl|rfl|rfl|rfl|rfl|rfl|rfl|rfl<;>rfl
def vtL(l:List Vt):List Value:=l.flatMap vtC
theorem Nf(v:Vt)(l:List Vt):vtL (v::l)=vtC v++vtL l:=rfl
theorem Ul(l m:List Vt):vtL (l++m)=vtL l++vtL m:=by simp[vtL]
theorem Df(l:List Vt):(vtL l).length=l.length*8:=by
 induction l with
 | nil=>rfl
 | cons v l ih=>rw[Nf,H',ih,CE,nc];omega
theorem Vw(l:List Vt):∀ u∈vtL l,u.oneCell'=true:=by
 intro u a;obtain⟨v,_,b⟩:=pE.1 a;exact fW v u b
theorem fX(l:List Vt)(i:Nat)(v:Vt)(h:l[i]?=some v)(j:Nat)(u:Value)(a:(vtC v)[j]?=some u):(vtL l)[8*i+j]?=some u:=by
 induction l generalizing i with
 | nil=>simp at h
 | cons x l ih =>
  have b:j<8:=by have:=(V'.1 a).1;rwa [CE]at this
  rw[Nf];cases i with
  | zero =>
   simp at h;subst h;rw[mQ (by rw[CE];omega)];simpa using a
  | succ i =>
   rw[mS (by rw[CE];omega),CE,show 8*(i+1)+j-8=8*i+j by omega];exact ih i (by simpa using h)
theorem cx(l:List Vt)(m:Nat)(u:Value)(h:(vtL l)[m]?=some u):∃ v,l[m/8]?=some v/\(vtC v)[m%8]?=some u:=by
 induction l generalizing m with
 | nil=>simp[vtL]at h
 | cons x l ih =>
  rw[Nf]at h
  rcases nG m 8 with hm|hm
  .rw[mQ (by rw[CE];omega)]at h
   exact⟨x,by rw[Nat.div_eq_of_lt hm];rfl,by rwa [qj hm]⟩
  .rw[mS (by rw[CE];omega),CE]at h
   obtain⟨v,a,b⟩:=ih (m-8) h;refine⟨v,?_,?_⟩
   .rw[show m/8=(m-8)/8+1 by omega];simpa using a
   .rw[show m%8=(m-8)%8 by omega];exact b
structure Sv(w:World)(x:Value)(l:List Vt):Prop where
 ex:∃ a cap,x=.slice a l.length cap/\l.length<=cap/\(a=none->cap=0)/\(l=[]\/∃ b off,a=some ⟨b,off,none⟩/\b<w.heap.size/\∀ i v,l[i]?=some v->w.rangeAt b (off+8*i) (vtC v))
 len:l.length<=2199023255488
variable{B base e g n:Nat}{P:Program}{Q:Exit->Act->World->Prop}{a:Act}{l:List Vt}{ops:Array Oper}{w w':World}{x:Value}
theorem Sv.af(h:Sv w x l)(e:Bw w w'):Sv w' x l:=by
 obtain⟨⟨a,c,rfl,g,n,d⟩,f⟩:=h;refine⟨⟨a,c,rfl,g,n,?_⟩,f⟩;rcases d with d|⟨b,off,ha,hbs,hcell⟩
 .exact .inl d
 .exact .inr ⟨b,off,ha,j' hbs e.size,λi v k j u m=>(e.cell (p:=⟨b,off+8*i+j,none⟩) hbs).trans (hcell i v k j u m)⟩
theorem Sv.nil(w:World):Sv w (.slice none 0 0) []:=⟨⟨none,0,rfl,by simp,by simp,.inl rfl⟩,by simp⟩
theorem Sv.shape(h:Sv w x l):∃ a cap,x=.slice a l.length cap:=by
 obtain⟨⟨a,cap,e,_⟩,_⟩:=h;exact⟨a,cap,e⟩
theorem Sv.spot{a:Option Addr}{c:Nat}(h:Sv w (.slice a n c) l)(i:Nat)(v:Vt)(f:l[i]?=some v):∃ b off,a=some ⟨b,off,none⟩/\b<w.heap.size/\w.rangeAt b (off+8*i) (vtC v):=by
 obtain⟨⟨j,d,e,k,m,g⟩,_⟩:=h;simp only[Value.slice.injEq]at e;obtain⟨rfl,rfl,rfl⟩:=e;rcases g with rfl|⟨b,off,rfl,hb,hcell⟩
 .simp at f
 .exact⟨b,off,rfl,hb,hcell i v f⟩
theorem Sv.lz(h:w.ownsRow base e 8 x l.length (vtL l))(f:l.length<=2199023255488):Sv w x l:=by
 refine⟨?_,f⟩;rcases h.2 with⟨rfl,h0⟩|⟨g,cap,cur,rfl,_,hg,hn,_,hcs,ht⟩
 .exact⟨none,0,by rw[h0],by omega,λ_=>rfl,.inl (Z' h0)⟩
 .refine⟨_,cap,rfl,hn,by simp,.inr ⟨g,0,rfl,(Q'.1 hg).1,λi v c j u d=>?_⟩⟩;have b:=h.cells (g:=g) rfl (8*i+j) u (fX l i v c j u d);have a:(⟨g,0,none⟩:Addr).add (8*i+j)=⟨g,8*i+j,none⟩:=by unfold Addr.add;split<;>simp_all
  rw[a]at b
  rw[nD];exact b
theorem NL(w:World)(c t ty e:Nat)(z:Value)(B:P.underlying t=some (.slice e))(h:(P.info? e).map (λi=>(i.zero,i.size,i.bytes))=some (some z,8,64))(r:z.cells.size=8)(x:Value)(l:List Vt)(d:w.ownsRow c e 8 x l.length (vtL l))(u:Value)(m:List Vt)(L:Sv w u m)(A:l.length+m.length<=2199023255552)(g:c<=w.heap.size) :
  ∃ v' w',(Builtin.append_ #[t,t] ty #[x,u]).run P w=.ok v' w'/\w'.ownsRow c e 8 v' (l++m).length (vtL (l++m))/\w.grownBy w' x.ownBlock:=by
 obtain⟨i,s,M,q,o⟩:=info_parts h;obtain⟨⟨a,n,rfl,N,I,C⟩,_⟩:=L;cases a with
 | none =>
  have p:=I rfl;subst p;have H:m=[]:=Z' (by omega);subst H;refine⟨x,w,?_,by simpa using d,⟨rfl,rfl,rfl,A' _,λ_ _ _=>rfl⟩⟩;exact run_append_owned_none (P:=P) (w:=w) c t ty e i 8 B s x l.length _ d
 | some ad =>
  have f:∀ j u,(vtL m)[j]?=some u->w.cell? (ad.add j)=some u:=by
   intro j u y;rcases C with rfl|⟨b,off,hab,_,hcell⟩
   .simp[vtL]at y
   .obtain rfl:ad=⟨b,off,none⟩:=by simpa using hab
    obtain⟨v,D,E⟩:=cx m j u y;have k:(⟨b,off,none⟩:Addr).add j=⟨b,off+j,none⟩:=by unfold Addr.add;split<;>simp_all
    rw[k];have F:=hcell (j/8) v D (j%8) u E
    rwa [show off+8*(j/8)+j%8=off+j by omega]at F
  obtain⟨v',w',K,J,G,_⟩:=run_append_own (P:=P) w c t ty e i z 8 64 B s M q o r (by decide) x l.length _ d ad m.length n (vtL m) (Df m) f (Vw m)
   (by unfold maxLen;omega) (by omega) g
  exact⟨v',w',K,by rw[Ul,H'];exact J,G⟩
theorem BE(w:World){c:List Oper}{o:Oper}(n:o.guard=none)(s x:Operand)(t:TypeId)(r:o.op=.call { callee:=.builtin .append,args:=#[s,x],argTypes:=#[t,t] })(b e:Nat)(z:Value)(A:P.underlying t=some (.slice e))(f:(P.info? e).map (λi=>(i.zero,i.size,i.bytes))=some (some z,8,64))(p:z.cells.size=8)(v u:Value)(y:a.eval s=v)(C:a.eval x=u)(l m:List Vt)(j:w.ownsRow b e 8 v l.length (vtL l))(B:Sv w u m)(g:l.length+m.length<=2199023255552)(d:b<=w.heap.size)(h:∀ v' w',w'.ownsRow b e 8 v' (l++m).length (vtL (l++m))->w.grownBy w' v.ownBlock->wpList P ops Q c (a.put o.dst v') w'):wpList P ops Q (o::c) a w:=by
 refine wpList_plain n λK q=>?_;obtain⟨v',w',k,D,E⟩:=NL (P:=P) w b t o.type e z A f p v l j u m B g d;unfold Oper.wp execOp;simp only[r,resolve,invoke,builtin,Sem.run_bind,Sem.run_pure,Result.andThen_ok,pD,nu,og,y,C,k];exact q _ _ (h v' w' D E)
theorem Sv.one(w:World)(v:Vt)(e:TypeId)(b:g=w.heap.size):Sv (w.alloc (.cells (vtA v) e)) (.slice (some ⟨g,0,none⟩) 1 1) [v]:=by
 subst b;refine⟨⟨_,1,rfl,A' _,by simp,.inr ⟨w.heap.size,0,rfl,by simp,λi u a j x c=>?_⟩⟩,by simp⟩;cases i with
 | zero =>
  simp at a;subst a;rw[cell_of_row _ _ (0+8*0+j) _ _ _ (heap_alloc_new w (.cells (vtA v) e))];simpa[vtA]using c
 | succ i=>simp at a
def zVt:Value:=.agg zV8
theorem EY:(prog.info? 140).map (λi=>(i.zero,i.size,i.bytes))=some (some zVt,8,64):=by kernel_rfl
theorem aZ(v:Vt):(prog.info? 140).map (·.size)=some (vtC v).length:=by show _=some 8;kernel_rfl
theorem S7:prog.elem 76=140:=by kernel_rfl
theorem TV(w:World):(Go.sizeOf 140).run prog w=.ok 8 w:=by
 obtain⟨i,b,_,a,_⟩:=info_parts EY;simp[sizeOf,typeInfo,b,a]
theorem JO(b o n c:Nat)(i:Nat)(a:i<n)(w:World):(Instr.indexAt 76 (.slice (some ⟨b,o,none⟩) n c) (.int .i64 (i:Int))).run prog w=.ok (.pointer (some ⟨b,o+8*i,none⟩)) w:=by
 rw[run_indexAt_slice (P:=prog) w 76 _ n c .i64 _ underlying76,if_pos ⟨by omega,by omega⟩,S7,TV];simp[Result.andThen,Addr.add_mid,Nat.mul_comm]
theorem Da{l:List Oper}(h:wpList P ops Q l a w):wpList P ops Q l a w:=h
theorem FW(l:List Vt)(k:Nat)(v:Vt)(h:l[k]?=some v):l.take (k+1)=l.take k++[v]:=by
 obtain⟨a,e⟩:=V'.1 h;rw[mU a,e]
def acA(p:Bal)(x:Value):Array Value:=#[.int .i64 p.r,.int .i64 p.n,x]
theorem XP:(prog.info? 75).map (·.size)=some 2:=by kernel_rfl
theorem T3(h:Below B w w'){b o:Nat}{cs:List Value}(a:b<B)(c:w.rangeAt b o cs):w'.rangeAt b o cs :=
 λj v d=>(h.cell (p:=⟨b,o+j,none⟩) a).trans (c j v d)
theorem EG{a:World}(h:Below B a w)(b:B<=g)(cs:Array Value):Below B a (w.setRow g cs) :=
 h.trans ⟨rfl,rfl,rfl,by simp,λk c=>setRow_other w g k cs (by omega)⟩
theorem gd{S:World->Prop}{op:Oper}(e:Region.wanted op (yielded ops a.tmps)=true)(x:Operand)(d:op.op=.load 140 x)(g:Nat)(f:a.eval x=.pointer (some ⟨g,0,none⟩))(v:Vt)(c:∀ w,S w->w.heap[g]?=some (.cells (vtA v) 140)):YieldsIf prog ops S op (.agg (vtA v)) a :=
 .inl ⟨e,λw b=>by
  unfold execOp;simp only[d,f,Instr.loadAt,Instr.sureAddr,Sem.run_bind,Sem.run_pure,Result.andThen_ok,run_loadVar_row w g 140 140 _ (0,0) _ (c w b) underlying140 rfl (show _=some (vtA v).size from aZ v)]⟩
theorem kH{P:Program}{fn:Func}{p u v:Tmp}{ty:TypeId}(h:fn.results=#[.cell p ty,.tmp u,.tmp v])(a:Array Value)(w:World)(g:Nat)(t:TypeId)(cs:Array Value)(fr:Nat × Nat)(d:TypeDesc)(i:a.getD p undef=.pointer (some ⟨g,0,none⟩))(e:w.heap[g]?=some (.cells cs t fr))(j:P.underlying ty=some d)(c:(match d with|.struct _|.array _ _=>true|_=>false)=true)(f:(P.info? ty).map (·.size)=some cs.size) :
  (results fn a).run P w=.ok (.tuple #[.agg cs,a.getD u undef,a.getD v undef]) w:=by
 have b:a[p]?.getD undef=.pointer (some ⟨g,0,none⟩):=by simpa using i
 simp[results,h,b,asAddr,run_loadVar_row w g t ty cs fr d e j c f]
theorem Ty{a:Nat}{v:Value}{xs:List Value}(h:w.ownsRow base e a v n xs)(b:∀ k,v.ownBlock=some k->w'.heap[k]?=w.heap[k]?):w'.ownsRow base e a v n xs:=by
 refine⟨h.1,?_⟩;rcases h.2 with h2|⟨g,cap,cur,hv,hb,hg,hr⟩
 .exact .inl h2
 .exact .inr ⟨g,cap,cur,hv,hb,(b g (by rw[hv];rfl)).trans hg,hr⟩
theorem jB(v:Vt):(prog.info? 140).map (·.size)=some (vtA v).size:=by show _=some 8;kernel_rfl
theorem gn{P:Program}{fn:Func}{p u:Tmp}{ty:TypeId}(h:fn.results=#[.cell p ty,.tmp u])(a:Array Value)(w:World)(g:Nat)(t:TypeId)(cs:Array Value)(fr:Nat × Nat)(d:TypeDesc)(i:a.getD p undef=.pointer (some ⟨g,0,none⟩))(e:w.heap[g]?=some (.cells cs t fr))(j:P.underlying ty=some d)(c:(match d with|.struct _|.array _ _=>true|_=>false)=true)(f:(P.info? ty).map (·.size)=some cs.size) :
  (results fn a).run P w=.ok (.tuple #[.agg cs,a.getD u undef]) w:=by
 have b:a[p]?.getD undef=.pointer (some ⟨g,0,none⟩):=by simpa using i
 simp[results,h,b,asAddr,run_loadVar_row w g t ty cs fr d e j c f]
def cmC(c:Cmd):Array Value:=cmA c.k c.c c.s c.n c.v
theorem dl(a b c d:Int):∀ w,(binOp .eql 75 (.agg #[.int .i64 a,.int .i64 b]) (.agg #[.int .i64 c,.int .i64 d])).run prog w=.ok (.bool (decide (a=c/\b=d))) w:=by
 intro w;rw[run_eql_struct,run_equalIn_agg w 9999 _ _ _ (by kernel_rfl) (by kernel_rfl)];unfold Program.fieldsOf;rw[underlying75];have e:=underlying3;simp[Op.eqFields,go_sem,e]
 repeat' split
 all_goals simp_all
theorem Y6(a b c d e f g h i j k l m n o p:Int):∀ w,(binOp .eql 140 (.agg #[.int .i64 a,.int .i64 b,.int .i64 c,.int .i64 d,.int .i64 e,.int .i64 f,.int .i64 g,.int .i64 h]) (.agg #[.int .i64 i,.int .i64 j,.int .i64 k,.int .i64 l,.int .i64 m,.int .i64 n,.int .i64 o,.int .i64 p])).run prog w=.ok (.bool (decide (a=i/\b=j/\c=k/\d=l/\e=m/\f=n/\g=o/\h=p))) w:=by
 intro w;rw[run_eql_struct,run_equalIn_agg w 9999 _ _ _ (by kernel_rfl) (by kernel_rfl)];unfold Program.fieldsOf;rw[underlying140];have q:=underlying3;have r:=underlying75;have s:=underlying49;simp[Op.eqFields,go_sem,q,r,s]
 repeat' split
 all_goals simp_all
end
end
section
section
def Nx(l:List Vt)(v:Vt):Nat->List Vt
 | 0=>[]
 | k+1=>Nx l v k++(if(k:Int)=v.bn then[v]else Ae l k)
variable{a b l:List Vt}{v:Vt}
theorem Ru(c:BR a)(d:BR b)(h:∀ x∈a,∀ y∈b,x.bn<y.bn):BR (a++b):=by
 induction a with
 | nil=>exact d
 | cons x xs ih =>
  refine⟨λu hu=>?_,ih c.2 (λy e=>h y (I' _ e))⟩;rcases U'.1 hu with hu|hu
  .exact c.1 u hu
  .exact h x O' u hu
theorem K9(h:BR l)(q:Vt->Bool):BR (l.filter q):=by
 induction l with
 | nil=>trivial
 | cons x xs ih =>
  rw[List.filter_cons];split
  .exact⟨λu a=>h.1 u (pR.1 a).1,ih h.2⟩
  .exact ih h.2
theorem aF(c:BR a)(d:BR b)(h:∀ u,u∈a↔u∈b):a=b:=by
 induction a generalizing b with
 | nil =>
  cases b with
  | nil=>rfl
  | cons y ys=>exact absurd ((h y).2 O') (P')
 | cons x xs ih =>
  cases b with
  | nil=>exact absurd ((h x).1 O') (P')
  | cons y ys =>
   have f:x=y:=by
    rcases mN.1 ((h x).1 O')with e|e
    .exact e
    .rcases mN.1 ((h y).2 O')with e'|e'
     .exact e'.symm
     .have:=c.1 y e';have:=d.1 x e;omega
   subst f;rw[ih c.2 d.2 (λu=>?_)];constructor
   .intro hu;rcases mN.1 ((h u).1 (I' _ hu))with rfl|e
    .have:=c.1 u hu;omega
    .exact e
   .intro hu;rcases mN.1 ((h u).2 (I' _ hu))with rfl|e
    .have:=d.1 u hu;omega
    .exact e
theorem Q9(k:Nat)(u:Vt):u∈Nx l v k↔(0<=u.bn/\u.bn<k)/\(u=v\/(u∈l/\u.bn≠v.bn)):=by
 induction k with
 | zero=>simp[Nx];omega
 | succ k ih =>
  rw[Nx,U',ih];by_cases a:(k:Int)=v.bn
  .rw[if_pos a,E'];constructor
   .rintro(⟨h1,h2⟩|rfl)
    .exact⟨by omega,h2⟩
    .exact⟨by omega,.inl rfl⟩
   .rintro⟨h1,rfl|⟨h2,h3⟩⟩
    .exact .inr rfl
    .exact .inl ⟨by omega,.inr ⟨h2,h3⟩⟩
  .rw[if_neg a,Be];constructor
   .rintro(⟨h1,h2⟩|⟨h1,h2⟩)
    .exact⟨by omega,h2⟩
    .exact⟨by omega,.inr ⟨h1,by omega⟩⟩
   .rintro⟨h1,rfl|⟨h2,h3⟩⟩
    .exact .inl ⟨by omega,.inl rfl⟩
    .by_cases h4:u.bn=k
     .exact .inr ⟨h2,h4⟩
     .exact .inl ⟨by omega,.inr ⟨h2,h3⟩⟩
theorem JL(h:BR l)(s:Int):(Ae l s).length<=1:=by
 match e:Ae l s with
 | []=>simp
 | [_]=>simp
 | x::y::r =>
  have a:BR (Ae l s):=K9 h _;have b:=(Be.1 (show x∈Ae l s by rw[e];simp)).2;have c:=(Be.1 (show y∈Ae l s by rw[e];simp)).2;rw[e]at a
  have:=a.1 y O';omega
theorem YK(v:Vt)(h:BR l)(k:Nat):(Nx l v k).length<=k:=by
 induction k with
 | zero=>simp[Nx]
 | succ k ih =>
  rw[Nx,H'];have:=JL h k;split
  .simp;omega
  .omega
theorem VV(v:Vt)(h:BR l)(k:Nat):BR (Nx l v k):=by
 induction k with
 | zero=>trivial
 | succ k ih =>
  rw[Nx];refine Ru ih ?_ ?_
  .split
   .exact⟨λu a=>(P' a).elim,trivial⟩
   .exact K9 h _
  .intro x hx y hy;have b:=((Q9 k x).1 hx).1;split at hy
   .obtain rfl:y=v:=by simpa using hy
    omega
   .have:=(Be.1 hy).2;omega
theorem dE(k:Nat)(h:BR l)(b:∀ u∈l,0<=u.bn/\u.bn<k)(c:0<=v.bn/\v.bn<k):Nx l v k=Bo l v:=by
 refine aF (VV v h k) (JF v h) λu=>?_;rw[Q9,BH h];constructor
 .exact λa=>a.2
 .rintro(rfl|⟨h1,h2⟩)
  .exact⟨c,.inl rfl⟩
  .exact⟨b u h1,.inr ⟨h1,h2⟩⟩
theorem Kx(l:List Vt)(u:Vt)(s:Int):Ae (l++[u]) s=Ae l s++(if u.bn=s then[u]else[]):=by
 unfold Ae;rw[oE];by_cases h:u.bn=s<;>simp[h]
theorem Xp(ls:List (List Vt))(j:Nat)(l:List Vt)(h:ls[j]?=some l):(ls.take (j+1)).flatten=(ls.take j).flatten++l:=by
 obtain⟨a,e⟩:=V'.1 h;rw[mU a,e];simp
theorem DD(a b:List Vt)(s:Int):Ae (a++b) s=Ae a s++Ae b s:=by unfold Ae;rw[oE]
end
end
section
open Go.RowKit
section
structure Sac(w:World)(x:Value)(ac:List Acc):Prop where
 ex:∃ a cap,x=.slice a ac.length cap/\(ac=[]\/∃ b off,a=some ⟨b,off,none⟩/\b<w.heap.size/\∀ (i:Nat) (A:Acc),ac[i]?=some A->∃ y,w.rangeAt b (off+3*i) [.int .i64 A.p.r,.int .i64 A.p.n,y]/\Sv w y A.vs)
 len:ac.length<=3518437208780
variable{ac:List Acc}{s:Int}{w:World}{x:Value}
theorem Sac.af{f:World}(h:Sac w x ac)(e:Bw w f):Sac f x ac:=by
 obtain⟨⟨a,c,rfl,d⟩,g⟩:=h;refine⟨⟨a,c,rfl,?_⟩,g⟩;rcases d with d|⟨b,off,ha,hbs,hc⟩
 .exact .inl d
 .refine .inr ⟨b,off,ha,j' hbs e.size,λi A l=>?_⟩;obtain⟨y,j,k⟩:=hc i A l;exact⟨y,T3 e hbs j,k.af e⟩
theorem Sac.shape(h:Sac w x ac):∃ a cap,x=.slice a ac.length cap:=by
 obtain⟨⟨a,cap,e,_⟩,_⟩:=h;exact⟨a,cap,e⟩
theorem Sac.spot{a:Option Addr}{n c:Nat}(h:Sac w (.slice a n c) ac)(i:Nat)(A:Acc)(f:ac[i]?=some A):∃ b off y,a=some ⟨b,off,none⟩/\b<w.heap.size/\w.rangeAt b (off+3*i) [.int .i64 A.p.r,.int .i64 A.p.n,y]/\Sv w y A.vs:=by
 obtain⟨⟨j,d,e,g⟩,_⟩:=h;simp only[Value.slice.injEq]at e;obtain⟨rfl,rfl,rfl⟩:=e;rcases g with rfl|⟨b,off,rfl,hb,hc⟩
 .simp at f
 .obtain⟨y,h3,h4⟩:=hc i A f;exact⟨b,off,y,rfl,hb,h3,h4⟩
theorem ix:prog.elem 200=78:=by kernel_rfl
theorem ju(w:World):(Go.sizeOf 78).run prog w=.ok 3 w:=by
 have h:(prog.info? 78).map (·.size)=some 3:=by kernel_rfl
 cases hi:prog.info? 78 with
 | none=>rw[hi]at h;cases h
 | some i =>
  rw[hi]at h
  simp at h;simp[sizeOf,typeInfo,hi,h]
theorem WS(b o n c:Nat)(i:Nat)(a:i<n)(w:World):(Instr.indexAt 200 (.slice (some ⟨b,o,none⟩) n c) (.int .i64 (i:Int))).run prog w=.ok (.pointer (some ⟨b,o+3*i,none⟩)) w:=by
 rw[run_indexAt_slice (P:=prog) w 200 _ n c .i64 _ underlying200,if_pos ⟨by omega,by omega⟩,ix,ju];simp[Result.andThen,Addr.add_mid,Nat.mul_comm]
def Dx(ac:List Acc)(s:Int):List Vt:=Ae (ac.map (·.vs)).flatten s
def CY(ac:List Acc)(s:Int):Int:=if ¬ ((0<=s/\s<=39)/\(1<=(ac.length:Int)/\(ac.length:Int)<=5))then 2 else if ¬ ∀ a∈ac,Ag a then 5 else if(Hi (Dx ac s) ac.length).isSome then 0 else 9
def CQ(ac:List Acc)(s:Int):Cmd:=if CY ac s=0 then((Hi (Dx ac s) ac.length).map (·.w)).getD ⟨0,0,0,0,0⟩else⟨0,0,0,0,0⟩
theorem D0(h:¬ ((0<=s/\s<=39)/\(1<=(ac.length:Int)/\(ac.length:Int)<=5))):CQ ac s=⟨0,0,0,0,0⟩/\CY ac s=2:=by
 have e:CY ac s=2:=if_pos h;exact⟨if_neg (by rw[e];decide),e⟩
theorem VA(h:(0<=s/\s<=39)/\(1<=(ac.length:Int)/\(ac.length:Int)<=5))(b:¬ ∀ a∈ac,Ag a):CQ ac s=⟨0,0,0,0,0⟩/\CY ac s=5:=by
 have e:CY ac s=5:=by unfold CY;rw[if_neg (λg=>g h),if_pos b]
 exact⟨if_neg (by rw[e];decide),e⟩
theorem Ye(h:(0<=s/\s<=39)/\(1<=(ac.length:Int)/\(ac.length:Int)<=5))(b:∀ a∈ac,Ag a)(c:Hi (Dx ac s) ac.length=none):CQ ac s=⟨0,0,0,0,0⟩/\CY ac s=9:=by
 have e:CY ac s=9:=by unfold CY;rw[if_neg (λg=>g h),if_neg (λg=>g b),c];rfl
 exact⟨if_neg (by rw[e];decide),e⟩
theorem Yf(h:(0<=s/\s<=39)/\(1<=(ac.length:Int)/\(ac.length:Int)<=5))(c:∀ a∈ac,Ag a){x:Vt}(b:Hi (Dx ac s) ac.length=some x):CQ ac s=x.w/\CY ac s=0:=by
 have e:CY ac s=0:=by unfold CY;rw[if_neg (λg=>g h),if_neg (λg=>g c),b];rfl
 exact⟨by unfold CQ;rw[if_pos e,b];rfl,e⟩
theorem ik{c:List Acc}(h:∀ a∈c,Ag a)(s:Int):(Ae (c.map (·.vs)).flatten s).length<=c.length:=by
 induction c with
 | nil=>simp[Ae]
 | cons a c ih =>
  have e:=JL (h a O').2.2 s;have f:=ih (λb d=>h b (I' _ d));simp only[nu,List.flatten_cons,nc];rw[DD,H'];omega
theorem Uf(ac:List Acc)(j:Nat)(a:Acc)(h:ac[j]?=some a):((ac.take (j+1)).map (·.vs)).flatten=((ac.take j).map (·.vs)).flatten++a.vs:=by
 obtain⟨b,e⟩:=V'.1 h;rw[mU b,e];simp
end
end
section
end
section
open Go.RowKit
section
def baA(b:Bal):Array Value:=#[.int .i64 b.r,.int .i64 b.n]
theorem OA(l:List Vt)(v:Vt):BR (l++[v])↔BR l/\∀ u∈l,u.bn<v.bn:=by
 induction l with
 | nil=>exact⟨λ_=>⟨trivial,λu hu=>(P' hu).elim⟩,λ_=>⟨λu hu=>(P' hu).elim,trivial⟩⟩
 | cons x xs ih =>
  show((∀ u∈xs++[v],x.bn<u.bn)/\BR (xs++[v]))↔((∀ u∈xs,x.bn<u.bn)/\BR xs)/\∀ u∈x::xs,u.bn<v.bn;rw[ih];constructor
  .rintro⟨h1,h2,h3⟩;refine⟨⟨λu hu=>h1 u (mJ _ hu),h2⟩,λu hu=>?_⟩;rcases mN.1 hu with rfl|hu
   .exact h1 v (mG _ O')
   .exact h3 u hu
  .rintro⟨⟨h1,h2⟩,h3⟩;refine⟨λu hu=>?_,h2,λu hu=>h3 u (I' _ hu)⟩;rcases U'.1 hu with hu|hu
   .exact h1 u hu
   .obtain rfl:u=v:=by simpa using hu
    exact h3 x O'
def Fr(a:Acc)(b:Bal):Bal:=if Cl a b=0 then b else⟨0,0⟩
def DM(a:Acc)(b:Bal):List Vt:=if Cl a b=0 then a.vs else[]
def BN(a:Acc)(v:Vt):Bal:=if AX a v=0 then v.b else⟨0,0⟩
def Bu(a:Acc)(v:Vt):List Vt:=if AX a v=0 then Bo a.vs v else[]
def H7(ls:List (List Vt))(s:Int):Cmd:=if Ck ls s=0 then((Gc ls s).map (·.w)).getD ⟨0,0,0,0,0⟩else⟨0,0,0,0,0⟩
def DR(ls:List (List Vt))(s:Int):Bool:=if Ck ls s=0 then(Gc ls s).isSome else false
variable{l:List Vt}{ls:List (List Vt)}{s:Int}
theorem Mr(h:¬ (0<=s/\s<=39)):H7 ls s=⟨0,0,0,0,0⟩/\DR ls s=false/\Ck ls s=2:=by
 have e:Ck ls s=2:=if_pos h;exact⟨if_neg (by rw[e];decide),if_neg (by rw[e];decide),e⟩
theorem T9(h:0<=s/\s<=39)(a:¬ ∀ l∈ls,∀ v∈l,Ah v):H7 ls s=⟨0,0,0,0,0⟩/\DR ls s=false/\Ck ls s=5:=by
 have e:Ck ls s=5:=by unfold Ck;rw[if_neg (λg=>g h),if_neg a]
 exact⟨if_neg (by rw[e];decide),if_neg (by rw[e];decide),e⟩
theorem bM{j:Nat}(h:ls[j]?=some l)(b:∀ l∈ls.take j,∀ v∈l,Ah v)(c:∀ v∈l,Ah v):∀ l∈ls.take (j+1),∀ v∈l,Ah v:=by
 obtain⟨d,e⟩:=V'.1 h;rw[mU d,e];intro l' a;rcases U'.1 a with g|g
 .exact b l' g
 .obtain rfl:l'=l:=by simpa using g
  exact c
theorem bO{k:Nat}{u:Vt}(h:l[k]?=some u)(a:∀ v∈l.take k,Ah v)(b:Ah u):∀ v∈l.take (k+1),Ah v:=by
 rw[FW l k u h];intro v c;rcases U'.1 c with g|g
 .exact a v g
 .obtain rfl:v=u:=by simpa using g
  exact b
def AP(d:List Int)(s:Int):Prop:=d.length<=100000/\0<=s/\s<=(d.length:Int)
instance (d:List Int) (s:Int):Decidable (AP d s):=by unfold AP;exact inferInstance
def Dc(d:List Int)(s:Int):Int:=if AP d s then 0 else 5
def Hr(d:List Int)(s:Int):List Int:=if AP d s then d else[]
def I0(d:List Int)(s:Int):Int:=if AP d s then(d.length:Int)else 0
def Gp(d:List Int)(s k:Int):Int:=if k<(d.length:Int)-s then s+k else(d.length:Int)
def Gn(d:List Int)(s k:Int):Int:=if ¬ AP d s then 5 else if k<0 then 2 else 0
def KK(d:List Int)(s k:Int):List Int:=if Gn d s k=0 then d.take (Gp d s k).toNat else[]
def KL(d:List Int)(s k:Int):Int:=if Gn d s k=0 then Gp d s k else 0
def tpA(x:Value)(s:Int):Array Value:=#[x,.int .i64 s]
theorem MX:(prog.info? 95).map (·.size)=some 2:=by kernel_rfl
theorem bU(x:Option Addr)(n c:Nat)(s:Int):(#[.slice x n c,.int .i64 s]:Array Value).all (·.oneCell')=true:=by simp[Value.oneCell']
end
end
section
section
def DQ(b:List Int):List Int:=(b.length:Int)::b
def AM(b:List Int):List Int:=DQ b++(dig (DQ b)).take 4
theorem CG(b:List Int):(DQ b).length=b.length+1:=rfl
theorem Bh(b:List Int):(AM b).length=b.length+5:=by
 unfold AM;rw[H',CG,X',AA];omega
def Bv(b:Bal):List Int:=1::(Ad b.r++Ad b.n)
def Bj(v:Vt):List Int:=2::(Ad v.bn++(Ad v.b.r++(Ad v.b.n++DW v.w.k v.w.c v.w.s v.w.n v.w.v)))
theorem K3(b:Bal):(Bv b).length=9:=rfl
theorem GO(v:Vt):(Bj v).length=33:=rfl
theorem WG(b:Bal):∀ x∈Bv b,0<=x/\x<256:=by
 intro x hx;rcases mN.1 hx with rfl|hx
 .omega
 .rcases U'.1 hx with hx|hx
  .exact Bd _ x hx
  .exact Bd _ x hx
theorem X0(v:Vt):∀ x∈Bj v,0<=x/\x<256:=by
 intro x hx;rcases mN.1 hx with rfl|hx
 .omega
 .rcases U'.1 hx with hx|hx
  .exact Bd _ x hx
  .rcases U'.1 hx with hx|hx
   .exact Bd _ x hx
   .rcases U'.1 hx with hx|hx
    .exact Bd _ x hx
    .exact Oa _ _ _ _ _ x hx
variable{N k m n:Nat}{a b c:Acc}{all:List Acc}{bs:List (List Int)}{r:List Int}
theorem LX{b:List Int}(a:∀ x∈b,0<=x/\x<256)(c:b.length<=255):∀ x∈DQ b,0<=x/\x<256:=by
 intro x hx;rcases mN.1 hx with rfl|hx
 .omega
 .exact a x hx
theorem Mz{b:List Int}(a:∀ x∈b,0<=x/\x<256)(c:b.length<=255):∀ x∈AM b,0<=x/\x<256:=by
 intro x hx;rcases U'.1 hx with hx|hx
 .exact LX a c x hx
 .exact DI _ x (mT hx)
def db(l:List Int):Cmd:=⟨Ac l 0,Ac l 4,Ac l 8,Ac l 12,Ac l 16⟩
def Gj(b:List Int):Bal:=⟨Ac b 1,Ac b 5⟩
def FZ(b:List Int):Vt:=⟨Ac b 1,⟨Ac b 5,Ac b 9⟩,db (b.drop 13)⟩
def DJ(a:Acc)(b:List Int):Option Acc :=
 if b.length=9/\b.getD 0 0=1 then(if Cl a (Gj b)=0 then some ⟨Gj b,a.vs⟩else none)
 else if b.length=33/\b.getD 0 0=2 then(if Cx (b.drop 13)=0 then(if AX a (FZ b)=0 then some ⟨(FZ b).b,Bo a.vs (FZ b)⟩else none)else none)
 else none
def Cc(r:List Int)(a:Acc):Option (Acc × Nat) :=
 if r=[]then none
 else if r.length<(r.getD 0 0).toNat+5 then none
 else if(dig (r.take ((r.getD 0 0).toNat+1))).take 4≠(r.drop ((r.getD 0 0).toNat+1)).take 4 then none
 else(DJ a ((r.take ((r.getD 0 0).toNat+1)).drop 1)).map λx=>(x,(r.getD 0 0).toNat+5)
def a0:Acc:=⟨⟨0,0⟩,[]⟩
def Ks(r:List Int)(p:Nat × Acc):Nat × Acc:=match Cc (r.drop p.1) p.2 with
 | none=>p
 | some (c,m)=>(p.1+m,c)
def itR(r:List Int):Nat->Nat × Acc
 | 0=>(0,a0)
 | k+1=>Ks r (itR r k)
def Eb(r:List Int):Nat × Acc:=itR r r.length
theorem ML(h:Cc r a=some (c,m)):5<=m/\m<=r.length:=by
 unfold Cc at h;split at h
 .cases h
 .split at h
  .cases h
  .split at h
   .cases h
   .obtain⟨x,_,e⟩:=ol.1 h;injection e with e1 e2
    omega
theorem Im{p:Nat × Acc}(h:Cc (r.drop p.1) p.2=none):Ks r p=p:=by
 unfold Ks;rw[h]
theorem FJ(h:Cc (r.drop n) b=some (c,m)):Ks r (n,b)=(n+m,c):=by
 unfold Ks;rw[show Cc (r.drop (n,b).1) (n,b).2=some (c,m)from h]
theorem Wg(h:itR r k=(n,b))(a:Cc (r.drop n) b=none)(j:Nat):itR r (k+j)=(n,b):=by
 induction j with
 | zero=>exact h
 | succ j ih =>
  rw[<- nO,itR,ih];exact Im a
theorem P9(h:itR r k=(n,b))(c:k<=r.length)(a:Cc (r.drop n) b=none):Eb r=(n,b):=by
 have:=Wg h a (r.length-k);rw[show k+(r.length-k)=r.length by omega]at this
 exact this
theorem YY(r:List Int)(k:Nat):(itR r k).1<=r.length:=by
 induction k with
 | zero=>exact mY _
 | succ k ih =>
  rw[itR];unfold Ks;split
  .exact ih
  .rename_i c m h
   have:=(ML h).2;rw[mM]at this
   show(itR r k).1+m<=r.length;omega
theorem OF{r':List Int}(h:Cc r a=some (c,m))(b:r'.take m=r.take m):Cc r' a=some (c,m):=by
 have s:=ML h;have d:m<=r'.length:=by
  have e:=congrArg List.length b;rw[X',X']at e
  omega
 unfold Cc at h;split at h
 .cases h
 rename_i p
 split at h
 .cases h
 rename_i q
 split at h
 .cases h
 rename_i f
 obtain⟨x,o,e⟩:=ol.1 h;injection e with e1 e2
 have i:r'.getD 0 0=r.getD 0 0:=by
  have e:=congrArg (λl=>l.getD 0 0) b;simp only[nE,nQ]at e ⊢;rw[if_pos (by omega),if_pos (by omega)]at e
  exact e
 have n:∀ k,k<=m->r'.take k=r.take k:=λk j=>by
  have e:=congrArg (List.take k) b;rw[pj,pj,n8 j]at e
  exact e
 have g:(r'.drop ((r.getD 0 0).toNat+1)).take 4=(r.drop ((r.getD 0 0).toNat+1)).take 4:=by
  have e:=congrArg (List.drop ((r.getD 0 0).toNat+1)) b;rw[p8,p8,show m-((r.getD 0 0).toNat+1)=4 by omega]at e
  exact e
 unfold Cc;rw[i,if_neg (by rintro rfl;simp at d;omega),if_neg (by omega),n _ (by omega),g,if_neg f,o,nK,e1,e2]
theorem Gu(r:List Int)(h:n+m<=N):((r.take N).drop n).take m=(r.drop n).take m:=by
 rw[p8,pj,n8 (by omega)]
theorem YZ(r:List Int)(k:Nat):(itR r k).1<=(itR r (k+1)).1:=by
 rw[itR];unfold Ks;split
 .exact A' _
 .show(itR r k).1<=(itR r k).1+_;omega
theorem Za(h:(itR r k).1<=N):itR (r.take N) k=itR r k:=by
 induction k with
 | zero=>rfl
 | succ k b =>
  have i:=YZ r k;have b:=b (by omega);rw[itR,b];cases e:Cc (r.drop (itR r k).1) (itR r k).2 with
  | none =>
   have a:Cc ((r.take N).drop (itR r k).1) (itR r k).2=none:=by
    cases e3:Cc ((r.take N).drop (itR r k).1) (itR r k).2 with
    | none=>rfl
    | some x =>
     obtain⟨c,m⟩:=x;have g:=(ML e3).2;rw[mM,X']at g
     have:=OF (r':=r.drop (itR r k).1) e3 (Gu r (by omega)).symm;rw[e]at this
     cases this
   rw[Im a,itR,Im e]
  | some x =>
   obtain⟨c,m⟩:=x;have d:itR r (k+1)=((itR r k).1+m,c):=by rw[itR];exact FJ e
   rw[d]at h ⊢
   have f:(itR r k).1+m<=N:=h;have a:=OF (r':=(r.take N).drop (itR r k).1) e (Gu r f);exact FJ a
theorem Vb(r:List Int):(Eb r).1<=r.length:=YY r r.length
theorem TX(b x:List Int)(a:Acc):Cc (AM b++x) a=(DJ a b).map λc=>(c,b.length+5):=by
 have d:=Bh b;have h:(AM b++x).getD 0 0=(b.length:Int):=rfl;have i:((b.length:Int)).toNat=b.length:=nI _;have j:(AM b++x).take (b.length+1)=DQ b:=by
  unfold AM;rw[mH,nt (by rw[CG];omega),mR (by rw[CG];omega)]
 have f:((AM b++x).drop (b.length+1)).take 4=(dig (DQ b)).take 4:=by
  unfold AM;rw[mH,ql (by rw[CG];omega),pl (by rw[CG];omega),oD,
   nt (by rw[X',AA];omega),pj]
  rfl
 unfold Cc;rw[h,i,if_neg (by intro e;have:=congrArg List.length e;rw[H',d]at this;simp at this),if_neg (by rw[H',d];omega),j,f,if_neg (λg=>g rfl)];rfl
theorem TY(b x:List Int)(a:Acc)(e:k<b.length+5):Cc ((AM b++x).take k) a=none:=by
 have d:=Bh b;cases k with
 | zero=>rfl
 | succ k =>
  have c:((AM b++x).take (k+1)).getD 0 0=(b.length:Int):=rfl;unfold Cc;rw[c,nI];split
  .rfl
  .rw[if_pos (by rw[X',H',d];omega)]
theorem Yz(a:Acc){b:Bal}(g:Ab b):DJ a (Bv b)=if Cl a b=0 then some ⟨b,a.vs⟩else none:=by
 have c:=g;unfold Ab at c;have d:Ac (Bv b) 1=b.r:=BP b.r (by omega) (by omega) [1] (Ad b.n);have f:Ac (Bv b) 5=b.n:=by
  have:=BP b.n (by omega) (by omega) (1::Ad b.r) [];rw[na]at this
  exact this
 have e:Gj (Bv b)=b:=by unfold Gj;rw[d,f]
 unfold DJ;rw[if_pos ⟨rfl,rfl⟩,e]
theorem Yo{k c s n v:Int}(h:Bn k c s n v=0):Cx (DW k c s n v)=0/\db (DW k c s n v)=⟨k,c,s,n,v⟩:=by
 have j:=Fj h;have i:=j.2;unfold InC at i;have a:=Ww k c s n v (by omega) (by omega);have b:=Wx k c s n v (by omega) (by omega);have d:=Wy k c s n v (by omega) (by omega);have e:=Tm k c s n v (by omega) (by omega);have f:=Tn k c s n v (by omega) (by omega);unfold Cx db;rw[if_neg (λg=>g (EC k c s n v)),a,b,d,e,f];exact⟨h,rfl⟩
theorem Y0(a:Acc){v:Vt}(p:Ah v):DJ a (Bj v)=if AX a v=0 then some ⟨v.b,Bo a.vs v⟩else none:=by
 have g:=p;unfold Ah Ab at g;obtain⟨d,⟨r,n⟩,⟨k,c,s,f,x⟩⟩:=v;simp only at g;have l:Ac (Bj ⟨d,⟨r,n⟩,⟨k,c,s,f,x⟩⟩) 1=d:=BP d (by omega) (by omega) [2] (Ad r++(Ad n++DW k c s f x));have m:Ac (Bj ⟨d,⟨r,n⟩,⟨k,c,s,f,x⟩⟩) 5=r:=BP r (by omega) (by omega) (2::Ad d) (Ad n++DW k c s f x);have o:Ac (Bj ⟨d,⟨r,n⟩,⟨k,c,s,f,x⟩⟩) 9=n:=BP n (by omega) (by omega) (2::(Ad d++Ad r)) (DW k c s f x);have i:(Bj ⟨d,⟨r,n⟩,⟨k,c,s,f,x⟩⟩).drop 13=DW k c s f x:=rfl;have j:=Yo (k:=k) (c:=c) (s:=s) (n:=f) (v:=x) g.2.2;have e:FZ (Bj ⟨d,⟨r,n⟩,⟨k,c,s,f,x⟩⟩)=⟨d,⟨r,n⟩,⟨k,c,s,f,x⟩⟩:=by unfold FZ;rw[l,m,o,i,j.2]
 unfold DJ;rw[if_neg (by rintro⟨h,_⟩;cases h),if_pos ⟨rfl,rfl⟩,e,i,if_pos j.1]
def AD(bs:List (List Int)):List Int:=bs.flatMap AM
theorem CF(l m:List (List Int)):AD (l++m)=AD l++AD m:=by simp[AD]
structure Chn(all:List Acc)(bs:List (List Int)):Prop where
 len:all.length=bs.length+1
 first:all[0]?=some a0
 step:∀ (i:Nat) (b:List Int) (a c:Acc),bs[i]?=some b->all[i]?=some a->all[i+1]?=some c->DJ a b=some c
theorem Chn.at(h:Chn all bs)(j:Nat)(b:j<=bs.length):∃ a,all[j]?=some a:=⟨_,G' (by have:=h.len;omega)⟩
theorem MT(a:List (List Int))(j:Nat)(b:List Int)(h:a[j]?=some b):a.take (j+1)=a.take j++[b]:=by
 obtain⟨c,e⟩:=V'.1 h;rw[mU c,e]
theorem LR(a:List (List Int))(j:Nat)(x:List Int):(AD a++x).drop (AD (a.take j)).length=AD (a.drop j)++x:=by
 have e:AD a=AD (a.take j)++AD (a.drop j):=by rw[<- CF,nU]
 rw[e,mH,ql (A' _),pl (A' _),oD]
theorem LS(a:List (List Int))(j:Nat)(b:List Int)(h:a[j]?=some b):AD (a.drop j)=AM b++AD (a.drop (j+1)):=by
 obtain⟨c,e⟩:=V'.1 h;rw[ny c,e];rfl
theorem Chn.it(h:Chn all bs)(x:List Int)(j:Nat)(l:j<=bs.length)(d:all[j]?=some a):itR (AD bs++x) j=((AD (bs.take j)).length,a):=by
 induction j generalizing a with
 | zero =>
  rw[h.first]at d
  obtain rfl:=nA d;rfl
 | succ j g =>
  obtain⟨i,c⟩:=h.at j (by omega);have g:=g (by omega) c;obtain⟨b,f⟩:∃ b,bs[j]?=some b:=⟨_,G' (by omega)⟩;have k:=h.step j b i a f c d;have e:Cc ((AD bs++x).drop (AD (bs.take j)).length) i=some (a,b.length+5):=by
   rw[LR,LS bs j b f,mH,TX,k];rfl
  rw[itR,g,FJ e,MT bs j b f,CF,H']
  congr 1
  show _=(AD (bs.take j)).length+(AD [b]).length;simp[AD,Bh]
theorem Q5(a:List (List Int)):a.length<=(AD a).length:=by
 induction a with
 | nil=>exact mY _
 | cons b a ih =>
  show a.length+1<=(AM b++AD a).length;rw[H',Bh];omega
theorem im(a:List (List Int))(k:Nat):∃ j,j<=a.length/\(AD (a.take j)).length<=k/\(j=a.length\/k<(AD (a.take (j+1))).length):=by
 have:∀ n,n<=a.length->∃ j,j<=n/\(AD (a.take j)).length<=k/\(j=n\/k<(AD (a.take (j+1))).length):=by
  intro n;induction n with
  | zero=>intro _;exact⟨0,A' _,by simp[AD],.inl rfl⟩
  | succ n ih =>
   intro d;obtain⟨j,c,b,h3⟩:=ih (by omega);rcases h3 with rfl|h3
   .rcases nG k (AD (a.take (j+1))).length with h4|h4
    .exact⟨j,by omega,b,.inr h4⟩
    .exact⟨j+1,A' _,h4,.inl rfl⟩
   .exact⟨j,by omega,b,.inr h3⟩
 exact this a.length (A' _)
theorem Chn.tQ(h:Chn all bs)(k:Nat):∃ j a,j<=bs.length/\all[j]?=some a/\Eb ((AD bs).take k)=((AD (bs.take j)).length,a)/\(AD (bs.take j)).length<=k/\(j=bs.length\/k<(AD (bs.take (j+1))).length):=by
 obtain⟨j,d,i,h3⟩:=im bs k;obtain⟨a,l⟩:=h.at j d;refine⟨j,a,d,l,?_,i,h3⟩;have f:=h.it [] j d l;rw[na]at f
 have g:itR ((AD bs).take k) j=((AD (bs.take j)).length,a):=by
  rw[Za (by rw[f];exact i),f]
 have c:=LR bs j [];rw[na,na]at c
 refine P9 g ?_ ?_
 .rw[X'];have m:=Q5 (bs.take j);rw[X']at m
  have n:(AD (bs.take j)).length<=(AD bs).length:=by
   have:=congrArg List.length c;rw[mM]at this
   have e:AD bs=AD (bs.take j)++AD (bs.drop j):=by rw[<- CF,nU]
   rw[e,H'];omega
  omega
 .rw[p8,c];rcases h3 with rfl|h3
  .rw[pl (A' _)];simp[AD,Cc]
  .rcases nG j bs.length with hj|hj
   .obtain⟨b,hb⟩:∃ b,bs[j]?=some b:=⟨_,G' hj⟩;rw[LS bs j b hb];refine TY b _ a ?_;rw[MT bs j b hb,CF,H']at h3
    have e:(AD [b]).length=b.length+5:=by simp[AD,Bh]
    omega
   .rw[pl hj];simp[AD,Cc]
end
end
section
open Go.RowKit
def fbO(r:List Int):Option (List Int) :=
 if r=[]then none
 else if r.length<(r.getD 0 0).toNat+5 then none
 else if(dig (r.take ((r.getD 0 0).toNat+1))).take 4≠(r.drop ((r.getD 0 0).toNat+1)).take 4 then none
 else some ((r.take ((r.getD 0 0).toNat+1)).drop 1)
theorem UD{r b:List Int}(h:fbO r=some b):b.length+5<=r.length/\b.length=(r.getD 0 0).toNat:=by
 unfold fbO at h;split at h
 .cases h
 .split at h
  .cases h
  .split at h
   .cases h
   .injection h with h
    subst h;rw[mM,X'];omega
theorem MK(r:List Int)(a:Acc):Cc r a=(fbO r).bind λb=>(DJ a b).map λc=>(c,b.length+5):=by
 have d:∀ b,fbO r=some b->b.length=(r.getD 0 0).toNat:=λb h=>(UD h).2;unfold Cc;unfold fbO at d ⊢;by_cases f:r=[]
 .rw[if_pos f,if_pos f];rfl
 .rw[if_neg f]at d ⊢
  rw[if_neg f];by_cases g:r.length<(r.getD 0 0).toNat+5
  .rw[if_pos g,if_pos g];rfl
  .rw[if_neg g]at d ⊢
   rw[if_neg g];by_cases i:(dig (r.take ((r.getD 0 0).toNat+1))).take 4≠(r.drop ((r.getD 0 0).toNat+1)).take 4
   .rw[if_pos i,if_pos i];rfl
   .rw[if_neg i]at d ⊢
    rw[if_neg i];have e:=d _ rfl;show _=(DJ a _).map _;rw[e]
theorem D4(l:List Int)(n i:Nat):Ac (l.drop n) i=Ac l (n+i):=by
 unfold Ac;simp only[nE,nJ,nO]
def Ig(a:Acc)(b:List Int):Int :=
 if b.length=9/\b.getD 0 0=1 then Cl a (Gj b)
 else if b.length=33/\b.getD 0 0=2 then(if Cx (b.drop 13)=0 then AX a (FZ b)else Cx (b.drop 13))
 else 3
def Gq(a:Acc)(b:List Int):Acc :=
 if b.length=9/\b.getD 0 0=1 then⟨Fr a (Gj b),DM a (Gj b)⟩
 else if b.length=33/\b.getD 0 0=2 then(if Cx (b.drop 13)=0 then⟨BN a (FZ b),Bu a (FZ b)⟩else a0)
 else a0
theorem Qv(a:Acc)(b:List Int):DJ a b=if Ig a b=0 then some (Gq a b)else none:=by
 unfold DJ Ig Gq;by_cases d:b.length=9/\b.getD 0 0=1
 .rw[if_pos d,if_pos d,if_pos d];by_cases c:Cl a (Gj b)=0
  .rw[if_pos c,if_pos c];unfold Fr DM;rw[if_pos c,if_pos c]
  .rw[if_neg c,if_neg c]
 .rw[if_neg d,if_neg d,if_neg d];by_cases c:b.length=33/\b.getD 0 0=2
  .rw[if_pos c,if_pos c,if_pos c];by_cases e:Cx (b.drop 13)=0
   .rw[if_pos e,if_pos e,if_pos e];by_cases f:AX a (FZ b)=0
    .rw[if_pos f,if_pos f];unfold BN Bu;rw[if_pos f,if_pos f]
    .rw[if_neg f,if_neg f]
   .rw[if_neg e,if_neg e,if_neg e]
  .rw[if_neg c,if_neg c,if_neg c,if_neg (by decide)]
def voV(l:List Int):Vt:=if Cx (l.drop 12)=0 then⟨Ac l 0,⟨Ac l 4,Ac l 8⟩,db (l.drop 12)⟩else⟨0,⟨0,0⟩,⟨0,0,0,0,0⟩⟩
theorem fT{l:List Int}(h:Cx (l.drop 12)=0):∃ m0 m1 m2 m3 m4:Int,KM (l.drop 12)=#[.int .i64 m0,.int .i64 m1,.int .i64 m2,.int .i64 m3,.int .i64 m4]/\voV l=⟨Ac l 0,⟨Ac l 4,Ac l 8⟩,⟨m0,m1,m2,m3,m4⟩⟩:=by
 refine⟨Ac (l.drop 12) 0,Ac (l.drop 12) 4,Ac (l.drop 12) 8,Ac (l.drop 12) 12,Ac (l.drop 12) 16,?_,?_⟩
 .unfold KM;rw[if_pos h];rfl
 .unfold voV;rw[if_pos h];rfl
theorem fS{l:List Int}(h:¬ Cx (l.drop 12)=0):KM (l.drop 12)=zV5/\voV l=⟨0,⟨0,0⟩,⟨0,0,0,0,0⟩⟩:=by
 unfold voV KM;rw[if_neg h,if_neg h];exact⟨rfl,rfl⟩
theorem RL(b:List Int)(h:Cx (b.drop 13)=0):voV (b.drop 1)=FZ b:=by
 unfold voV FZ;rw[pi,if_pos h,D4,D4,D4]
theorem L5(b:List Int):(⟨Ac (b.drop 1) 0,Ac (b.drop 1) 4⟩:Bal)=Gj b:=by
 unfold Gj;rw[D4,D4]
def G8(d:List Int)(s:Int):Acc:=if AP d s then(Eb d).2 else a0
def NI(d:List Int)(s:Int):Int:=if AP d s then((Eb d).1:Int)else 0
def JN(d:List Int)(s:Int):List Int:=if AP d s then d.take (Eb d).1 else[]
def MB(d:List Int)(s:Int):Int:=if AP d s then(if((Eb d).1:Int)<s then((Eb d).1:Int)else s)else 0
end
section
def GC(d:List Int)(s:Int)(k:Nat):Int:=if ¬ AP d s then 5 else if 100000<d.length+k then 8 else 0
def CJ(d:List Int)(s:Int)(may:Prop)[Decidable may] (b:List Int):Int:=if GC d s (b.length+5)≠0 then GC d s (b.length+5)else if may then 0 else 2
def FY(d:List Int)(s:Int)(may:Prop)[Decidable may] (b:List Int):List Int:=if CJ d s may b=0 then d++AM b else[]
def GR(d:List Int)(s:Int)(may:Prop)[Decidable may] (b:List Int):Int:=if CJ d s may b=0 then s else 0
theorem Ve{d:List Int}{s:Int}{k:Nat}(a:AP d s)(b:d.length+k<=100000):GC d s k=0:=by
 unfold GC;rw[if_neg (λg=>g a),if_neg (by omega)]
theorem eJ(b:Bal):Cl a0 b=if Ab b then 0 else 2:=by
 have a:Ag a0:=⟨.inr ⟨rfl,rfl⟩,λv c=>(P' c).elim,trivial⟩;unfold Cl;rw[if_neg (λg=>g a)];by_cases h:Ab b
 .rw[if_neg (λg=>g h),if_pos h,if_neg];intro g;unfold Ab at h;unfold Bal.lt a0 at g;simp only at g;omega
 .rw[if_pos h,if_neg h]
theorem fU(v:Vt):AX a0 v=if Ah v then 0 else 2:=by
 have a:Ag a0:=⟨.inr ⟨rfl,rfl⟩,λv c=>(P' c).elim,trivial⟩;unfold AX;rw[if_neg (λg=>g a)];by_cases h:Ah v
 .rw[if_neg (λg=>g h),if_pos h,if_neg];intro g;have b:=h.2.1;unfold Ab at b;unfold Bal.lt a0 at g;simp only at g;omega
 .rw[if_pos h,if_neg h]
end
section
open Go.RowKit
section
def BC{α:Type}(f:Nat->α)(i:Nat)(x:α):Nat->α:=λj=>if j=i then x else f j
variable{m:Cmd}{α:Type}
theorem P6(f:Nat->α)(i:Nat)(x:α):BC f i x i=x:=if_pos rfl
theorem P7(f:Nat->α){i j:Nat}(x:α)(h:j≠i):BC f i x j=f j:=if_neg h
structure Sto where
 V:Nat->Int
 L:Nat->Int
 C:Nat->Int
 A:Nat->Int
 R:Nat->Bool
def EB:Sto:=⟨λ_=>0,λ_=>0,λ_=>0,λ_=>0,λ_=>false⟩
def ClB(l c a:Int):Prop:=(0<=l/\l<=1048577)/\(l=0->c=0/\a=0)
instance (l c a:Int):Decidable (ClB l c a):=by unfold ClB;exact inferInstance
def VaB(v:Int):Prop:=0<=v/\v<=1073741824
instance (v:Int):Decidable (VaB v):=by unfold VaB;exact inferInstance
def I4(s:Sto):Prop:=(∀ i,i<8->VaB (s.V i))/\∀ i,i<8->ClB (s.L i) (s.C i) (s.A i)
noncomputable instance (s:Sto):Decidable (I4 s):=Classical.propDecidable _
theorem bm:I4 EB:=⟨λ_ _=>by unfold VaB EB;simp,λ_ _=>by unfold ClB EB;simp⟩
noncomputable def NN(s:Sto):Int:=if I4 s then 0 else 5
variable{s:Sto}
theorem fy(h:I4 s):NN s=0:=if_pos h
theorem Lr(h:¬ I4 s):NN s=5:=if_neg h
def ND(s:Sto)(m:Cmd):Int:=if m.k=1 then m.v else if m.k=2 then s.V m.n.toNat else 0
def Ml(s:Sto)(m:Cmd):Sto :=
 ⟨if m.k=1 then BC s.V m.n.toNat m.v else s.V,BC s.L m.c.toNat (m.s+1),BC s.C m.c.toNat 0,BC s.A m.c.toNat (ND s m),if m.k=3 then BC s.R m.n.toNat true else s.R⟩
def dnS(s:Sto)(m:Cmd):Sto:=if m.k≠0/\¬ m.s<s.L m.c.toNat/\s.R m.c.toNat=false then Ml s m else s
def dnC(s:Sto)(m:Cmd):Int :=
 if m.k=0 then 0 else if s.L m.c.toNat=m.s+1 then s.C m.c.toNat else if m.s<s.L m.c.toNat then 7 else if s.R m.c.toNat=true then 11 else 0
def dnA(s:Sto)(m:Cmd):Int :=
 if m.k=0 then 0 else if s.L m.c.toNat=m.s+1 then s.A m.c.toNat else if m.s<s.L m.c.toNat then 0 else if s.R m.c.toNat=true then 0 else ND s m
noncomputable def doE(s:Sto)(m:Cmd):Int:=if I4 s then m.e else 5
noncomputable def doS(s:Sto)(m:Cmd):Sto:=if doE s m=0 then dnS s m else EB
noncomputable def doC(s:Sto)(m:Cmd):Int:=if doE s m=0 then dnC s m else 0
noncomputable def doA(s:Sto)(m:Cmd):Int:=if doE s m=0 then dnA s m else 0
theorem de(h:I4 s):doE s m=m.e:=if_pos h
theorem S2(h:doE s m=0):doS s m=dnS s m:=if_pos h
theorem ip(h:doE s m=0):doC s m=dnC s m:=if_pos h
theorem io(h:doE s m=0):doA s m=dnA s m:=if_pos h
theorem Yv(h:doE s m≠0):doS s m=EB:=if_neg h
theorem Yr(h:doE s m≠0):doC s m=0:=if_neg h
theorem U0(h:m.e=0):(0<=m.k/\m.k<=3)/\InC m.c m.s m.n m.v:=Fj h
theorem U8(b:I4 s)(h:m.e=0):I4 (dnS s m):=by
 obtain⟨f,d⟩:=U0 h;unfold InC at d;unfold dnS;split
 .refine⟨λi a=>?_,λi a=>?_⟩
  .simp only[Ml];split
   .unfold BC;split
    .unfold VaB;omega
    .exact b.1 i a
   .exact b.1 i a
  .simp only[Ml];by_cases e:i=m.c.toNat
   .subst e;rw[P6,P6,P6];unfold ClB;omega
   .rw[P7 _ _ e,P7 _ _ e,P7 _ _ e];exact b.2 i a
 .exact b
end
end
section
def J9(Q:Nat->Bool):Nat:=(Q 0).toNat+(Q 1).toNat+(Q 2).toNat+(Q 3).toNat+(Q 4).toNat
theorem IR(Q R:Nat->Bool)(d:3<=J9 Q)(e:3<=J9 R):∃ q,q<5/\Q q=true/\R q=true:=by
 apply qA;intro h;have a:∀ q,q<5->(Q q).toNat+(R q).toNat<=1:=by
  intro q f;cases b:Q q<;>cases c:R q<;>simp;exact h ⟨q,f,b,c⟩
 have g:=a 0 (by omega);have b:=a 1 (by omega);have c:=a 2 (by omega);have i:=a 3 (by omega);have j:=a 4 (by omega);unfold J9 at d e;omega
section
variable{γ:Type}
section
def Ch(H:Nat->Nat->Int->γ->Prop)(s:Nat)(b:Int)(c:γ):Prop:=∃ Q:Nat->Bool,3<=J9 Q/\∀ q,q<5->Q q=true->H q s b c
def Ej(H:Nat->Nat->Int->γ->Prop)(P:Nat->Int)(s:Nat)(b:Int)(c:γ):Prop :=
 ∃ Q:Nat->Bool,3<=J9 Q/\(∀ q,q<5->Q q=true->b<=P q) /\
  ((∀ q,q<5->Q q=true->∀ b' c',H q s b' c'->b<=b') \/
   ∃ b0,b0<b/\(∃ q,q<5/\Q q=true/\H q s b0 c)/\∀ q,q<5->Q q=true->∀ b' c',H q s b' c'->b'<b->b'<=b0)
structure PInv(H:Nat->Nat->Int->γ->Prop)(P:Nat->Int):Prop where
 le:∀ n s b c,H n s b c->0<b/\b<=P n
 uniq:∀ n n' s b c c',H n s b c->H n' s b c'->c=c'
 safe:∀ n s b c,H n s b c->Ej H P s b c
variable{H:Nat->Nat->Int->γ->Prop}{P:Nat->Int}{b b' b1:Int}{c c1:γ}{n s:Nat}
theorem PInv.sH(h:PInv H P)(l:Ch H s b1 c1):∀ (m:Nat) (b2:Int) (c2:γ) (n:Nat),b2.toNat=m->b1<b2->H n s b2 c2->c2=c1:=by
 intro m;induction m using Nat.strongRecOn with
 | ind m ih =>
  intro b2 c2 n t f j;have u:=(h.le n s b2 c2 j).1;obtain⟨Q,o,r,d⟩:=h.safe n s b2 c2 j;obtain⟨k,c,e⟩:=l;obtain⟨q,g,b,i⟩:=IR Q k o c;have a:=e q g i;rcases d with d|⟨b0,hb0,⟨q0,hq0,hq0Q,hv0⟩,hmax⟩
  .have:=d q g b b1 c1 a;omega
  .have hle:=hmax q g b b1 c1 a f;have p:=(h.le q0 s b0 c2 hv0).1;rcases(by omega:b1=b0\/b1<b0)with rfl|hlt0
   .exact h.uniq q0 q s b1 c2 c1 hv0 a
   .exact ih b0.toNat (by omega) b0 c2 q0 rfl hlt0 hv0
theorem PInv.agree(h:PInv H P){b2:Int}{d:γ}(f:Ch H s b1 c1)(g:Ch H s b2 d):c1=d:=by
 have a:∀ {b:Int} {c:γ},Ch H s b c->∃ n,H n s b c:=by
  rintro b c ⟨Q,i,o⟩;obtain⟨q,p,e,_⟩:=IR Q Q i i;exact⟨q,o q p e⟩
 obtain⟨j,l⟩:=a f;obtain⟨k,m⟩:=a g;rcases(by omega:b1<b2\/b1=b2\/b2<b1)with hlt|rfl|hlt
 .exact(h.sH f _ b2 d k rfl hlt m).symm
 .exact h.uniq j k s b1 c1 d l m
 .exact h.sH g _ b1 c1 j rfl hlt l
def upP(P:Nat->Int)(n:Nat)(b:Int):Nat->Int:=λi=>if i=n then b else P i
theorem Na(h:P n<=b)(q:Nat):P q<=upP P n b q:=by
 unfold upP;split
 .rename_i e;rw[e];exact h
 .exact mE _
theorem Ej.up(h:Ej H P s b c)(g:P n<=b'):Ej H (upP P n b') s b c:=by
 obtain⟨Q,e,d,f⟩:=h;exact⟨Q,e,λq i a=>mX (d q i a) (Na g q),f⟩
theorem PInv.al(h:PInv H P)(e:P n<=b):PInv H (upP P n b) :=
 ⟨λm s a c d=>⟨(h.le m s a c d).1,mX (h.le m s a c d).2 (Na e m)⟩,h.uniq,λm s a c d=>(h.safe m s a c d).up e⟩
def gP(H:Nat->Nat->Int->γ->Prop)(n s:Nat)(b:Int)(c:γ):Nat->Nat->Int->γ->Prop:=λn' s' b' c'=>H n' s' b' c'\/(n'=n/\s'=s/\b'=b/\c'=c)
theorem Ej.bN(h:Ej H P s b c){t:Nat}{m:γ}(l:P n<=b'):Ej (gP H n t b' m) (upP P n b') s b c:=by
 obtain⟨Q,o,i,j⟩:=h;refine⟨Q,o,λq d a=>mX (i q d a) (Na l q),?_⟩;rcases j with j|⟨b0,hb0,⟨q0,hq0,hq0Q,hv0⟩,hmax⟩
 .left;intro q d a f g e;rcases e with e|⟨rfl,rfl,rfl,rfl⟩
  .exact j q d a f g e
  .exact mX (i q d a) l
 .right;refine⟨b0,hb0,⟨q0,hq0,hq0Q,.inl hv0⟩,?_⟩;intro q d a f g e k;rcases e with e|⟨rfl,rfl,rfl,rfl⟩
  .exact hmax q d a f g e k
  .have:=i q d a;omega
theorem PInv.bN(h:PInv H P)(a:P n<=b)(e:0<b)(f:Ej H P s b c)(d:∀ m c',H m s b c'->c'=c):PInv (gP H n s b c) (upP P n b):=by
 refine⟨?_,?_,?_⟩
 .rintro m t b' c' (hv|⟨rfl,rfl,rfl,rfl⟩)
  .exact⟨(h.le m t b' c' hv).1,mX (h.le m t b' c' hv).2 (Na a m)⟩
  .exact⟨e,by unfold upP;rw[if_pos rfl];exact mE _⟩
 .rintro m m' t b' c' c2 (hv|⟨_,e1,e2,e3⟩) (hv'|⟨_,e1',e2',e3'⟩)
  .exact h.uniq m m' t b' c' c2 hv hv'
  .subst e1' e2' e3';exact d m c' hv
  .subst e1 e2 e3;exact(d m' c2 hv').symm
  .rw[e3,e3']
 .rintro m t b' c' (hv|⟨rfl,rfl,rfl,rfl⟩)
  .exact(h.safe m t b' c' hv).bN a
  .exact f.bN a
end
end
end
section
def upN{α:Type}(f:Nat->α)(n:Nat)(x:α):Nat->α:=λi=>if i=n then x else f i
theorem De{α:Type}(f:Nat->α)(n:Nat)(x:α):upN f n x n=x:=if_pos rfl
theorem Du{α:Type}(f:Nat->α){n i:Nat}(x:α)(h:i≠n):upN f n x i=f i:=if_neg h
end
section
theorem IV{l:List Vt}(h:BR l)(s:Int)(v:Vt):BQ (Ae l s) v<=(decide (v∈l/\v.bn=s)).toNat:=by
 induction l with
 | nil=>simp[BQ,Ae]
 | cons x xs c =>
  obtain⟨f,d⟩:=h;have c:=c d;have e:BQ (Ae (x::xs) s) v=(if x.bn=s/\x=v then 1 else 0)+BQ (Ae xs s) v:=by
   unfold BQ Ae;rw[List.filter_cons];by_cases a:x.bn=s
   .rw[if_pos (by simpa using a),pF];by_cases b:x=v
    .have h1':v.bn=s:=b▸a;simp[b,h1'];omega
    .simp[a,b]
   .rw[if_neg (by simpa using a)];simp[a]
  rw[e];by_cases a:x.bn=s/\x=v
  .have b:¬ (v∈xs/\v.bn=s):=λg=>by
    have:=f v g.1;rw[<- a.2]at this
    omega
   rw[D' b]at c
   rw[if_pos a,M' ⟨a.2▸O',a.2▸a.1⟩];simp at c ⊢;omega
  .rw[if_neg a];by_cases b:v∈xs/\v.bn=s
   .rw[M' b]at c
    rw[M' ⟨I' _ b.1,b.2⟩];omega
   .rw[D' b]at c
    simp at c ⊢;omega
theorem C1(l m:List Vt)(v:Vt):BQ (l++m) v=BQ l v+BQ m v:=by unfold BQ;rw[pS]
end
section
def Bb:Bal:=⟨0,0⟩
def VC:Cmd:=⟨0,0,0,0,0⟩
def vtz:Vt:=⟨0,Bb,VC⟩
def DV:Acc:=⟨Bb,[]⟩
structure Let where
 kind:Nat
 src:Nat
 dst:Nat
 fa:Bal
 bN:Vt
 lp:List Vt
 bn:Nat
 ed:List Cmd
def BJ(k:Nat):Let:=⟨k,0,0,Bb,vtz,[],0,[]⟩
inductive Pend where
 | began (b:Bal) (vs:List Vt)
 | prom (to:Nat) (b:Bal) (vs:List Vt)
 | voted (to:Nat) (v:Vt)
 | eb (to:Nat) (b:Bal)
 | prop (v:Vt)
 | askNews (to:Nat)
 | start
 | tell (to:Nat) (bn:Nat)
structure Rnd where
 fa:Bal
 oh:Nat->Bool
 aj:Nat->Acc
 bu:Nat->Nat
 next:Nat
 ew:List Cmd
def eY:Rnd:=⟨Bb,λ_=>false,λ_=>DV,λ_=>0,0,[]⟩
structure Tol where
 n:Nat
 c:Int
 s:Int
 e:Int
 a:Int
structure Nod where
 up:Bool
 d:List Int
 sy:Int
 bad:Nat
 vo:Acc
 bt:List Pend
 cn:Int
 an:Rnd
 ab:List Cmd
 done:Nat
 lr:Sto
 au:List Cmd
 bw:Cmd->Option Bal
structure Meet where
 ae:Nat->Nod
 br:List Let
 eo:List Tol
def Nod.bare(N:Nod)(up:Bool)(d:List Int)(sy:Int)(vo:Acc)(p:List Pend):Nod :=
 ⟨up,d,sy,N.bad,vo,p,0,eY,[],0,EB,[],λ_=>none⟩
def CZ:Nod:=⟨true,[],0,0,DV,[],0,eY,[],0,EB,[],λ_=>none⟩
def Au:Meet:=⟨λ_=>CZ,[],[]⟩
def Meet.put(M:Meet)(i:Nat)(N:Nod):Meet:={ M with ae:=upN M.ae i N }
def Nod.al(N:Nod)(b:Bal):Nod × List Vt × Int :=
 if Cl N.vo b≠0 then(N,[],Cl N.vo b)
 else if b=N.vo.p then({ N with vo:=⟨b,N.vo.vs⟩ },N.vo.vs,0)
 else if CJ N.d N.sy (Ab b) (Bv b)≠0 then(N,[],CJ N.d N.sy (Ab b) (Bv b))
 else({ N with d:=FY N.d N.sy (Ab b) (Bv b),sy:=GR N.d N.sy (Ab b) (Bv b),vo:=⟨b,N.vo.vs⟩ },N.vo.vs,0)
def Nod.bN(N:Nod)(v:Vt):Nod × Int :=
 if AX N.vo v≠0 then(N,AX N.vo v)
 else if v∈N.vo.vs then({ N with vo:=⟨v.b,Bo N.vo.vs v⟩ },0)
 else if CJ N.d N.sy (Ah v) (Bj v)≠0 then(N,CJ N.d N.sy (Ah v) (Bj v))
 else({ N with d:=FY N.d N.sy (Ah v) (Bj v),sy:=GR N.d N.sy (Ah v) (Bj v),vo:=⟨v.b,Bo N.vo.vs v⟩ },0)
def Nod.wait(N:Nod)(p:Pend):Nod:={ N with bt:=N.bt++[p] }
def Nod.eb(N:Nod)(to:Nat)(e:Int):Nod:=if e=7 then N.wait (.eb to N.vo.p)else N
def Nod.leads(N:Nod):Bool:=decide (N.an.fa≠Bb/\N.an.fa=N.vo.p)
def Rnd.rD(r:Rnd):Bool:=decide (5<2*J9 r.oh)
def Dh(a:Acc):List Vt->Acc
 | []=>a
 | v::l=>Dh (if AX a v=0 then⟨BN a v,Bu a v⟩else a) l
def Rnd.rK(r:Rnd)(j:Nat)(vs:List Vt):Rnd:={ r with oh:=upN r.oh j true,aj:=upN r.aj j (Dh ⟨r.fa,vs⟩ (r.aj j).vs) }
def Rnd.gC(r:Rnd):List Acc:=[r.aj 0,r.aj 1,r.aj 2,r.aj 3,r.aj 4]
def FE:Nat->Rnd->List Cmd->List Cmd
 | 0,_,l=>l
 | k+1,r,l=>if CY r.gC (l.length:Int)=0 then FE k r (l++[CQ r.gC (l.length:Int)])else l
def Nod.rA(N:Nod):Nod:={ N with ab:=FE 41 N.an N.ab }
def Nod.jv(N:Nod)(bn:Nat)(ed:List Cmd):Nod:={ N with ab:=N.ab++ed.drop (N.ab.length-bn) }
def Nod.count(N:Nod)(j:Nat)(v:Vt):Nod :=
 if v.b≠N.an.fa then N
 else if AX (N.an.aj j) v≠0 then N
 else Nod.rA { N with an:={ N.an with aj:=upN N.an.aj j ⟨BN (N.an.aj j) v,Bu (N.an.aj j) v⟩ } }
def Hj(q:List Cmd):List Cmd->List Cmd
 | []=>q
 | c::l=>Hj (if q.length<40/\c∉q then q++[c]else q) l
def Nod.dT(N:Nod)(ed:List Cmd):Nod:=if N.leads then{ N with an:={ N.an with ew:=Hj N.an.ew ed } }else N
def Ca(f:Cmd->Option Bal)(c:Cmd)(b:Option Bal):Cmd->Option Bal:=λx=>if x=c then b else f x
def Nod.want(N:Nod)(c:Cmd):Nod:=if(N.bw c).isSome then N else{ N with au:=N.au++[c],bw:=Ca N.bw c (some Bb) }
def Nod.fv(N:Nod)(c:Cmd):Nod:=if(N.bw c).isSome then{ N with au:=N.au.erase c,bw:=Ca N.bw c none }else N
def AZ(b:Bal)(f:Cmd->Option Bal):List Cmd->List Cmd × (Cmd->Option Bal)
 | []=>([],f)
 | c::l=>if(f c).getD Bb≠b then(c::(AZ b (Ca f c (some b)) l).1,(AZ b (Ca f c (some b)) l).2)else AZ b f l
def Nod.take(N:Nod)(l:Let):Nod :=
 match l.kind with
 | 0=>if(N.al l.fa).2.2≠0 then N.eb l.src (N.al l.fa).2.2 else(N.al l.fa).1.wait (.prom l.src l.fa (N.al l.fa).2.1)
 | 1=>let K:=N.jv 0 l.ed
  if K.leads=false\/l.fa≠K.an.fa\/K.an.oh l.src=true then K
  else Nod.rA { K with an:={ K.an.rK l.src l.lp with bu:=upN K.an.bu l.src l.ed.length } }
 | 2=>{ N with cn:=max N.cn l.fa.r }
 | 3=>if(N.bN l.bN).2≠0 then N.eb l.src (N.bN l.bN).2 else(N.bN l.bN).1.wait (.voted l.src l.bN)
 | 4=>N.count l.src l.bN
 | 5=>if N.ab.length<l.bn then N.wait (.askNews l.src)else N.jv l.bn l.ed
 | 6=>let K:=N.dT l.ed
  if l.bn<K.ab.length then K.wait (.tell l.src l.bn)else K
 | _=>N
def Meet.ni(M:Meet)(l:Let):Meet:=if(M.ae l.dst).up then M.put l.dst ((M.ae l.dst).take l)else M
def Nod.pd(N:Nod)(bn:Nat):Option Cmd :=
 if Ck (N.an.gC.map (·.vs)) (bn:Int)≠0 then none
 else if DR (N.an.gC.map (·.vs)) (bn:Int)then some (H7 (N.an.gC.map (·.vs)) (bn:Int))
 else N.an.ew.find? λc=>decide (c∉N.ab)
def Nod.cl(N:Nod):Nod :=
 if N.leads=false\/N.an.rD=false\/N.ab.length<N.an.next then N
 else match N.pd N.ab.length with
  | none=>N
  | some c =>
   if(N.bN ⟨(N.ab.length:Int),N.an.fa,c⟩).2≠0 then N
   else Nod.wait { (N.bN ⟨(N.ab.length:Int),N.an.fa,c⟩).1 with an:={ N.an with next:=N.ab.length+1 } } (.prop ⟨(N.ab.length:Int),N.an.fa,c⟩)
def Nod.lead(N:Nod)(i:Nat):Nod :=
 let b:Bal:=⟨max N.cn N.vo.p.r+1,(i:Int)⟩
 if(N.al b).2.2≠0 then N
 else Nod.wait { (N.al b).1 with an:=⟨b,λ_=>false,λ_=>DV,λ_=>N.ab.length,0,[]⟩ } (.began b (N.al b).2.1)
def Nod.kc(N:Nod)(k:Int):Nod:=if Gn N.d N.sy k≠0 then N else N.bare false (KK N.d N.sy k) (KL N.d N.sy k) DV []
def Nod.start(N:Nod):Nod :=
 if Dc N.d N.sy≠0 then N
 else if NI N.d N.sy<(N.d.length:Int)then N.bare true (JN N.d N.sy) (MB N.d N.sy) (G8 N.d N.sy) [.start]
 else N.bare true N.d N.sy (G8 N.d N.sy) [.start]
def Meet.move(M:Meet)(k:Int)(at_:Nat):Meet :=
 match M.br[at_%M.br.length]? with
 | none=>M
 | some l =>
  let A:=if k≠6 then{ M with br:=M.br.eraseIdx (at_%M.br.length) }else M
  if k≠5 then A.ni l else A
def Meet.rE(M:Meet):Meet:=M.br.foldl (λM l=>M.ni l) { M with br:=[] }
end
section
open Go.RowKit
section
def stA(s:Sto):Array Value:=#[.int .i64 (s.V 0),.int .i64 (s.V 1),.int .i64 (s.V 2),.int .i64 (s.V 3),.int .i64 (s.V 4),.int .i64 (s.V 5),.int .i64 (s.V 6),.int .i64 (s.V 7),.int .i64 (s.L 0),.int .i64 (s.L 1),.int .i64 (s.L 2),.int .i64 (s.L 3),.int .i64 (s.L 4),.int .i64 (s.L 5),.int .i64 (s.L 6),.int .i64 (s.L 7),.int .i64 (s.C 0),.int .i64 (s.A 0),.int .i64 (s.C 1),.int .i64 (s.A 1),.int .i64 (s.C 2),.int .i64 (s.A 2),.int .i64 (s.C 3),.int .i64 (s.A 3),.int .i64 (s.C 4),.int .i64 (s.A 4),.int .i64 (s.C 5),.int .i64 (s.A 5),.int .i64 (s.C 6),.int .i64 (s.A 6),.int .i64 (s.C 7),.int .i64 (s.A 7),.bool (s.R 0),.bool (s.R 1),.bool (s.R 2),.bool (s.R 3),.bool (s.R 4),.bool (s.R 5),.bool (s.R 6),.bool (s.R 7)]
theorem lH(s:Sto)(i:Nat)(h:i<8):(stA s)[i]?=some (.int .i64 (s.V i)):=by
 rcases(by omega:i=0\/i=1\/i=2\/i=3\/i=4\/i=5\/i=6\/i=7)with rfl|rfl|rfl|rfl|rfl|rfl|rfl|rfl<;>rfl
theorem lG(s:Sto)(i:Nat)(h:i<8):(stA s)[8+i]?=some (.int .i64 (s.L i)):=by
 rcases(by omega:i=0\/i=1\/i=2\/i=3\/i=4\/i=5\/i=6\/i=7)with rfl|rfl|rfl|rfl|rfl|rfl|rfl|rfl<;>rfl
theorem lF(s:Sto)(i:Nat)(h:i<8):(stA s)[16+i*2]?=some (.int .i64 (s.C i)):=by
 rcases(by omega:i=0\/i=1\/i=2\/i=3\/i=4\/i=5\/i=6\/i=7)with rfl|rfl|rfl|rfl|rfl|rfl|rfl|rfl<;>rfl
theorem lE(s:Sto)(i:Nat)(h:i<8):(stA s)[16+i*2+1]?=some (.int .i64 (s.A i)):=by
 rcases(by omega:i=0\/i=1\/i=2\/i=3\/i=4\/i=5\/i=6\/i=7)with rfl|rfl|rfl|rfl|rfl|rfl|rfl|rfl<;>rfl
def Bs(w:World)(g:Nat)(s:Sto):Prop:=w.heap[g]?=some (.cells (stA s) 89)
variable{g:Nat}{s:Sto}{w:World}
theorem Bs.tx(h:Bs w g s)(i:Nat)(a:i<8):w.cell? ⟨g,i,none⟩=some (.int .i64 (s.V i)):=(cell_of_row _ _ i _ _ _ h).trans (lH s i a)
theorem Bs.tf(h:Bs w g s)(i:Nat)(a:i<8):w.cell? ⟨g,8+i,none⟩=some (.int .i64 (s.L i)):=(cell_of_row _ _ (8+i) _ _ _ h).trans (lG s i a)
theorem Bs.ti(h:Bs w g s)(i:Nat)(a:i<8):w.cell? ⟨g,16+i*2,none⟩=some (.int .i64 (s.C i)):=(cell_of_row _ _ (16+i*2) _ _ _ h).trans (lF s i a)
theorem Bs.tg(h:Bs w g s)(i:Nat)(a:i<8):w.cell? ⟨g,16+i*2+1,none⟩=some (.int .i64 (s.A i)):=(cell_of_row _ _ (16+i*2+1) _ _ _ h).trans (lE s i a)
theorem iP(a b c d:Int):∀ w,(binOp .neq 85 (.agg #[.int .i64 a,.int .i64 b]) (.agg #[.int .i64 c,.int .i64 d])).run prog w=.ok (.bool (!decide (a=c/\b=d))) w:=by
 intro w;rw[run_neq_struct,run_equalIn_agg w 9999 _ _ _ (by kernel_rfl) (by kernel_rfl)];unfold Program.fieldsOf;rw[underlying85];have e:=underlying3;have f:=underlying45;simp[Op.eqFields,go_sem,e,f]
 repeat' split
 all_goals simp_all
theorem ej(a b:Int):∀ w,(binOp .neq 85 (.agg #[.int .i64 a,.int .i64 b]) (.agg #[.int .i64 0,.int .i64 0])).run prog w=.ok (.bool (!decide (a=0/\b=0))) w:=iP a b 0 0
def vaL(f:Nat->Int):List Value:=[.int .i64 (f 0),.int .i64 (f 1),.int .i64 (f 2),.int .i64 (f 3),.int .i64 (f 4),.int .i64 (f 5),.int .i64 (f 6),.int .i64 (f 7)]
def vaA(f:Nat->Int):Array Value:=(vaL f).toArray
theorem bZ(f:Nat->Int)(j:Nat)(u:Value)(h:(vaL f)[j]?=some u):j<8/\u=.int .i64 (f j):=by
 have a:j<8:=(V'.1 h).1;refine⟨a,?_⟩;rcases(by omega:j=0\/j=1\/j=2\/j=3\/j=4\/j=5\/j=6\/j=7)with rfl|rfl|rfl|rfl|rfl|rfl|rfl|rfl<;>(simp[vaL]at h;exact h.symm)
theorem Bs.sY(h:Bs w g s):w.rangeAt g 0 (vaL s.V):=by
 intro j u b;obtain⟨a,rfl⟩:=bZ _ _ _ b;rw[nD];exact h.tx j a
theorem Bs.ta(h:Bs w g s):w.rangeAt g 8 (vaL s.L):=by
 intro j u b;obtain⟨a,rfl⟩:=bZ _ _ _ b;exact h.tf j a
theorem j9(f:Nat->Int):(prog.info? 83).map (·.size)=some (vaL f).length:=by show _=some 8;kernel_rfl
theorem GQ{ops:Array Oper}{c:List Oper}{op:Oper}{a:Act}{Q:Exit->Act->World->Prop}(d:op.guard=none)(x:Operand)(g:op.op=.load 83 x)(b o:Nat)(i:a.eval x=.pointer (some ⟨b,o,none⟩))(f:Nat->Int)(e:w.rangeAt b o (vaL f))(h:wpList prog ops Q c (a.put op.dst (.agg (vaA f))) w):wpList prog ops Q (op::c) a w :=
 wpList_load_mid d 83 x g b o i (vaL f) _ e underlying83 rfl (j9 f) h
theorem Vs(f:Nat->Int)(i:Nat)(a:i<8)(w:World):(Instr.index 83 (.agg (vaA f)) (.int .i64 (i:Int))).run prog w=.ok (.int .i64 (f i)) w:=by
 rcases(by omega:i=0\/i=1\/i=2\/i=3\/i=4\/i=5\/i=6\/i=7)with rfl|rfl|rfl|rfl|rfl|rfl|rfl|rfl<;>kernel_rfl
structure NX where
 tape:S3
 lp:S3
 synced:S3
 ew:S3
 ab:S3
 au:S3
 hv:Nat->S3
 bw:Option Nat
def AF(i ob:Nat)(p:Nod)(x:NX):Array Value:=([iv (i:Int),.bool p.up,S3.v x.tape,iv p.sy,iv (p.bad:Int),pt ob 0,iv p.vo.p.r,iv p.vo.p.n,S3.v x.lp,S3.v x.synced,iv p.cn,iv p.an.fa.r,iv p.an.fa.n,.bool (p.an.oh 0),.bool (p.an.oh 1),.bool (p.an.oh 2),.bool (p.an.oh 3),.bool (p.an.oh 4),iv ((p.an.aj 0).p.r),iv ((p.an.aj 0).p.n),S3.v (x.hv 0),iv ((p.an.aj 1).p.r),iv ((p.an.aj 1).p.n),S3.v (x.hv 1),iv ((p.an.aj 2).p.r),iv ((p.an.aj 2).p.n),S3.v (x.hv 2),iv ((p.an.aj 3).p.r),iv ((p.an.aj 3).p.n),S3.v (x.hv 3),iv ((p.an.aj 4).p.r),iv ((p.an.aj 4).p.n),S3.v (x.hv 4),iv (p.an.bu 0:Int),iv (p.an.bu 1:Int),iv (p.an.bu 2:Int),iv (p.an.bu 3:Int),iv (p.an.bu 4:Int),iv (p.an.next:Int),S3.v x.ew,S3.v x.ab,iv (p.done:Int)]++((stA p.lr).toList++[S3.v x.au,.map x.bw])).toArray
def FD(l:Let)(vs wh:S3):Array Value:=#[iv (l.kind:Int),iv (l.src:Int),iv (l.dst:Int),iv l.fa.r,iv l.fa.n,iv l.bN.bn,iv l.bN.b.r,iv l.bN.b.n,iv l.bN.w.k,iv l.bN.w.c,iv l.bN.w.s,iv l.bN.w.n,iv l.bN.w.v,S3.v vs,iv (l.bn:Int),S3.v wh]
def GI(t:Tol):List Value:=[iv (t.n:Int),iv t.c,iv t.s,iv t.e,iv t.a]
def cmV(c:Cmd):List Value:=[iv c.k,iv c.c,iv c.s,iv c.n,iv c.v]
def cmL(l:List Cmd):List Value:=l.flatMap cmV
theorem Cw(l m:List Cmd):cmL (l++m)=cmL l++cmL m:=by simp[cmL]
theorem BO(l:List Cmd):(cmL l).length=l.length*5:=by
 induction l with
 | nil=>rfl
 | cons c l ih=>rw[cmL,oV,H'];show 5+(cmL l).length=_;rw[ih,nc];omega
theorem Pb(l:List Cmd):∀ u∈cmL l,u.oneCell'=true:=by
 intro u b;obtain⟨c,_,a⟩:=pE.1 b;simp only[cmV,mN,P',or_false]at a;rcases a with rfl|rfl|rfl|rfl|rfl<;>rfl
theorem Pa{l:List Cmd}{k:Nat}{c:Cmd}(h:l[k]?=some c){j:Nat}{u:Value}(a:(cmV c)[j]?=some u):(cmL l)[5*k+j]?=some u:=by
 induction l generalizing k with
 | nil=>cases h
 | cons d l ih =>
  rw[cmL,oV];cases k with
  | zero =>
   simp only[nX,Y']at h;subst h;rw[mQ (by have:=(V'.1 a).1;omega)];simpa using a
  | succ k =>
   rw[mS (by show 5<=_;omega),show 5*(k+1)+j-(cmV d).length=5*k+j by show 5*(k+1)+j-5=_;omega];exact ih (by simpa using h)
theorem LE(l:List Cmd)(k:Nat):(cmL l).drop (5*k)=cmL (l.drop k):=by
 induction l generalizing k with
 | nil=>simp[cmL]
 | cons c l ih =>
  cases k with
  | zero=>simp
  | succ k =>
   show(cmV c++cmL l).drop (5*(k+1))=cmL (l.drop k);rw[<- ih k,List.drop_append,show(cmV c).drop (5*(k+1))=[]from nw (by show 5<=_;omega),oD,show 5*(k+1)-(cmV c).length=5*k by show 5*(k+1)-5=_;omega]
def Frz(g:Gh)(x:S3):Prop:=∀ a,x.a=some a->g.t a.block=.z
structure FSl(g:Gh)(w:World)(x:S3)(l:List Int):Prop where
 s:Sl w x.v l
 z:l≠[]->Frz g x
structure FSv(g:Gh)(w:World)(x:S3)(l:List Vt):Prop where
 s:Sv w x.v l
 z:l≠[]->Frz g x
end
section
variable{B:Nat}{T:List Tg}{g g':Gh}{w w':World}
section
variable{b i nb ob r:Nat}{bs:List Nat}{f:Cmd->Option Bal}{l:List Let}{x:S3}
theorem Cg.zc(c:Cg B T g w g' w')(e:Tg.z∉T)(d:b<w.heap.size)(a:g.t b=.z):w'.heap[b]?=w.heap[b]?:=c.same b d (by rw[a];exact e) (λh=>by rw[a]at h;cases h)
theorem FSl.ch{l:List Int}(h:FSl g w x l)(c:Cg B T g w g' w')(u:Tg.z∉T:=by simp):FSl g' w' x l:=by
 obtain⟨⟨⟨a,q,p,n,o,j⟩,k,m⟩,r⟩:=h;simp only[Value.slice.injEq]at p;obtain⟨rfl,e,rfl⟩:=p;rcases j with j|⟨b,off,ha,hbs,hcell⟩
 .exact⟨⟨⟨_,_,by simp only[Value.slice.injEq,and_true,true_and];exact e,n,o,.inl j⟩,k,m⟩,λh=>absurd j h⟩
 .have hne:∀ _:l≠[],g.t b=.z:=λh=>r h _ ha;by_cases f:l=[]
  .exact⟨⟨⟨_,_,by simp only[Value.slice.injEq,and_true,true_and];exact e,n,o,.inl f⟩,k,m⟩,λh=>absurd f h⟩
  .refine⟨⟨⟨_,_,by simp only[Value.slice.injEq,and_true,true_and];exact e,n,o,.inr ⟨b,off,ha,j' hbs c.size,λi s=>?_⟩⟩,k,m⟩,λ_ v d=>?_⟩
   .rw[World.cell?_of_block (w:=w) (c.zc u hbs (hne f))];exact hcell i s
   .rw[ha]at d;simp only[Y']at d;subst d;rw[c.tag hbs (λh=>absurd ((hne f).symm.trans h) (by simp))];exact hne f
theorem FSv.ch{l:List Vt}(h:FSv g w x l)(c:Cg B T g w g' w')(y:Tg.z∉T:=by simp):FSv g' w' x l:=by
 obtain⟨⟨⟨a,p,o,m,n,f⟩,k⟩,q⟩:=h;simp only[Value.slice.injEq]at o;obtain⟨rfl,e,rfl⟩:=o;rcases f with f|⟨b,off,ha,hbs,hcell⟩
 .exact⟨⟨⟨_,_,by simp only[Value.slice.injEq,and_true,true_and];exact e,m,n,.inl f⟩,k⟩,λh=>absurd f h⟩
 .by_cases hl:l=[]
  .exact⟨⟨⟨_,_,by simp only[Value.slice.injEq,and_true,true_and];exact e,m,n,.inl hl⟩,k⟩,λh=>absurd hl h⟩
  .have hzb:g.t b=.z:=q hl _ ha;refine⟨⟨⟨_,_,by simp only[Value.slice.injEq,and_true,true_and];exact e,m,n,.inr ⟨b,off,ha,j' hbs c.size,λi v r j u s=>?_⟩⟩,k⟩,λ_ A d=>?_⟩
   .rw[World.cell?_of_block (w:=w) (c.zc y hbs hzb)];exact hcell i v r j u s
   .rw[ha]at d;simp only[Y']at d;subst d;rw[c.tag hbs (λh=>absurd (hzb.symm.trans h) (by simp))];exact hzb
structure Rc(g:Gh)(w:World)(x:S3)(l:List Cmd):Prop where
 len:x.n=l.length
 cap:x.n<=x.c
 sF:x.a=none->x.c=0
 ex:l=[]\/∃ b off,x.a=some ⟨b,off,none⟩/\b<w.heap.size/\(∀ j u,(cmL l)[j]?=some u->w.cell? ⟨b,off+j,none⟩=some u)/\(g.t b=.z\/off+5*l.length<=g.k b)
theorem Rc.nil(g:Gh)(w:World):Rc g w s30 []:=⟨rfl,A' _,λ_=>rfl,.inl rfl⟩
theorem Rc.ch{l:List Cmd}(h:Rc g w x l)(c:Cg B T g w g' w')(d:Tg.z∉T:=by simp):Rc g' w' x l:=by
 refine⟨h.len,h.cap,h.sF,?_⟩;rcases h.ex with h1|⟨b,off,h1,h2,h3,h4⟩
 .exact .inl h1
 .refine .inr ⟨b,off,h1,j' h2 c.size,λj u a=>?_,?_⟩
  .rcases h4 with h4|h4
   .rw[World.cell?_of_block (w:=w) (c.zc d h2 h4)];exact h3 j u a
   .have hjl:j<(cmL l).length:=(V'.1 a).1;rw[BO]at hjl
    rw[c.sf b h2 (off+j) (by omega)];exact h3 j u a
  .rcases h4 with h4|h4
   .exact .inl ((c.tag h2 (by rw[h4];intro h;cases h)).trans h4)
   .exact .inr (mF h4 (c.se b h2))
structure Box(g:Gh)(w:World)(b:Nat)(cs:Array Value)(t:TypeId):Prop where
 r:w.heap[b]?=some (.cells cs t)
 z:g.t b=.z
theorem Box.ch{cs:Array Value}{t:TypeId}(h:Box g w b cs t)(c:Cg B T g w g' w')(a:Tg.z∉T:=by simp):Box g' w' b cs t:=⟨(c.zc a (rl h.r) h.z).trans h.r,(c.tag (rl h.r) (by rw[h.z];intro h;cases h)).trans h.z⟩
def CP(g:Gh)(w:World)(b:Nat)(l:Let):Prop:=∃ vs wh,Box g w b (FD l vs wh) 142/\FSv g w vs l.lp/\Rc g w wh l.ed
theorem CP.ch{l:Let}(h:CP g w b l)(c:Cg B T g w g' w')(a:Tg.z∉T:=by simp):CP g' w' b l:=let ⟨vs,wh,h1,h2,h3⟩:=h;⟨vs,wh,h1.ch c a,h2.ch c a,h3.ch c a⟩
def Lx(g:Gh)(w:World)(nb:Nat)(v:Value):Pend->Prop
 | .began b vs=>∃ b1 b2 b3 x,v=.func (.func 58) #[] #[pt b1 0,pt b2 0,pt b3 0]/\Box g w b1 #[pt nb 0] 70/\Box g w b2 #[iv b.r,iv b.n] 75/\Box g w b3 #[S3.v x] 76/\FSv g w x vs
 | .prom to b vs=>∃ b1 b2 b3 x lb l,v=.func (.func 83) #[] #[pt b1 0,pt b2 0,pt b3 0]/\Box g w b1 #[pt nb 0] 70/\Box g w b2 #[pt lb 0] 143/\Box g w b3 #[S3.v x] 76/\FSv g w x vs/\CP g w lb l/\l.src=to/\l.fa=b
 | .voted to u=>∃ b1 b2 lb l,v=.func (.func 89) #[] #[pt b1 0,pt b2 0]/\Box g w b1 #[pt nb 0] 70/\Box g w b2 #[pt lb 0] 143/\CP g w lb l/\l.src=to/\l.bN=u
 | .eb to b=>∃ b1 b2 b3,v=.func (.func 122) #[] #[pt b1 0,pt b2 0,pt b3 0]/\Box g w b1 #[pt nb 0] 70/\Box g w b2 #[iv (to:Int)] 3/\Box g w b3 #[iv b.r,iv b.n] 75
 | .prop u=>∃ b1 b2,v=.func (.func 106) #[] #[pt b1 0,pt b2 0]/\Box g w b1 #[pt nb 0] 70/\Box g w b2 (vtA u) 140
 | .askNews to=>∃ b1 b2 lb l,v=.func (.func 91) #[] #[pt b1 0,pt b2 0]/\Box g w b1 #[pt nb 0] 70/\Box g w b2 #[pt lb 0] 143/\CP g w lb l/\l.src=to
 | .start=>∃ b1,v=.func (.func 71) #[] #[pt b1 0]/\Box g w b1 #[pt nb 0] 70
 | .tell to bn=>∃ b1 b2 lb l,v=.func (.func 93) #[] #[pt b1 0,pt b2 0]/\Box g w b1 #[pt nb 0] 70/\Box g w b2 #[pt lb 0] 143/\CP g w lb l/\l.src=to/\l.bn=bn
theorem Lx.ch{v:Value}{q:Pend}(h:Lx g w nb v q)(c:Cg B T g w g' w')(a:Tg.z∉T:=by simp):Lx g' w' nb v q:=by
 cases q with
 | began b vs=>obtain⟨d,i,o,x,e,f,j,k,m⟩:=h;exact⟨d,i,o,x,e,f.ch c a,j.ch c a,k.ch c a,m.ch c a⟩
 | prom to b vs=>obtain⟨d,i,o,x,n,l,e,f,j,k,m,p,r⟩:=h;exact⟨d,i,o,x,n,l,e,f.ch c a,j.ch c a,k.ch c a,m.ch c a,p.ch c a,r⟩
 | voted to u=>obtain⟨d,i,n,l,e,f,j,k,m⟩:=h;exact⟨d,i,n,l,e,f.ch c a,j.ch c a,k.ch c a,m⟩
 | eb to b=>obtain⟨d,i,o,e,f,j,k⟩:=h;exact⟨d,i,o,e,f.ch c a,j.ch c a,k.ch c a⟩
 | prop u=>obtain⟨d,i,e,f,j⟩:=h;exact⟨d,i,e,f.ch c a,j.ch c a⟩
 | askNews to=>obtain⟨d,i,n,l,e,f,j,k,m⟩:=h;exact⟨d,i,n,l,e,f.ch c a,j.ch c a,k.ch c a,m⟩
 | start=>obtain⟨d,e,f⟩:=h;exact⟨d,e,f.ch c a⟩
 | tell to bn=>obtain⟨d,i,n,l,e,f,j,k,m⟩:=h;exact⟨d,i,n,l,e,f.ch c a,j.ch c a,k.ch c a,m⟩
def mkA(x:Cmd × Bal × Nat):MapEntry:={ key:=.agg (cmV x.1).toArray,val:=.agg #[iv x.2.1.r,iv x.2.1.n],born:=x.2.2 }
structure AskAt(g:Gh)(w:World)(τ:Tg)(b:Nat)(f:Cmd->Option Bal):Prop where
 t:g.t b=τ
 k:g.k b=0
 ex:∃ (es:List (Cmd × Bal × Nat)) (clock:Nat),w.heap[b]?=some (.map (es.map mkA).toArray clock)/\(∀ x∈es,x.2.2<clock)/\(es.map (·.2.2)).Nodup/\(es.map (·.1)).Nodup/\∀ c,f c=(es.find? λx=>decide (c=x.1)).map (·.2.1)
def X7(g:Gh)(w:World)(i:Nat)(f:Cmd->Option Bal):Option Nat->Prop
 | some b=>AskAt g w (.n 5 i) b f
 | none=>f=λ_=>none
structure Pends(g:Gh)(w:World)(nb:Nat)(vs:List Value)(l:List Pend):Prop where
 len:vs.length=l.length
 at_:∀ (k:Nat) (v:Value) (q:Pend),vs[k]?=some v->l[k]?=some q->Lx g w nb v q
structure NodeAt(g:Gh)(w:World)(i nb ob:Nat)(x:NX)(p:Nod):Prop where
 row:w.heap[nb]?=some (.cells (AF i ob p x) 97)
 tag:g.t nb=.n 0 i
 se:g.k nb=0
 tape:FSl g w x.tape p.d
 lp:FSv g w x.lp p.vo.vs
 aj:∀ j,j<5->FSv g w (x.hv j) (p.an.aj j).vs
 bt:∃ vs,OwnS g w (.n 1 i) true 1 1 x.synced vs/\Pends g w nb vs p.bt
 ew:OwnS g w (.n 2 i) false 49 5 x.ew (cmL p.an.ew)
 ab:OwnS g w (.n 3 i) true 49 5 x.ab (cmL p.ab)
 au:OwnS g w (.n 4 i) false 49 5 x.au (cmL p.au)
 bw:X7 g w i p.bw x.bw
 sh:p.up=true->∃ b,x.bw=some b
structure Lets(g:Gh)(w:World)(bs:List Nat)(l:List Let):Prop where
 len:bs.length=l.length
 at_:∀ (k b:Nat) (m:Let),bs[k]?=some b->l[k]?=some m->CP g w b m
structure OutAt(g:Gh)(w:World)(ob:Nat)(lt tl:S3)(ls:List Let)(ts:List Tol):Prop where
 row:w.heap[ob]?=some (.cells #[lt.v,tl.v] 67)
 tag:g.t ob=.n 50 0
 se:g.k ob=0
 br:∃ bs,OwnS g w (.n 51 0) false 143 1 lt (bs.map (pt · 0))/\Lets g w bs ls
 eo:OwnS g w (.n 52 0) false 103 5 tl (ts.flatMap GI)
theorem Pends.ch{vs:List Value}{l:List Pend}(h:Pends g w nb vs l)(c:Cg B T g w g' w')(d:Tg.z∉T:=by simp):Pends g' w' nb vs l:=⟨h.len,λk v q a b=>(h.at_ k v q a b).ch c d⟩
theorem Lets.ch(h:Lets g w bs l)(c:Cg B T g w g' w')(d:Tg.z∉T:=by simp):Lets g' w' bs l:=⟨h.len,λk v q a b=>(h.at_ k v q a b).ch c d⟩
theorem Lets.snoc{m:Let}(h:Lets g w bs l)(f:CP g w b m):Lets g w (bs++[b]) (l++[m]):=by
 refine⟨by simp[h.len],λk c q a d=>?_⟩;by_cases e:k<bs.length
 .rw[mQ e]at a
  rw[mQ (by rw[<- h.len];exact e)]at d
  exact h.at_ k c q a d
 .rw[mS (by omega)]at a
  rw[mS (by rw[<- h.len];omega),<- h.len]at d
  cases hx:k-bs.length with
  | zero=>rw[hx]at a d;simp at a d;subst a d;exact f
  | succ n=>rw[hx]at a;simp at a
theorem Cg.rc(c:Cg B T g w g' w'){o:Obj}(h:w.heap[b]?=some o)(a:g.t b=.n r i)(hn:Tg.n r i∉T):w'.heap[b]?=some o/\g'.t b=.n r i/\g'.k b=g.k b :=
 ⟨(c.same b (rl h) (by rw[a];exact hn) (λh=>by rw[a]at h;cases h)).trans h,(c.tag (rl h) (by rw[a];intro h;cases h)).trans a,c.sO b (rl h) (by rw[a];exact hn) (by rw[a];intro h;cases h)⟩
theorem AskAt.ch(h:AskAt g w (.n r i) b f)(c:Cg B T g w g' w')(hn:Tg.n r i∉T:=by simp):AskAt g' w' (.n r i) b f:=by
 obtain⟨e,j,d,k,l,m⟩:=h;have a:=c.rc l e hn;exact⟨a.2.1,a.2.2.trans j,d,k,a.1,m⟩
theorem X7.ch{a:Option Nat}(h:X7 g w i f a)(c:Cg B T g w g' w')(hn:Tg.n 5 i∉T:=by simp):X7 g' w' i f a:=by
 cases a with
 | none=>exact h
 | some b=>exact AskAt.ch h c hn
theorem NodeAt.ch{x:NX}{p:Nod}(h:NodeAt g w i nb ob x p)(c:Cg B T g w g' w')(a:Tg.z∉T:=by simp)(hn:∀ r,r<6->Tg.n r i∉T:=by simp):NodeAt g' w' i nb ob x p:=by
 have b:=c.rc h.row h.tag (hn 0 (by omega));obtain⟨k,d,e⟩:=h.bt;exact⟨b.1,b.2.1,b.2.2.trans h.se,h.tape.ch c a,h.lp.ch c a,λj f=>(h.aj j f).ch c a,⟨k,d.ch c (hn 1 (by omega)) (by simp),e.ch c a⟩,h.ew.ch c (hn 2 (by omega)) (by simp),h.ab.ch c (hn 3 (by omega)) (by simp),h.au.ch c (hn 4 (by omega)) (by simp),h.bw.ch c (hn 5 (by omega)),h.sh⟩
theorem OutAt.ch{lt b:S3}{ls:List Let}{ts:List Tol}(h:OutAt g w ob lt b ls ts)(c:Cg B T g w g' w')(i:Tg.z∉T:=by simp)(hn:∀ r,50<=r->Tg.n r 0∉T:=by simp):OutAt g' w' ob lt b ls ts:=by
 have a:=c.rc h.row h.tag (hn 50 (by omega));obtain⟨d,e,f⟩:=h.br;exact⟨a.1,a.2.1,a.2.2.trans h.se,⟨d,e.ch c (hn 51 (by omega)) (by simp),f.ch c i⟩,h.eo.ch c (hn 52 (by omega)) (by simp)⟩
end
end
section
def TN(i:Nat):List Tg:=[.n 0 i,.n 1 i,.n 2 i,.n 3 i,.n 4 i,.n 5 i,.n 50 0,.n 51 0,.n 52 0,.n 60 0]
theorem BB(i:Nat):Tg.z∉TN i:=by simp[TN]
def NS(i nb ob:Nat)(g:Gh)(w:World)(p:Nod)(ls:List Let)(ts:List Tol):Prop:=∃ x lt tl,NodeAt g w i nb ob x p/\OutAt g w ob lt tl ls ts/\Jx g w
variable{B i nb ob:Nat}{T:List Tg}{e:TypeId}{g g':Gh}{l:List Pend}{ls:List Let}{p:Nod}{ts:List Tol}{w w':World}{x:S3}{τ:Tg}
theorem nsC{c:Nat}{x:NX}{lt b:S3}{L:List Sh}(d:NodeAt g w i nb ob x p)(e:OutAt g w ob lt b ls ts)(C:Cg B T g w g' w')(K:Kn c g' w' L)(a:Tg.z∉T:=by simp)(hn:∀ r,r<6->Tg.n r i∉T:=by simp)(f:∀ r,50<=r->Tg.n r 0∉T:=by simp):NS i nb ob g' w' p ls ts:=⟨x,lt,b,d.ch C a hn,e.ch C a f,K.new⟩
def NP(i nb ob:Nat)(g:Gh)(w:World)(v:Value)(p:Nod)(ls:List Let)(ts:List Tol):Ending->World->Prop:=λe w'=>∃ g',e=.returned v/\NS i nb ob g' w' p ls ts/\Cg w.heap.size (TN i) g w g' w'
theorem NS.new(h:NS i nb ob g w p ls ts):Jx g w:=let ⟨_,_,_,_,_,h⟩:=h;h
theorem NS.af(h:NS i nb ob g w p ls ts)(b:Bw w w'):NS i nb ob g w' p ls ts :=
 let ⟨x,lt,tl,h1,h2,h3⟩:=h
 have c:=Cg.cF (B:=0) (T:=[]) (g:=g) b
 ⟨x,lt,tl,h1.ch c,h2.ch c,λk a=>h3 k (mF b.size a)⟩
theorem NS.rH(h:NS i nb ob g w p ls ts)(c:Cg B [] g w g' w')(hn:Jx g' w'):NS i nb ob g' w' p ls ts :=
 let ⟨x,lt,tl,h1,h2,_⟩:=h
 ⟨x,lt,tl,h1.ch c,h2.ch c,hn⟩
theorem NodeAt.sg{b:Nat}{x:NX}(h:NodeAt g w i nb ob x p)(a:x.bw=some b):AskAt g w (.n 5 i) b p.bw:=by have:=h.bw;rw[a]at this;exact this
theorem Ci(h:∃ vs,OwnS g w (.n 1 i) true 1 1 x vs/\Pends g w nb vs l)(c:Cg B T g w g' w')(a:Tg.z∉T:=by simp)(hn:Tg.n 1 i∉T:=by simp):∃ vs,OwnS g' w' (.n 1 i) true 1 1 x vs/\Pends g' w' nb vs l :=
 let ⟨vs,h1,h2⟩:=h
 ⟨vs,h1.ch c hn (by simp),h2.ch c a⟩
theorem DY{l:List Let}(h:∃ bs:List Nat,OwnS g w (.n 51 0) false 143 1 x (bs.map (pt · 0))/\Lets g w bs l)(c:Cg B T g w g' w')(a:Tg.z∉T:=by simp)(hn:Tg.n 51 0∉T:=by simp):∃ bs:List Nat,OwnS g' w' (.n 51 0) false 143 1 x (bs.map (pt · 0))/\Lets g' w' bs l :=
 let ⟨bs,h1,h2⟩:=h
 ⟨bs,h1.ch c hn (by simp),h2.ch c a⟩
theorem BG{a:Nat->S3}{f:Nat->Acc}(h:∀ j,j<5->FSv g w (a j) (f j).vs)(c:Cg B T g w g' w')(d:Tg.z∉T:=by simp):∀ j,j<5->FSv g' w' (a j) (f j).vs:=λj b=>(h j b).ch c d
theorem Pends.snoc{vs:List Value}{v:Value}{q:Pend}(h:Pends g w nb vs l)(e:Lx g w nb v q):Pends g w nb (vs++[v]) (l++[q]):=by
 refine⟨by simp[h.len],λk c m a b=>?_⟩;by_cases d:k<vs.length
 .rw[mQ d]at a
  rw[mQ (by rw[<- h.len];exact d)]at b
  exact h.at_ k c m a b
 .rw[mS (by omega)]at a
  rw[mS (by rw[<- h.len];omega),<- h.len]at b
  cases hx:k-vs.length with
  | zero=>rw[hx]at a b;simp at a b;subst a b;exact e
  | succ n=>rw[hx]at a;simp at a
theorem OwnS.num{a:Bool}{l:List Cmd}(h:OwnS g w τ a e 5 x (cmL l)):x.n=l.length:=by have:=h.len;rw[BO]at this;omega
theorem OwnS.rc{l:List Cmd}(h:OwnS g w τ true e 5 x (cmL l)):Rc g w x l:=by
 have a:=h.num;rcases h.ex with⟨h1,h2,h3⟩|⟨b,cur,h1,h2,h3,h4,h5,h6,h7,h8⟩
 .exact⟨a,by omega,λ_=>h3,.inl (Z' (by omega))⟩
 .refine⟨a,h3,λh=>(by rw[h1]at h;cases h),.inr ⟨b,0,h1,rl h2,λj u c=>?_,.inr ?_⟩⟩
  .obtain⟨b',hb',_,hc⟩:=h.cell c;rw[h1]at hb'
   simp only[Y',Addr.mk.injEq,and_true]at hb';subst hb';rw[nD];exact hc
  .rw[h8,BO];simp;omega
end
end
end Go.Proofs.YtogibonjmbhliaaGreatDoor
