/- Part 4 of the walk. -/
import Derived.Great.BuildSlice
import Derived.Test.YtdjfdfpkkenjbabGreatDoorZ3
set_option maxRecDepth 100000
set_option maxHeartbeats 4000000
open Go.Proofs.Tryz
set_option linter.unusedVariables false
namespace Go.Proofs.YtdjfdfpkkenjbabGreatDoor
section
section
structure Bal where
 r:Int
 n:Int
theorem Bal.eq_iff(a b:Bal):(a.r=b.r/\a.n=b.n)↔a=b:=by
 cases a;cases b;simp
instance:DecidableEq Bal:=λa b=>decidable_of_iff _ (Bal.eq_iff a b)
structure Cmd where
 k:Int
 c:Int
 s:Int
 n:Int
 v:Int
theorem Cmd.eq_iff(a b:Cmd):(a.k=b.k/\a.c=b.c/\a.s=b.s/\a.n=b.n/\a.v=b.v)↔a=b:=by
 cases a;cases b;simp
instance:DecidableEq Cmd:=λa b=>decidable_of_iff _ (Cmd.eq_iff a b)
structure Vt where
 an:Int
 b:Bal
 w:Cmd
theorem Vt.eq_iff(a b:Vt):(a.an=b.an/\a.b=b.b/\a.w=b.w)↔a=b:=by
 cases a;cases b;simp
instance:DecidableEq Vt:=λa b=>decidable_of_iff _ (Vt.eq_iff a b)
instance:Inhabited Vt:=⟨⟨0,⟨0,0⟩,⟨0,0,0,0,0⟩⟩⟩
structure Acc where
 p:Bal
 vs:List Vt
def Bal.lt(a b:Bal):Prop:=a.r<b.r\/(a.r=b.r/\a.n<b.n)
instance (a b:Bal):Decidable (a.lt b):=by unfold Bal.lt;exact inferInstance
def Ac(a:Bal):Prop:=(1<=a.r/\a.r<=65536)/\0<=a.n/\a.n<=4
instance (a:Bal):Decidable (Ac a):=by unfold Ac;exact inferInstance
def Cmd.e(c:Cmd):Int:=Bb c.k c.c c.s c.n c.v
def Al(v:Vt):Prop:=(0<=v.an/\v.an<=39)/\Ac v.b/\v.w.e=0
instance (v:Vt):Decidable (Al v):=by unfold Al;exact inferInstance
def Bq(a:Bal):Prop:=Ac a\/(a.r=0/\a.n=0)
instance (a:Bal):Decidable (Bq a):=by unfold Bq;exact inferInstance
def BH:List Vt->Prop
 | []=>True
 | u::us=>(∀ v∈us,u.an<v.an)/\BH us
def UO:(l:List Vt)->Decidable (BH l)
 | []=>isTrue trivial
 | u::us=>@instDecidableAnd _ _ inferInstance (UO us)
instance (l:List Vt):Decidable (BH l):=UO l
def Av(a:Acc):Prop:=Bq a.p/\(∀ v∈a.vs,Al v/\¬ a.p.lt v.b)/\BH a.vs
instance (a:Acc):Decidable (Av a):=by unfold Av;exact inferInstance
def Fb(a:Acc):Int:=if Av a then 0 else 5
def CN(a:Acc)(b:Bal):Int:=if ¬ Av a then 5 else if ¬ Ac b then 2 else if b.lt a.p then 7 else 0
def B1(a:Acc)(v:Vt):Int:=if ¬ Av a then 5 else if ¬ Al v then 2 else if v.b.lt a.p then 7 else 0
def BA:List Vt->Vt->List Vt
 | [],v=>[v]
 | u::us,v=>if u.an<v.an then u::BA us v else if u.an=v.an then v::us else v::u::us
variable{l:List Vt}{v:Vt}
theorem LC{u:Vt}(h:BH l):u∈BA l v↔u=v\/(u∈l/\u.an≠v.an):=by
 induction l with
 | nil=>simp[BA]
 | cons x xs b =>
  obtain⟨c,a⟩:=h;have b:=b a;rw[BA];split
  .rename_i h1
   rw[mK,b];constructor
   .rintro(rfl|rfl|⟨h2,h3⟩)
    .exact .inr ⟨j',by omega⟩
    .exact .inl rfl
    .exact .inr ⟨V' _ h2,h3⟩
   .rintro(rfl|⟨h2,h3⟩)
    .exact .inr (.inl rfl)
    .rcases mK.1 h2 with rfl|h2
     .exact .inl rfl
     .exact .inr (.inr ⟨h2,h3⟩)
  .split
   .rename_i h1 h2
    rw[mK];constructor
    .rintro(rfl|h3)
     .exact .inl rfl
     .have:=c u h3;exact .inr ⟨V' _ h3,by omega⟩
    .rintro(rfl|⟨h3,h4⟩)
     .exact .inl rfl
     .rcases mK.1 h3 with rfl|h3
      .exact absurd h2 h4
      .exact .inr h3
   .rename_i h1 h2
    rw[mK];constructor
    .rintro(rfl|h3)
     .exact .inl rfl
     .rcases mK.1 h3 with rfl|h4
      .exact .inr ⟨h3,h2⟩
      .have:=c u h4;exact .inr ⟨h3,by omega⟩
    .rintro(rfl|⟨h3,h4⟩)
     .exact .inl rfl
     .exact .inr h3
theorem NG(v:Vt)(h:BH l):BH (BA l v):=by
 induction l with
 | nil=>exact⟨λu b=>(O' b).elim,trivial⟩
 | cons x xs ih =>
  obtain⟨c,a⟩:=h;rw[BA];split
  .rename_i h1
   refine⟨λu b=>?_,ih a⟩;rcases(LC a).1 b with rfl|⟨h2,_⟩
   .exact h1
   .exact c u h2
  .split
   .rename_i h1 h2
    exact⟨λu b=>by have:=c u b;omega,a⟩
   .rename_i h1 h2
    refine⟨λu b=>?_,c,a⟩;rcases mK.1 b with rfl|h3
    .omega
    .have:=c u h3;omega
def CZ:List Vt->Option Vt->Option Vt
 | [],o=>o
 | v::l,none=>CZ l (some v)
 | v::l,some u=>if u.b.lt v.b then CZ l (some v)else CZ l (some u)
def Am(l:List Vt)(s:Int):List Vt:=l.filter λv=>decide (v.an=s)
theorem Dj{s:Int}:v∈Am l s↔v∈l/\v.an=s:=by simp[Am]
def CW(ls:List (List Vt))(s:Int):Int:=if ¬ (0<=s/\s<=39)then 2 else if ∀ l∈ls,∀ v∈l,Al v then 0 else 5
def QD(ls:List (List Vt))(s:Int):Option Vt:=CZ (Am ls.flatten s) none
def CU(l:List Vt)(v:Vt):Nat:=l.countP λu=>decide (u=v)
def IZ(l:List Vt)(m:Nat):Option Vt:=l.find? λv=>decide (m<2*CU l v)
end
end
section
open Go.RowKit
section
def vtC(v:Vt):List Value:=[.int .i64 v.an,.int .i64 v.b.r,.int .i64 v.b.n,.int .i64 v.w.k,.int .i64 v.w.c,.int .i64 v.w.s,.int .i64 v.w.n,.int .i64 v.w.v]
def vtA(v:Vt):Array Value:=(vtC v).toArray
theorem Cd(v:Vt):(vtC v).length=8:=rfl
theorem fC(v:Vt):∀ u∈vtC v,u.oneCell'=true:=by
 intro u a;simp only[vtC,mK,O',or_false]at a;rcases a with rfl|rfl|rfl|rfl|rfl|rfl|rfl|rfl<;>rfl
def vtL(l:List Vt):List Value:=l.flatMap vtC
theorem Mv(v:Vt)(l:List Vt):vtL (v::l)=vtC v++vtL l:=rfl
theorem Uc(l m:List Vt):vtL (l++m)=vtL l++vtL m:=by simp[vtL]
theorem CE(l:List Vt):(vtL l).length=l.length*8:=by
 induction l with
 | nil=>rfl
 | cons v l ih=>rw[Mv,I',ih,Cd,mR];omega
theorem Ve(l:List Vt):∀ u∈vtL l,u.oneCell'=true:=by
 intro u a;obtain⟨v,_,b⟩:=pu.1 a;exact fC v u b
theorem fD(l:List Vt)(i:Nat)(v:Vt)(h:l[i]?=some v)(j:Nat)(u:Value)(a:(vtC v)[j]?=some u):(vtL l)[8*i+j]?=some u:=by
 induction l generalizing i with
 | nil=>simp at h
 | cons x l ih =>
  have b:j<8:=by have:=(Q'.1 a).1;rwa [Cd]at this
  rw[Mv];cases i with
  | zero =>
   simp at h;subst h;rw[mP (by rw[Cd];omega)];simpa using a
  | succ i =>
   rw[mQ (by rw[Cd];omega),Cd,show 8*(i+1)+j-8=8*i+j by omega];exact ih i (by simpa using h)
theorem bF(l:List Vt)(m:Nat)(u:Value)(h:(vtL l)[m]?=some u):∃ v,l[m/8]?=some v/\(vtC v)[m%8]?=some u:=by
 induction l generalizing m with
 | nil=>simp[vtL]at h
 | cons x l ih =>
  rw[Mv]at h
  rcases nO m 8 with hm|hm
  .rw[mP (by rw[Cd];omega)]at h
   exact⟨x,by rw[Nat.div_eq_of_lt hm];rfl,by rwa [p8 hm]⟩
  .rw[mQ (by rw[Cd];omega),Cd]at h
   obtain⟨v,a,b⟩:=ih (m-8) h;refine⟨v,?_,?_⟩
   .rw[show m/8=(m-8)/8+1 by omega];simpa using a
   .rw[show m%8=(m-8)%8 by omega];exact b
structure Sv(w:World)(x:Value)(l:List Vt):Prop where
 ex:∃ a cap,x=.slice a l.length cap/\l.length<=cap/\(a=none->cap=0)/\(l=[]\/∃ b off,a=some ⟨b,off,none⟩/\b<w.heap.size/\∀ i v,l[i]?=some v->w.rangeAt b (off+8*i) (vtC v))
 len:l.length<=2199023255488
variable{B base e n:Nat}{P:Program}{Q:Exit->Act->World->Prop}{a:Act}{l:List Vt}{ops:Array Oper}{w w':World}{x:Value}
theorem Sv.ab(h:Sv w x l)(e:Bw w w'):Sv w' x l:=by
 obtain⟨⟨a,c,rfl,g,n,d⟩,f⟩:=h;refine⟨⟨a,c,rfl,g,n,?_⟩,f⟩;rcases d with d|⟨b,off,ha,hbs,hcell⟩
 .exact .inl d
 .exact .inr ⟨b,off,ha,X' hbs e.size,λi v k j u m=>(e.cell (p:=⟨b,off+8*i+j,none⟩) hbs).trans (hcell i v k j u m)⟩
theorem Sv.nil(w:World):Sv w (.slice none 0 0) []:=⟨⟨none,0,rfl,by simp,by simp,.inl rfl⟩,by simp⟩
theorem Sv.shape(h:Sv w x l):∃ a cap,x=.slice a l.length cap:=by
 obtain⟨⟨a,cap,e,_⟩,_⟩:=h;exact⟨a,cap,e⟩
theorem Sv.spot{a:Option Addr}{c:Nat}(h:Sv w (.slice a n c) l)(i:Nat)(v:Vt)(f:l[i]?=some v):∃ b off,a=some ⟨b,off,none⟩/\b<w.heap.size/\w.rangeAt b (off+8*i) (vtC v):=by
 obtain⟨⟨j,d,e,k,m,g⟩,_⟩:=h;simp only[Value.slice.injEq]at e;obtain⟨rfl,rfl,rfl⟩:=e;rcases g with rfl|⟨b,off,rfl,hb,hcell⟩
 .simp at f
 .exact⟨b,off,rfl,hb,hcell i v f⟩
theorem Sv.eD(h:w.ownsRow base e 8 x l.length (vtL l))(f:l.length<=2199023255488):Sv w x l:=by
 refine⟨?_,f⟩;rcases h.2 with⟨rfl,h0⟩|⟨g,cap,cur,rfl,_,hg,hn,_,hcs,ht⟩
 .exact⟨none,0,by rw[h0],by omega,λ_=>rfl,.inl (mG h0)⟩
 .refine⟨_,cap,rfl,hn,by simp,.inr ⟨g,0,rfl,(D'.1 hg).1,λi v c j u d=>?_⟩⟩;have b:=h.cells (g:=g) rfl (8*i+j) u (fD l i v c j u d);have a:(⟨g,0,none⟩:Addr).add (8*i+j)=⟨g,8*i+j,none⟩:=by unfold Addr.add;split<;>simp_all
  rw[a]at b
  rw[nn];exact b
theorem Na(w:World)(c t s e:Nat)(z:Value)(C:P.underlying t=some (.slice e))(h:(P.info? e).map (λi=>(i.zero,i.size,i.bytes))=some (some z,8,64))(r:z.cells.size=8)(x:Value)(l:List Vt)(d:w.ownsRow c e 8 x l.length (vtL l))(u:Value)(m:List Vt)(M:Sv w u m)(B:l.length+m.length<=2199023255552)(g:c<=w.heap.size) :
  ∃ v' w',(Builtin.append_ #[t,t] s #[x,u]).run P w=.ok v' w'/\w'.ownsRow c e 8 v' (l++m).length (vtL (l++m))/\w.grownBy w' x.ownBlock:=by
 obtain⟨i,y,N,q,o⟩:=info_parts h;obtain⟨⟨a,n,rfl,O,J,D⟩,_⟩:=M;cases a with
 | none =>
  have p:=J rfl;subst p;have I:m=[]:=mG (by omega);subst I;refine⟨x,w,?_,by simpa using d,⟨rfl,rfl,rfl,A' _,λ_ _ _=>rfl⟩⟩;exact run_append_owned_none (P:=P) (w:=w) c t s e i 8 C y x l.length _ d
 | some ad =>
  have f:∀ j u,(vtL m)[j]?=some u->w.cell? (ad.add j)=some u:=by
   intro j u A;rcases D with rfl|⟨b,off,hab,_,hcell⟩
   .simp[vtL]at A
   .obtain rfl:ad=⟨b,off,none⟩:=by simpa using hab
    obtain⟨v,E,F⟩:=bF m j u A;have k:(⟨b,off,none⟩:Addr).add j=⟨b,off+j,none⟩:=by unfold Addr.add;split<;>simp_all
    rw[k];have G:=hcell (j/8) v E (j%8) u F
    rwa [show off+8*(j/8)+j%8=off+j by omega]at G
  obtain⟨v',w',L,K,H,_⟩:=run_append_own (P:=P) w c t s e i z 8 64 C y N q o r (by decide) x l.length _ d ad m.length n (vtL m) (CE m) f (Ve m)
   (by unfold maxLen;omega) (by omega) g
  exact⟨v',w',L,by rw[Uc,I'];exact K,H⟩
theorem Bh(w:World){k:Array Oper}{rest:List Oper}{o:Oper}{a:Act}{Q:Exit->Act->World->Prop}(n:o.guard=none)(s x:Operand)(t:TypeId)(r:o.op=.call { callee:=.builtin .append,args:=#[s,x],argTypes:=#[t,t] })(b e:Nat)(z:Value)(A:P.underlying t=some (.slice e))(d:(P.info? e).map (λi=>(i.zero,i.size,i.bytes))=some (some z,8,64))(p:z.cells.size=8)(v u:Value)(y:a.eval s=v)(C:a.eval x=u)(l m:List Vt)(g:w.ownsRow b e 8 v l.length (vtL l))(B:Sv w u m)(f:l.length+m.length<=2199023255552)(c:b<=w.heap.size)(h:∀ v' w',w'.ownsRow b e 8 v' (l++m).length (vtL (l++m))->w.grownBy w' v.ownBlock->wpList P k Q rest (a.put o.dst v') w'):wpList P k Q (o::rest) a w:=by
 refine wpList_plain n λK q=>?_;obtain⟨v',w',j,D,E⟩:=Na (P:=P) w b t o.type e z A d p v l g u m B f c;unfold Oper.wp execOp;simp only[r,resolve,invoke,builtin,Sem.run_bind,Sem.run_pure,Result.andThen_ok,po,mT,nJ,y,C,j];exact q _ _ (h v' w' D E)
theorem Sv.one(w:World)(v:Vt)(e:TypeId){g:Nat}(b:g=w.heap.size):Sv (w.alloc (.cells (vtA v) e)) (.slice (some ⟨g,0,none⟩) 1 1) [v]:=by
 subst b;refine⟨⟨_,1,rfl,A' _,by simp,.inr ⟨w.heap.size,0,rfl,by simp,λi u a j x c=>?_⟩⟩,by simp⟩;cases i with
 | zero =>
  simp at a;subst a;rw[cell_of_row _ _ (0+8*0+j) _ _ _ (heap_alloc_new w (.cells (vtA v) e))];simpa[vtA]using c
 | succ i=>simp at a
def zVt:Value:=.agg zV8
theorem E2:(prog.info? 184).map (λi=>(i.zero,i.size,i.bytes))=some (some zVt,8,64):=by kernel_rfl
theorem aG(v:Vt):(prog.info? 184).map (·.size)=some (vtC v).length:=by show _=some 8;kernel_rfl
theorem RW:prog.elem 124=184:=by kernel_rfl
theorem T4(w:World):(Go.sizeOf 184).run prog w=.ok 8 w:=by
 obtain⟨i,b,_,a,_⟩:=info_parts E2;simp[sizeOf,typeInfo,b,a]
theorem Jp(b o n c:Nat)(i:Nat)(a:i<n)(w:World):(Instr.indexAt 124 (.slice (some ⟨b,o,none⟩) n c) (.int .i64 (i:Int))).run prog w=.ok (.pointer (some ⟨b,o+8*i,none⟩)) w:=by
 rw[run_indexAt_slice (P:=prog) w 124 _ n c .i64 _ underlying124,if_pos ⟨by omega,by omega⟩,RW,T4];simp[Result.andThen,Addr.add_mid,Nat.mul_comm]
theorem CA{l:List Oper}(h:wpList P ops Q l a w):wpList P ops Q l a w:=h
theorem F1(l:List Vt)(k:Nat)(v:Vt)(h:l[k]?=some v):l.take (k+1)=l.take k++[v]:=by
 obtain⟨a,e⟩:=Q'.1 h;rw[mZ a,e]
def acA(p:Bal)(x:Value):Array Value:=#[.int .i64 p.r,.int .i64 p.n,x]
theorem X7:(prog.info? 123).map (·.size)=some 2:=by kernel_rfl
theorem Tf(h:Below B w w'){b o:Nat}{a:List Value}(c:b<B)(d:w.rangeAt b o a):w'.rangeAt b o a :=
 λj v e=>(h.cell (p:=⟨b,o+j,none⟩) c).trans (d j v e)
theorem Ei{a:World}(h:Below B a w){g:Nat}(c:B<=g)(b:Array Value):Below B a (w.setRow g b) :=
 h.trans ⟨rfl,rfl,rfl,by simp,λk d=>setRow_other w g k b (by omega)⟩
theorem fI{S:World->Prop}{op:Oper}(e:Region.wanted op (yielded ops a.tmps)=true)(x:Operand)(d:op.op=.load 184 x)(g:Nat)(f:a.eval x=.pointer (some ⟨g,0,none⟩))(v:Vt)(c:∀ w,S w->w.heap[g]?=some (.cells (vtA v) 184)):YieldsIf prog ops S op (.agg (vtA v)) a :=
 .inl ⟨e,λw b=>by
  unfold execOp;simp only[d,f,Instr.loadAt,Instr.sureAddr,Sem.run_bind,Sem.run_pure,Result.andThen_ok,run_loadVar_row w g 184 184 _ (0,0) _ (c w b) underlying184 rfl (show _=some (vtA v).size from aG v)]⟩
theorem kL{P:Program}{f:Func}{p u v:Tmp}{c:TypeId}(h:f.results=#[.cell p c,.tmp u,.tmp v])(a:Array Value)(w:World)(g:Nat)(t:TypeId)(b:Array Value)(fr:Nat × Nat)(d:TypeDesc)(l:a.getD p undef=.pointer (some ⟨g,0,none⟩))(j:w.heap[g]?=some (.cells b t fr))(m:P.underlying c=some d)(i:(match d with|.struct _|.array _ _=>true|_=>false)=true)(k:(P.info? c).map (·.size)=some b.size) :
  (results f a).run P w=.ok (.tuple #[.agg b,a.getD u undef,a.getD v undef]) w:=by
 have e:a[p]?.getD undef=.pointer (some ⟨g,0,none⟩):=by simpa using l
 simp[results,h,e,asAddr,run_loadVar_row w g t c b fr d j m i k]
theorem Tc{a:Nat}{v:Value}{b:List Value}(h:w.ownsRow base e a v n b)(c:∀ k,v.ownBlock=some k->w'.heap[k]?=w.heap[k]?):w'.ownsRow base e a v n b:=by
 refine⟨h.1,?_⟩;rcases h.2 with h2|⟨g,cap,cur,hv,hb,hg,hr⟩
 .exact .inl h2
 .exact .inr ⟨g,cap,cur,hv,hb,(c g (by rw[hv];rfl)).trans hg,hr⟩
theorem j6(v:Vt):(prog.info? 184).map (·.size)=some (vtA v).size:=by show _=some 8;kernel_rfl
theorem fY{P:Program}{f:Func}{p u:Tmp}{c:TypeId}(h:f.results=#[.cell p c,.tmp u])(a:Array Value)(w:World)(g:Nat)(t:TypeId)(b:Array Value)(fr:Nat × Nat)(d:TypeDesc)(l:a.getD p undef=.pointer (some ⟨g,0,none⟩))(j:w.heap[g]?=some (.cells b t fr))(m:P.underlying c=some d)(i:(match d with|.struct _|.array _ _=>true|_=>false)=true)(k:(P.info? c).map (·.size)=some b.size) :
  (results f a).run P w=.ok (.tuple #[.agg b,a.getD u undef]) w:=by
 have e:a[p]?.getD undef=.pointer (some ⟨g,0,none⟩):=by simpa using l
 simp[results,h,e,asAddr,run_loadVar_row w g t c b fr d j m i k]
def cmC(c:Cmd):Array Value:=cmA c.k c.c c.s c.n c.v
theorem cR(a b c d:Int):∀ w,(binOp .eql 123 (.agg #[.int .i64 a,.int .i64 b]) (.agg #[.int .i64 c,.int .i64 d])).run prog w=.ok (.bool (decide (a=c/\b=d))) w:=by
 intro w;rw[run_eql_struct,run_equalIn_agg w 9999 _ _ _ (by kernel_rfl) (by kernel_rfl)];unfold Program.fieldsOf;rw[underlying123];have e:=underlying3;simp[Op.eqFields,go_sem,e]
 repeat' split
 all_goals simp_all
theorem Yl(a b c d e f g h i j k l m n o p:Int):∀ w,(binOp .eql 184 (.agg #[.int .i64 a,.int .i64 b,.int .i64 c,.int .i64 d,.int .i64 e,.int .i64 f,.int .i64 g,.int .i64 h]) (.agg #[.int .i64 i,.int .i64 j,.int .i64 k,.int .i64 l,.int .i64 m,.int .i64 n,.int .i64 o,.int .i64 p])).run prog w=.ok (.bool (decide (a=i/\b=j/\c=k/\d=l/\e=m/\f=n/\g=o/\h=p))) w:=by
 intro w;rw[run_eql_struct,run_equalIn_agg w 9999 _ _ _ (by kernel_rfl) (by kernel_rfl)];unfold Program.fieldsOf;rw[underlying184];have q:=underlying3;have r:=underlying123;have s:=underlying64;simp[Op.eqFields,go_sem,q,r,s]
 repeat' split
 all_goals simp_all
end
end
section
section
def MM(l:List Vt)(v:Vt):Nat->List Vt
 | 0=>[]
 | k+1=>MM l v k++(if(k:Int)=v.an then[v]else Am l k)
variable{a b l:List Vt}{v:Vt}
theorem QR(c:BH a)(d:BH b)(h:∀ x∈a,∀ y∈b,x.an<y.an):BH (a++b):=by
 induction a with
 | nil=>exact d
 | cons x xs ih =>
  refine⟨λu hu=>?_,ih c.2 (λy e=>h y (V' _ e))⟩;rcases Z'.1 hu with hu|hu
  .exact c.1 u hu
  .exact h x j' u hu
theorem Kd(h:BH l)(q:Vt->Bool):BH (l.filter q):=by
 induction l with
 | nil=>trivial
 | cons x xs ih =>
  rw[List.filter_cons];split
  .exact⟨λu a=>h.1 u (List.mem_filter.1 a).1,ih h.2⟩
  .exact ih h.2
theorem ZP(c:BH a)(d:BH b)(h:∀ u,u∈a↔u∈b):a=b:=by
 induction a generalizing b with
 | nil =>
  cases b with
  | nil=>rfl
  | cons y ys=>exact absurd ((h y).2 j') (O')
 | cons x xs ih =>
  cases b with
  | nil=>exact absurd ((h x).1 j') (O')
  | cons y ys =>
   have f:x=y:=by
    rcases mK.1 ((h x).1 j')with e|e
    .exact e
    .rcases mK.1 ((h y).2 j')with e'|e'
     .exact e'.symm
     .have:=c.1 y e';have:=d.1 x e;omega
   subst f;rw[ih c.2 d.2 (λu=>?_)];constructor
   .intro hu;rcases mK.1 ((h u).1 (V' _ hu))with rfl|e
    .have:=c.1 u hu;omega
    .exact e
   .intro hu;rcases mK.1 ((h u).2 (V' _ hu))with rfl|e
    .have:=d.1 u hu;omega
    .exact e
theorem Qa(k:Nat)(u:Vt):u∈MM l v k↔(0<=u.an/\u.an<k)/\(u=v\/(u∈l/\u.an≠v.an)):=by
 induction k with
 | zero=>simp[MM];omega
 | succ k ih =>
  rw[MM,Z',ih];by_cases a:(k:Int)=v.an
  .rw[if_pos a,U'];constructor
   .rintro(⟨h1,h2⟩|rfl)
    .exact⟨by omega,h2⟩
    .exact⟨by omega,.inl rfl⟩
   .rintro⟨h1,rfl|⟨h2,h3⟩⟩
    .exact .inr rfl
    .exact .inl ⟨by omega,.inr ⟨h2,h3⟩⟩
  .rw[if_neg a,Dj];constructor
   .rintro(⟨h1,h2⟩|⟨h1,h2⟩)
    .exact⟨by omega,h2⟩
    .exact⟨by omega,.inr ⟨h1,by omega⟩⟩
   .rintro⟨h1,rfl|⟨h2,h3⟩⟩
    .exact .inl ⟨by omega,.inl rfl⟩
    .by_cases h4:u.an=k
     .exact .inr ⟨h2,h4⟩
     .exact .inl ⟨by omega,.inr ⟨h2,h3⟩⟩
theorem Jm(h:BH l)(s:Int):(Am l s).length<=1:=by
 match e:Am l s with
 | []=>simp
 | [_]=>simp
 | x::y::r =>
  have a:BH (Am l s):=Kd h _;have b:=(Dj.1 (show x∈Am l s by rw[e];simp)).2;have c:=(Dj.1 (show y∈Am l s by rw[e];simp)).2;rw[e]at a
  have:=a.1 y j';omega
theorem Yy(v:Vt)(h:BH l)(k:Nat):(MM l v k).length<=k:=by
 induction k with
 | zero=>simp[MM]
 | succ k ih =>
  rw[MM,I'];have:=Jm h k;split
  .simp;omega
  .omega
theorem VI(v:Vt)(h:BH l)(k:Nat):BH (MM l v k):=by
 induction k with
 | zero=>trivial
 | succ k ih =>
  rw[MM];refine QR ih ?_ ?_
  .split
   .exact⟨λu a=>(O' a).elim,trivial⟩
   .exact Kd h _
  .intro x hx y hy;have b:=((Qa k x).1 hx).1;split at hy
   .obtain rfl:y=v:=by simpa using hy
    omega
   .have:=(Dj.1 hy).2;omega
theorem dg(k:Nat)(h:BH l)(b:∀ u∈l,0<=u.an/\u.an<k)(c:0<=v.an/\v.an<k):MM l v k=BA l v:=by
 refine ZP (VI v h k) (NG v h) λu=>?_;rw[Qa,LC h];constructor
 .exact λa=>a.2
 .rintro(rfl|⟨h1,h2⟩)
  .exact⟨c,.inl rfl⟩
  .exact⟨b u h1,.inr ⟨h1,h2⟩⟩
theorem JW(l:List Vt)(u:Vt)(s:Int):Am (l++[u]) s=Am l s++(if u.an=s then[u]else[]):=by
 unfold Am;rw[pK];by_cases h:u.an=s<;>simp[h]
theorem Xd(a:List (List Vt))(j:Nat)(l:List Vt)(h:a[j]?=some l):(a.take (j+1)).flatten=(a.take j).flatten++l:=by
 obtain⟨b,e⟩:=Q'.1 h;rw[mZ b,e];simp
theorem Dm(a b:List Vt)(s:Int):Am (a++b) s=Am a s++Am b s:=by unfold Am;rw[pK]
end
end
section
open Go.RowKit
section
structure Sac(w:World)(x:Value)(ac:List Acc):Prop where
 ex:∃ a cap,x=.slice a ac.length cap/\(ac=[]\/∃ b off,a=some ⟨b,off,none⟩/\b<w.heap.size/\∀ (i:Nat) (A:Acc),ac[i]?=some A->∃ y,w.rangeAt b (off+3*i) [.int .i64 A.p.r,.int .i64 A.p.n,y]/\Sv w y A.vs)
 len:ac.length<=3518437208780
variable{ac:List Acc}{s:Int}{w:World}{x:Value}
theorem Sac.ab{f:World}(h:Sac w x ac)(e:Bw w f):Sac f x ac:=by
 obtain⟨⟨a,c,rfl,d⟩,g⟩:=h;refine⟨⟨a,c,rfl,?_⟩,g⟩;rcases d with d|⟨b,off,ha,hbs,hc⟩
 .exact .inl d
 .refine .inr ⟨b,off,ha,X' hbs e.size,λi A l=>?_⟩;obtain⟨y,j,k⟩:=hc i A l;exact⟨y,Tf e hbs j,k.ab e⟩
theorem Sac.shape(h:Sac w x ac):∃ a cap,x=.slice a ac.length cap:=by
 obtain⟨⟨a,cap,e,_⟩,_⟩:=h;exact⟨a,cap,e⟩
theorem Sac.spot{a:Option Addr}{n c:Nat}(h:Sac w (.slice a n c) ac)(i:Nat)(A:Acc)(f:ac[i]?=some A):∃ b off y,a=some ⟨b,off,none⟩/\b<w.heap.size/\w.rangeAt b (off+3*i) [.int .i64 A.p.r,.int .i64 A.p.n,y]/\Sv w y A.vs:=by
 obtain⟨⟨j,d,e,g⟩,_⟩:=h;simp only[Value.slice.injEq]at e;obtain⟨rfl,rfl,rfl⟩:=e;rcases g with rfl|⟨b,off,rfl,hb,hc⟩
 .simp at f
 .obtain⟨y,h3,h4⟩:=hc i A f;exact⟨b,off,y,rfl,hb,h3,h4⟩
theorem ik:prog.elem 257=126:=by kernel_rfl
theorem jl(w:World):(Go.sizeOf 126).run prog w=.ok 3 w:=by
 have h:(prog.info? 126).map (·.size)=some 3:=by kernel_rfl
 cases hi:prog.info? 126 with
 | none=>rw[hi]at h;cases h
 | some i =>
  rw[hi]at h
  simp at h;simp[sizeOf,typeInfo,hi,h]
theorem WF(b o n c:Nat)(i:Nat)(a:i<n)(w:World):(Instr.indexAt 257 (.slice (some ⟨b,o,none⟩) n c) (.int .i64 (i:Int))).run prog w=.ok (.pointer (some ⟨b,o+3*i,none⟩)) w:=by
 rw[run_indexAt_slice (P:=prog) w 257 _ n c .i64 _ underlying257,if_pos ⟨by omega,by omega⟩,ik,jl];simp[Result.andThen,Addr.add_mid,Nat.mul_comm]
def FI(ac:List Acc)(s:Int):List Vt:=Am (ac.map (·.vs)).flatten s
def DY(ac:List Acc)(s:Int):Int:=if ¬ ((0<=s/\s<=39)/\(1<=(ac.length:Int)/\(ac.length:Int)<=5))then 2 else if ¬ ∀ a∈ac,Av a then 5 else if(IZ (FI ac s) ac.length).isSome then 0 else 9
def Db(ac:List Acc)(s:Int):Cmd:=if DY ac s=0 then((IZ (FI ac s) ac.length).map (·.w)).getD ⟨0,0,0,0,0⟩else⟨0,0,0,0,0⟩
theorem Dc(h:¬ ((0<=s/\s<=39)/\(1<=(ac.length:Int)/\(ac.length:Int)<=5))):Db ac s=⟨0,0,0,0,0⟩/\DY ac s=2:=by
 have e:DY ac s=2:=if_pos h;exact⟨if_neg (by rw[e];decide),e⟩
theorem Vv(h:(0<=s/\s<=39)/\(1<=(ac.length:Int)/\(ac.length:Int)<=5))(b:¬ ∀ a∈ac,Av a):Db ac s=⟨0,0,0,0,0⟩/\DY ac s=5:=by
 have e:DY ac s=5:=by unfold DY;rw[if_neg (λg=>g h),if_pos b]
 exact⟨if_neg (by rw[e];decide),e⟩
theorem XM(h:(0<=s/\s<=39)/\(1<=(ac.length:Int)/\(ac.length:Int)<=5))(b:∀ a∈ac,Av a)(c:IZ (FI ac s) ac.length=none):Db ac s=⟨0,0,0,0,0⟩/\DY ac s=9:=by
 have e:DY ac s=9:=by unfold DY;rw[if_neg (λg=>g h),if_neg (λg=>g b),c];rfl
 exact⟨if_neg (by rw[e];decide),e⟩
theorem XN(h:(0<=s/\s<=39)/\(1<=(ac.length:Int)/\(ac.length:Int)<=5))(c:∀ a∈ac,Av a){x:Vt}(b:IZ (FI ac s) ac.length=some x):Db ac s=x.w/\DY ac s=0:=by
 have e:DY ac s=0:=by unfold DY;rw[if_neg (λg=>g h),if_neg (λg=>g c),b];rfl
 exact⟨by unfold Db;rw[if_pos e,b];rfl,e⟩
theorem gY{c:List Acc}(h:∀ a∈c,Av a)(s:Int):(Am (c.map (·.vs)).flatten s).length<=c.length:=by
 induction c with
 | nil=>simp[Am]
 | cons a c ih =>
  have e:=Jm (h a j').2.2 s;have f:=ih (λb d=>h b (V' _ d));simp only[mT,pQ,mR];rw[Dm,I'];omega
theorem TU(ac:List Acc)(j:Nat)(a:Acc)(h:ac[j]?=some a):((ac.take (j+1)).map (·.vs)).flatten=((ac.take j).map (·.vs)).flatten++a.vs:=by
 obtain⟨b,e⟩:=Q'.1 h;rw[mZ b,e];simp
end
end
section
end
section
open Go.RowKit
section
def baA(b:Bal):Array Value:=#[.int .i64 b.r,.int .i64 b.n]
theorem Oc(l:List Vt)(v:Vt):BH (l++[v])↔BH l/\∀ u∈l,u.an<v.an:=by
 induction l with
 | nil=>exact⟨λ_=>⟨trivial,λu hu=>(O' hu).elim⟩,λ_=>⟨λu hu=>(O' hu).elim,trivial⟩⟩
 | cons x xs ih =>
  show((∀ u∈xs++[v],x.an<u.an)/\BH (xs++[v]))↔((∀ u∈xs,x.an<u.an)/\BH xs)/\∀ u∈x::xs,u.an<v.an;rw[ih];constructor
  .rintro⟨h1,h2,h3⟩;refine⟨⟨λu hu=>h1 u (nZ _ hu),h2⟩,λu hu=>?_⟩;rcases mK.1 hu with rfl|hu
   .exact h1 v (nR _ j')
   .exact h3 u hu
  .rintro⟨⟨h1,h2⟩,h3⟩;refine⟨λu hu=>?_,h2,λu hu=>h3 u (V' _ hu)⟩;rcases Z'.1 hu with hu|hu
   .exact h1 u hu
   .obtain rfl:u=v:=by simpa using hu
    exact h3 x j'
def EM(a:Acc)(b:Bal):Bal:=if CN a b=0 then b else⟨0,0⟩
def Dv(a:Acc)(b:Bal):List Vt:=if CN a b=0 then a.vs else[]
def Ch(a:Acc)(v:Vt):Bal:=if B1 a v=0 then v.b else⟨0,0⟩
def CM(a:Acc)(v:Vt):List Vt:=if B1 a v=0 then BA a.vs v else[]
def JY(ls:List (List Vt))(s:Int):Cmd:=if CW ls s=0 then((QD ls s).map (·.w)).getD ⟨0,0,0,0,0⟩else⟨0,0,0,0,0⟩
def Iz(ls:List (List Vt))(s:Int):Bool:=if CW ls s=0 then(QD ls s).isSome else false
variable{l:List Vt}{ls:List (List Vt)}{s:Int}
theorem LW(h:¬ (0<=s/\s<=39)):JY ls s=⟨0,0,0,0,0⟩/\Iz ls s=false/\CW ls s=2:=by
 have e:CW ls s=2:=if_pos h;exact⟨if_neg (by rw[e];decide),if_neg (by rw[e];decide),e⟩
theorem Tm(h:0<=s/\s<=39)(a:¬ ∀ l∈ls,∀ v∈l,Al v):JY ls s=⟨0,0,0,0,0⟩/\Iz ls s=false/\CW ls s=5:=by
 have e:CW ls s=5:=by unfold CW;rw[if_neg (λg=>g h),if_neg a]
 exact⟨if_neg (by rw[e];decide),if_neg (by rw[e];decide),e⟩
theorem aZ{j:Nat}(h:ls[j]?=some l)(b:∀ l∈ls.take j,∀ v∈l,Al v)(c:∀ v∈l,Al v):∀ l∈ls.take (j+1),∀ v∈l,Al v:=by
 obtain⟨d,e⟩:=Q'.1 h;rw[mZ d,e];intro l' a;rcases Z'.1 a with g|g
 .exact b l' g
 .obtain rfl:l'=l:=by simpa using g
  exact c
theorem be{k:Nat}{u:Vt}(h:l[k]?=some u)(a:∀ v∈l.take k,Al v)(b:Al u):∀ v∈l.take (k+1),Al v:=by
 rw[F1 l k u h];intro v c;rcases Z'.1 c with g|g
 .exact a v g
 .obtain rfl:v=u:=by simpa using g
  exact b
def Dx(d:List Int)(s:Int):Prop:=d.length<=100000/\0<=s/\s<=(d.length:Int)
instance (d:List Int) (s:Int):Decidable (Dx d s):=by unfold Dx;exact inferInstance
def DX(d:List Int)(s:Int):Int:=if Dx d s then 0 else 5
def Nf(d:List Int)(s:Int):List Int:=if Dx d s then d else[]
def Pm(d:List Int)(s:Int):Int:=if Dx d s then(d.length:Int)else 0
def V4(d:List Int)(s k:Int):Int:=if k<(d.length:Int)-s then s+k else(d.length:Int)
def MG(d:List Int)(s k:Int):Int:=if ¬ Dx d s then 5 else if k<0 then 2 else 0
def PL(d:List Int)(s k:Int):List Int:=if MG d s k=0 then d.take (V4 d s k).toNat else[]
def PM(d:List Int)(s k:Int):Int:=if MG d s k=0 then V4 d s k else 0
def tpA(x:Value)(s:Int):Array Value:=#[x,.int .i64 s]
theorem Mt:(prog.info? 143).map (·.size)=some 2:=by kernel_rfl
theorem bi(x:Option Addr)(n c:Nat)(s:Int):(#[.slice x n c,.int .i64 s]:Array Value).all (·.oneCell')=true:=by simp[Value.oneCell']
end
end
section
section
def Ed(b:List Int):List Int:=(b.length:Int)::b
def BU(b:List Int):List Int:=Ed b++(dig (Ed b)).take 4
theorem Ih(b:List Int):(Ed b).length=b.length+1:=rfl
theorem I5(b:List Int):(BU b).length=b.length+5:=by
 unfold BU;rw[I',Ih,mH,AB];omega
def BN(b:Bal):List Int:=1::(Af b.r++Af b.n)
def BM(v:Vt):List Int:=2::(Af v.an++(Af v.b.r++(Af v.b.n++Jc v.w.k v.w.c v.w.s v.w.n v.w.v)))
theorem Rt(v:Vt):(BM v).length=33:=rfl
theorem Wv(b:Bal):∀ x∈BN b,0<=x/\x<256:=by
 intro x hx;rcases mK.1 hx with rfl|hx
 .omega
 .rcases Z'.1 hx with hx|hx
  .exact AT _ x hx
  .exact AT _ x hx
theorem Xl(v:Vt):∀ x∈BM v,0<=x/\x<256:=by
 intro x hx;rcases mK.1 hx with rfl|hx
 .omega
 .rcases Z'.1 hx with hx|hx
  .exact AT _ x hx
  .rcases Z'.1 hx with hx|hx
   .exact AT _ x hx
   .rcases Z'.1 hx with hx|hx
    .exact AT _ x hx
    .exact Nr _ _ _ _ _ x hx
variable{b c:Acc}{k m n:Nat}{r:List Int}
theorem Lz{b:List Int}(a:∀ x∈b,0<=x/\x<256)(c:b.length<=255):∀ x∈Ed b,0<=x/\x<256:=by
 intro x hx;rcases mK.1 hx with rfl|hx
 .omega
 .exact a x hx
theorem Mc{b:List Int}(a:∀ x∈b,0<=x/\x<256)(c:b.length<=255):∀ x∈BU b,0<=x/\x<256:=by
 intro x hx;rcases Z'.1 hx with hx|hx
 .exact Lz a c x hx
 .exact Dr _ x (mY hx)
def jX(l:List Int):Cmd:=⟨Ab l 0,Ab l 4,Ab l 8,Ab l 12,Ab l 16⟩
def H8(b:List Int):Bal:=⟨Ab b 1,Ab b 5⟩
def GF(b:List Int):Vt:=⟨Ab b 1,⟨Ab b 5,Ab b 9⟩,jX (b.drop 13)⟩
def Id(a:Acc)(b:List Int):Option Acc :=
 if b.length=9/\b.getD 0 0=1 then(if CN a (H8 b)=0 then some ⟨H8 b,a.vs⟩else none)
 else if b.length=33/\b.getD 0 0=2 then(if Ct (b.drop 13)=0 then(if B1 a (GF b)=0 then some ⟨(GF b).b,BA a.vs (GF b)⟩else none)else none)
 else none
def F9(r:List Int)(a:Acc):Option (Acc × Nat) :=
 if r=[]then none
 else if r.length<(r.getD 0 0).toNat+5 then none
 else if(dig (r.take ((r.getD 0 0).toNat+1))).take 4≠(r.drop ((r.getD 0 0).toNat+1)).take 4 then none
 else(Id a ((r.take ((r.getD 0 0).toNat+1)).drop 1)).map λx=>(x,(r.getD 0 0).toNat+5)
def a0:Acc:=⟨⟨0,0⟩,[]⟩
def LN(r:List Int)(p:Nat × Acc):Nat × Acc:=match F9 (r.drop p.1) p.2 with
 | none=>p
 | some (c,m)=>(p.1+m,c)
def itR(r:List Int):Nat->Nat × Acc
 | 0=>(0,a0)
 | k+1=>LN r (itR r k)
def Fw(r:List Int):Nat × Acc:=itR r r.length
theorem aL{a:Acc}(h:F9 r a=some (c,m)):5<=m/\m<=r.length:=by
 unfold F9 at h;split at h
 .cases h
 .split at h
  .cases h
  .split at h
   .cases h
   .obtain⟨x,_,e⟩:=ou.1 h;injection e with e1 e2
    omega
theorem SN{p:Nat × Acc}(h:F9 (r.drop p.1) p.2=none):LN r p=p:=by
 unfold LN;rw[h]
theorem SO(h:F9 (r.drop n) b=some (c,m)):LN r (n,b)=(n+m,c):=by
 unfold LN;rw[show F9 (r.drop (n,b).1) (n,b).2=some (c,m)from h]
theorem VS(h:itR r k=(n,b))(a:F9 (r.drop n) b=none)(j:Nat):itR r (k+j)=(n,b):=by
 induction j with
 | zero=>exact h
 | succ j ih =>
  rw[<- nP,itR,ih];exact SN a
theorem UN(h:itR r k=(n,b))(c:k<=r.length)(a:F9 (r.drop n) b=none):Fw r=(n,b):=by
 have:=VS h a (r.length-k);rw[show k+(r.length-k)=r.length by omega]at this
 exact this
theorem i8(r:List Int)(k:Nat):(itR r k).1<=r.length:=by
 induction k with
 | zero=>exact ng _
 | succ k ih =>
  rw[itR];unfold LN;split
  .exact ih
  .rename_i c m h
   have:=(aL h).2;rw[mJ]at this
   show(itR r k).1+m<=r.length;omega
theorem ew(r:List Int):(Fw r).1<=r.length:=i8 r r.length
end
end
section
open Go.RowKit
def fbO(r:List Int):Option (List Int) :=
 if r=[]then none
 else if r.length<(r.getD 0 0).toNat+5 then none
 else if(dig (r.take ((r.getD 0 0).toNat+1))).take 4≠(r.drop ((r.getD 0 0).toNat+1)).take 4 then none
 else some ((r.take ((r.getD 0 0).toNat+1)).drop 1)
theorem Uv{r b:List Int}(h:fbO r=some b):b.length+5<=r.length/\b.length=(r.getD 0 0).toNat:=by
 unfold fbO at h;split at h
 .cases h
 .split at h
  .cases h
  .split at h
   .cases h
   .injection h with h
    subst h;rw[mJ,mH];omega
theorem Mm(r:List Int)(a:Acc):F9 r a=(fbO r).bind λb=>(Id a b).map λc=>(c,b.length+5):=by
 have d:∀ b,fbO r=some b->b.length=(r.getD 0 0).toNat:=λb h=>(Uv h).2;unfold F9;unfold fbO at d ⊢;by_cases f:r=[]
 .rw[if_pos f,if_pos f];rfl
 .rw[if_neg f]at d ⊢
  rw[if_neg f];by_cases g:r.length<(r.getD 0 0).toNat+5
  .rw[if_pos g,if_pos g];rfl
  .rw[if_neg g]at d ⊢
   rw[if_neg g];by_cases i:(dig (r.take ((r.getD 0 0).toNat+1))).take 4≠(r.drop ((r.getD 0 0).toNat+1)).take 4
   .rw[if_pos i,if_pos i];rfl
   .rw[if_neg i]at d ⊢
    rw[if_neg i];have e:=d _ rfl;show _=(Id a _).map _;rw[e]
theorem Di(l:List Int)(n i:Nat):Ab (l.drop n) i=Ab l (n+i):=by
 unfold Ab;simp only[nc,nN,nP]
def Ha(a:Acc)(b:List Int):Int :=
 if b.length=9/\b.getD 0 0=1 then CN a (H8 b)
 else if b.length=33/\b.getD 0 0=2 then(if Ct (b.drop 13)=0 then B1 a (GF b)else Ct (b.drop 13))
 else 3
def FK(a:Acc)(b:List Int):Acc :=
 if b.length=9/\b.getD 0 0=1 then⟨EM a (H8 b),Dv a (H8 b)⟩
 else if b.length=33/\b.getD 0 0=2 then(if Ct (b.drop 13)=0 then⟨Ch a (GF b),CM a (GF b)⟩else a0)
 else a0
theorem PQ(a:Acc)(b:List Int):Id a b=if Ha a b=0 then some (FK a b)else none:=by
 unfold Id Ha FK;by_cases d:b.length=9/\b.getD 0 0=1
 .rw[if_pos d,if_pos d,if_pos d];by_cases c:CN a (H8 b)=0
  .rw[if_pos c,if_pos c];unfold EM Dv;rw[if_pos c,if_pos c]
  .rw[if_neg c,if_neg c]
 .rw[if_neg d,if_neg d,if_neg d];by_cases c:b.length=33/\b.getD 0 0=2
  .rw[if_pos c,if_pos c,if_pos c];by_cases e:Ct (b.drop 13)=0
   .rw[if_pos e,if_pos e,if_pos e];by_cases f:B1 a (GF b)=0
    .rw[if_pos f,if_pos f];unfold Ch CM;rw[if_pos f,if_pos f]
    .rw[if_neg f,if_neg f]
   .rw[if_neg e,if_neg e,if_neg e]
  .rw[if_neg c,if_neg c,if_neg c,if_neg (by decide)]
def voV(l:List Int):Vt:=if Ct (l.drop 12)=0 then⟨Ab l 0,⟨Ab l 4,Ab l 8⟩,jX (l.drop 12)⟩else⟨0,⟨0,0⟩,⟨0,0,0,0,0⟩⟩
theorem fA{l:List Int}(h:Ct (l.drop 12)=0):∃ m0 m1 m2 m3 m4:Int,Ku (l.drop 12)=#[.int .i64 m0,.int .i64 m1,.int .i64 m2,.int .i64 m3,.int .i64 m4]/\voV l=⟨Ab l 0,⟨Ab l 4,Ab l 8⟩,⟨m0,m1,m2,m3,m4⟩⟩:=by
 refine⟨Ab (l.drop 12) 0,Ab (l.drop 12) 4,Ab (l.drop 12) 8,Ab (l.drop 12) 12,Ab (l.drop 12) 16,?_,?_⟩
 .unfold Ku;rw[if_pos h];rfl
 .unfold voV;rw[if_pos h];rfl
theorem fy{l:List Int}(h:¬ Ct (l.drop 12)=0):Ku (l.drop 12)=zV5/\voV l=⟨0,⟨0,0⟩,⟨0,0,0,0,0⟩⟩:=by
 unfold voV Ku;rw[if_neg h,if_neg h];exact⟨rfl,rfl⟩
theorem Rr(b:List Int)(h:Ct (b.drop 13)=0):voV (b.drop 1)=GF b:=by
 unfold voV GF;rw[pT,if_pos h,Di,Di,Di]
theorem Lg(b:List Int):(⟨Ab (b.drop 1) 0,Ab (b.drop 1) 4⟩:Bal)=H8 b:=by
 unfold H8;rw[Di,Di]
def Ho(d:List Int)(s:Int):Acc:=if Dx d s then(Fw d).2 else a0
def QN(d:List Int)(s:Int):Int:=if Dx d s then((Fw d).1:Int)else 0
def QQ(d:List Int)(s:Int):List Int:=if Dx d s then d.take (Fw d).1 else[]
def Tv(d:List Int)(s:Int):Int:=if Dx d s then(if((Fw d).1:Int)<s then((Fw d).1:Int)else s)else 0
end
section
def K4(d:List Int)(s:Int)(k:Nat):Int:=if ¬ Dx d s then 5 else if 100000<d.length+k then 8 else 0
def Dl(d:List Int)(s:Int)(may:Prop)[Decidable may] (b:List Int):Int:=if K4 d s (b.length+5)≠0 then K4 d s (b.length+5)else if may then 0 else 2
def Hw(d:List Int)(s:Int)(may:Prop)[Decidable may] (b:List Int):List Int:=if Dl d s may b=0 then d++BU b else[]
def JD(d:List Int)(s:Int)(may:Prop)[Decidable may] (b:List Int):Int:=if Dl d s may b=0 then s else 0
theorem eg(b:Bal):CN a0 b=if Ac b then 0 else 2:=by
 have a:Av a0:=⟨.inr ⟨rfl,rfl⟩,λv c=>(O' c).elim,trivial⟩;unfold CN;rw[if_neg (λg=>g a)];by_cases h:Ac b
 .rw[if_neg (λg=>g h),if_pos h,if_neg];intro g;unfold Ac at h;unfold Bal.lt a0 at g;simp only at g;omega
 .rw[if_pos h,if_neg h]
theorem fB(v:Vt):B1 a0 v=if Al v then 0 else 2:=by
 have a:Av a0:=⟨.inr ⟨rfl,rfl⟩,λv c=>(O' c).elim,trivial⟩;unfold B1;rw[if_neg (λg=>g a)];by_cases h:Al v
 .rw[if_neg (λg=>g h),if_pos h,if_neg];intro g;have b:=h.2.1;unfold Ac at b;unfold Bal.lt a0 at g;simp only at g;omega
 .rw[if_pos h,if_neg h]
end
section
open Go.RowKit
section
def Bn{α:Type}(f:Nat->α)(i:Nat)(x:α):Nat->α:=λj=>if j=i then x else f j
structure Sto where
 V:Nat->Int
 L:Nat->Int
 C:Nat->Int
 A:Nat->Int
 R:Nat->Bool
def Ge:Sto:=⟨λ_=>0,λ_=>0,λ_=>0,λ_=>0,λ_=>false⟩
def ClB(l c a:Int):Prop:=(0<=l/\l<=1048577)/\(l=0->c=0/\a=0)
instance (l c a:Int):Decidable (ClB l c a):=by unfold ClB;exact inferInstance
def VaB(v:Int):Prop:=0<=v/\v<=1073741824
instance (v:Int):Decidable (VaB v):=by unfold VaB;exact inferInstance
def Vh(s:Sto):Prop:=(∀ i,i<8->VaB (s.V i))/\∀ i,i<8->ClB (s.L i) (s.C i) (s.A i)
noncomputable instance (s:Sto):Decidable (Vh s):=Classical.propDecidable _
noncomputable def Nc(s:Sto):Int:=if Vh s then 0 else 5
variable{m:Cmd}{s:Sto}
theorem eQ(h:Vh s):Nc s=0:=if_pos h
theorem KR(h:¬ Vh s):Nc s=5:=if_neg h
def MT(s:Sto)(m:Cmd):Int:=if m.k=1 then m.v else if m.k=2 then s.V m.n.toNat else 0
def OP(s:Sto)(m:Cmd):Sto :=
 ⟨if m.k=1 then Bn s.V m.n.toNat m.v else s.V,Bn s.L m.c.toNat (m.s+1),Bn s.C m.c.toNat 0,Bn s.A m.c.toNat (MT s m),if m.k=3 then Bn s.R m.n.toNat true else s.R⟩
def dnS(s:Sto)(m:Cmd):Sto:=if m.k≠0/\¬ m.s<s.L m.c.toNat/\s.R m.c.toNat=false then OP s m else s
def dnC(s:Sto)(m:Cmd):Int :=
 if m.k=0 then 0 else if s.L m.c.toNat=m.s+1 then s.C m.c.toNat else if m.s<s.L m.c.toNat then 7 else if s.R m.c.toNat=true then 11 else 0
def dnA(s:Sto)(m:Cmd):Int :=
 if m.k=0 then 0 else if s.L m.c.toNat=m.s+1 then s.A m.c.toNat else if m.s<s.L m.c.toNat then 0 else if s.R m.c.toNat=true then 0 else MT s m
noncomputable def doE(s:Sto)(m:Cmd):Int:=if Vh s then m.e else 5
noncomputable def doS(s:Sto)(m:Cmd):Sto:=if doE s m=0 then dnS s m else Ge
noncomputable def doC(s:Sto)(m:Cmd):Int:=if doE s m=0 then dnC s m else 0
noncomputable def doA(s:Sto)(m:Cmd):Int:=if doE s m=0 then dnA s m else 0
theorem ii(h:doE s m=0):doS s m=dnS s m:=if_pos h
theorem ic(h:doE s m=0):doC s m=dnC s m:=if_pos h
theorem ib(h:doE s m=0):doA s m=dnA s m:=if_pos h
theorem Yb(h:doE s m≠0):doS s m=Ge:=if_neg h
theorem XY(h:doE s m≠0):doC s m=0:=if_neg h
theorem cC(h:m.e=0):(0<=m.k/\m.k<=3)/\InC m.c m.s m.n m.v:=Gs h
end
end
section
def gZ(Q:Nat->Bool):Nat:=(Q 0).toNat+(Q 1).toNat+(Q 2).toNat+(Q 3).toNat+(Q 4).toNat
end
section
def upN{α:Type}(f:Nat->α)(n:Nat)(x:α):Nat->α:=λi=>if i=n then x else f i
theorem j1{α:Type}(f:Nat->α)(n:Nat)(x:α):upN f n x n=x:=if_pos rfl
theorem j2{α:Type}(f:Nat->α){n i:Nat}(x:α)(h:i≠n):upN f n x i=f i:=if_neg h
end
section
end
section
def Bv:Bal:=⟨0,0⟩
def Vw:Cmd:=⟨0,0,0,0,0⟩
def vtz:Vt:=⟨0,Bv,Vw⟩
def E9:Acc:=⟨Bv,[]⟩
structure Let where
 kind:Nat
 src:Nat
 dst:Nat
 fw:Bal
 bW:Vt
 eA:List Vt
 an:Nat
 cx:List Cmd
def Cv(k:Nat):Let:=⟨k,0,0,Bv,vtz,[],0,[]⟩
inductive Pend where
 | began (b:Bal) (vs:List Vt)
 | prom (to:Nat) (b:Bal) (vs:List Vt)
 | voted (to:Nat) (v:Vt)
 | fa (to:Nat) (b:Bal)
 | prop (v:Vt)
 | askNews (to:Nat)
 | start
 | tell (to:Nat) (an:Nat)
structure Rnd where
 fw:Bal
 rk:Nat->Bool
 av:Nat->Acc
 bw:Nat->Nat
 next:Nat
 cn:List Cmd
def lE:Rnd:=⟨Bv,λ_=>false,λ_=>E9,λ_=>0,0,[]⟩
structure Tol where
 n:Nat
 c:Int
 s:Int
 e:Int
 a:Int
structure Nod where
 up:Bool
 d:List Int
 sy:Int
 bad:Nat
 vo:Acc
 br:List Pend
 cl:Int
 bt:Rnd
 ae:List Cmd
 done:Nat
 kc:Sto
 af:List Cmd
 bu:Cmd->Option Bal
structure Meet where
 ao:Nat->Nod
 bN:List Let
 cF:List Tol
def Nod.bare(N:Nod)(up:Bool)(d:List Int)(sy:Int)(vo:Acc)(p:List Pend):Nod :=
 ⟨up,d,sy,N.bad,vo,p,0,lE,[],0,Ge,[],λ_=>none⟩
def Dh:Nod:=⟨true,[],0,0,E9,[],0,lE,[],0,Ge,[],λ_=>none⟩
def D3:Meet:=⟨λ_=>Dh,[],[]⟩
def Meet.put(M:Meet)(i:Nat)(N:Nod):Meet:={ M with ao:=upN M.ao i N }
def Nod.bn(N:Nod)(b:Bal):Nod × List Vt × Int :=
 if CN N.vo b≠0 then(N,[],CN N.vo b)
 else if b=N.vo.p then({ N with vo:=⟨b,N.vo.vs⟩ },N.vo.vs,0)
 else if Dl N.d N.sy (Ac b) (BN b)≠0 then(N,[],Dl N.d N.sy (Ac b) (BN b))
 else({ N with d:=Hw N.d N.sy (Ac b) (BN b),sy:=JD N.d N.sy (Ac b) (BN b),vo:=⟨b,N.vo.vs⟩ },N.vo.vs,0)
def Nod.bW(N:Nod)(v:Vt):Nod × Int :=
 if B1 N.vo v≠0 then(N,B1 N.vo v)
 else if v∈N.vo.vs then({ N with vo:=⟨v.b,BA N.vo.vs v⟩ },0)
 else if Dl N.d N.sy (Al v) (BM v)≠0 then(N,Dl N.d N.sy (Al v) (BM v))
 else({ N with d:=Hw N.d N.sy (Al v) (BM v),sy:=JD N.d N.sy (Al v) (BM v),vo:=⟨v.b,BA N.vo.vs v⟩ },0)
def Nod.wait(N:Nod)(p:Pend):Nod:={ N with br:=N.br++[p] }
def Nod.fa(N:Nod)(to:Nat)(e:Int):Nod:=if e=7 then N.wait (.fa to N.vo.p)else N
def Nod.leads(N:Nod):Bool:=decide (N.bt.fw≠Bv/\N.bt.fw=N.vo.p)
def Rnd.ry(r:Rnd):Bool:=decide (5<2*gZ r.rk)
def JQ(a:Acc):List Vt->Acc
 | []=>a
 | v::l=>JQ (if B1 a v=0 then⟨Ch a v,CM a v⟩else a) l
def Rnd.rC(r:Rnd)(j:Nat)(vs:List Vt):Rnd:={ r with rk:=upN r.rk j true,av:=upN r.av j (JQ ⟨r.fw,vs⟩ (r.av j).vs) }
def Rnd.gC(r:Rnd):List Acc:=[r.av 0,r.av 1,r.av 2,r.av 3,r.av 4]
def OL:Nat->Rnd->List Cmd->List Cmd
 | 0,_,l=>l
 | k+1,r,l=>if DY r.gC (l.length:Int)=0 then OL k r (l++[Db r.gC (l.length:Int)])else l
def Nod.lr(N:Nod):Nod:={ N with ae:=OL 41 N.bt N.ae }
def Nod.dW(N:Nod)(an:Nat)(cx:List Cmd):Nod:={ N with ae:=N.ae++cx.drop (N.ae.length-an) }
def Nod.count(N:Nod)(j:Nat)(v:Vt):Nod :=
 if v.b≠N.bt.fw then N
 else if B1 (N.bt.av j) v≠0 then N
 else Nod.lr { N with bt:={ N.bt with av:=upN N.bt.av j ⟨Ch (N.bt.av j) v,CM (N.bt.av j) v⟩ } }
def PT(q:List Cmd):List Cmd->List Cmd
 | []=>q
 | c::l=>PT (if q.length<40/\c∉q then q++[c]else q) l
def Nod.eN(N:Nod)(cx:List Cmd):Nod:=if N.leads then{ N with bt:={ N.bt with cn:=PT N.bt.cn cx } }else N
def E6(f:Cmd->Option Bal)(c:Cmd)(b:Option Bal):Cmd->Option Bal:=λx=>if x=c then b else f x
def Nod.want(N:Nod)(c:Cmd):Nod:=if(N.bu c).isSome then N else{ N with af:=N.af++[c],bu:=E6 N.bu c (some Bv) }
def Nod.fv(N:Nod)(c:Cmd):Nod:=if(N.bu c).isSome then{ N with af:=N.af.erase c,bu:=E6 N.bu c none }else N
def Dy(b:Bal)(f:Cmd->Option Bal):List Cmd->List Cmd × (Cmd->Option Bal)
 | []=>([],f)
 | c::l=>if(f c).getD Bv≠b then(c::(Dy b (E6 f c (some b)) l).1,(Dy b (E6 f c (some b)) l).2)else Dy b f l
def Nod.take(N:Nod)(l:Let):Nod :=
 match l.kind with
 | 0=>if(N.bn l.fw).2.2≠0 then N.fa l.src (N.bn l.fw).2.2 else(N.bn l.fw).1.wait (.prom l.src l.fw (N.bn l.fw).2.1)
 | 1=>let K:=N.dW 0 l.cx
  if K.leads=false\/l.fw≠K.bt.fw\/K.bt.rk l.src=true then K
  else Nod.lr { K with bt:={ K.bt.rC l.src l.eA with bw:=upN K.bt.bw l.src l.cx.length } }
 | 2=>{ N with cl:=max N.cl l.fw.r }
 | 3=>if(N.bW l.bW).2≠0 then N.fa l.src (N.bW l.bW).2 else(N.bW l.bW).1.wait (.voted l.src l.bW)
 | 4=>N.count l.src l.bW
 | 5=>if N.ae.length<l.an then N.wait (.askNews l.src)else N.dW l.an l.cx
 | 6=>let K:=N.eN l.cx
  if l.an<K.ae.length then K.wait (.tell l.src l.an)else K
 | _=>N
def Meet.rz(M:Meet)(l:Let):Meet:=if(M.ao l.dst).up then M.put l.dst ((M.ao l.dst).take l)else M
def Nod.rD(N:Nod)(an:Nat):Option Cmd :=
 if CW (N.bt.gC.map (·.vs)) (an:Int)≠0 then none
 else if Iz (N.bt.gC.map (·.vs)) (an:Int)then some (JY (N.bt.gC.map (·.vs)) (an:Int))
 else N.bt.cn.find? λc=>decide (c∉N.ae)
def Nod.dT(N:Nod):Nod :=
 if N.leads=false\/N.bt.ry=false\/N.ae.length<N.bt.next then N
 else match N.rD N.ae.length with
  | none=>N
  | some c =>
   if(N.bW ⟨(N.ae.length:Int),N.bt.fw,c⟩).2≠0 then N
   else Nod.wait { (N.bW ⟨(N.ae.length:Int),N.bt.fw,c⟩).1 with bt:={ N.bt with next:=N.ae.length+1 } } (.prop ⟨(N.ae.length:Int),N.bt.fw,c⟩)
def Nod.lead(N:Nod)(i:Nat):Nod :=
 let b:Bal:=⟨max N.cl N.vo.p.r+1,(i:Int)⟩
 if(N.bn b).2.2≠0 then N
 else Nod.wait { (N.bn b).1 with bt:=⟨b,λ_=>false,λ_=>E9,λ_=>N.ae.length,0,[]⟩ } (.began b (N.bn b).2.1)
def Nod.pc(N:Nod)(k:Int):Nod:=if MG N.d N.sy k≠0 then N else N.bare false (PL N.d N.sy k) (PM N.d N.sy k) E9 []
def Nod.start(N:Nod):Nod :=
 if DX N.d N.sy≠0 then N
 else if QN N.d N.sy<(N.d.length:Int)then N.bare true (QQ N.d N.sy) (Tv N.d N.sy) (Ho N.d N.sy) [.start]
 else N.bare true N.d N.sy (Ho N.d N.sy) [.start]
def Meet.move(M:Meet)(k:Int)(at_:Nat):Meet :=
 match M.bN[at_%M.bN.length]? with
 | none=>M
 | some l =>
  let A:=if k≠6 then{ M with bN:=M.bN.eraseIdx (at_%M.bN.length) }else M
  if k≠5 then A.rz l else A
def Meet.ov(M:Meet):Meet:=M.bN.foldl (λM l=>M.rz l) { M with bN:=[] }
end
section
open Go.RowKit
section
def stA(s:Sto):Array Value:=#[.int .i64 (s.V 0),.int .i64 (s.V 1),.int .i64 (s.V 2),.int .i64 (s.V 3),.int .i64 (s.V 4),.int .i64 (s.V 5),.int .i64 (s.V 6),.int .i64 (s.V 7),.int .i64 (s.L 0),.int .i64 (s.L 1),.int .i64 (s.L 2),.int .i64 (s.L 3),.int .i64 (s.L 4),.int .i64 (s.L 5),.int .i64 (s.L 6),.int .i64 (s.L 7),.int .i64 (s.C 0),.int .i64 (s.A 0),.int .i64 (s.C 1),.int .i64 (s.A 1),.int .i64 (s.C 2),.int .i64 (s.A 2),.int .i64 (s.C 3),.int .i64 (s.A 3),.int .i64 (s.C 4),.int .i64 (s.A 4),.int .i64 (s.C 5),.int .i64 (s.A 5),.int .i64 (s.C 6),.int .i64 (s.A 6),.int .i64 (s.C 7),.int .i64 (s.A 7),.bool (s.R 0),.bool (s.R 1),.bool (s.R 2),.bool (s.R 3),.bool (s.R 4),.bool (s.R 5),.bool (s.R 6),.bool (s.R 7)]
theorem lJ(s:Sto)(i:Nat)(h:i<8):(stA s)[i]?=some (.int .i64 (s.V i)):=by
 rcases(by omega:i=0\/i=1\/i=2\/i=3\/i=4\/i=5\/i=6\/i=7)with rfl|rfl|rfl|rfl|rfl|rfl|rfl|rfl<;>rfl
theorem lI(s:Sto)(i:Nat)(h:i<8):(stA s)[8+i]?=some (.int .i64 (s.L i)):=by
 rcases(by omega:i=0\/i=1\/i=2\/i=3\/i=4\/i=5\/i=6\/i=7)with rfl|rfl|rfl|rfl|rfl|rfl|rfl|rfl<;>rfl
theorem lH(s:Sto)(i:Nat)(h:i<8):(stA s)[16+i*2]?=some (.int .i64 (s.C i)):=by
 rcases(by omega:i=0\/i=1\/i=2\/i=3\/i=4\/i=5\/i=6\/i=7)with rfl|rfl|rfl|rfl|rfl|rfl|rfl|rfl<;>rfl
theorem lG(s:Sto)(i:Nat)(h:i<8):(stA s)[16+i*2+1]?=some (.int .i64 (s.A i)):=by
 rcases(by omega:i=0\/i=1\/i=2\/i=3\/i=4\/i=5\/i=6\/i=7)with rfl|rfl|rfl|rfl|rfl|rfl|rfl|rfl<;>rfl
def Bs(w:World)(g:Nat)(s:Sto):Prop:=w.heap[g]?=some (.cells (stA s) 137)
variable{g:Nat}{s:Sto}{w:World}
theorem Bs.sI(h:Bs w g s)(i:Nat)(a:i<8):w.cell? ⟨g,i,none⟩=some (.int .i64 (s.V i)):=(cell_of_row _ _ i _ _ _ h).trans (lJ s i a)
theorem Bs.sH(h:Bs w g s)(i:Nat)(a:i<8):w.cell? ⟨g,8+i,none⟩=some (.int .i64 (s.L i)):=(cell_of_row _ _ (8+i) _ _ _ h).trans (lI s i a)
theorem Bs.sG(h:Bs w g s)(i:Nat)(a:i<8):w.cell? ⟨g,16+i*2,none⟩=some (.int .i64 (s.C i)):=(cell_of_row _ _ (16+i*2) _ _ _ h).trans (lH s i a)
theorem Bs.sF(h:Bs w g s)(i:Nat)(a:i<8):w.cell? ⟨g,16+i*2+1,none⟩=some (.int .i64 (s.A i)):=(cell_of_row _ _ (16+i*2+1) _ _ _ h).trans (lG s i a)
theorem iJ(a b c d:Int):∀ w,(binOp .neq 133 (.agg #[.int .i64 a,.int .i64 b]) (.agg #[.int .i64 c,.int .i64 d])).run prog w=.ok (.bool (!decide (a=c/\b=d))) w:=by
 intro w;rw[run_neq_struct,run_equalIn_agg w 9999 _ _ _ (by kernel_rfl) (by kernel_rfl)];unfold Program.fieldsOf;rw[underlying133];have e:=underlying3;have f:=underlying25;simp[Op.eqFields,go_sem,e,f]
 repeat' split
 all_goals simp_all
theorem dM(a b:Int):∀ w,(binOp .neq 133 (.agg #[.int .i64 a,.int .i64 b]) (.agg #[.int .i64 0,.int .i64 0])).run prog w=.ok (.bool (!decide (a=0/\b=0))) w:=iJ a b 0 0
def vaL(f:Nat->Int):List Value:=[.int .i64 (f 0),.int .i64 (f 1),.int .i64 (f 2),.int .i64 (f 3),.int .i64 (f 4),.int .i64 (f 5),.int .i64 (f 6),.int .i64 (f 7)]
def vaA(f:Nat->Int):Array Value:=(vaL f).toArray
theorem bC(f:Nat->Int)(j:Nat)(u:Value)(h:(vaL f)[j]?=some u):j<8/\u=.int .i64 (f j):=by
 have a:j<8:=(Q'.1 h).1;refine⟨a,?_⟩;rcases(by omega:j=0\/j=1\/j=2\/j=3\/j=4\/j=5\/j=6\/j=7)with rfl|rfl|rfl|rfl|rfl|rfl|rfl|rfl<;>(simp[vaL]at h;exact h.symm)
theorem Bs.sD(h:Bs w g s):w.rangeAt g 0 (vaL s.V):=by
 intro j u b;obtain⟨a,rfl⟩:=bC _ _ _ b;rw[nn];exact h.sI j a
theorem Bs.sC(h:Bs w g s):w.rangeAt g 8 (vaL s.L):=by
 intro j u b;obtain⟨a,rfl⟩:=bC _ _ _ b;exact h.sH j a
theorem j5(f:Nat->Int):(prog.info? 131).map (·.size)=some (vaL f).length:=by show _=some 8;kernel_rfl
theorem Gl{c:Array Oper}{rest:List Oper}{op:Oper}{a:Act}{Q:Exit->Act->World->Prop}(d:op.guard=none)(x:Operand)(g:op.op=.load 131 x)(b o:Nat)(i:a.eval x=.pointer (some ⟨b,o,none⟩))(f:Nat->Int)(e:w.rangeAt b o (vaL f))(h:wpList prog c Q rest (a.put op.dst (.agg (vaA f))) w):wpList prog c Q (op::rest) a w :=
 wpList_load_mid d 131 x g b o i (vaL f) _ e underlying131 rfl (j5 f) h
theorem Vc(f:Nat->Int)(i:Nat)(a:i<8)(w:World):(Instr.index 131 (.agg (vaA f)) (.int .i64 (i:Int))).run prog w=.ok (.int .i64 (f i)) w:=by
 rcases(by omega:i=0\/i=1\/i=2\/i=3\/i=4\/i=5\/i=6\/i=7)with rfl|rfl|rfl|rfl|rfl|rfl|rfl|rfl<;>kernel_rfl
structure NX where
 tape:S3
 eA:S3
 synced:S3
 cn:S3
 ae:S3
 af:S3
 hv:Nat->S3
 bu:Option Nat
def Az(i ob:Nat)(p:Nod)(x:NX):Array Value:=([iv (i:Int),.bool p.up,S3.v x.tape,iv p.sy,iv (p.bad:Int),pt ob 0,iv p.vo.p.r,iv p.vo.p.n,S3.v x.eA,S3.v x.synced,iv p.cl,iv p.bt.fw.r,iv p.bt.fw.n,.bool (p.bt.rk 0),.bool (p.bt.rk 1),.bool (p.bt.rk 2),.bool (p.bt.rk 3),.bool (p.bt.rk 4),iv ((p.bt.av 0).p.r),iv ((p.bt.av 0).p.n),S3.v (x.hv 0),iv ((p.bt.av 1).p.r),iv ((p.bt.av 1).p.n),S3.v (x.hv 1),iv ((p.bt.av 2).p.r),iv ((p.bt.av 2).p.n),S3.v (x.hv 2),iv ((p.bt.av 3).p.r),iv ((p.bt.av 3).p.n),S3.v (x.hv 3),iv ((p.bt.av 4).p.r),iv ((p.bt.av 4).p.n),S3.v (x.hv 4),iv (p.bt.bw 0:Int),iv (p.bt.bw 1:Int),iv (p.bt.bw 2:Int),iv (p.bt.bw 3:Int),iv (p.bt.bw 4:Int),iv (p.bt.next:Int),S3.v x.cn,S3.v x.ae,iv (p.done:Int)]++((stA p.kc).toList++[S3.v x.af,.map x.bu])).toArray
def Fj(l:Let)(vs wh:S3):Array Value:=#[iv (l.kind:Int),iv (l.src:Int),iv (l.dst:Int),iv l.fw.r,iv l.fw.n,iv l.bW.an,iv l.bW.b.r,iv l.bW.b.n,iv l.bW.w.k,iv l.bW.w.c,iv l.bW.w.s,iv l.bW.w.n,iv l.bW.w.v,S3.v vs,iv (l.an:Int),S3.v wh]
def F4(t:Tol):List Value:=[iv (t.n:Int),iv t.c,iv t.s,iv t.e,iv t.a]
def cmV(c:Cmd):List Value:=[iv c.k,iv c.c,iv c.s,iv c.n,iv c.v]
def cmL(l:List Cmd):List Value:=l.flatMap cmV
theorem BY(l m:List Cmd):cmL (l++m)=cmL l++cmL m:=by simp[cmL]
theorem Bz(l:List Cmd):(cmL l).length=l.length*5:=by
 induction l with
 | nil=>rfl
 | cons c l ih=>rw[cmL,oS,I'];show 5+(cmL l).length=_;rw[ih,mR];omega
theorem OA(l:List Cmd):∀ u∈cmL l,u.oneCell'=true:=by
 intro u b;obtain⟨c,_,a⟩:=pu.1 b;simp only[cmV,mK,O',or_false]at a;rcases a with rfl|rfl|rfl|rfl|rfl<;>rfl
theorem O9{l:List Cmd}{k:Nat}{c:Cmd}(h:l[k]?=some c){j:Nat}{u:Value}(a:(cmV c)[j]?=some u):(cmL l)[5*k+j]?=some u:=by
 induction l generalizing k with
 | nil=>cases h
 | cons d l ih =>
  rw[cmL,oS];cases k with
  | zero =>
   simp only[nY,P']at h;subst h;rw[mP (by have:=(Q'.1 a).1;omega)];simpa using a
  | succ k =>
   rw[mQ (by show 5<=_;omega),show 5*(k+1)+j-(cmV d).length=5*k+j by show 5*(k+1)+j-5=_;omega];exact ih (by simpa using h)
theorem Lo(l:List Cmd)(k:Nat):(cmL l).drop (5*k)=cmL (l.drop k):=by
 induction l generalizing k with
 | nil=>simp[cmL]
 | cons c l ih =>
  cases k with
  | zero=>simp
  | succ k =>
   show(cmV c++cmL l).drop (5*(k+1))=cmL (l.drop k);rw[<- ih k,List.drop_append,show(cmV c).drop (5*(k+1))=[]from nu (by show 5<=_;omega),nF,show 5*(k+1)-(cmV c).length=5*k by show 5*(k+1)-5=_;omega]
def Frz(g:Gh)(x:S3):Prop:=∀ a,x.a=some a->g.t a.block=.z
structure FSl(g:Gh)(w:World)(x:S3)(l:List Int):Prop where
 s:Sl w x.v l
 z:l≠[]->Frz g x
structure FSv(g:Gh)(w:World)(x:S3)(l:List Vt):Prop where
 s:Sv w x.v l
 z:l≠[]->Frz g x
end
section
variable{B:Nat}{T:List Tg}{g g':Gh}{w w':World}
section
variable{b i nb ob r:Nat}{bs:List Nat}{f:Cmd->Option Bal}{l:List Let}{x:S3}
theorem Cg.zc(c:Cg B T g w g' w')(e:Tg.z∉T){b:Nat}(d:b<w.heap.size)(a:g.t b=.z):w'.heap[b]?=w.heap[b]?:=c.same b d (by rw[a];exact e) (λh=>by rw[a]at h;cases h)
theorem FSl.ch{l:List Int}(h:FSl g w x l)(c:Cg B T g w g' w')(v:Tg.z∉T:=by simp):FSl g' w' x l:=by
 obtain⟨⟨⟨a,r,q,o,p,j⟩,k,m⟩,s⟩:=h;simp only[Value.slice.injEq]at q;obtain⟨rfl,e,rfl⟩:=q;rcases j with j|⟨b,off,ha,hbs,hcell⟩
 .exact⟨⟨⟨_,_,by simp only[Value.slice.injEq,and_true,true_and];exact e,o,p,.inl j⟩,k,m⟩,λh=>absurd j h⟩
 .have hne:∀ _:l≠[],g.t b=.z:=λh=>s h _ ha;by_cases f:l=[]
  .exact⟨⟨⟨_,_,by simp only[Value.slice.injEq,and_true,true_and];exact e,o,p,.inl f⟩,k,m⟩,λh=>absurd f h⟩
  .refine⟨⟨⟨_,_,by simp only[Value.slice.injEq,and_true,true_and];exact e,o,p,.inr ⟨b,off,ha,X' hbs c.size,λi u=>?_⟩⟩,k,m⟩,λ_ y d=>?_⟩
   .rw[World.cell?_of_block (w:=w) (c.zc v hbs (hne f))];exact hcell i u
   .rw[ha]at d;simp only[P']at d;subst d;rw[c.tag hbs (λh=>absurd ((hne f).symm.trans h) (by simp))];exact hne f
theorem FSv.ch{l:List Vt}(h:FSv g w x l)(c:Cg B T g w g' w')(A:Tg.z∉T:=by simp):FSv g' w' x l:=by
 obtain⟨⟨⟨a,q,p,m,o,f⟩,k⟩,r⟩:=h;simp only[Value.slice.injEq]at p;obtain⟨rfl,e,rfl⟩:=p;rcases f with f|⟨b,off,ha,hbs,hcell⟩
 .exact⟨⟨⟨_,_,by simp only[Value.slice.injEq,and_true,true_and];exact e,m,o,.inl f⟩,k⟩,λh=>absurd f h⟩
 .by_cases hl:l=[]
  .exact⟨⟨⟨_,_,by simp only[Value.slice.injEq,and_true,true_and];exact e,m,o,.inl hl⟩,k⟩,λh=>absurd hl h⟩
  .have hzb:g.t b=.z:=r hl _ ha;refine⟨⟨⟨_,_,by simp only[Value.slice.injEq,and_true,true_and];exact e,m,o,.inr ⟨b,off,ha,X' hbs c.size,λi v s j u y=>?_⟩⟩,k⟩,λ_ C d=>?_⟩
   .rw[World.cell?_of_block (w:=w) (c.zc A hbs hzb)];exact hcell i v s j u y
   .rw[ha]at d;simp only[P']at d;subst d;rw[c.tag hbs (λh=>absurd (hzb.symm.trans h) (by simp))];exact hzb
structure Rc(g:Gh)(w:World)(x:S3)(l:List Cmd):Prop where
 len:x.n=l.length
 cap:x.n<=x.c
 sh:x.a=none->x.c=0
 ex:l=[]\/∃ b off,x.a=some ⟨b,off,none⟩/\b<w.heap.size/\(∀ j u,(cmL l)[j]?=some u->w.cell? ⟨b,off+j,none⟩=some u)/\(g.t b=.z\/off+5*l.length<=g.k b)
theorem Rc.nil(g:Gh)(w:World):Rc g w s30 []:=⟨rfl,A' _,λ_=>rfl,.inl rfl⟩
theorem Rc.ch{l:List Cmd}(h:Rc g w x l)(c:Cg B T g w g' w')(d:Tg.z∉T:=by simp):Rc g' w' x l:=by
 refine⟨h.len,h.cap,h.sh,?_⟩;rcases h.ex with h1|⟨b,off,h1,h2,h3,h4⟩
 .exact .inl h1
 .refine .inr ⟨b,off,h1,X' h2 c.size,λj u a=>?_,?_⟩
  .rcases h4 with h4|h4
   .rw[World.cell?_of_block (w:=w) (c.zc d h2 h4)];exact h3 j u a
   .have hjl:j<(cmL l).length:=(Q'.1 a).1;rw[Bz]at hjl
    rw[c.rN b h2 (off+j) (by omega)];exact h3 j u a
  .rcases h4 with h4|h4
   .exact .inl ((c.tag h2 (by rw[h4];intro h;cases h)).trans h4)
   .exact .inr (mI h4 (c.rM b h2))
structure Box(g:Gh)(w:World)(b:Nat)(cs:Array Value)(t:TypeId):Prop where
 r:w.heap[b]?=some (.cells cs t)
 z:g.t b=.z
theorem Box.ch{a:Array Value}{t:TypeId}(h:Box g w b a t)(c:Cg B T g w g' w')(d:Tg.z∉T:=by simp):Box g' w' b a t:=⟨(c.zc d (rl h.r) h.z).trans h.r,(c.tag (rl h.r) (by rw[h.z];intro h;cases h)).trans h.z⟩
def Cq(g:Gh)(w:World)(b:Nat)(l:Let):Prop:=∃ vs wh,Box g w b (Fj l vs wh) 186/\FSv g w vs l.eA/\Rc g w wh l.cx
theorem Cq.ch{l:Let}(h:Cq g w b l)(c:Cg B T g w g' w')(a:Tg.z∉T:=by simp):Cq g' w' b l:=let ⟨vs,wh,h1,h2,h3⟩:=h;⟨vs,wh,h1.ch c a,h2.ch c a,h3.ch c a⟩
def KY(g:Gh)(w:World)(nb:Nat)(v:Value):Pend->Prop
 | .began b vs=>∃ b1 b2 b3 x,v=.func (.func 87) #[] #[pt b1 0,pt b2 0,pt b3 0]/\Box g w b1 #[pt nb 0] 118/\Box g w b2 #[iv b.r,iv b.n] 123/\Box g w b3 #[S3.v x] 124/\FSv g w x vs
 | .prom to b vs=>∃ b1 b2 b3 x lb l,v=.func (.func 120) #[] #[pt b1 0,pt b2 0,pt b3 0]/\Box g w b1 #[pt nb 0] 118/\Box g w b2 #[pt lb 0] 187/\Box g w b3 #[S3.v x] 124/\FSv g w x vs/\Cq g w lb l/\l.src=to/\l.fw=b
 | .voted to u=>∃ b1 b2 lb l,v=.func (.func 126) #[] #[pt b1 0,pt b2 0]/\Box g w b1 #[pt nb 0] 118/\Box g w b2 #[pt lb 0] 187/\Cq g w lb l/\l.src=to/\l.bW=u
 | .fa to b=>∃ b1 b2 b3,v=.func (.func 168) #[] #[pt b1 0,pt b2 0,pt b3 0]/\Box g w b1 #[pt nb 0] 118/\Box g w b2 #[iv (to:Int)] 3/\Box g w b3 #[iv b.r,iv b.n] 123
 | .prop u=>∃ b1 b2,v=.func (.func 143) #[] #[pt b1 0,pt b2 0]/\Box g w b1 #[pt nb 0] 118/\Box g w b2 (vtA u) 184
 | .askNews to=>∃ b1 b2 lb l,v=.func (.func 128) #[] #[pt b1 0,pt b2 0]/\Box g w b1 #[pt nb 0] 118/\Box g w b2 #[pt lb 0] 187/\Cq g w lb l/\l.src=to
 | .start=>∃ b1,v=.func (.func 100) #[] #[pt b1 0]/\Box g w b1 #[pt nb 0] 118
 | .tell to an=>∃ b1 b2 lb l,v=.func (.func 130) #[] #[pt b1 0,pt b2 0]/\Box g w b1 #[pt nb 0] 118/\Box g w b2 #[pt lb 0] 187/\Cq g w lb l/\l.src=to/\l.an=an
theorem KY.ch{v:Value}{q:Pend}(h:KY g w nb v q)(c:Cg B T g w g' w')(a:Tg.z∉T:=by simp):KY g' w' nb v q:=by
 cases q with
 | began b vs=>obtain⟨d,i,p,x,e,f,j,k,m⟩:=h;exact⟨d,i,p,x,e,f.ch c a,j.ch c a,k.ch c a,m.ch c a⟩
 | prom to b vs=>obtain⟨d,i,p,x,o,l,e,f,j,k,m,r,s⟩:=h;exact⟨d,i,p,x,o,l,e,f.ch c a,j.ch c a,k.ch c a,m.ch c a,r.ch c a,s⟩
 | voted to u=>obtain⟨d,i,o,l,e,f,j,k,m⟩:=h;exact⟨d,i,o,l,e,f.ch c a,j.ch c a,k.ch c a,m⟩
 | fa to b=>obtain⟨d,i,p,e,f,j,k⟩:=h;exact⟨d,i,p,e,f.ch c a,j.ch c a,k.ch c a⟩
 | prop u=>obtain⟨d,i,e,f,j⟩:=h;exact⟨d,i,e,f.ch c a,j.ch c a⟩
 | askNews to=>obtain⟨d,i,o,l,e,f,j,k,m⟩:=h;exact⟨d,i,o,l,e,f.ch c a,j.ch c a,k.ch c a,m⟩
 | start=>obtain⟨d,e,f⟩:=h;exact⟨d,e,f.ch c a⟩
 | tell to an=>obtain⟨d,i,o,l,e,f,j,k,m⟩:=h;exact⟨d,i,o,l,e,f.ch c a,j.ch c a,k.ch c a,m⟩
def mkA(x:Cmd × Bal × Nat):MapEntry:={ key:=.agg (cmV x.1).toArray,val:=.agg #[iv x.2.1.r,iv x.2.1.n],born:=x.2.2 }
structure AskAt(g:Gh)(w:World)(τ:Tg)(b:Nat)(f:Cmd->Option Bal):Prop where
 t:g.t b=τ
 k:g.k b=0
 ex:∃ (es:List (Cmd × Bal × Nat)) (clock:Nat),w.heap[b]?=some (.map (es.map mkA).toArray clock)/\(∀ x∈es,x.2.2<clock)/\(es.map (·.2.2)).Nodup/\(es.map (·.1)).Nodup/\∀ c,f c=(es.find? λx=>decide (c=x.1)).map (·.2.1)
def Xq(g:Gh)(w:World)(i:Nat)(f:Cmd->Option Bal):Option Nat->Prop
 | some b=>AskAt g w (.n 5 i) b f
 | none=>f=λ_=>none
structure Pends(g:Gh)(w:World)(nb:Nat)(vs:List Value)(l:List Pend):Prop where
 len:vs.length=l.length
 at_:∀ (k:Nat) (v:Value) (q:Pend),vs[k]?=some v->l[k]?=some q->KY g w nb v q
structure NodeAt(g:Gh)(w:World)(i nb ob:Nat)(x:NX)(p:Nod):Prop where
 row:w.heap[nb]?=some (.cells (Az i ob p x) 145)
 tag:g.t nb=.n 0 i
 rM:g.k nb=0
 tape:FSl g w x.tape p.d
 eA:FSv g w x.eA p.vo.vs
 av:∀ j,j<5->FSv g w (x.hv j) (p.bt.av j).vs
 br:∃ vs,OwnS g w (.n 1 i) true 1 1 x.synced vs/\Pends g w nb vs p.br
 cn:OwnS g w (.n 2 i) false 64 5 x.cn (cmL p.bt.cn)
 ae:OwnS g w (.n 3 i) true 64 5 x.ae (cmL p.ae)
 af:OwnS g w (.n 4 i) false 64 5 x.af (cmL p.af)
 bu:Xq g w i p.bu x.bu
 rP:p.up=true->∃ b,x.bu=some b
structure Lets(g:Gh)(w:World)(bs:List Nat)(l:List Let):Prop where
 len:bs.length=l.length
 at_:∀ (k b:Nat) (m:Let),bs[k]?=some b->l[k]?=some m->Cq g w b m
structure OutAt(g:Gh)(w:World)(ob:Nat)(lt tl:S3)(ls:List Let)(ts:List Tol):Prop where
 row:w.heap[ob]?=some (.cells #[lt.v,tl.v] 115)
 tag:g.t ob=.n 50 0
 rM:g.k ob=0
 bN:∃ bs,OwnS g w (.n 51 0) false 187 1 lt (bs.map (pt · 0))/\Lets g w bs ls
 cF:OwnS g w (.n 52 0) false 150 5 tl (ts.flatMap F4)
theorem Pends.ch{a:List Value}{l:List Pend}(h:Pends g w nb a l)(c:Cg B T g w g' w')(e:Tg.z∉T:=by simp):Pends g' w' nb a l:=⟨h.len,λk v q b d=>(h.at_ k v q b d).ch c e⟩
theorem Lets.ch(h:Lets g w bs l)(c:Cg B T g w g' w')(d:Tg.z∉T:=by simp):Lets g' w' bs l:=⟨h.len,λk v q a b=>(h.at_ k v q a b).ch c d⟩
theorem Lets.snoc{m:Let}(h:Lets g w bs l)(f:Cq g w b m):Lets g w (bs++[b]) (l++[m]):=by
 refine⟨by simp[h.len],λk c q a d=>?_⟩;by_cases e:k<bs.length
 .rw[mP e]at a
  rw[mP (by rw[<- h.len];exact e)]at d
  exact h.at_ k c q a d
 .rw[mQ (by omega)]at a
  rw[mQ (by rw[<- h.len];omega),<- h.len]at d
  cases hx:k-bs.length with
  | zero=>rw[hx]at a d;simp at a d;subst a d;exact f
  | succ n=>rw[hx]at a;simp at a
theorem Cg.rc(c:Cg B T g w g' w'){b:Nat}{o:Obj}{r i:Nat}(h:w.heap[b]?=some o)(a:g.t b=.n r i)(d:Tg.n r i∉T):w'.heap[b]?=some o/\g'.t b=.n r i/\g'.k b=g.k b :=
 ⟨(c.same b (rl h) (by rw[a];exact d) (λh=>by rw[a]at h;cases h)).trans h,(c.tag (rl h) (by rw[a];intro h;cases h)).trans a,c.sj b (rl h) (by rw[a];exact d) (by rw[a];intro h;cases h)⟩
theorem AskAt.ch(h:AskAt g w (.n r i) b f)(c:Cg B T g w g' w')(hn:Tg.n r i∉T:=by simp):AskAt g' w' (.n r i) b f:=by
 obtain⟨e,j,d,k,m,o⟩:=h;have a:=c.rc m e hn;exact⟨a.2.1,a.2.2.trans j,d,k,a.1,o⟩
theorem Xq.ch{a:Option Nat}(h:Xq g w i f a)(c:Cg B T g w g' w')(hn:Tg.n 5 i∉T:=by simp):Xq g' w' i f a:=by
 cases a with
 | none=>exact h
 | some b=>exact AskAt.ch h c hn
theorem NodeAt.ch{x:NX}{p:Nod}(h:NodeAt g w i nb ob x p)(c:Cg B T g w g' w')(a:Tg.z∉T:=by simp)(hn:∀ r,r<6->Tg.n r i∉T:=by simp):NodeAt g' w' i nb ob x p:=by
 have b:=c.rc h.row h.tag (hn 0 (by omega));obtain⟨k,d,e⟩:=h.br;exact⟨b.1,b.2.1,b.2.2.trans h.rM,h.tape.ch c a,h.eA.ch c a,λj f=>(h.av j f).ch c a,⟨k,d.ch c (hn 1 (by omega)) (by simp),e.ch c a⟩,h.cn.ch c (hn 2 (by omega)) (by simp),h.ae.ch c (hn 3 (by omega)) (by simp),h.af.ch c (hn 4 (by omega)) (by simp),h.bu.ch c (hn 5 (by omega)),h.rP⟩
theorem OutAt.ch{lt d:S3}{b:List Let}{e:List Tol}(h:OutAt g w ob lt d b e)(c:Cg B T g w g' w')(k:Tg.z∉T:=by simp)(hn:∀ r,50<=r->Tg.n r 0∉T:=by simp):OutAt g' w' ob lt d b e:=by
 have a:=c.rc h.row h.tag (hn 50 (by omega));obtain⟨f,i,j⟩:=h.bN;exact⟨a.1,a.2.1,a.2.2.trans h.rM,⟨f,i.ch c (hn 51 (by omega)) (by simp),j.ch c k⟩,h.cF.ch c (hn 52 (by omega)) (by simp)⟩
end
end
section
def TN(i:Nat):List Tg:=[.n 0 i,.n 1 i,.n 2 i,.n 3 i,.n 4 i,.n 5 i,.n 50 0,.n 51 0,.n 52 0,.n 60 0]
theorem Bg(i:Nat):Tg.z∉TN i:=by simp[TN]
def NS(i nb ob:Nat)(g:Gh)(w:World)(p:Nod)(ls:List Let)(ts:List Tol):Prop:=∃ x lt tl,NodeAt g w i nb ob x p/\OutAt g w ob lt tl ls ts/\IR g w
variable{B i nb ob:Nat}{T:List Tg}{e:TypeId}{g g':Gh}{l:List Pend}{ls:List Let}{p:Nod}{ts:List Tol}{w w':World}{x:S3}{τ:Tg}
theorem nsC{c:Nat}{x:NX}{lt b:S3}{L:List Sh}(d:NodeAt g w i nb ob x p)(e:OutAt g w ob lt b ls ts)(C:Cg B T g w g' w')(K:Kn c g' w' L)(a:Tg.z∉T:=by simp)(f:∀ r,r<6->Tg.n r i∉T:=by simp)(h:∀ r,50<=r->Tg.n r 0∉T:=by simp):NS i nb ob g' w' p ls ts:=⟨x,lt,b,d.ch C a f,e.ch C a h,K.new⟩
def NP(i nb ob:Nat)(g:Gh)(w:World)(v:Value)(p:Nod)(ls:List Let)(ts:List Tol):Ending->World->Prop:=λe w'=>∃ g',e=.returned v/\NS i nb ob g' w' p ls ts/\Cg w.heap.size (TN i) g w g' w'
theorem NS.new(h:NS i nb ob g w p ls ts):IR g w:=let ⟨_,_,_,_,_,h⟩:=h;h
theorem NS.ab(h:NS i nb ob g w p ls ts)(b:Bw w w'):NS i nb ob g w' p ls ts :=
 let ⟨x,lt,tl,h1,h2,h3⟩:=h
 have c:=Cg.au (B:=0) (T:=[]) (g:=g) b
 ⟨x,lt,tl,h1.ch c,h2.ch c,λk a=>h3 k (mI b.size a)⟩
theorem NS.lp(h:NS i nb ob g w p ls ts)(c:Cg B [] g w g' w')(a:IR g' w'):NS i nb ob g' w' p ls ts :=
 let ⟨x,lt,tl,h1,h2,_⟩:=h
 ⟨x,lt,tl,h1.ch c,h2.ch c,a⟩
theorem NodeAt.rL{b:Nat}{x:NX}(h:NodeAt g w i nb ob x p)(a:x.bu=some b):AskAt g w (.n 5 i) b p.bu:=by have:=h.bu;rw[a]at this;exact this
theorem BL(h:∃ vs,OwnS g w (.n 1 i) true 1 1 x vs/\Pends g w nb vs l)(c:Cg B T g w g' w')(b:Tg.z∉T:=by simp)(a:Tg.n 1 i∉T:=by simp):∃ vs,OwnS g' w' (.n 1 i) true 1 1 x vs/\Pends g' w' nb vs l :=
 let ⟨vs,h1,h2⟩:=h
 ⟨vs,h1.ch c a (by simp),h2.ch c b⟩
theorem D9{l:List Let}(h:∃ bs:List Nat,OwnS g w (.n 51 0) false 187 1 x (bs.map (pt · 0))/\Lets g w bs l)(c:Cg B T g w g' w')(b:Tg.z∉T:=by simp)(a:Tg.n 51 0∉T:=by simp):∃ bs:List Nat,OwnS g' w' (.n 51 0) false 187 1 x (bs.map (pt · 0))/\Lets g' w' bs l :=
 let ⟨bs,h1,h2⟩:=h
 ⟨bs,h1.ch c a (by simp),h2.ch c b⟩
theorem Bj{a:Nat->S3}{f:Nat->Acc}(h:∀ j,j<5->FSv g w (a j) (f j).vs)(c:Cg B T g w g' w')(d:Tg.z∉T:=by simp):∀ j,j<5->FSv g' w' (a j) (f j).vs:=λj b=>(h j b).ch c d
theorem Pends.snoc{d:List Value}{v:Value}{q:Pend}(h:Pends g w nb d l)(f:KY g w nb v q):Pends g w nb (d++[v]) (l++[q]):=by
 refine⟨by simp[h.len],λk c m a b=>?_⟩;by_cases e:k<d.length
 .rw[mP e]at a
  rw[mP (by rw[<- h.len];exact e)]at b
  exact h.at_ k c m a b
 .rw[mQ (by omega)]at a
  rw[mQ (by rw[<- h.len];omega),<- h.len]at b
  cases hx:k-d.length with
  | zero=>rw[hx]at a b;simp at a b;subst a b;exact f
  | succ n=>rw[hx]at a;simp at a
theorem OwnS.num{a:Bool}{l:List Cmd}(h:OwnS g w τ a e 5 x (cmL l)):x.n=l.length:=by have:=h.len;rw[Bz]at this;omega
theorem OwnS.rc{l:List Cmd}(h:OwnS g w τ true e 5 x (cmL l)):Rc g w x l:=by
 have a:=h.num;rcases h.ex with⟨h1,h2,h3⟩|⟨b,cur,h1,h2,h3,h4,h5,h6,h7,h8⟩
 .exact⟨a,by omega,λ_=>h3,.inl (mG (by omega))⟩
 .refine⟨a,h3,λh=>(by rw[h1]at h;cases h),.inr ⟨b,0,h1,rl h2,λj u c=>?_,.inr ?_⟩⟩
  .obtain⟨b',hb',_,hc⟩:=h.cell c;rw[h1]at hb'
   simp only[P',Addr.mk.injEq,and_true]at hb';subst hb';rw[nn];exact hc
  .rw[h8,Bz];simp;omega
end
end
end Go.Proofs.YtdjfdfpkkenjbabGreatDoor
