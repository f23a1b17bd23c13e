/- Part 4 of the walk. -/
import Derived.Great.BuildSlice
import Derived.Test.YtdjfdfpkkenjbaaGreatDoorZ3
set_option maxRecDepth 100000
set_option maxHeartbeats 4000000
open Go.Proofs.Tryz
set_option linter.unusedVariables false
namespace Go.Proofs.YtdjfdfpkkenjbaaGreatDoor
section
section
structure Bal where
 r:Int
 n:Int
theorem Bal.eq_iff(a b:Bal):(a.r=b.r/\a.n=b.n)↔a=b:=by
 cases a;cases b;simp
instance:DecidableEq Bal:=λa b=>decidable_of_iff _ (Bal.eq_iff a b)
structure Cmd where
 k:Int
 c:Int
 s:Int
 n:Int
 v:Int
theorem Cmd.eq_iff(a b:Cmd):(a.k=b.k/\a.c=b.c/\a.s=b.s/\a.n=b.n/\a.v=b.v)↔a=b:=by
 cases a;cases b;simp
instance:DecidableEq Cmd:=λa b=>decidable_of_iff _ (Cmd.eq_iff a b)
structure Vt where
 au:Int
 b:Bal
 w:Cmd
theorem Vt.eq_iff(a b:Vt):(a.au=b.au/\a.b=b.b/\a.w=b.w)↔a=b:=by
 cases a;cases b;simp
instance:DecidableEq Vt:=λa b=>decidable_of_iff _ (Vt.eq_iff a b)
instance:Inhabited Vt:=⟨⟨0,⟨0,0⟩,⟨0,0,0,0,0⟩⟩⟩
structure Acc where
 p:Bal
 vs:List Vt
def Bal.lt(a b:Bal):Prop:=a.r<b.r\/(a.r=b.r/\a.n<b.n)
instance (a b:Bal):Decidable (a.lt b):=by unfold Bal.lt;exact inferInstance
def Bal.key(a:Bal):Int:=5*a.r+a.n
def Ad(a:Bal):Prop:=(1<=a.r/\a.r<=65536)/\0<=a.n/\a.n<=4
instance (a:Bal):Decidable (Ad a):=by unfold Ad;exact inferInstance
def Cmd.e(c:Cmd):Int:=AQ c.k c.c c.s c.n c.v
def Ai(v:Vt):Prop:=(0<=v.au/\v.au<=39)/\Ad v.b/\v.w.e=0
instance (v:Vt):Decidable (Ai v):=by unfold Ai;exact inferInstance
def AL(a:Bal):Prop:=Ad a\/(a.r=0/\a.n=0)
instance (a:Bal):Decidable (AL a):=by unfold AL;exact inferInstance
def B2:List Vt->Prop
 | []=>True
 | u::us=>(∀ v∈us,u.au<v.au)/\B2 us
def SJ:(l:List Vt)->Decidable (B2 l)
 | []=>isTrue trivial
 | u::us=>@instDecidableAnd _ _ inferInstance (SJ us)
instance (l:List Vt):Decidable (B2 l):=SJ l
def Ak(a:Acc):Prop:=AL a.p/\(∀ v∈a.vs,Ai v/\¬ a.p.lt v.b)/\B2 a.vs
instance (a:Acc):Decidable (Ak a):=by unfold Ak;exact inferInstance
variable{a b:Bal}{l:List Vt}{v:Vt}
theorem Nt(c:AL a)(d:AL b):a.lt b↔a.key<b.key:=by
 unfold AL Ad at c d;unfold Bal.lt Bal.key;omega
theorem Zr(c:AL a)(d:AL b)(h:a.key=b.key):a=b:=by
 unfold AL Ad at c d;unfold Bal.key at h;exact(Bal.eq_iff a b).1 (by omega)
theorem Ad.pr(h:Ad a):AL a:=.inl h
def EF(a:Acc):Int:=if Ak a then 0 else 5
def BY(a:Acc)(b:Bal):Int:=if ¬ Ak a then 5 else if ¬ Ad b then 2 else if b.lt a.p then 7 else 0
def Bb(a:Acc)(v:Vt):Int:=if ¬ Ak a then 5 else if ¬ Ai v then 2 else if v.b.lt a.p then 7 else 0
def Ba:List Vt->Vt->List Vt
 | [],v=>[v]
 | u::us,v=>if u.au<v.au then u::Ba us v else if u.au=v.au then v::us else v::u::us
theorem DF{u:Vt}(h:B2 l):u∈Ba l v↔u=v\/(u∈l/\u.au≠v.au):=by
 induction l with
 | nil=>simp[Ba]
 | cons x xs b =>
  obtain⟨c,a⟩:=h;have b:=b a;rw[Ba];split
  .rename_i h1
   rw[iG,b];constructor
   .rintro(rfl|rfl|⟨h2,h3⟩)
    .exact .inr ⟨U',by omega⟩
    .exact .inl rfl
    .exact .inr ⟨Q' _ h2,h3⟩
   .rintro(rfl|⟨h2,h3⟩)
    .exact .inr (.inl rfl)
    .rcases iG.1 h2 with rfl|h2
     .exact .inl rfl
     .exact .inr (.inr ⟨h2,h3⟩)
  .split
   .rename_i h1 h2
    rw[iG];constructor
    .rintro(rfl|h3)
     .exact .inl rfl
     .have:=c u h3;exact .inr ⟨Q' _ h3,by omega⟩
    .rintro(rfl|⟨h3,h4⟩)
     .exact .inl rfl
     .rcases iG.1 h3 with rfl|h3
      .exact absurd h2 h4
      .exact .inr h3
   .rename_i h1 h2
    rw[iG];constructor
    .rintro(rfl|h3)
     .exact .inl rfl
     .rcases iG.1 h3 with rfl|h4
      .exact .inr ⟨h3,h2⟩
      .have:=c u h4;exact .inr ⟨h3,by omega⟩
    .rintro(rfl|⟨h3,h4⟩)
     .exact .inl rfl
     .exact .inr h3
theorem Iw(v:Vt)(h:B2 l):B2 (Ba l v):=by
 induction l with
 | nil=>exact⟨λu b=>(M' b).elim,trivial⟩
 | cons x xs ih =>
  obtain⟨c,a⟩:=h;rw[Ba];split
  .rename_i h1
   refine⟨λu b=>?_,ih a⟩;rcases(DF a).1 b with rfl|⟨h2,_⟩
   .exact h1
   .exact c u h2
  .split
   .rename_i h1 h2
    exact⟨λu b=>by have:=c u b;omega,a⟩
   .rename_i h1 h2
    refine⟨λu b=>?_,c,a⟩;rcases iG.1 b with rfl|h3
    .omega
    .have:=c u h3;omega
def Cl:List Vt->Option Vt->Option Vt
 | [],o=>o
 | v::l,none=>Cl l (some v)
 | v::l,some u=>if u.b.lt v.b then Cl l (some v)else Cl l (some u)
def Al(l:List Vt)(s:Int):List Vt:=l.filter λv=>decide (v.au=s)
theorem Cu{s:Int}:v∈Al l s↔v∈l/\v.au=s:=by simp[Al]
def CN(ls:List (List Vt))(s:Int):Int:=if ¬ (0<=s/\s<=39)then 2 else if ∀ l∈ls,∀ v∈l,Ai v then 0 else 5
def KM(ls:List (List Vt))(s:Int):Option Vt:=Cl (Al ls.flatten s) none
def CL(l:List Vt)(v:Vt):Nat:=l.countP λu=>decide (u=v)
def Hb(l:List Vt)(m:Nat):Option Vt:=l.find? λv=>decide (m<2*CL l v)
end
end
section
open Go.RowKit
section
def vtC(v:Vt):List Value:=[.int .i64 v.au,.int .i64 v.b.r,.int .i64 v.b.n,.int .i64 v.w.k,.int .i64 v.w.c,.int .i64 v.w.s,.int .i64 v.w.n,.int .i64 v.w.v]
def vtA(v:Vt):Array Value:=(vtC v).toArray
theorem BT(v:Vt):(vtC v).length=8:=rfl
theorem bp(v:Vt):∀ u∈vtC v,u.oneCell'=true:=by
 intro u a;simp only[vtC,iG,M',or_false]at a;rcases a with rfl|rfl|rfl|rfl|rfl|rfl|rfl|rfl<;>rfl
def vtL(l:List Vt):List Value:=l.flatMap vtC
theorem Lu(v:Vt)(l:List Vt):vtL (v::l)=vtC v++vtL l:=rfl
theorem RR(l m:List Vt):vtL (l++m)=vtL l++vtL m:=by simp[vtL]
theorem Cx(l:List Vt):(vtL l).length=l.length*8:=by
 induction l with
 | nil=>rfl
 | cons v l ih=>rw[Lu,G',ih,BT,iX];omega
theorem SY(l:List Vt):∀ u∈vtL l,u.oneCell'=true:=by
 intro u a;obtain⟨v,_,b⟩:=km.1 a;exact bp v u b
theorem bq(l:List Vt)(i:Nat)(v:Vt)(h:l[i]?=some v)(j:Nat)(u:Value)(a:(vtC v)[j]?=some u):(vtL l)[8*i+j]?=some u:=by
 induction l generalizing i with
 | nil=>simp at h
 | cons x l ih =>
  have b:j<8:=by have:=(O'.1 a).1;rwa [BT]at this
  rw[Lu];cases i with
  | zero =>
   simp at h;subst h;rw[iF (by rw[BT];omega)];simpa using a
  | succ i =>
   rw[iH (by rw[BT];omega),BT,show 8*(i+1)+j-8=8*i+j by omega];exact ih i (by simpa using h)
theorem Yr(l:List Vt)(m:Nat)(u:Value)(h:(vtL l)[m]?=some u):∃ v,l[m/8]?=some v/\(vtC v)[m%8]?=some u:=by
 induction l generalizing m with
 | nil=>simp[vtL]at h
 | cons x l ih =>
  rw[Lu]at h
  rcases ja m 8 with hm|hm
  .rw[iF (by rw[BT];omega)]at h
   exact⟨x,by rw[Nat.div_eq_of_lt hm];rfl,by rwa [k9 hm]⟩
  .rw[iH (by rw[BT];omega),BT]at h
   obtain⟨v,a,b⟩:=ih (m-8) h;refine⟨v,?_,?_⟩
   .rw[show m/8=(m-8)/8+1 by omega];simpa using a
   .rw[show m%8=(m-8)%8 by omega];exact b
structure Sv(w:World)(x:Value)(l:List Vt):Prop where
 ex:∃ a cap,x=.slice a l.length cap/\l.length<=cap/\(a=none->cap=0)/\(l=[]\/∃ b off,a=some ⟨b,off,none⟩/\b<w.heap.size/\∀ i v,l[i]?=some v->w.rangeAt b (off+8*i) (vtC v))
 len:l.length<=2199023255488
variable{B base e g n:Nat}{P:Program}{Q:Exit->Act->World->Prop}{a:Act}{l:List Vt}{ops:Array Oper}{w w':World}{x:Value}
theorem Sv.ab(h:Sv w x l)(e:Bw w w'):Sv w' x l:=by
 obtain⟨⟨a,c,rfl,g,n,d⟩,f⟩:=h;refine⟨⟨a,c,rfl,g,n,?_⟩,f⟩;rcases d with d|⟨b,off,ha,hbs,hcell⟩
 .exact .inl d
 .exact .inr ⟨b,off,ha,Y' hbs e.size,λi v k j u m=>(e.cell (p:=⟨b,off+8*i+j,none⟩) hbs).trans (hcell i v k j u m)⟩
theorem Sv.nil(w:World):Sv w (.slice none 0 0) []:=⟨⟨none,0,rfl,by simp,by simp,.inl rfl⟩,by simp⟩
theorem Sv.shape(h:Sv w x l):∃ a cap,x=.slice a l.length cap:=by
 obtain⟨⟨a,cap,e,_⟩,_⟩:=h;exact⟨a,cap,e⟩
theorem Sv.spot{a:Option Addr}{c:Nat}(h:Sv w (.slice a n c) l)(i:Nat)(v:Vt)(f:l[i]?=some v):∃ b off,a=some ⟨b,off,none⟩/\b<w.heap.size/\w.rangeAt b (off+8*i) (vtC v):=by
 obtain⟨⟨j,d,e,k,m,g⟩,_⟩:=h;simp only[Value.slice.injEq]at e;obtain⟨rfl,rfl,rfl⟩:=e;rcases g with rfl|⟨b,off,rfl,hb,hcell⟩
 .simp at f
 .exact⟨b,off,rfl,hb,hcell i v f⟩
theorem Sv.jv(h:w.ownsRow base e 8 x l.length (vtL l))(f:l.length<=2199023255488):Sv w x l:=by
 refine⟨?_,f⟩;rcases h.2 with⟨rfl,h0⟩|⟨g,cap,cur,rfl,_,hg,hn,_,hcs,ht⟩
 .exact⟨none,0,by rw[h0],by omega,λ_=>rfl,.inl (Z' h0)⟩
 .refine⟨_,cap,rfl,hn,by simp,.inr ⟨g,0,rfl,(H'.1 hg).1,λi v c j u d=>?_⟩⟩;have b:=h.cells (g:=g) rfl (8*i+j) u (bq l i v c j u d);have a:(⟨g,0,none⟩:Addr).add (8*i+j)=⟨g,8*i+j,none⟩:=by unfold Addr.add;split<;>simp_all
  rw[a]at b
  rw[i5];exact b
theorem LV(w:World)(c t s e:Nat)(z:Value)(C:P.underlying t=some (.slice e))(h:(P.info? e).map (λi=>(i.zero,i.size,i.bytes))=some (some z,8,64))(r:z.cells.size=8)(x:Value)(l:List Vt)(d:w.ownsRow c e 8 x l.length (vtL l))(u:Value)(m:List Vt)(M:Sv w u m)(B:l.length+m.length<=2199023255552)(g:c<=w.heap.size) :
  ∃ v' w',(Builtin.append_ #[t,t] s #[x,u]).run P w=.ok v' w'/\w'.ownsRow c e 8 v' (l++m).length (vtL (l++m))/\w.grownBy w' x.ownBlock:=by
 obtain⟨i,y,N,q,o⟩:=info_parts h;obtain⟨⟨a,n,rfl,O,J,D⟩,_⟩:=M;cases a with
 | none =>
  have p:=J rfl;subst p;have I:m=[]:=Z' (by omega);subst I;refine⟨x,w,?_,by simpa using d,⟨rfl,rfl,rfl,A' _,λ_ _ _=>rfl⟩⟩;exact run_append_owned_none (P:=P) (w:=w) c t s e i 8 C y x l.length _ d
 | some ad =>
  have f:∀ j u,(vtL m)[j]?=some u->w.cell? (ad.add j)=some u:=by
   intro j u A;rcases D with rfl|⟨b,off,hab,_,hcell⟩
   .simp[vtL]at A
   .obtain rfl:ad=⟨b,off,none⟩:=by simpa using hab
    obtain⟨v,E,F⟩:=Yr m j u A;have k:(⟨b,off,none⟩:Addr).add j=⟨b,off+j,none⟩:=by unfold Addr.add;split<;>simp_all
    rw[k];have G:=hcell (j/8) v E (j%8) u F
    rwa [show off+8*(j/8)+j%8=off+j by omega]at G
  obtain⟨v',w',L,K,H,_⟩:=run_append_own (P:=P) w c t s e i z 8 64 C y N q o r (by decide) x l.length _ d ad m.length n (vtL m) (Cx m) f (SY m)
   (by unfold maxLen;omega) (by omega) g
  exact⟨v',w',L,by rw[RR,G'];exact K,H⟩
theorem Bd(w:World){c:List Oper}{o:Oper}(n:o.guard=none)(s x:Operand)(t:TypeId)(r:o.op=.call { callee:=.builtin .append,args:=#[s,x],argTypes:=#[t,t] })(b e:Nat)(z:Value)(A:P.underlying t=some (.slice e))(f:(P.info? e).map (λi=>(i.zero,i.size,i.bytes))=some (some z,8,64))(p:z.cells.size=8)(v u:Value)(y:a.eval s=v)(C:a.eval x=u)(l m:List Vt)(j:w.ownsRow b e 8 v l.length (vtL l))(B:Sv w u m)(g:l.length+m.length<=2199023255552)(d:b<=w.heap.size)(h:∀ v' w',w'.ownsRow b e 8 v' (l++m).length (vtL (l++m))->w.grownBy w' v.ownBlock->wpList P ops Q c (a.put o.dst v') w'):wpList P ops Q (o::c) a w:=by
 refine wpList_plain n λK q=>?_;obtain⟨v',w',k,D,E⟩:=LV (P:=P) w b t o.type e z A f p v l j u m B g d;unfold Oper.wp execOp;simp only[r,resolve,invoke,builtin,Sem.run_bind,Sem.run_pure,Result.andThen_ok,ki,iU,jz,y,C,k];exact q _ _ (h v' w' D E)
theorem Sv.one(w:World)(v:Vt)(e:TypeId)(b:g=w.heap.size):Sv (w.alloc (.cells (vtA v) e)) (.slice (some ⟨g,0,none⟩) 1 1) [v]:=by
 subst b;refine⟨⟨_,1,rfl,A' _,by simp,.inr ⟨w.heap.size,0,rfl,by simp,λi u a j x c=>?_⟩⟩,by simp⟩;cases i with
 | zero =>
  simp at a;subst a;rw[cell_of_row _ _ (0+8*0+j) _ _ _ (heap_alloc_new w (.cells (vtA v) e))];simpa[vtA]using c
 | succ i=>simp at a
def zVt:Value:=.agg zV8
theorem Eo:(prog.info? 156).map (λi=>(i.zero,i.size,i.bytes))=some (some zVt,8,64):=by kernel_rfl
theorem XJ(v:Vt):(prog.info? 156).map (·.size)=some (vtC v).length:=by show _=some 8;kernel_rfl
theorem Qy:prog.elem 95=156:=by kernel_rfl
theorem RD(w:World):(Go.sizeOf 156).run prog w=.ok 8 w:=by
 obtain⟨i,b,_,a,_⟩:=info_parts Eo;simp[sizeOf,typeInfo,b,a]
theorem I6(b o n c:Nat)(i:Nat)(a:i<n)(w:World):(Instr.indexAt 95 (.slice (some ⟨b,o,none⟩) n c) (.int .i64 (i:Int))).run prog w=.ok (.pointer (some ⟨b,o+8*i,none⟩)) w:=by
 rw[run_indexAt_slice (P:=prog) w 95 _ n c .i64 _ underlying95,if_pos ⟨by omega,by omega⟩,Qy,RD];simp[Result.andThen,Addr.add_mid,Nat.mul_comm]
theorem Cv{l:List Oper}(h:wpList P ops Q l a w):wpList P ops Q l a w:=h
theorem Fe(l:List Vt)(k:Nat)(v:Vt)(h:l[k]?=some v):l.take (k+1)=l.take k++[v]:=by
 obtain⟨a,e⟩:=O'.1 h;rw[iI a,e]
def acA(p:Bal)(x:Value):Array Value:=#[.int .i64 p.r,.int .i64 p.n,x]
theorem Vd:(prog.info? 94).map (·.size)=some 2:=by kernel_rfl
theorem Rt(h:Below B w w'){b o:Nat}{a:List Value}(c:b<B)(d:w.rangeAt b o a):w'.rangeAt b o a :=
 λj v e=>(h.cell (p:=⟨b,o+j,none⟩) c).trans (d j v e)
theorem DZ{a:World}(h:Below B a w)(c:B<=g)(b:Array Value):Below B a (w.setRow g b) :=
 h.trans ⟨rfl,rfl,rfl,by simp,λk d=>setRow_other w g k b (by omega)⟩
theorem bC{S:World->Prop}{op:Oper}(e:Region.wanted op (yielded ops a.tmps)=true)(x:Operand)(d:op.op=.load 156 x)(g:Nat)(f:a.eval x=.pointer (some ⟨g,0,none⟩))(v:Vt)(c:∀ w,S w->w.heap[g]?=some (.cells (vtA v) 156)):YieldsIf prog ops S op (.agg (vtA v)) a :=
 .inl ⟨e,λw b=>by
  unfold execOp;simp only[d,f,Instr.loadAt,Instr.sureAddr,Sem.run_bind,Sem.run_pure,Result.andThen_ok,run_loadVar_row w g 156 156 _ (0,0) _ (c w b) underlying156 rfl (show _=some (vtA v).size from XJ v)]⟩
theorem fN{P:Program}{f:Func}{p u v:Tmp}{c:TypeId}(h:f.results=#[.cell p c,.tmp u,.tmp v])(a:Array Value)(w:World)(g:Nat)(t:TypeId)(b:Array Value)(fr:Nat × Nat)(d:TypeDesc)(l:a.getD p undef=.pointer (some ⟨g,0,none⟩))(j:w.heap[g]?=some (.cells b t fr))(m:P.underlying c=some d)(i:(match d with|.struct _|.array _ _=>true|_=>false)=true)(k:(P.info? c).map (·.size)=some b.size) :
  (results f a).run P w=.ok (.tuple #[.agg b,a.getD u undef,a.getD v undef]) w:=by
 have e:a[p]?.getD undef=.pointer (some ⟨g,0,none⟩):=by simpa using l
 simp[results,h,e,asAddr,run_loadVar_row w g t c b fr d j m i k]
theorem Rp{a:Nat}{v:Value}{b:List Value}(h:w.ownsRow base e a v n b)(c:∀ k,v.ownBlock=some k->w'.heap[k]?=w.heap[k]?):w'.ownsRow base e a v n b:=by
 refine⟨h.1,?_⟩;rcases h.2 with h2|⟨g,cap,cur,hv,hb,hg,hr⟩
 .exact .inl h2
 .exact .inr ⟨g,cap,cur,hv,hb,(c g (by rw[hv];rfl)).trans hg,hr⟩
theorem eF(v:Vt):(prog.info? 156).map (·.size)=some (vtA v).size:=by show _=some 8;kernel_rfl
theorem bO{P:Program}{f:Func}{p u:Tmp}{c:TypeId}(h:f.results=#[.cell p c,.tmp u])(a:Array Value)(w:World)(g:Nat)(t:TypeId)(b:Array Value)(fr:Nat × Nat)(d:TypeDesc)(l:a.getD p undef=.pointer (some ⟨g,0,none⟩))(j:w.heap[g]?=some (.cells b t fr))(m:P.underlying c=some d)(i:(match d with|.struct _|.array _ _=>true|_=>false)=true)(k:(P.info? c).map (·.size)=some b.size) :
  (results f a).run P w=.ok (.tuple #[.agg b,a.getD u undef]) w:=by
 have e:a[p]?.getD undef=.pointer (some ⟨g,0,none⟩):=by simpa using l
 simp[results,h,e,asAddr,run_loadVar_row w g t c b fr d j m i k]
def cmC(c:Cmd):Array Value:=cmA c.k c.c c.s c.n c.v
theorem YU(a b c d:Int):∀ w,(binOp .eql 94 (.agg #[.int .i64 a,.int .i64 b]) (.agg #[.int .i64 c,.int .i64 d])).run prog w=.ok (.bool (decide (a=c/\b=d))) w:=by
 intro w;rw[run_eql_struct,run_equalIn_agg w 9999 _ _ _ (by kernel_rfl) (by kernel_rfl)];unfold Program.fieldsOf;rw[underlying94];have e:=underlying3;simp[Op.eqFields,go_sem,e]
 repeat' split
 all_goals simp_all
theorem VN(a b c d e f g h i j k l m n o p:Int):∀ w,(binOp .eql 156 (.agg #[.int .i64 a,.int .i64 b,.int .i64 c,.int .i64 d,.int .i64 e,.int .i64 f,.int .i64 g,.int .i64 h]) (.agg #[.int .i64 i,.int .i64 j,.int .i64 k,.int .i64 l,.int .i64 m,.int .i64 n,.int .i64 o,.int .i64 p])).run prog w=.ok (.bool (decide (a=i/\b=j/\c=k/\d=l/\e=m/\f=n/\g=o/\h=p))) w:=by
 intro w;rw[run_eql_struct,run_equalIn_agg w 9999 _ _ _ (by kernel_rfl) (by kernel_rfl)];unfold Program.fieldsOf;rw[underlying156];have q:=underlying3;have r:=underlying94;have s:=underlying49;simp[Op.eqFields,go_sem,q,r,s]
 repeat' split
 all_goals simp_all
end
end
section
section
def LH(l:List Vt)(v:Vt):Nat->List Vt
 | 0=>[]
 | k+1=>LH l v k++(if(k:Int)=v.au then[v]else Al l k)
variable{a b l:List Vt}{v:Vt}
theorem Py(c:B2 a)(d:B2 b)(h:∀ x∈a,∀ y∈b,x.au<y.au):B2 (a++b):=by
 induction a with
 | nil=>exact d
 | cons x xs ih =>
  refine⟨λu hu=>?_,ih c.2 (λy e=>h y (Q' _ e))⟩;rcases P'.1 hu with hu|hu
  .exact c.1 u hu
  .exact h x U' u hu
theorem Jh(h:B2 l)(q:Vt->Bool):B2 (l.filter q):=by
 induction l with
 | nil=>trivial
 | cons x xs ih =>
  rw[List.filter_cons];split
  .exact⟨λu a=>h.1 u (List.mem_filter.1 a).1,ih h.2⟩
  .exact ih h.2
theorem Xy(c:B2 a)(d:B2 b)(h:∀ u,u∈a↔u∈b):a=b:=by
 induction a generalizing b with
 | nil =>
  cases b with
  | nil=>rfl
  | cons y ys=>exact absurd ((h y).2 U') (M')
 | cons x xs ih =>
  cases b with
  | nil=>exact absurd ((h x).1 U') (M')
  | cons y ys =>
   have f:x=y:=by
    rcases iG.1 ((h x).1 U')with e|e
    .exact e
    .rcases iG.1 ((h y).2 U')with e'|e'
     .exact e'.symm
     .have:=c.1 y e';have:=d.1 x e;omega
   subst f;rw[ih c.2 d.2 (λu=>?_)];constructor
   .intro hu;rcases iG.1 ((h u).1 (Q' _ hu))with rfl|e
    .have:=c.1 u hu;omega
    .exact e
   .intro hu;rcases iG.1 ((h u).2 (Q' _ hu))with rfl|e
    .have:=d.1 u hu;omega
    .exact e
theorem OH(k:Nat)(u:Vt):u∈LH l v k↔(0<=u.au/\u.au<k)/\(u=v\/(u∈l/\u.au≠v.au)):=by
 induction k with
 | zero=>simp[LH];omega
 | succ k ih =>
  rw[LH,P',ih];by_cases a:(k:Int)=v.au
  .rw[if_pos a,N'];constructor
   .rintro(⟨h1,h2⟩|rfl)
    .exact⟨by omega,h2⟩
    .exact⟨by omega,.inl rfl⟩
   .rintro⟨h1,rfl|⟨h2,h3⟩⟩
    .exact .inr rfl
    .exact .inl ⟨by omega,.inr ⟨h2,h3⟩⟩
  .rw[if_neg a,Cu];constructor
   .rintro(⟨h1,h2⟩|⟨h1,h2⟩)
    .exact⟨by omega,h2⟩
    .exact⟨by omega,.inr ⟨h1,by omega⟩⟩
   .rintro⟨h1,rfl|⟨h2,h3⟩⟩
    .exact .inl ⟨by omega,.inl rfl⟩
    .by_cases h4:u.au=k
     .exact .inr ⟨h2,h4⟩
     .exact .inl ⟨by omega,.inr ⟨h2,h3⟩⟩
theorem I3(h:B2 l)(s:Int):(Al l s).length<=1:=by
 match e:Al l s with
 | []=>simp
 | [_]=>simp
 | x::y::r =>
  have a:B2 (Al l s):=Jh h _;have b:=(Cu.1 (show x∈Al l s by rw[e];simp)).2;have c:=(Cu.1 (show y∈Al l s by rw[e];simp)).2;rw[e]at a
  have:=a.1 y U';omega
theorem Wd(v:Vt)(h:B2 l)(k:Nat):(LH l v k).length<=k:=by
 induction k with
 | zero=>simp[LH]
 | succ k ih =>
  rw[LH,G'];have:=I3 h k;split
  .simp;omega
  .omega
theorem T5(v:Vt)(h:B2 l)(k:Nat):B2 (LH l v k):=by
 induction k with
 | zero=>trivial
 | succ k ih =>
  rw[LH];refine Py ih ?_ ?_
  .split
   .exact⟨λu a=>(M' a).elim,trivial⟩
   .exact Jh h _
  .intro x hx y hy;have b:=((OH k x).1 hx).1;split at hy
   .obtain rfl:y=v:=by simpa using hy
    omega
   .have:=(Cu.1 hy).2;omega
theorem Zh(k:Nat)(h:B2 l)(b:∀ u∈l,0<=u.au/\u.au<k)(c:0<=v.au/\v.au<k):LH l v k=Ba l v:=by
 refine Xy (T5 v h k) (Iw v h) λu=>?_;rw[OH,DF h];constructor
 .exact λa=>a.2
 .rintro(rfl|⟨h1,h2⟩)
  .exact⟨c,.inl rfl⟩
  .exact⟨b u h1,.inr ⟨h1,h2⟩⟩
theorem IZ(l:List Vt)(u:Vt)(s:Int):Al (l++[u]) s=Al l s++(if u.au=s then[u]else[]):=by
 unfold Al;rw[j9];by_cases h:u.au=s<;>simp[h]
theorem UB(a:List (List Vt))(j:Nat)(l:List Vt)(h:a[j]?=some l):(a.take (j+1)).flatten=(a.take j).flatten++l:=by
 obtain⟨b,e⟩:=O'.1 h;rw[iI b,e];simp
theorem Df(a b:List Vt)(s:Int):Al (a++b) s=Al a s++Al b s:=by unfold Al;rw[j9]
end
end
section
open Go.RowKit
section
structure Sac(w:World)(x:Value)(ac:List Acc):Prop where
 ex:∃ a cap,x=.slice a ac.length cap/\(ac=[]\/∃ b off,a=some ⟨b,off,none⟩/\b<w.heap.size/\∀ (i:Nat) (A:Acc),ac[i]?=some A->∃ y,w.rangeAt b (off+3*i) [.int .i64 A.p.r,.int .i64 A.p.n,y]/\Sv w y A.vs)
 len:ac.length<=3518437208780
variable{ac:List Acc}{s:Int}{w:World}{x:Value}
theorem Sac.ab{f:World}(h:Sac w x ac)(e:Bw w f):Sac f x ac:=by
 obtain⟨⟨a,c,rfl,d⟩,g⟩:=h;refine⟨⟨a,c,rfl,?_⟩,g⟩;rcases d with d|⟨b,off,ha,hbs,hc⟩
 .exact .inl d
 .refine .inr ⟨b,off,ha,Y' hbs e.size,λi A l=>?_⟩;obtain⟨y,j,k⟩:=hc i A l;exact⟨y,Rt e hbs j,k.ab e⟩
theorem Sac.shape(h:Sac w x ac):∃ a cap,x=.slice a ac.length cap:=by
 obtain⟨⟨a,cap,e,_⟩,_⟩:=h;exact⟨a,cap,e⟩
theorem Sac.spot{a:Option Addr}{n c:Nat}(h:Sac w (.slice a n c) ac)(i:Nat)(A:Acc)(f:ac[i]?=some A):∃ b off y,a=some ⟨b,off,none⟩/\b<w.heap.size/\w.rangeAt b (off+3*i) [.int .i64 A.p.r,.int .i64 A.p.n,y]/\Sv w y A.vs:=by
 obtain⟨⟨j,d,e,g⟩,_⟩:=h;simp only[Value.slice.injEq]at e;obtain⟨rfl,rfl,rfl⟩:=e;rcases g with rfl|⟨b,off,rfl,hb,hc⟩
 .simp at f
 .obtain⟨y,h3,h4⟩:=hc i A f;exact⟨b,off,y,rfl,hb,h3,h4⟩
theorem de:prog.elem 220=97:=by kernel_rfl
theorem eo(w:World):(Go.sizeOf 97).run prog w=.ok 3 w:=by
 have h:(prog.info? 97).map (·.size)=some 3:=by kernel_rfl
 cases hi:prog.info? 97 with
 | none=>rw[hi]at h;cases h
 | some i =>
  rw[hi]at h
  simp at h;simp[sizeOf,typeInfo,hi,h]
theorem Ur(b o n c:Nat)(i:Nat)(a:i<n)(w:World):(Instr.indexAt 220 (.slice (some ⟨b,o,none⟩) n c) (.int .i64 (i:Int))).run prog w=.ok (.pointer (some ⟨b,o+3*i,none⟩)) w:=by
 rw[run_indexAt_slice (P:=prog) w 220 _ n c .i64 _ underlying220,if_pos ⟨by omega,by omega⟩,de,eo];simp[Result.andThen,Addr.add_mid,Nat.mul_comm]
def Fk(ac:List Acc)(s:Int):List Vt:=Al (ac.map (·.vs)).flatten s
def Dx(ac:List Acc)(s:Int):Int:=if ¬ ((0<=s/\s<=39)/\(1<=(ac.length:Int)/\(ac.length:Int)<=5))then 2 else if ¬ ∀ a∈ac,Ak a then 5 else if(Hb (Fk ac s) ac.length).isSome then 0 else 9
def CE(ac:List Acc)(s:Int):Cmd:=if Dx ac s=0 then((Hb (Fk ac s) ac.length).map (·.w)).getD ⟨0,0,0,0,0⟩else⟨0,0,0,0,0⟩
theorem CX(h:¬ ((0<=s/\s<=39)/\(1<=(ac.length:Int)/\(ac.length:Int)<=5))):CE ac s=⟨0,0,0,0,0⟩/\Dx ac s=2:=by
 have e:Dx ac s=2:=if_pos h;exact⟨if_neg (by rw[e];decide),e⟩
theorem Tl(h:(0<=s/\s<=39)/\(1<=(ac.length:Int)/\(ac.length:Int)<=5))(b:¬ ∀ a∈ac,Ak a):CE ac s=⟨0,0,0,0,0⟩/\Dx ac s=5:=by
 have e:Dx ac s=5:=by unfold Dx;rw[if_neg (λg=>g h),if_pos b]
 exact⟨if_neg (by rw[e];decide),e⟩
theorem Vu(h:(0<=s/\s<=39)/\(1<=(ac.length:Int)/\(ac.length:Int)<=5))(b:∀ a∈ac,Ak a)(c:Hb (Fk ac s) ac.length=none):CE ac s=⟨0,0,0,0,0⟩/\Dx ac s=9:=by
 have e:Dx ac s=9:=by unfold Dx;rw[if_neg (λg=>g h),if_neg (λg=>g b),c];rfl
 exact⟨if_neg (by rw[e];decide),e⟩
theorem Vv(h:(0<=s/\s<=39)/\(1<=(ac.length:Int)/\(ac.length:Int)<=5))(c:∀ a∈ac,Ak a){x:Vt}(b:Hb (Fk ac s) ac.length=some x):CE ac s=x.w/\Dx ac s=0:=by
 have e:Dx ac s=0:=by unfold Dx;rw[if_neg (λg=>g h),if_neg (λg=>g c),b];rfl
 exact⟨by unfold CE;rw[if_pos e,b];rfl,e⟩
theorem cW{c:List Acc}(h:∀ a∈c,Ak a)(s:Int):(Al (c.map (·.vs)).flatten s).length<=c.length:=by
 induction c with
 | nil=>simp[Al]
 | cons a c ih =>
  have e:=I3 (h a U').2.2 s;have f:=ih (λb d=>h b (Q' _ d));simp only[iU,List.flatten_cons,iX];rw[Df,G'];omega
theorem RK(ac:List Acc)(j:Nat)(a:Acc)(h:ac[j]?=some a):((ac.take (j+1)).map (·.vs)).flatten=((ac.take j).map (·.vs)).flatten++a.vs:=by
 obtain⟨b,e⟩:=O'.1 h;rw[iI b,e];simp
end
end
section
end
section
open Go.RowKit
section
def baA(b:Bal):Array Value:=#[.int .i64 b.r,.int .i64 b.n]
theorem ME(l:List Vt)(v:Vt):B2 (l++[v])↔B2 l/\∀ u∈l,u.au<v.au:=by
 induction l with
 | nil=>exact⟨λ_=>⟨trivial,λu hu=>(M' hu).elim⟩,λ_=>⟨λu hu=>(M' hu).elim,trivial⟩⟩
 | cons x xs ih =>
  show((∀ u∈xs++[v],x.au<u.au)/\B2 (xs++[v]))↔((∀ u∈xs,x.au<u.au)/\B2 xs)/\∀ u∈x::xs,u.au<v.au;rw[ih];constructor
  .rintro⟨h1,h2,h3⟩;refine⟨⟨λu hu=>h1 u (jh _ hu),h2⟩,λu hu=>?_⟩;rcases iG.1 hu with rfl|hu
   .exact h1 v (jl _ U')
   .exact h3 u hu
  .rintro⟨⟨h1,h2⟩,h3⟩;refine⟨λu hu=>?_,h2,λu hu=>h3 u (Q' _ hu)⟩;rcases P'.1 hu with hu|hu
   .exact h1 u hu
   .obtain rfl:u=v:=by simpa using hu
    exact h3 x U'
def E6(a:Acc)(b:Bal):Bal:=if BY a b=0 then b else⟨0,0⟩
def Dm(a:Acc)(b:Bal):List Vt:=if BY a b=0 then a.vs else[]
def BU(a:Acc)(v:Vt):Bal:=if Bb a v=0 then v.b else⟨0,0⟩
def Ck(a:Acc)(v:Vt):List Vt:=if Bb a v=0 then Ba a.vs v else[]
def Hr(ls:List (List Vt))(s:Int):Cmd:=if CN ls s=0 then((KM ls s).map (·.w)).getD ⟨0,0,0,0,0⟩else⟨0,0,0,0,0⟩
def G0(ls:List (List Vt))(s:Int):Bool:=if CN ls s=0 then(KM ls s).isSome else false
variable{l:List Vt}{ls:List (List Vt)}{s:Int}
theorem KN(h:¬ (0<=s/\s<=39)):Hr ls s=⟨0,0,0,0,0⟩/\G0 ls s=false/\CN ls s=2:=by
 have e:CN ls s=2:=if_pos h;exact⟨if_neg (by rw[e];decide),if_neg (by rw[e];decide),e⟩
theorem R0(h:0<=s/\s<=39)(a:¬ ∀ l∈ls,∀ v∈l,Ai v):Hr ls s=⟨0,0,0,0,0⟩/\G0 ls s=false/\CN ls s=5:=by
 have e:CN ls s=5:=by unfold CN;rw[if_neg (λg=>g h),if_neg a]
 exact⟨if_neg (by rw[e];decide),if_neg (by rw[e];decide),e⟩
theorem Yd{j:Nat}(h:ls[j]?=some l)(b:∀ l∈ls.take j,∀ v∈l,Ai v)(c:∀ v∈l,Ai v):∀ l∈ls.take (j+1),∀ v∈l,Ai v:=by
 obtain⟨d,e⟩:=O'.1 h;rw[iI d,e];intro l' a;rcases P'.1 a with g|g
 .exact b l' g
 .obtain rfl:l'=l:=by simpa using g
  exact c
theorem Ye{k:Nat}{u:Vt}(h:l[k]?=some u)(a:∀ v∈l.take k,Ai v)(b:Ai u):∀ v∈l.take (k+1),Ai v:=by
 rw[Fe l k u h];intro v c;rcases P'.1 c with g|g
 .exact a v g
 .obtain rfl:v=u:=by simpa using g
  exact b
def Br(d:List Int)(s:Int):Prop:=d.length<=100000/\0<=s/\s<=(d.length:Int)
instance (d:List Int) (s:Int):Decidable (Br d s):=by unfold Br;exact inferInstance
def Dc(d:List Int)(s:Int):Int:=if Br d s then 0 else 5
def Lf(d:List Int)(s:Int):List Int:=if Br d s then d else[]
def LX(d:List Int)(s:Int):Int:=if Br d s then(d.length:Int)else 0
def Fv(d:List Int)(s k:Int):Int:=if k<(d.length:Int)-s then s+k else(d.length:Int)
def Gg(d:List Int)(s k:Int):Int:=if ¬ Br d s then 5 else if k<0 then 2 else 0
def Jt(d:List Int)(s k:Int):List Int:=if Gg d s k=0 then d.take (Fv d s k).toNat else[]
def Ju(d:List Int)(s k:Int):Int:=if Gg d s k=0 then Fv d s k else 0
def tpA(x:Value)(s:Int):Array Value:=#[x,.int .i64 s]
theorem Lq:(prog.info? 107).map (·.size)=some 2:=by kernel_rfl
theorem Yh(x:Option Addr)(n c:Nat)(s:Int):(#[.slice x n c,.int .i64 s]:Array Value).all (·.oneCell')=true:=by simp[Value.oneCell']
end
end
section
section
def Du(b:List Int):List Int:=(b.length:Int)::b
def AE(b:List Int):List Int:=Du b++(dig (Du b)).take 4
theorem BW(b:List Int):(Du b).length=b.length+1:=rfl
theorem Bk(b:List Int):(AE b).length=b.length+5:=by
 unfold AE;rw[G',BW,X',Ao];omega
def Bh(b:Bal):List Int:=1::(Ab b.r++Ab b.n)
def AX(v:Vt):List Int:=2::(Ab v.au++(Ab v.b.r++(Ab v.b.n++CF v.w.k v.w.c v.w.s v.w.n v.w.v)))
theorem PS(v:Vt):(AX v).length=33:=rfl
theorem Ui(b:Bal):∀ x∈Bh b,0<=x/\x<256:=by
 intro x hx;rcases iG.1 hx with rfl|hx
 .omega
 .rcases P'.1 hx with hx|hx
  .exact As _ x hx
  .exact As _ x hx
theorem UJ(v:Vt):∀ x∈AX v,0<=x/\x<256:=by
 intro x hx;rcases iG.1 hx with rfl|hx
 .omega
 .rcases P'.1 hx with hx|hx
  .exact As _ x hx
  .rcases P'.1 hx with hx|hx
   .exact As _ x hx
   .rcases P'.1 hx with hx|hx
    .exact As _ x hx
    .exact FV _ _ _ _ _ x hx
variable{N k m n:Nat}{a b c:Acc}{all:List Acc}{bs:List (List Int)}{r:List Int}
theorem Kz{b:List Int}(a:∀ x∈b,0<=x/\x<256)(c:b.length<=255):∀ x∈Du b,0<=x/\x<256:=by
 intro x hx;rcases iG.1 hx with rfl|hx
 .omega
 .exact a x hx
theorem KU{b:List Int}(a:∀ x∈b,0<=x/\x<256)(c:b.length<=255):∀ x∈AE b,0<=x/\x<256:=by
 intro x hx;rcases P'.1 hx with hx|hx
 .exact Kz a c x hx
 .exact CG _ x (iJ hx)
def YK(l:List Int):Cmd:=⟨Ac l 0,Ac l 4,Ac l 8,Ac l 12,Ac l 16⟩
def Fr(b:List Int):Bal:=⟨Ac b 1,Ac b 5⟩
def Fg(b:List Int):Vt:=⟨Ac b 1,⟨Ac b 5,Ac b 9⟩,YK (b.drop 13)⟩
def Dj(a:Acc)(b:List Int):Option Acc :=
 if b.length=9/\b.getD 0 0=1 then(if BY a (Fr b)=0 then some ⟨Fr b,a.vs⟩else none)
 else if b.length=33/\b.getD 0 0=2 then(if BP (b.drop 13)=0 then(if Bb a (Fg b)=0 then some ⟨(Fg b).b,Ba a.vs (Fg b)⟩else none)else none)
 else none
def BB(r:List Int)(a:Acc):Option (Acc × Nat) :=
 if r=[]then none
 else if r.length<(r.getD 0 0).toNat+5 then none
 else if(dig (r.take ((r.getD 0 0).toNat+1))).take 4≠(r.drop ((r.getD 0 0).toNat+1)).take 4 then none
 else(Dj a ((r.take ((r.getD 0 0).toNat+1)).drop 1)).map λx=>(x,(r.getD 0 0).toNat+5)
def a0:Acc:=⟨⟨0,0⟩,[]⟩
def IV(r:List Int)(p:Nat × Acc):Nat × Acc:=match BB (r.drop p.1) p.2 with
 | none=>p
 | some (c,m)=>(p.1+m,c)
def itR(r:List Int):Nat->Nat × Acc
 | 0=>(0,a0)
 | k+1=>IV r (itR r k)
def DU(r:List Int):Nat × Acc:=itR r r.length
theorem Le(h:BB r a=some (c,m)):5<=m/\m<=r.length:=by
 unfold BB at h;split at h
 .cases h
 .split at h
  .cases h
  .split at h
   .cases h
   .obtain⟨x,_,e⟩:=jC.1 h;injection e with e1 e2
    omega
theorem GE{p:Nat × Acc}(h:BB (r.drop p.1) p.2=none):IV r p=p:=by
 unfold IV;rw[h]
theorem ES(h:BB (r.drop n) b=some (c,m)):IV r (n,b)=(n+m,c):=by
 unfold IV;rw[show BB (r.drop (n,b).1) (n,b).2=some (c,m)from h]
theorem TD(h:itR r k=(n,b))(a:BB (r.drop n) b=none)(j:Nat):itR r (k+j)=(n,b):=by
 induction j with
 | zero=>exact h
 | succ j ih =>
  rw[<- jg,itR,ih];exact GE a
theorem NE(h:itR r k=(n,b))(c:k<=r.length)(a:BB (r.drop n) b=none):DU r=(n,b):=by
 have:=TD h a (r.length-k);rw[show k+(r.length-k)=r.length by omega]at this
 exact this
theorem Ws(r:List Int)(k:Nat):(itR r k).1<=r.length:=by
 induction k with
 | zero=>exact iR _
 | succ k ih =>
  rw[itR];unfold IV;split
  .exact ih
  .rename_i c m h
   have:=(Le h).2;rw[iA]at this
   show(itR r k).1+m<=r.length;omega
theorem MI{r':List Int}(h:BB r a=some (c,m))(b:r'.take m=r.take m):BB r' a=some (c,m):=by
 have s:=Le h;have d:m<=r'.length:=by
  have e:=congrArg List.length b;rw[X',X']at e
  omega
 unfold BB at h;split at h
 .cases h
 rename_i p
 split at h
 .cases h
 rename_i q
 split at h
 .cases h
 rename_i f
 obtain⟨x,o,e⟩:=jC.1 h;injection e with e1 e2
 have i:r'.getD 0 0=r.getD 0 0:=by
  have e:=congrArg (λl=>l.getD 0 0) b;simp only[iS,jk]at e ⊢;rw[if_pos (by omega),if_pos (by omega)]at e
  exact e
 have n:∀ k,k<=m->r'.take k=r.take k:=λk j=>by
  have e:=congrArg (List.take k) b;rw[j6,j6,jw j]at e
  exact e
 have g:(r'.drop ((r.getD 0 0).toNat+1)).take 4=(r.drop ((r.getD 0 0).toNat+1)).take 4:=by
  have e:=congrArg (List.drop ((r.getD 0 0).toNat+1)) b;rw[kO,kO,show m-((r.getD 0 0).toNat+1)=4 by omega]at e
  exact e
 unfold BB;rw[i,if_neg (by rintro rfl;simp at d;omega),if_neg (by omega),n _ (by omega),g,if_neg f,o,i8,e1,e2]
theorem Fy(r:List Int)(h:n+m<=N):((r.take N).drop n).take m=(r.drop n).take m:=by
 rw[kO,j6,jw (by omega)]
theorem Wt(r:List Int)(k:Nat):(itR r k).1<=(itR r (k+1)).1:=by
 rw[itR];unfold IV;split
 .exact A' _
 .show(itR r k).1<=(itR r k).1+_;omega
theorem Wu(h:(itR r k).1<=N):itR (r.take N) k=itR r k:=by
 induction k with
 | zero=>rfl
 | succ k b =>
  have i:=Wt r k;have b:=b (by omega);rw[itR,b];cases e:BB (r.drop (itR r k).1) (itR r k).2 with
  | none =>
   have a:BB ((r.take N).drop (itR r k).1) (itR r k).2=none:=by
    cases e3:BB ((r.take N).drop (itR r k).1) (itR r k).2 with
    | none=>rfl
    | some x =>
     obtain⟨c,m⟩:=x;have g:=(Le e3).2;rw[iA,X']at g
     have:=MI (r':=r.drop (itR r k).1) e3 (Fy r (by omega)).symm;rw[e]at this
     cases this
   rw[GE a,itR,GE e]
  | some x =>
   obtain⟨c,m⟩:=x;have d:itR r (k+1)=((itR r k).1+m,c):=by rw[itR];exact ES e
   rw[d]at h ⊢
   have f:(itR r k).1+m<=N:=h;have a:=MI (r':=(r.take N).drop (itR r k).1) e (Fy r f);exact ES a
theorem SI(r:List Int):(DU r).1<=r.length:=Ws r r.length
theorem RF(b x:List Int)(a:Acc):BB (AE b++x) a=(Dj a b).map λc=>(c,b.length+5):=by
 have d:=Bk b;have h:(AE b++x).getD 0 0=(b.length:Int):=rfl;have i:((b.length:Int)).toNat=b.length:=jm _;have j:(AE b++x).take (b.length+1)=Du b:=by
  unfold AE;rw[iB,iY (by rw[BW];omega),iE (by rw[BW];omega)]
 have f:((AE b++x).drop (b.length+1)).take 4=(dig (Du b)).take 4:=by
  unfold AE;rw[iB,lh (by rw[BW];omega),j7 (by rw[BW];omega),jJ,
   iY (by rw[X',Ao];omega),j6]
  rfl
 unfold BB;rw[h,i,if_neg (by intro e;have:=congrArg List.length e;rw[G',d]at this;simp at this),if_neg (by rw[G',d];omega),j,f,if_neg (λg=>g rfl)];rfl
theorem RG(b x:List Int)(a:Acc)(e:k<b.length+5):BB ((AE b++x).take k) a=none:=by
 have d:=Bk b;cases k with
 | zero=>rfl
 | succ k =>
  have c:((AE b++x).take (k+1)).getD 0 0=(b.length:Int):=rfl;unfold BB;rw[c,jm];split
  .rfl
  .rw[if_pos (by rw[X',G',d];omega)]
theorem VF(a:Acc){b:Bal}(g:Ad b):Dj a (Bh b)=if BY a b=0 then some ⟨b,a.vs⟩else none:=by
 have c:=g;unfold Ad at c;have d:Ac (Bh b) 1=b.r:=Bo b.r (by omega) (by omega) [1] (Ab b.n);have f:Ac (Bh b) 5=b.n:=by
  have:=Bo b.n (by omega) (by omega) (1::Ab b.r) [];rw[iZ]at this
  exact this
 have e:Fr (Bh b)=b:=by unfold Fr;rw[d,f]
 unfold Dj;rw[if_pos ⟨rfl,rfl⟩,e]
theorem V3{k c s n v:Int}(h:AQ k c s n v=0):BP (CF k c s n v)=0/\YK (CF k c s n v)=⟨k,c,s,n,v⟩:=by
 have j:=Ey h;have i:=j.2;unfold InC at i;have a:=TW k c s n v (by omega) (by omega);have b:=TX k c s n v (by omega) (by omega);have d:=TY k c s n v (by omega) (by omega);have e:=Rb k c s n v (by omega) (by omega);have f:=Rd k c s n v (by omega) (by omega);unfold BP YK;rw[if_neg (λg=>g (BA k c s n v)),a,b,d,e,f];exact⟨h,rfl⟩
theorem VG(a:Acc){v:Vt}(p:Ai v):Dj a (AX v)=if Bb a v=0 then some ⟨v.b,Ba a.vs v⟩else none:=by
 have g:=p;unfold Ai Ad at g;obtain⟨d,⟨r,n⟩,⟨k,c,s,f,x⟩⟩:=v;simp only at g;have l:Ac (AX ⟨d,⟨r,n⟩,⟨k,c,s,f,x⟩⟩) 1=d:=Bo d (by omega) (by omega) [2] (Ab r++(Ab n++CF k c s f x));have m:Ac (AX ⟨d,⟨r,n⟩,⟨k,c,s,f,x⟩⟩) 5=r:=Bo r (by omega) (by omega) (2::Ab d) (Ab n++CF k c s f x);have o:Ac (AX ⟨d,⟨r,n⟩,⟨k,c,s,f,x⟩⟩) 9=n:=Bo n (by omega) (by omega) (2::(Ab d++Ab r)) (CF k c s f x);have i:(AX ⟨d,⟨r,n⟩,⟨k,c,s,f,x⟩⟩).drop 13=CF k c s f x:=rfl;have j:=V3 (k:=k) (c:=c) (s:=s) (n:=f) (v:=x) g.2.2;have e:Fg (AX ⟨d,⟨r,n⟩,⟨k,c,s,f,x⟩⟩)=⟨d,⟨r,n⟩,⟨k,c,s,f,x⟩⟩:=by unfold Fg;rw[l,m,o,i,j.2]
 unfold Dj;rw[if_neg (by rintro⟨h,_⟩;cases h),if_pos ⟨rfl,rfl⟩,e,i,if_pos j.1]
def Ax(bs:List (List Int)):List Int:=bs.flatMap AE
theorem BV(l m:List (List Int)):Ax (l++m)=Ax l++Ax m:=by simp[Ax]
structure Chn(all:List Acc)(bs:List (List Int)):Prop where
 len:all.length=bs.length+1
 first:all[0]?=some a0
 step:∀ (i:Nat) (b:List Int) (a c:Acc),bs[i]?=some b->all[i]?=some a->all[i+1]?=some c->Dj a b=some c
theorem Chn.at(h:Chn all bs)(j:Nat)(b:j<=bs.length):∃ a,all[j]?=some a:=⟨_,E' (by have:=h.len;omega)⟩
theorem Lm(a:List (List Int))(j:Nat)(b:List Int)(h:a[j]?=some b):a.take (j+1)=a.take j++[b]:=by
 obtain⟨c,e⟩:=O'.1 h;rw[iI c,e]
theorem Ks(a:List (List Int))(j:Nat)(x:List Int):(Ax a++x).drop (Ax (a.take j)).length=Ax (a.drop j)++x:=by
 have e:Ax a=Ax (a.take j)++Ax (a.drop j):=by rw[<- BV,jp]
 rw[e,iB,lh (A' _),j7 (A' _),jJ]
theorem Ku(a:List (List Int))(j:Nat)(b:List Int)(h:a[j]?=some b):Ax (a.drop j)=AE b++Ax (a.drop (j+1)):=by
 obtain⟨c,e⟩:=O'.1 h;rw[jc c,e];rfl
theorem Chn.it(h:Chn all bs)(x:List Int)(j:Nat)(l:j<=bs.length)(d:all[j]?=some a):itR (Ax bs++x) j=((Ax (bs.take j)).length,a):=by
 induction j generalizing a with
 | zero =>
  rw[h.first]at d
  obtain rfl:=ji d;rfl
 | succ j g =>
  obtain⟨i,c⟩:=h.at j (by omega);have g:=g (by omega) c;obtain⟨b,f⟩:∃ b,bs[j]?=some b:=⟨_,E' (by omega)⟩;have k:=h.step j b i a f c d;have e:BB ((Ax bs++x).drop (Ax (bs.take j)).length) i=some (a,b.length+5):=by
   rw[Ks,Ku bs j b f,iB,RF,k];rfl
  rw[itR,g,ES e,Lm bs j b f,BV,G']
  congr 1
  show _=(Ax (bs.take j)).length+(Ax [b]).length;simp[Ax,Bk]
theorem VV(a:List (List Int)):a.length<=(Ax a).length:=by
 induction a with
 | nil=>exact iR _
 | cons b a ih =>
  show a.length+1<=(AE b++Ax a).length;rw[G',Bk];omega
theorem cY(a:List (List Int))(k:Nat):∃ j,j<=a.length/\(Ax (a.take j)).length<=k/\(j=a.length\/k<(Ax (a.take (j+1))).length):=by
 have:∀ n,n<=a.length->∃ j,j<=n/\(Ax (a.take j)).length<=k/\(j=n\/k<(Ax (a.take (j+1))).length):=by
  intro n;induction n with
  | zero=>intro _;exact⟨0,A' _,by simp[Ax],.inl rfl⟩
  | succ n ih =>
   intro d;obtain⟨j,c,b,h3⟩:=ih (by omega);rcases h3 with rfl|h3
   .rcases ja k (Ax (a.take (j+1))).length with h4|h4
    .exact⟨j,by omega,b,.inr h4⟩
    .exact⟨j+1,A' _,h4,.inl rfl⟩
   .exact⟨j,by omega,b,.inr h3⟩
 exact this a.length (A' _)
theorem Chn.nV(h:Chn all bs)(k:Nat):∃ j a,j<=bs.length/\all[j]?=some a/\DU ((Ax bs).take k)=((Ax (bs.take j)).length,a)/\(Ax (bs.take j)).length<=k/\(j=bs.length\/k<(Ax (bs.take (j+1))).length):=by
 obtain⟨j,d,i,h3⟩:=cY bs k;obtain⟨a,l⟩:=h.at j d;refine⟨j,a,d,l,?_,i,h3⟩;have f:=h.it [] j d l;rw[iZ]at f
 have g:itR ((Ax bs).take k) j=((Ax (bs.take j)).length,a):=by
  rw[Wu (by rw[f];exact i),f]
 have c:=Ks bs j [];rw[iZ,iZ]at c
 refine NE g ?_ ?_
 .rw[X'];have m:=VV (bs.take j);rw[X']at m
  have n:(Ax (bs.take j)).length<=(Ax bs).length:=by
   have:=congrArg List.length c;rw[iA]at this
   have e:Ax bs=Ax (bs.take j)++Ax (bs.drop j):=by rw[<- BV,jp]
   rw[e,G'];omega
  omega
 .rw[kO,c];rcases h3 with rfl|h3
  .rw[j7 (A' _)];simp[Ax,BB]
  .rcases ja j bs.length with hj|hj
   .obtain⟨b,hb⟩:∃ b,bs[j]?=some b:=⟨_,E' hj⟩;rw[Ku bs j b hb];refine RG b _ a ?_;rw[Lm bs j b hb,BV,G']at h3
    have e:(Ax [b]).length=b.length+5:=by simp[Ax,Bk]
    omega
   .rw[j7 hj];simp[Ax,BB]
end
end
section
open Go.RowKit
def fbO(r:List Int):Option (List Int) :=
 if r=[]then none
 else if r.length<(r.getD 0 0).toNat+5 then none
 else if(dig (r.take ((r.getD 0 0).toNat+1))).take 4≠(r.drop ((r.getD 0 0).toNat+1)).take 4 then none
 else some ((r.take ((r.getD 0 0).toNat+1)).drop 1)
theorem Si{r b:List Int}(h:fbO r=some b):b.length+5<=r.length/\b.length=(r.getD 0 0).toNat:=by
 unfold fbO at h;split at h
 .cases h
 .split at h
  .cases h
  .split at h
   .cases h
   .injection h with h
    subst h;rw[iA,X'];omega
theorem Lc(r:List Int)(a:Acc):BB r a=(fbO r).bind λb=>(Dj a b).map λc=>(c,b.length+5):=by
 have d:∀ b,fbO r=some b->b.length=(r.getD 0 0).toNat:=λb h=>(Si h).2;unfold BB;unfold fbO at d ⊢;by_cases f:r=[]
 .rw[if_pos f,if_pos f];rfl
 .rw[if_neg f]at d ⊢
  rw[if_neg f];by_cases g:r.length<(r.getD 0 0).toNat+5
  .rw[if_pos g,if_pos g];rfl
  .rw[if_neg g]at d ⊢
   rw[if_neg g];by_cases i:(dig (r.take ((r.getD 0 0).toNat+1))).take 4≠(r.drop ((r.getD 0 0).toNat+1)).take 4
   .rw[if_pos i,if_pos i];rfl
   .rw[if_neg i]at d ⊢
    rw[if_neg i];have e:=d _ rfl;show _=(Dj a _).map _;rw[e]
theorem Da(l:List Int)(n i:Nat):Ac (l.drop n) i=Ac l (n+i):=by
 unfold Ac;simp only[iS,jj,jg]
def GB(a:Acc)(b:List Int):Int :=
 if b.length=9/\b.getD 0 0=1 then BY a (Fr b)
 else if b.length=33/\b.getD 0 0=2 then(if BP (b.drop 13)=0 then Bb a (Fg b)else BP (b.drop 13))
 else 3
def Fw(a:Acc)(b:List Int):Acc :=
 if b.length=9/\b.getD 0 0=1 then⟨E6 a (Fr b),Dm a (Fr b)⟩
 else if b.length=33/\b.getD 0 0=2 then(if BP (b.drop 13)=0 then⟨BU a (Fg b),Ck a (Fg b)⟩else a0)
 else a0
theorem O6(a:Acc)(b:List Int):Dj a b=if GB a b=0 then some (Fw a b)else none:=by
 unfold Dj GB Fw;by_cases d:b.length=9/\b.getD 0 0=1
 .rw[if_pos d,if_pos d,if_pos d];by_cases c:BY a (Fr b)=0
  .rw[if_pos c,if_pos c];unfold E6 Dm;rw[if_pos c,if_pos c]
  .rw[if_neg c,if_neg c]
 .rw[if_neg d,if_neg d,if_neg d];by_cases c:b.length=33/\b.getD 0 0=2
  .rw[if_pos c,if_pos c,if_pos c];by_cases e:BP (b.drop 13)=0
   .rw[if_pos e,if_pos e,if_pos e];by_cases f:Bb a (Fg b)=0
    .rw[if_pos f,if_pos f];unfold BU Ck;rw[if_pos f,if_pos f]
    .rw[if_neg f,if_neg f]
   .rw[if_neg e,if_neg e,if_neg e]
  .rw[if_neg c,if_neg c,if_neg c,if_neg (by decide)]
def voV(l:List Int):Vt:=if BP (l.drop 12)=0 then⟨Ac l 0,⟨Ac l 4,Ac l 8⟩,YK (l.drop 12)⟩else⟨0,⟨0,0⟩,⟨0,0,0,0,0⟩⟩
theorem bi{l:List Int}(h:BP (l.drop 12)=0):∃ m0 m1 m2 m3 m4:Int,Jv (l.drop 12)=#[.int .i64 m0,.int .i64 m1,.int .i64 m2,.int .i64 m3,.int .i64 m4]/\voV l=⟨Ac l 0,⟨Ac l 4,Ac l 8⟩,⟨m0,m1,m2,m3,m4⟩⟩:=by
 refine⟨Ac (l.drop 12) 0,Ac (l.drop 12) 4,Ac (l.drop 12) 8,Ac (l.drop 12) 12,Ac (l.drop 12) 16,?_,?_⟩
 .unfold Jv;rw[if_pos h];rfl
 .unfold voV;rw[if_pos h];rfl
theorem bg{l:List Int}(h:¬ BP (l.drop 12)=0):Jv (l.drop 12)=zV5/\voV l=⟨0,⟨0,0⟩,⟨0,0,0,0,0⟩⟩:=by
 unfold voV Jv;rw[if_neg h,if_neg h];exact⟨rfl,rfl⟩
theorem PR(b:List Int)(h:BP (b.drop 13)=0):voV (b.drop 1)=Fg b:=by
 unfold voV Fg;rw[kN,if_pos h,Da,Da,Da]
theorem Kb(b:List Int):(⟨Ac (b.drop 1) 0,Ac (b.drop 1) 4⟩:Bal)=Fr b:=by
 unfold Fr;rw[Da,Da]
def FB(d:List Int)(s:Int):Acc:=if Br d s then(DU d).2 else a0
def LS(d:List Int)(s:Int):Int:=if Br d s then((DU d).1:Int)else 0
def I5(d:List Int)(s:Int):List Int:=if Br d s then d.take (DU d).1 else[]
def KX(d:List Int)(s:Int):Int:=if Br d s then(if((DU d).1:Int)<s then((DU d).1:Int)else s)else 0
end
section
def GN(d:List Int)(s:Int)(k:Nat):Int:=if ¬ Br d s then 5 else if 100000<d.length+k then 8 else 0
def CT(d:List Int)(s:Int)(may:Prop)[Decidable may] (b:List Int):Int:=if GN d s (b.length+5)≠0 then GN d s (b.length+5)else if may then 0 else 2
def FP(d:List Int)(s:Int)(may:Prop)[Decidable may] (b:List Int):List Int:=if CT d s may b=0 then d++AE b else[]
def GV(d:List Int)(s:Int)(may:Prop)[Decidable may] (b:List Int):Int:=if CT d s may b=0 then s else 0
theorem ZU(b:Bal):BY a0 b=if Ad b then 0 else 2:=by
 have a:Ak a0:=⟨.inr ⟨rfl,rfl⟩,λv c=>(M' c).elim,trivial⟩;unfold BY;rw[if_neg (λg=>g a)];by_cases h:Ad b
 .rw[if_neg (λg=>g h),if_pos h,if_neg];intro g;unfold Ad at h;unfold Bal.lt a0 at g;simp only at g;omega
 .rw[if_pos h,if_neg h]
theorem bj(v:Vt):Bb a0 v=if Ai v then 0 else 2:=by
 have a:Ak a0:=⟨.inr ⟨rfl,rfl⟩,λv c=>(M' c).elim,trivial⟩;unfold Bb;rw[if_neg (λg=>g a)];by_cases h:Ai v
 .rw[if_neg (λg=>g h),if_pos h,if_neg];intro g;have b:=h.2.1;unfold Ad at b;unfold Bal.lt a0 at g;simp only at g;omega
 .rw[if_pos h,if_neg h]
end
section
open Go.RowKit
section
def AV{α:Type}(f:Nat->α)(i:Nat)(x:α):Nat->α:=λj=>if j=i then x else f j
variable{i:Nat}{m:Cmd}{α:Type}
theorem CO(f:Nat->α)(i:Nat)(x:α):AV f i x i=x:=if_pos rfl
theorem Dg(f:Nat->α){j:Nat}(x:α)(h:j≠i):AV f i x j=f j:=if_neg h
structure Sto where
 V:Nat->Int
 L:Nat->Int
 C:Nat->Int
 A:Nat->Int
 R:Nat->Bool
def AB:Sto:=⟨λ_=>0,λ_=>0,λ_=>0,λ_=>0,λ_=>false⟩
def ClB(l c a:Int):Prop:=(0<=l/\l<=1048577)/\(l=0->c=0/\a=0)
instance (l c a:Int):Decidable (ClB l c a):=by unfold ClB;exact inferInstance
def VaB(v:Int):Prop:=0<=v/\v<=1073741824
instance (v:Int):Decidable (VaB v):=by unfold VaB;exact inferInstance
def Gf(s:Sto):Prop:=(∀ i,i<8->VaB (s.V i))/\∀ i,i<8->ClB (s.L i) (s.C i) (s.A i)
noncomputable instance (s:Sto):Decidable (Gf s):=Classical.propDecidable _
theorem XR:Gf AB:=⟨λ_ _=>by unfold VaB AB;simp,λ_ _=>by unfold ClB AB;simp⟩
noncomputable def LW(s:Sto):Int:=if Gf s then 0 else 5
variable{s:Sto}
theorem aK(h:Gf s):LW s=0:=if_pos h
theorem JQ(h:¬ Gf s):LW s=5:=if_neg h
def I2(s:Sto)(m:Cmd):Int:=if m.k=1 then m.v else if m.k=2 then s.V m.n.toNat else 0
def Gm(s:Sto)(m:Cmd):Sto :=
 ⟨if m.k=1 then AV s.V m.n.toNat m.v else s.V,AV s.L m.c.toNat (m.s+1),AV s.C m.c.toNat 0,AV s.A m.c.toNat (I2 s m),if m.k=3 then AV s.R m.n.toNat true else s.R⟩
def dnS(s:Sto)(m:Cmd):Sto:=if m.k≠0/\¬ m.s<s.L m.c.toNat/\s.R m.c.toNat=false then Gm s m else s
def dnC(s:Sto)(m:Cmd):Int :=
 if m.k=0 then 0 else if s.L m.c.toNat=m.s+1 then s.C m.c.toNat else if m.s<s.L m.c.toNat then 7 else if s.R m.c.toNat=true then 11 else 0
def dnA(s:Sto)(m:Cmd):Int :=
 if m.k=0 then 0 else if s.L m.c.toNat=m.s+1 then s.A m.c.toNat else if m.s<s.L m.c.toNat then 0 else if s.R m.c.toNat=true then 0 else I2 s m
noncomputable def doE(s:Sto)(m:Cmd):Int:=if Gf s then m.e else 5
noncomputable def doS(s:Sto)(m:Cmd):Sto:=if doE s m=0 then dnS s m else AB
noncomputable def doC(s:Sto)(m:Cmd):Int:=if doE s m=0 then dnC s m else 0
noncomputable def doA(s:Sto)(m:Cmd):Int:=if doE s m=0 then dnA s m else 0
theorem YN(h:Gf s):doE s m=m.e:=if_pos h
theorem VC(h:doE s m=0):doS s m=dnS s m:=if_pos h
theorem V8(h:doE s m=0):doC s m=dnC s m:=if_pos h
theorem V6(h:doE s m=0):doA s m=dnA s m:=if_pos h
theorem VB(h:doE s m≠0):doS s m=AB:=if_neg h
theorem V7(h:doE s m≠0):doC s m=0:=if_neg h
theorem DW(h:m.e=0):(0<=m.k/\m.k<=3)/\InC m.c m.s m.n m.v:=Ey h
theorem OX(b:Gf s)(h:m.e=0):VaB (I2 s m):=by
 obtain⟨c,a⟩:=DW h;unfold InC at a;unfold I2;split
 .unfold VaB;omega
 .split
  .exact b.1 _ (by omega)
  .unfold VaB;omega
theorem YM(b:Gf s)(h:m.e=0):Gf (dnS s m):=by
 obtain⟨f,d⟩:=DW h;unfold InC at d;unfold dnS;split
 .refine⟨λi a=>?_,λi a=>?_⟩
  .simp only[Gm];split
   .unfold AV;split
    .unfold VaB;omega
    .exact b.1 i a
   .exact b.1 i a
  .simp only[Gm];by_cases e:i=m.c.toNat
   .subst e;rw[CO,CO,CO];unfold ClB;omega
   .rw[Dg _ _ e,Dg _ _ e,Dg _ _ e];exact b.2 i a
 .exact b
def AnB(s:Sto):Prop:=∀ i,i<8->(s.C i=0)/\VaB (s.A i)
theorem aJ:AnB AB:=λ_ _=>by unfold VaB AB;simp
theorem cZ(b:Gf s)(a:AnB s)(h:m.e=0):AnB (dnS s m):=by
 unfold dnS;split
 .intro i hi;simp only[Gm];by_cases e:i=m.c.toNat
  .subst e;rw[CO,CO];exact⟨rfl,OX b h⟩
  .rw[Dg _ _ e,Dg _ _ e];exact a i hi
 .exact a
theorem fg(g:Gf s)(d:AnB s)(h:m.e=0):(dnC s m=0\/dnC s m=7\/dnC s m=11)/\VaB (dnA s m):=by
 obtain⟨i,b⟩:=DW h;unfold InC at b;have a:=d m.c.toNat (by omega);have f:=OX g h;unfold dnC dnA;split
 .unfold VaB;omega
 .split
  .exact⟨.inl a.1,a.2⟩
  .split
   .unfold VaB;omega
   .split
    .unfold VaB;omega
    .exact⟨.inl rfl,f⟩
def lnk(sum:List Int)(m:Cmd)(c a:Int):List Int:=dig (sum++(CF m.k m.c m.s m.n m.v++(Ab c++Ab a)))
theorem QV(b:List Int)(m:Cmd)(c a:Int):(lnk b m c a).length=32:=Ao _
def sAt(f:Nat->Cmd):Nat->Sto
 | 0=>AB
 | i+1=>dnS (sAt f i) (f i)
def cAt(f:Nat->Cmd)(i:Nat):Int:=dnC (sAt f i) (f i)
def aAt(f:Nat->Cmd)(i:Nat):Int:=dnA (sAt f i) (f i)
def gAt(f:Nat->Cmd):Nat->List Int
 | 0=>List.replicate 32 0
 | i+1=>lnk (gAt f i) (f i) (cAt f i) (aAt f i)
theorem Q8(f:Nat->Cmd)(i:Nat):(gAt f i).length=32:=by
 cases i with
 | zero=>rfl
 | succ i=>exact QV _ _ _ _
theorem aB{f:Nat->Cmd}(h:∀ j,j<i->(f j).e=0):Gf (sAt f i)/\AnB (sAt f i):=by
 induction i with
 | zero=>exact⟨XR,aJ⟩
 | succ i ih =>
  have a:=ih (λj b=>h j (by omega));exact⟨YM a.1 (h i (by omega)),cZ a.1 a.2 (h i (by omega))⟩
end
end
section
def cX(Q:Nat->Bool):Nat:=(Q 0).toNat+(Q 1).toNat+(Q 2).toNat+(Q 3).toNat+(Q 4).toNat
end
section
def upN{α:Type}(f:Nat->α)(n:Nat)(x:α):Nat->α:=λi=>if i=n then x else f i
theorem Yi{α:Type}(f:Nat->α)(n:Nat)(x:α):upN f n x n=x:=if_pos rfl
theorem eA{α:Type}(f:Nat->α){n i:Nat}(x:α)(h:i≠n):upN f n x i=f i:=if_neg h
end
section
end
section
def Bm:Bal:=⟨0,0⟩
def Qo:Cmd:=⟨0,0,0,0,0⟩
def vtz:Vt:=⟨0,Bm,Qo⟩
def Ei:Acc:=⟨Bm,[]⟩
structure Let where
 kind:Nat
 src:Nat
 dst:Nat
 lr:Bal
 cn:Vt
 kc:List Vt
 au:Nat
 fa:List Cmd
def Cn(k:Nat):Let:=⟨k,0,0,Bm,vtz,[],0,[]⟩
inductive Pend where
 | began (b:Bal) (vs:List Vt)
 | prom (to:Nat) (b:Bal) (vs:List Vt)
 | voted (to:Nat) (v:Vt)
 | ln (to:Nat) (b:Bal)
 | prop (v:Vt)
 | askNews (to:Nat)
 | start
 | tell (to:Nat) (au:Nat)
structure Rnd where
 lr:Bal
 mC:Nat->Bool
 br:Nat->Acc
 cF:Nat->Nat
 next:Nat
 dW:List Cmd
def eb:Rnd:=⟨Bm,λ_=>false,λ_=>Ei,λ_=>0,0,[]⟩
structure Tol where
 n:Nat
 c:Int
 s:Int
 e:Int
 a:Int
structure Nod where
 up:Bool
 d:List Int
 sy:Int
 bad:Nat
 vo:Acc
 bt:List Pend
 dT:Int
 bw:Rnd
 ae:List Cmd
 done:Nat
 mh:Sto
 an:List Cmd
 cl:Cmd->Option Bal
structure Meet where
 af:Nat->Nod
 bN:List Let
 ed:List Tol
def Nod.bare(N:Nod)(up:Bool)(d:List Int)(sy:Int)(vo:Acc)(p:List Pend):Nod :=
 ⟨up,d,sy,N.bad,vo,p,0,eb,[],0,AB,[],λ_=>none⟩
def CV:Nod:=⟨true,[],0,0,Ei,[],0,eb,[],0,AB,[],λ_=>none⟩
def CJ:Meet:=⟨λ_=>CV,[],[]⟩
def Meet.put(M:Meet)(i:Nat)(N:Nod):Meet:={ M with af:=upN M.af i N }
def Nod.bn(N:Nod)(b:Bal):Nod × List Vt × Int :=
 if BY N.vo b≠0 then(N,[],BY N.vo b)
 else if b=N.vo.p then({ N with vo:=⟨b,N.vo.vs⟩ },N.vo.vs,0)
 else if CT N.d N.sy (Ad b) (Bh b)≠0 then(N,[],CT N.d N.sy (Ad b) (Bh b))
 else({ N with d:=FP N.d N.sy (Ad b) (Bh b),sy:=GV N.d N.sy (Ad b) (Bh b),vo:=⟨b,N.vo.vs⟩ },N.vo.vs,0)
def Nod.cn(N:Nod)(v:Vt):Nod × Int :=
 if Bb N.vo v≠0 then(N,Bb N.vo v)
 else if v∈N.vo.vs then({ N with vo:=⟨v.b,Ba N.vo.vs v⟩ },0)
 else if CT N.d N.sy (Ai v) (AX v)≠0 then(N,CT N.d N.sy (Ai v) (AX v))
 else({ N with d:=FP N.d N.sy (Ai v) (AX v),sy:=GV N.d N.sy (Ai v) (AX v),vo:=⟨v.b,Ba N.vo.vs v⟩ },0)
def Nod.wait(N:Nod)(p:Pend):Nod:={ N with bt:=N.bt++[p] }
def Nod.ln(N:Nod)(to:Nat)(e:Int):Nod:=if e=7 then N.wait (.ln to N.vo.p)else N
def Nod.leads(N:Nod):Bool:=decide (N.bw.lr≠Bm/\N.bw.lr=N.vo.p)
def Rnd.mD(r:Rnd):Bool:=decide (5<2*cX r.mC)
def Gw(a:Acc):List Vt->Acc
 | []=>a
 | v::l=>Gw (if Bb a v=0 then⟨BU a v,Ck a v⟩else a) l
def Rnd.mE(r:Rnd)(j:Nat)(vs:List Vt):Rnd:={ r with mC:=upN r.mC j true,br:=upN r.br j (Gw ⟨r.lr,vs⟩ (r.br j).vs) }
def Rnd.me(r:Rnd):List Acc:=[r.br 0,r.br 1,r.br 2,r.br 3,r.br 4]
def K8:Nat->Rnd->List Cmd->List Cmd
 | 0,_,l=>l
 | k+1,r,l=>if Dx r.me (l.length:Int)=0 then K8 k r (l++[CE r.me (l.length:Int)])else l
def Nod.ml(N:Nod):Nod:={ N with ae:=K8 41 N.bw N.ae }
def Nod.hZ(N:Nod)(au:Nat)(fa:List Cmd):Nod:={ N with ae:=N.ae++fa.drop (N.ae.length-au) }
def Nod.count(N:Nod)(j:Nat)(v:Vt):Nod :=
 if v.b≠N.bw.lr then N
 else if Bb (N.bw.br j) v≠0 then N
 else Nod.ml { N with bw:={ N.bw with br:=upN N.bw.br j ⟨BU (N.bw.br j) v,Ck (N.bw.br j) v⟩ } }
def LE(q:List Cmd):List Cmd->List Cmd
 | []=>q
 | c::l=>LE (if q.length<40/\c∉q then q++[c]else q) l
def Nod.gC(N:Nod)(fa:List Cmd):Nod:=if N.leads then{ N with bw:={ N.bw with dW:=LE N.bw.dW fa } }else N
def Et(f:Cmd->Option Bal)(c:Cmd)(b:Option Bal):Cmd->Option Bal:=λx=>if x=c then b else f x
def Nod.want(N:Nod)(c:Cmd):Nod:=if(N.cl c).isSome then N else{ N with an:=N.an++[c],cl:=Et N.cl c (some Bm) }
def Nod.lp(N:Nod)(c:Cmd):Nod:=if(N.cl c).isSome then{ N with an:=N.an.erase c,cl:=Et N.cl c none }else N
def CU(b:Bal)(f:Cmd->Option Bal):List Cmd->List Cmd × (Cmd->Option Bal)
 | []=>([],f)
 | c::l=>if(f c).getD Bm≠b then(c::(CU b (Et f c (some b)) l).1,(CU b (Et f c (some b)) l).2)else CU b f l
def Nod.take(N:Nod)(l:Let):Nod :=
 match l.kind with
 | 0=>if(N.bn l.lr).2.2≠0 then N.ln l.src (N.bn l.lr).2.2 else(N.bn l.lr).1.wait (.prom l.src l.lr (N.bn l.lr).2.1)
 | 1=>let K:=N.hZ 0 l.fa
  if K.leads=false\/l.lr≠K.bw.lr\/K.bw.mC l.src=true then K
  else Nod.ml { K with bw:={ K.bw.mE l.src l.kc with cF:=upN K.bw.cF l.src l.fa.length } }
 | 2=>{ N with dT:=max N.dT l.lr.r }
 | 3=>if(N.cn l.cn).2≠0 then N.ln l.src (N.cn l.cn).2 else(N.cn l.cn).1.wait (.voted l.src l.cn)
 | 4=>N.count l.src l.cn
 | 5=>if N.ae.length<l.au then N.wait (.askNews l.src)else N.hZ l.au l.fa
 | 6=>let K:=N.gC l.fa
  if l.au<K.ae.length then K.wait (.tell l.src l.au)else K
 | _=>N
def Meet.mq(M:Meet)(l:Let):Meet:=if(M.af l.dst).up then M.put l.dst ((M.af l.dst).take l)else M
def Nod.mB(N:Nod)(au:Nat):Option Cmd :=
 if CN (N.bw.me.map (·.vs)) (au:Int)≠0 then none
 else if G0 (N.bw.me.map (·.vs)) (au:Int)then some (Hr (N.bw.me.map (·.vs)) (au:Int))
 else N.bw.dW.find? λc=>decide (c∉N.ae)
def Nod.fv(N:Nod):Nod :=
 if N.leads=false\/N.bw.mD=false\/N.ae.length<N.bw.next then N
 else match N.mB N.ae.length with
  | none=>N
  | some c =>
   if(N.cn ⟨(N.ae.length:Int),N.bw.lr,c⟩).2≠0 then N
   else Nod.wait { (N.cn ⟨(N.ae.length:Int),N.bw.lr,c⟩).1 with bw:={ N.bw with next:=N.ae.length+1 } } (.prop ⟨(N.ae.length:Int),N.bw.lr,c⟩)
def Nod.lead(N:Nod)(i:Nat):Nod :=
 let b:Bal:=⟨max N.dT N.vo.p.r+1,(i:Int)⟩
 if(N.bn b).2.2≠0 then N
 else Nod.wait { (N.bn b).1 with bw:=⟨b,λ_=>false,λ_=>Ei,λ_=>N.ae.length,0,[]⟩ } (.began b (N.bn b).2.1)
def Nod.mg(N:Nod)(k:Int):Nod:=if Gg N.d N.sy k≠0 then N else N.bare false (Jt N.d N.sy k) (Ju N.d N.sy k) Ei []
def Nod.start(N:Nod):Nod :=
 if Dc N.d N.sy≠0 then N
 else if LS N.d N.sy<(N.d.length:Int)then N.bare true (I5 N.d N.sy) (KX N.d N.sy) (FB N.d N.sy) [.start]
 else N.bare true N.d N.sy (FB N.d N.sy) [.start]
def Meet.move(M:Meet)(k:Int)(at_:Nat):Meet :=
 match M.bN[at_%M.bN.length]? with
 | none=>M
 | some l =>
  let A:=if k≠6 then{ M with bN:=M.bN.eraseIdx (at_%M.bN.length) }else M
  if k≠5 then A.mq l else A
def Meet.my(M:Meet):Meet:=M.bN.foldl (λM l=>M.mq l) { M with bN:=[] }
end
section
open Go.RowKit
section
def stA(s:Sto):Array Value:=#[.int .i64 (s.V 0),.int .i64 (s.V 1),.int .i64 (s.V 2),.int .i64 (s.V 3),.int .i64 (s.V 4),.int .i64 (s.V 5),.int .i64 (s.V 6),.int .i64 (s.V 7),.int .i64 (s.L 0),.int .i64 (s.L 1),.int .i64 (s.L 2),.int .i64 (s.L 3),.int .i64 (s.L 4),.int .i64 (s.L 5),.int .i64 (s.L 6),.int .i64 (s.L 7),.int .i64 (s.C 0),.int .i64 (s.A 0),.int .i64 (s.C 1),.int .i64 (s.A 1),.int .i64 (s.C 2),.int .i64 (s.A 2),.int .i64 (s.C 3),.int .i64 (s.A 3),.int .i64 (s.C 4),.int .i64 (s.A 4),.int .i64 (s.C 5),.int .i64 (s.A 5),.int .i64 (s.C 6),.int .i64 (s.A 6),.int .i64 (s.C 7),.int .i64 (s.A 7),.bool (s.R 0),.bool (s.R 1),.bool (s.R 2),.bool (s.R 3),.bool (s.R 4),.bool (s.R 5),.bool (s.R 6),.bool (s.R 7)]
theorem cG:(prog.info? 41).map (·.size)=some 2:=by kernel_rfl
theorem gu(s:Sto)(i:Nat)(h:i<8):(stA s)[i]?=some (.int .i64 (s.V i)):=by
 rcases(by omega:i=0\/i=1\/i=2\/i=3\/i=4\/i=5\/i=6\/i=7)with rfl|rfl|rfl|rfl|rfl|rfl|rfl|rfl<;>rfl
theorem gt(s:Sto)(i:Nat)(h:i<8):(stA s)[8+i]?=some (.int .i64 (s.L i)):=by
 rcases(by omega:i=0\/i=1\/i=2\/i=3\/i=4\/i=5\/i=6\/i=7)with rfl|rfl|rfl|rfl|rfl|rfl|rfl|rfl<;>rfl
theorem gp(s:Sto)(i:Nat)(h:i<8):(stA s)[16+i*2]?=some (.int .i64 (s.C i)):=by
 rcases(by omega:i=0\/i=1\/i=2\/i=3\/i=4\/i=5\/i=6\/i=7)with rfl|rfl|rfl|rfl|rfl|rfl|rfl|rfl<;>rfl
theorem go(s:Sto)(i:Nat)(h:i<8):(stA s)[16+i*2+1]?=some (.int .i64 (s.A i)):=by
 rcases(by omega:i=0\/i=1\/i=2\/i=3\/i=4\/i=5\/i=6\/i=7)with rfl|rfl|rfl|rfl|rfl|rfl|rfl|rfl<;>rfl
def Bs(w:World)(g:Nat)(s:Sto):Prop:=w.heap[g]?=some (.cells (stA s) 45)
variable{g:Nat}{s:Sto}{w:World}
theorem Bs.nG(h:Bs w g s)(i:Nat)(a:i<8):w.cell? ⟨g,i,none⟩=some (.int .i64 (s.V i)):=(cell_of_row _ _ i _ _ _ h).trans (gu s i a)
theorem Bs.nF(h:Bs w g s)(i:Nat)(a:i<8):w.cell? ⟨g,8+i,none⟩=some (.int .i64 (s.L i)):=(cell_of_row _ _ (8+i) _ _ _ h).trans (gt s i a)
theorem Bs.nE(h:Bs w g s)(i:Nat)(a:i<8):w.cell? ⟨g,16+i*2,none⟩=some (.int .i64 (s.C i)):=(cell_of_row _ _ (16+i*2) _ _ _ h).trans (gp s i a)
theorem Bs.nD(h:Bs w g s)(i:Nat)(a:i<8):w.cell? ⟨g,16+i*2+1,none⟩=some (.int .i64 (s.A i)):=(cell_of_row _ _ (16+i*2+1) _ _ _ h).trans (go s i a)
theorem dE(a b c d:Int):∀ w,(binOp .neq 41 (.agg #[.int .i64 a,.int .i64 b]) (.agg #[.int .i64 c,.int .i64 d])).run prog w=.ok (.bool (!decide (a=c/\b=d))) w:=by
 intro w;rw[run_neq_struct,run_equalIn_agg w 9999 _ _ _ (by kernel_rfl) (by kernel_rfl)];unfold Program.fieldsOf;rw[underlying41];have e:=underlying3;have f:=underlying39;simp[Op.eqFields,go_sem,e,f]
 repeat' split
 all_goals simp_all
theorem ZG(a b:Int):∀ w,(binOp .neq 41 (.agg #[.int .i64 a,.int .i64 b]) (.agg #[.int .i64 0,.int .i64 0])).run prog w=.ok (.bool (!decide (a=0/\b=0))) w:=dE a b 0 0
def vaL(f:Nat->Int):List Value:=[.int .i64 (f 0),.int .i64 (f 1),.int .i64 (f 2),.int .i64 (f 3),.int .i64 (f 4),.int .i64 (f 5),.int .i64 (f 6),.int .i64 (f 7)]
def vaA(f:Nat->Int):Array Value:=(vaL f).toArray
theorem Yn(f:Nat->Int)(j:Nat)(u:Value)(h:(vaL f)[j]?=some u):j<8/\u=.int .i64 (f j):=by
 have a:j<8:=(O'.1 h).1;refine⟨a,?_⟩;rcases(by omega:j=0\/j=1\/j=2\/j=3\/j=4\/j=5\/j=6\/j=7)with rfl|rfl|rfl|rfl|rfl|rfl|rfl|rfl<;>(simp[vaL]at h;exact h.symm)
theorem Bs.nB(h:Bs w g s):w.rangeAt g 0 (vaL s.V):=by
 intro j u b;obtain⟨a,rfl⟩:=Yn _ _ _ b;rw[i5];exact h.nG j a
theorem Bs.nA(h:Bs w g s):w.rangeAt g 8 (vaL s.L):=by
 intro j u b;obtain⟨a,rfl⟩:=Yn _ _ _ b;exact h.nF j a
theorem eD(f:Nat->Int):(prog.info? 38).map (·.size)=some (vaL f).length:=by show _=some 8;kernel_rfl
theorem FO{d:Array Oper}{c:List Oper}{op:Oper}{a:Act}{Q:Exit->Act->World->Prop}(e:op.guard=none)(x:Operand)(i:op.op=.load 38 x)(b o:Nat)(j:a.eval x=.pointer (some ⟨b,o,none⟩))(f:Nat->Int)(g:w.rangeAt b o (vaL f))(h:wpList prog d Q c (a.put op.dst (.agg (vaA f))) w):wpList prog d Q (op::c) a w :=
 wpList_load_mid e 38 x i b o j (vaL f) _ g underlying38 rfl (eD f) h
theorem SW(f:Nat->Int)(i:Nat)(a:i<8)(w:World):(Instr.index 38 (.agg (vaA f)) (.int .i64 (i:Int))).run prog w=.ok (.int .i64 (f i)) w:=by
 rcases(by omega:i=0\/i=1\/i=2\/i=3\/i=4\/i=5\/i=6\/i=7)with rfl|rfl|rfl|rfl|rfl|rfl|rfl|rfl<;>kernel_rfl
structure NX where
 tape:S3
 kc:S3
 synced:S3
 dW:S3
 ae:S3
 an:S3
 hv:Nat->S3
 cl:Option Nat
def Az(i ob:Nat)(p:Nod)(x:NX):Array Value:=([iv (i:Int),.bool p.up,S3.v x.tape,iv p.sy,iv (p.bad:Int),pt ob 0,iv p.vo.p.r,iv p.vo.p.n,S3.v x.kc,S3.v x.synced,iv p.dT,iv p.bw.lr.r,iv p.bw.lr.n,.bool (p.bw.mC 0),.bool (p.bw.mC 1),.bool (p.bw.mC 2),.bool (p.bw.mC 3),.bool (p.bw.mC 4),iv ((p.bw.br 0).p.r),iv ((p.bw.br 0).p.n),S3.v (x.hv 0),iv ((p.bw.br 1).p.r),iv ((p.bw.br 1).p.n),S3.v (x.hv 1),iv ((p.bw.br 2).p.r),iv ((p.bw.br 2).p.n),S3.v (x.hv 2),iv ((p.bw.br 3).p.r),iv ((p.bw.br 3).p.n),S3.v (x.hv 3),iv ((p.bw.br 4).p.r),iv ((p.bw.br 4).p.n),S3.v (x.hv 4),iv (p.bw.cF 0:Int),iv (p.bw.cF 1:Int),iv (p.bw.cF 2:Int),iv (p.bw.cF 3:Int),iv (p.bw.cF 4:Int),iv (p.bw.next:Int),S3.v x.dW,S3.v x.ae,iv (p.done:Int)]++((stA p.mh).toList++[S3.v x.an,.map x.cl])).toArray
def EN(l:Let)(vs wh:S3):Array Value:=#[iv (l.kind:Int),iv (l.src:Int),iv (l.dst:Int),iv l.lr.r,iv l.lr.n,iv l.cn.au,iv l.cn.b.r,iv l.cn.b.n,iv l.cn.w.k,iv l.cn.w.c,iv l.cn.w.s,iv l.cn.w.n,iv l.cn.w.v,S3.v vs,iv (l.au:Int),S3.v wh]
def FI(t:Tol):List Value:=[iv (t.n:Int),iv t.c,iv t.s,iv t.e,iv t.a]
def cmV(c:Cmd):List Value:=[iv c.k,iv c.c,iv c.s,iv c.n,iv c.v]
def cmL(l:List Cmd):List Value:=l.flatMap cmV
theorem BO(l m:List Cmd):cmL (l++m)=cmL l++cmL m:=by simp[cmL]
theorem Bn(l:List Cmd):(cmL l).length=l.length*5:=by
 induction l with
 | nil=>rfl
 | cons c l ih=>rw[cmL,jW,G'];show 5+(cmL l).length=_;rw[ih,iX];omega
theorem Nj(l:List Cmd):∀ u∈cmL l,u.oneCell'=true:=by
 intro u b;obtain⟨c,_,a⟩:=km.1 b;simp only[cmV,iG,M',or_false]at a;rcases a with rfl|rfl|rfl|rfl|rfl<;>rfl
theorem Ni{l:List Cmd}{k:Nat}{c:Cmd}(h:l[k]?=some c){j:Nat}{u:Value}(a:(cmV c)[j]?=some u):(cmL l)[5*k+j]?=some u:=by
 induction l generalizing k with
 | nil=>cases h
 | cons d l ih =>
  rw[cmL,jW];cases k with
  | zero =>
   simp only[ju,V']at h;subst h;rw[iF (by have:=(O'.1 a).1;omega)];simpa using a
  | succ k =>
   rw[iH (by show 5<=_;omega),show 5*(k+1)+j-(cmV d).length=5*k+j by show 5*(k+1)+j-5=_;omega];exact ih (by simpa using h)
theorem Kh(l:List Cmd)(k:Nat):(cmL l).drop (5*k)=cmL (l.drop k):=by
 induction l generalizing k with
 | nil=>simp[cmL]
 | cons c l ih =>
  cases k with
  | zero=>simp
  | succ k =>
   show(cmV c++cmL l).drop (5*(k+1))=cmL (l.drop k);rw[<- ih k,List.drop_append,show(cmV c).drop (5*(k+1))=[]from jd (by show 5<=_;omega),jJ,show 5*(k+1)-(cmV c).length=5*k by show 5*(k+1)-5=_;omega]
def Frz(g:Gh)(x:S3):Prop:=∀ a,x.a=some a->g.t a.block=.z
structure FSl(g:Gh)(w:World)(x:S3)(l:List Int):Prop where
 s:Sl w x.v l
 z:l≠[]->Frz g x
structure FSv(g:Gh)(w:World)(x:S3)(l:List Vt):Prop where
 s:Sv w x.v l
 z:l≠[]->Frz g x
end
section
variable{B:Nat}{T:List Tg}{g g':Gh}{w w':World}
section
variable{b i nb ob r:Nat}{bs:List Nat}{f:Cmd->Option Bal}{l:List Let}{x:S3}
theorem Cg.zc(c:Cg B T g w g' w')(e:Tg.z∉T)(d:b<w.heap.size)(a:g.t b=.z):w'.heap[b]?=w.heap[b]?:=c.same b d (by rw[a];exact e) (λh=>by rw[a]at h;cases h)
theorem FSl.ch{l:List Int}(h:FSl g w x l)(c:Cg B T g w g' w')(v:Tg.z∉T:=by simp):FSl g' w' x l:=by
 obtain⟨⟨⟨a,r,q,o,p,j⟩,k,m⟩,s⟩:=h;simp only[Value.slice.injEq]at q;obtain⟨rfl,e,rfl⟩:=q;rcases j with j|⟨b,off,ha,hbs,hcell⟩
 .exact⟨⟨⟨_,_,by simp only[Value.slice.injEq,and_true,true_and];exact e,o,p,.inl j⟩,k,m⟩,λh=>absurd j h⟩
 .have hne:∀ _:l≠[],g.t b=.z:=λh=>s h _ ha;by_cases f:l=[]
  .exact⟨⟨⟨_,_,by simp only[Value.slice.injEq,and_true,true_and];exact e,o,p,.inl f⟩,k,m⟩,λh=>absurd f h⟩
  .refine⟨⟨⟨_,_,by simp only[Value.slice.injEq,and_true,true_and];exact e,o,p,.inr ⟨b,off,ha,Y' hbs c.size,λi u=>?_⟩⟩,k,m⟩,λ_ y d=>?_⟩
   .rw[World.cell?_of_block (w:=w) (c.zc v hbs (hne f))];exact hcell i u
   .rw[ha]at d;simp only[V']at d;subst d;rw[c.tag hbs (λh=>absurd ((hne f).symm.trans h) (by simp))];exact hne f
theorem FSv.ch{l:List Vt}(h:FSv g w x l)(c:Cg B T g w g' w')(A:Tg.z∉T:=by simp):FSv g' w' x l:=by
 obtain⟨⟨⟨a,q,p,m,o,f⟩,k⟩,r⟩:=h;simp only[Value.slice.injEq]at p;obtain⟨rfl,e,rfl⟩:=p;rcases f with f|⟨b,off,ha,hbs,hcell⟩
 .exact⟨⟨⟨_,_,by simp only[Value.slice.injEq,and_true,true_and];exact e,m,o,.inl f⟩,k⟩,λh=>absurd f h⟩
 .by_cases hl:l=[]
  .exact⟨⟨⟨_,_,by simp only[Value.slice.injEq,and_true,true_and];exact e,m,o,.inl hl⟩,k⟩,λh=>absurd hl h⟩
  .have hzb:g.t b=.z:=r hl _ ha;refine⟨⟨⟨_,_,by simp only[Value.slice.injEq,and_true,true_and];exact e,m,o,.inr ⟨b,off,ha,Y' hbs c.size,λi v s j u y=>?_⟩⟩,k⟩,λ_ C d=>?_⟩
   .rw[World.cell?_of_block (w:=w) (c.zc A hbs hzb)];exact hcell i v s j u y
   .rw[ha]at d;simp only[V']at d;subst d;rw[c.tag hbs (λh=>absurd (hzb.symm.trans h) (by simp))];exact hzb
structure Rc(g:Gh)(w:World)(x:S3)(l:List Cmd):Prop where
 len:x.n=l.length
 cap:x.n<=x.c
 nm:x.a=none->x.c=0
 ex:l=[]\/∃ b off,x.a=some ⟨b,off,none⟩/\b<w.heap.size/\(∀ j u,(cmL l)[j]?=some u->w.cell? ⟨b,off+j,none⟩=some u)/\(g.t b=.z\/off+5*l.length<=g.k b)
theorem Rc.nil(g:Gh)(w:World):Rc g w s30 []:=⟨rfl,A' _,λ_=>rfl,.inl rfl⟩
theorem Rc.ch{l:List Cmd}(h:Rc g w x l)(c:Cg B T g w g' w')(d:Tg.z∉T:=by simp):Rc g' w' x l:=by
 refine⟨h.len,h.cap,h.nm,?_⟩;rcases h.ex with h1|⟨b,off,h1,h2,h3,h4⟩
 .exact .inl h1
 .refine .inr ⟨b,off,h1,Y' h2 c.size,λj u a=>?_,?_⟩
  .rcases h4 with h4|h4
   .rw[World.cell?_of_block (w:=w) (c.zc d h2 h4)];exact h3 j u a
   .have hjl:j<(cmL l).length:=(O'.1 a).1;rw[Bn]at hjl
    rw[c.mS b h2 (off+j) (by omega)];exact h3 j u a
  .rcases h4 with h4|h4
   .exact .inl ((c.tag h2 (by rw[h4];intro h;cases h)).trans h4)
   .exact .inr (iy h4 (c.mR b h2))
structure Box(g:Gh)(w:World)(b:Nat)(cs:Array Value)(t:TypeId):Prop where
 r:w.heap[b]?=some (.cells cs t)
 z:g.t b=.z
theorem Box.ch{a:Array Value}{t:TypeId}(h:Box g w b a t)(c:Cg B T g w g' w')(d:Tg.z∉T:=by simp):Box g' w' b a t:=⟨(c.zc d (rl h.r) h.z).trans h.r,(c.tag (rl h.r) (by rw[h.z];intro h;cases h)).trans h.z⟩
def Cj(g:Gh)(w:World)(b:Nat)(l:Let):Prop:=∃ vs wh,Box g w b (EN l vs wh) 158/\FSv g w vs l.kc/\Rc g w wh l.fa
theorem Cj.ch{l:Let}(h:Cj g w b l)(c:Cg B T g w g' w')(a:Tg.z∉T:=by simp):Cj g' w' b l:=let ⟨vs,wh,h1,h2,h3⟩:=h;⟨vs,wh,h1.ch c a,h2.ch c a,h3.ch c a⟩
def JX(g:Gh)(w:World)(nb:Nat)(v:Value):Pend->Prop
 | .began b vs=>∃ b1 b2 b3 x,v=.func (.func 66) #[] #[pt b1 0,pt b2 0,pt b3 0]/\Box g w b1 #[pt nb 0] 89/\Box g w b2 #[iv b.r,iv b.n] 94/\Box g w b3 #[S3.v x] 95/\FSv g w x vs
 | .prom to b vs=>∃ b1 b2 b3 x lb l,v=.func (.func 96) #[] #[pt b1 0,pt b2 0,pt b3 0]/\Box g w b1 #[pt nb 0] 89/\Box g w b2 #[pt lb 0] 159/\Box g w b3 #[S3.v x] 95/\FSv g w x vs/\Cj g w lb l/\l.src=to/\l.lr=b
 | .voted to u=>∃ b1 b2 lb l,v=.func (.func 102) #[] #[pt b1 0,pt b2 0]/\Box g w b1 #[pt nb 0] 89/\Box g w b2 #[pt lb 0] 159/\Cj g w lb l/\l.src=to/\l.cn=u
 | .ln to b=>∃ b1 b2 b3,v=.func (.func 134) #[] #[pt b1 0,pt b2 0,pt b3 0]/\Box g w b1 #[pt nb 0] 89/\Box g w b2 #[iv (to:Int)] 3/\Box g w b3 #[iv b.r,iv b.n] 94
 | .prop u=>∃ b1 b2,v=.func (.func 117) #[] #[pt b1 0,pt b2 0]/\Box g w b1 #[pt nb 0] 89/\Box g w b2 (vtA u) 156
 | .askNews to=>∃ b1 b2 lb l,v=.func (.func 104) #[] #[pt b1 0,pt b2 0]/\Box g w b1 #[pt nb 0] 89/\Box g w b2 #[pt lb 0] 159/\Cj g w lb l/\l.src=to
 | .start=>∃ b1,v=.func (.func 79) #[] #[pt b1 0]/\Box g w b1 #[pt nb 0] 89
 | .tell to au=>∃ b1 b2 lb l,v=.func (.func 106) #[] #[pt b1 0,pt b2 0]/\Box g w b1 #[pt nb 0] 89/\Box g w b2 #[pt lb 0] 159/\Cj g w lb l/\l.src=to/\l.au=au
theorem JX.ch{v:Value}{q:Pend}(h:JX g w nb v q)(c:Cg B T g w g' w')(a:Tg.z∉T:=by simp):JX g' w' nb v q:=by
 cases q with
 | began b vs=>obtain⟨d,i,p,x,e,f,j,k,m⟩:=h;exact⟨d,i,p,x,e,f.ch c a,j.ch c a,k.ch c a,m.ch c a⟩
 | prom to b vs=>obtain⟨d,i,p,x,o,l,e,f,j,k,m,r,s⟩:=h;exact⟨d,i,p,x,o,l,e,f.ch c a,j.ch c a,k.ch c a,m.ch c a,r.ch c a,s⟩
 | voted to u=>obtain⟨d,i,o,l,e,f,j,k,m⟩:=h;exact⟨d,i,o,l,e,f.ch c a,j.ch c a,k.ch c a,m⟩
 | ln to b=>obtain⟨d,i,p,e,f,j,k⟩:=h;exact⟨d,i,p,e,f.ch c a,j.ch c a,k.ch c a⟩
 | prop u=>obtain⟨d,i,e,f,j⟩:=h;exact⟨d,i,e,f.ch c a,j.ch c a⟩
 | askNews to=>obtain⟨d,i,o,l,e,f,j,k,m⟩:=h;exact⟨d,i,o,l,e,f.ch c a,j.ch c a,k.ch c a,m⟩
 | start=>obtain⟨d,e,f⟩:=h;exact⟨d,e,f.ch c a⟩
 | tell to au=>obtain⟨d,i,o,l,e,f,j,k,m⟩:=h;exact⟨d,i,o,l,e,f.ch c a,j.ch c a,k.ch c a,m⟩
def mkA(x:Cmd × Bal × Nat):MapEntry:={ key:=.agg (cmV x.1).toArray,val:=.agg #[iv x.2.1.r,iv x.2.1.n],born:=x.2.2 }
structure AskAt(g:Gh)(w:World)(τ:Tg)(b:Nat)(f:Cmd->Option Bal):Prop where
 t:g.t b=τ
 k:g.k b=0
 ex:∃ (es:List (Cmd × Bal × Nat)) (clock:Nat),w.heap[b]?=some (.map (es.map mkA).toArray clock)/\(∀ x∈es,x.2.2<clock)/\(es.map (·.2.2)).Nodup/\(es.map (·.1)).Nodup/\∀ c,f c=(es.find? λx=>decide (c=x.1)).map (·.2.1)
def UN(g:Gh)(w:World)(i:Nat)(f:Cmd->Option Bal):Option Nat->Prop
 | some b=>AskAt g w (.n 5 i) b f
 | none=>f=λ_=>none
structure Pends(g:Gh)(w:World)(nb:Nat)(vs:List Value)(l:List Pend):Prop where
 len:vs.length=l.length
 at_:∀ (k:Nat) (v:Value) (q:Pend),vs[k]?=some v->l[k]?=some q->JX g w nb v q
structure NodeAt(g:Gh)(w:World)(i nb ob:Nat)(x:NX)(p:Nod):Prop where
 row:w.heap[nb]?=some (.cells (Az i ob p x) 109)
 tag:g.t nb=.n 0 i
 mR:g.k nb=0
 tape:FSl g w x.tape p.d
 kc:FSv g w x.kc p.vo.vs
 br:∀ j,j<5->FSv g w (x.hv j) (p.bw.br j).vs
 bt:∃ vs,OwnS g w (.n 1 i) true 1 1 x.synced vs/\Pends g w nb vs p.bt
 dW:OwnS g w (.n 2 i) false 49 5 x.dW (cmL p.bw.dW)
 ae:OwnS g w (.n 3 i) true 49 5 x.ae (cmL p.ae)
 an:OwnS g w (.n 4 i) false 49 5 x.an (cmL p.an)
 cl:UN g w i p.cl x.cl
 mT:p.up=true->∃ b,x.cl=some b
structure Lets(g:Gh)(w:World)(bs:List Nat)(l:List Let):Prop where
 len:bs.length=l.length
 at_:∀ (k b:Nat) (m:Let),bs[k]?=some b->l[k]?=some m->Cj g w b m
structure OutAt(g:Gh)(w:World)(ob:Nat)(lt tl:S3)(ls:List Let)(ts:List Tol):Prop where
 row:w.heap[ob]?=some (.cells #[lt.v,tl.v] 86)
 tag:g.t ob=.n 50 0
 mR:g.k ob=0
 bN:∃ bs,OwnS g w (.n 51 0) false 159 1 lt (bs.map (pt · 0))/\Lets g w bs ls
 ed:OwnS g w (.n 52 0) false 115 5 tl (ts.flatMap FI)
theorem Pends.ch{a:List Value}{l:List Pend}(h:Pends g w nb a l)(c:Cg B T g w g' w')(e:Tg.z∉T:=by simp):Pends g' w' nb a l:=⟨h.len,λk v q b d=>(h.at_ k v q b d).ch c e⟩
theorem Lets.ch(h:Lets g w bs l)(c:Cg B T g w g' w')(d:Tg.z∉T:=by simp):Lets g' w' bs l:=⟨h.len,λk v q a b=>(h.at_ k v q a b).ch c d⟩
theorem Lets.snoc{m:Let}(h:Lets g w bs l)(f:Cj g w b m):Lets g w (bs++[b]) (l++[m]):=by
 refine⟨by simp[h.len],λk c q a d=>?_⟩;by_cases e:k<bs.length
 .rw[iF e]at a
  rw[iF (by rw[<- h.len];exact e)]at d
  exact h.at_ k c q a d
 .rw[iH (by omega)]at a
  rw[iH (by rw[<- h.len];omega),<- h.len]at d
  cases hx:k-bs.length with
  | zero=>rw[hx]at a d;simp at a d;subst a d;exact f
  | succ n=>rw[hx]at a;simp at a
theorem Cg.rc(c:Cg B T g w g' w'){o:Obj}(h:w.heap[b]?=some o)(a:g.t b=.n r i)(d:Tg.n r i∉T):w'.heap[b]?=some o/\g'.t b=.n r i/\g'.k b=g.k b :=
 ⟨(c.same b (rl h) (by rw[a];exact d) (λh=>by rw[a]at h;cases h)).trans h,(c.tag (rl h) (by rw[a];intro h;cases h)).trans a,c.np b (rl h) (by rw[a];exact d) (by rw[a];intro h;cases h)⟩
theorem AskAt.ch(h:AskAt g w (.n r i) b f)(c:Cg B T g w g' w')(hn:Tg.n r i∉T:=by simp):AskAt g' w' (.n r i) b f:=by
 obtain⟨e,j,d,k,m,o⟩:=h;have a:=c.rc m e hn;exact⟨a.2.1,a.2.2.trans j,d,k,a.1,o⟩
theorem UN.ch{a:Option Nat}(h:UN g w i f a)(c:Cg B T g w g' w')(hn:Tg.n 5 i∉T:=by simp):UN g' w' i f a:=by
 cases a with
 | none=>exact h
 | some b=>exact AskAt.ch h c hn
theorem NodeAt.ch{x:NX}{p:Nod}(h:NodeAt g w i nb ob x p)(c:Cg B T g w g' w')(a:Tg.z∉T:=by simp)(hn:∀ r,r<6->Tg.n r i∉T:=by simp):NodeAt g' w' i nb ob x p:=by
 have b:=c.rc h.row h.tag (hn 0 (by omega));obtain⟨k,d,e⟩:=h.bt;exact⟨b.1,b.2.1,b.2.2.trans h.mR,h.tape.ch c a,h.kc.ch c a,λj f=>(h.br j f).ch c a,⟨k,d.ch c (hn 1 (by omega)) (by simp),e.ch c a⟩,h.dW.ch c (hn 2 (by omega)) (by simp),h.ae.ch c (hn 3 (by omega)) (by simp),h.an.ch c (hn 4 (by omega)) (by simp),h.cl.ch c (hn 5 (by omega)),h.mT⟩
theorem OutAt.ch{lt d:S3}{b:List Let}{e:List Tol}(h:OutAt g w ob lt d b e)(c:Cg B T g w g' w')(k:Tg.z∉T:=by simp)(hn:∀ r,50<=r->Tg.n r 0∉T:=by simp):OutAt g' w' ob lt d b e:=by
 have a:=c.rc h.row h.tag (hn 50 (by omega));obtain⟨f,i,j⟩:=h.bN;exact⟨a.1,a.2.1,a.2.2.trans h.mR,⟨f,i.ch c (hn 51 (by omega)) (by simp),j.ch c k⟩,h.ed.ch c (hn 52 (by omega)) (by simp)⟩
end
end
section
def TN(i:Nat):List Tg:=[.n 0 i,.n 1 i,.n 2 i,.n 3 i,.n 4 i,.n 5 i,.n 50 0,.n 51 0,.n 52 0,.n 60 0]
theorem AZ(i:Nat):Tg.z∉TN i:=by simp[TN]
def NS(i nb ob:Nat)(g:Gh)(w:World)(p:Nod)(ls:List Let)(ts:List Tol):Prop:=∃ x lt tl,NodeAt g w i nb ob x p/\OutAt g w ob lt tl ls ts/\Il g w
variable{B i nb ob:Nat}{T:List Tg}{e:TypeId}{g g':Gh}{l:List Pend}{ls:List Let}{p:Nod}{ts:List Tol}{w w':World}{x:S3}{τ:Tg}
theorem nsC{c:Nat}{x:NX}{lt b:S3}{L:List Sh}(d:NodeAt g w i nb ob x p)(e:OutAt g w ob lt b ls ts)(C:Cg B T g w g' w')(K:Kn c g' w' L)(a:Tg.z∉T:=by simp)(f:∀ r,r<6->Tg.n r i∉T:=by simp)(h:∀ r,50<=r->Tg.n r 0∉T:=by simp):NS i nb ob g' w' p ls ts:=⟨x,lt,b,d.ch C a f,e.ch C a h,K.new⟩
def NP(i nb ob:Nat)(g:Gh)(w:World)(v:Value)(p:Nod)(ls:List Let)(ts:List Tol):Ending->World->Prop:=λe w'=>∃ g',e=.returned v/\NS i nb ob g' w' p ls ts/\Cg w.heap.size (TN i) g w g' w'
theorem NS.new(h:NS i nb ob g w p ls ts):Il g w:=let ⟨_,_,_,_,_,h⟩:=h;h
theorem NS.ab(h:NS i nb ob g w p ls ts)(b:Bw w w'):NS i nb ob g w' p ls ts :=
 let ⟨x,lt,tl,h1,h2,h3⟩:=h
 have c:=Cg.bu (B:=0) (T:=[]) (g:=g) b
 ⟨x,lt,tl,h1.ch c,h2.ch c,λk a=>h3 k (iy b.size a)⟩
theorem NS.mr(h:NS i nb ob g w p ls ts)(c:Cg B [] g w g' w')(a:Il g' w'):NS i nb ob g' w' p ls ts :=
 let ⟨x,lt,tl,h1,h2,_⟩:=h
 ⟨x,lt,tl,h1.ch c,h2.ch c,a⟩
theorem NodeAt.mQ{b:Nat}{x:NX}(h:NodeAt g w i nb ob x p)(a:x.cl=some b):AskAt g w (.n 5 i) b p.cl:=by have:=h.cl;rw[a]at this;exact this
theorem BF(h:∃ vs,OwnS g w (.n 1 i) true 1 1 x vs/\Pends g w nb vs l)(c:Cg B T g w g' w')(b:Tg.z∉T:=by simp)(a:Tg.n 1 i∉T:=by simp):∃ vs,OwnS g' w' (.n 1 i) true 1 1 x vs/\Pends g' w' nb vs l :=
 let ⟨vs,h1,h2⟩:=h
 ⟨vs,h1.ch c a (by simp),h2.ch c b⟩
theorem Dz{l:List Let}(h:∃ bs:List Nat,OwnS g w (.n 51 0) false 159 1 x (bs.map (pt · 0))/\Lets g w bs l)(c:Cg B T g w g' w')(b:Tg.z∉T:=by simp)(a:Tg.n 51 0∉T:=by simp):∃ bs:List Nat,OwnS g' w' (.n 51 0) false 159 1 x (bs.map (pt · 0))/\Lets g' w' bs l :=
 let ⟨bs,h1,h2⟩:=h
 ⟨bs,h1.ch c a (by simp),h2.ch c b⟩
theorem Bf{a:Nat->S3}{f:Nat->Acc}(h:∀ j,j<5->FSv g w (a j) (f j).vs)(c:Cg B T g w g' w')(d:Tg.z∉T:=by simp):∀ j,j<5->FSv g' w' (a j) (f j).vs:=λj b=>(h j b).ch c d
theorem Pends.snoc{d:List Value}{v:Value}{q:Pend}(h:Pends g w nb d l)(f:JX g w nb v q):Pends g w nb (d++[v]) (l++[q]):=by
 refine⟨by simp[h.len],λk c m a b=>?_⟩;by_cases e:k<d.length
 .rw[iF e]at a
  rw[iF (by rw[<- h.len];exact e)]at b
  exact h.at_ k c m a b
 .rw[iH (by omega)]at a
  rw[iH (by rw[<- h.len];omega),<- h.len]at b
  cases hx:k-d.length with
  | zero=>rw[hx]at a b;simp at a b;subst a b;exact f
  | succ n=>rw[hx]at a;simp at a
theorem OwnS.num{a:Bool}{l:List Cmd}(h:OwnS g w τ a e 5 x (cmL l)):x.n=l.length:=by have:=h.len;rw[Bn]at this;omega
theorem OwnS.rc{l:List Cmd}(h:OwnS g w τ true e 5 x (cmL l)):Rc g w x l:=by
 have a:=h.num;rcases h.ex with⟨h1,h2,h3⟩|⟨b,cur,h1,h2,h3,h4,h5,h6,h7,h8⟩
 .exact⟨a,by omega,λ_=>h3,.inl (Z' (by omega))⟩
 .refine⟨a,h3,λh=>(by rw[h1]at h;cases h),.inr ⟨b,0,h1,rl h2,λj u c=>?_,.inr ?_⟩⟩
  .obtain⟨b',hb',_,hc⟩:=h.cell c;rw[h1]at hb'
   simp only[V',Addr.mk.injEq,and_true]at hb';subst hb';rw[i5];exact hc
  .rw[h8,Bn];simp;omega
end
end
end Go.Proofs.YtdjfdfpkkenjbaaGreatDoor
